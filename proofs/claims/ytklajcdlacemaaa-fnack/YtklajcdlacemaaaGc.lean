/- Copies of a group. -/
import Derived.Test.YtklajcdlacemaaaRows
import Derived.WalkKit
import Derived.WalkSpells
import Derived.WalkLawsBesides
import Derived.Deep.QuietTactic
import Derived.BigQuiet
import Derived.Deep.RegionHeld3
import Derived.Test.YtklajcdlacemaaaGq
import Derived.LoopN
namespace Go.Proofs.Ytklajcdlacemaaa
open Go.RowKit
set_option linter.unusedSimpArgs false
set_option linter.unusedVariables false

theorem clone_eq (p : Option Addr) (n c : Nat) (w : World) : Sem.run Try.prog (binOp BinOp.eql 25 (Value.slice p n c) (Value.slice none 0 0)) w = .ok (.bool p.isNone) w := by
  cases p <;> kernel_rfl
set_option maxHeartbeats 2000000 in
theorem clone_any (lo c : Nat) (p : Option Addr) (l : List Dt) (w : World) (hl : l.length ≤ 1048576) (hr : GRow lo w p (flatD l)) :
    Calls Try.prog 49 #[.slice p l.length c] w fun e w' => ∃ po co, e = .returned (.slice po l.length co) ∧ OwnG w' 31 2 (.slice po l.length co) l.length (flatD l) w.heap.size ∧ Below w.heap.size w w' := by
  have E := clone_eq p l.length c
  by_cases hp : p.isNone = true
  · have hn : flatD l = [] := by
      rcases hr with h | ⟨b, off, h1, _⟩
      · exact h
      · rw [h1] at hp; simp at hp
    have hz : l = [] := flatD_nil hn
    subst hz
    rw [hp] at E
    clear hr hn hp
    simp only [List.length_nil] at *
    go_enter Try.func49, Try.ntmps49
    go_wp2
    go_ret
    exact ⟨none, 0, rfl, OwnG.nil _ _ _ _, Below.refl _ _⟩
  · rw [show p.isNone = false from eq_false_of_ne_true hp] at E
    have HR : Hid (GRow lo (w.alloc (.cells #[] 31)) p (flatD l)) := hr.next (bel_alloc _ _)
    have OL : Hid (OwnG (w.alloc (.cells #[] 31)) 31 2 (.slice (some ⟨w.heap.size, 0, none⟩) 0 0) 0 [] w.heap.size) := OwnG.lit (Nat.le_refl _)
    clear hr hp
    go_enter Try.func49, Try.ntmps49
    go_wp2_with (first | (at_builtin; refine wpList_appG elD rfl _ _ rfl (.slice (some ⟨w.heap.size, 0, none⟩) 0 0) 0 [] w.heap.size l.length rfl OL.out (by simp) p l.length c (flatD l) rfl (flatD_len l) (flatD_one l) lo HR.out (by omega) (by omega) ?_) | go_in)
    intro po co W3 hO hG _
    have R : Hid (OwnG W3 31 2 (.slice po l.length co) l.length (flatD l) w.heap.size ∧ Below w.heap.size w W3) := ⟨by simpa using hO, (bel_alloc _ _).trans (hG.below (by simp) (fun k hk => by simp [Value.ownBlock] at hk; omega))⟩
    clear hO hG
    go_wp2
    go_ret
    exact ⟨po, co, rfl, R.out.1, R.out.2⟩

set_option maxRecDepth 20000 in
set_option maxHeartbeats 2000000 in
theorem copied_any (lo q : Nat) (p : Option Addr) (l : List Dt) (e o a b c : Int) (w : World) (hl : l.length ≤ 1048576) (hr0 : GRow lo w p (flatD l)) :
    Calls Try.prog 28 #[.agg #[.int .i64 e, .int .i64 o, .int .i64 a, .int .i64 b, .int .i64 c, .slice p l.length q]] w fun r w' => ∃ po co, r = .returned (.agg #[.int .i64 e, .int .i64 o, .int .i64 a, .int .i64 b, .int .i64 c, .slice po l.length co]) ∧ OwnG w' 31 2 (.slice po l.length co) l.length (flatD l) w.heap.size ∧ Below w.heap.size w w' := by
  have hr : Hid (GRow lo w p (flatD l)) := hr0
  clear hr0
  go_enter Try.func28, Try.ntmps28
  go_upto_region 1 with fail
  refine wp_gen (fun W => Box W w.heap.size [.int .i64 e, .int .i64 o, .int .i64 a, .int .i64 b, .int .i64 c, .slice p l.length q] ∧ Box W (w.heap.size + 1) [.int .i64 0, .int .i64 0, .int .i64 0, .int .i64 0, .int .i64 0, .slice none 0 0] ∧ Below w.heap.size w W) ⟨box_mk.alloc, ?_, (bel_alloc _ _).trans ((bel_alloc _ _).mono (by simp))⟩ (fun W0 hI => ?_)
  · have := box_mk (W := w.alloc (.cells #[.int .i64 e, .int .i64 o, .int .i64 a, .int .i64 b, .int .i64 c, .slice p l.length q] 27)) (t := 27) (vs := [.int .i64 0, .int .i64 0, .int .i64 0, .int .i64 0, .int .i64 0, .slice none 0 0])
    simpa using this
  have Y : Hid _ := hI
  clear hI
  obtain ⟨a0, a1, a2, a3, a4, a5⟩ := Y.out.1.c6
  go_wp2_with fail
  refine (clone_any lo q p l _ hl (hr.out.next Y.out.2.2)).mono ?_
  rintro e1 W1 ⟨po, co, rfl, hO, hb⟩
  have Y1 : Hid (Box W1 w.heap.size [.int .i64 e, .int .i64 o, .int .i64 a, .int .i64 b, .int .i64 c, .slice p l.length q] ∧ Box W1 (w.heap.size + 1) [.int .i64 0, .int .i64 0, .int .i64 0, .int .i64 0, .int .i64 0, .slice none 0 0] ∧ Below w.heap.size w W1 ∧ OwnG W1 31 2 (.slice po l.length co) l.length (flatD l) W0.heap.size ∧ w.heap.size + 1 < W0.heap.size) := ⟨Y.out.1.next hb, Y.out.2.1.next hb, Y.out.2.2.trans (hb.mono Y.out.2.2.size), hO, Y.out.2.1.lt⟩
  clear hO hb a0 a1 a2 a3 a4 a5 Y
  generalize W0.heap.size = lv at *
  obtain ⟨a0, a1, a2, a3, a4, a5⟩ := Y1.out.1.c6
  obtain ⟨f0, f1, f2, f3, f4, f5⟩ := Y1.out.1.f6
  go_upto_region 2 with fail
  have Y2 : Hid (Box (W1.setCell ⟨w.heap.size, 5, none⟩ (.slice po l.length co)) w.heap.size [.int .i64 e, .int .i64 o, .int .i64 a, .int .i64 b, .int .i64 c, .slice po l.length co] ∧ Box (W1.setCell ⟨w.heap.size, 5, none⟩ (.slice po l.length co)) (w.heap.size + 1) [.int .i64 0, .int .i64 0, .int .i64 0, .int .i64 0, .int .i64 0, .slice none 0 0] ∧ Below w.heap.size w (W1.setCell ⟨w.heap.size, 5, none⟩ (.slice po l.length co)) ∧ OwnG (W1.setCell ⟨w.heap.size, 5, none⟩ (.slice po l.length co)) 31 2 (.slice po l.length co) l.length (flatD l) lv ∧ w.heap.size + 1 < lv) := by
    have hlt := Y1.out.2.2.2.2
    refine ⟨?_, Y1.out.2.1.oth (by omega), bel_in Y1.out.2.2.1 (by omega), Y1.out.2.2.2.1.kp Kp.set (fun k hk => by have := Y1.out.2.2.2.1.ge k hk; omega), hlt⟩
    have := Y1.out.1.set (i := 5) (u := .slice po l.length co) (by simp)
    simpa using this
  clear a0 a1 a2 a3 a4 a5 f0 f1 f2 f3 f4 f5 Y1
  generalize (W1.setCell ⟨w.heap.size, 5, none⟩ (.slice po l.length co)) = W2 at *
  obtain ⟨a0, a1, a2, a3, a4, a5⟩ := Y2.out.1.c6
  obtain ⟨b0, b1, b2, b3, b4, b5⟩ := Y2.out.2.1.c6
  obtain ⟨f0, f1, f2, f3, f4, f5⟩ := Y2.out.2.1.f6
  go_wp2_with fail
  have Z := Y2.out.2.1.s6 (u0 := .int .i64 e) (u1 := .int .i64 o) (u2 := .int .i64 a) (u3 := .int .i64 b) (u4 := .int .i64 c) (u5 := .slice po l.length co)
  obtain ⟨z0, z1, z2, z3, z4, z5⟩ := Z.c6
  clear a0 a1 a2 a3 a4 a5 b0 b1 b2 b3 b4 b5 f0 f1 f2 f3 f4 f5 Z
  refine bodyPost_ret (v := .agg #[.int .i64 e, .int .i64 o, .int .i64 a, .int .i64 b, .int .i64 c, .slice po l.length co]) (by simp [results, Try.results28, go_sem, z0, z1, z2, z3, z4, z5]) rfl ⟨po, co, rfl, ?_, ?_⟩
  · have hlt := Y2.out.2.2.2.2
    have q0 : ∀ k, (Value.slice po l.length co).ownBlock = some k → ¬ k = w.heap.size + 1 := fun k hk => by have := Y2.out.2.2.2.1.ge k hk; omega
    exact ((((((Y2.out.2.2.2.1.kp Kp.set q0).kp Kp.set q0).kp Kp.set q0).kp Kp.set q0).kp Kp.set q0).kp Kp.set q0).weak (by omega)
  · exact bel_in (bel_in (bel_in (bel_in (bel_in (bel_in Y2.out.2.2.1 (by omega)) (by omega)) (by omega)) (by omega)) (by omega)) (by omega)

set_option maxRecDepth 20000 in
set_option maxHeartbeats 2000000 in
theorem own_any (lo q : Nat) (p : Option Addr) (l : List Dt) (e o a b c : Int) (w : World) (hl : l.length ≤ 1048576) (hr0 : GRow lo w p (flatD l)) :
    Calls Try.prog 33 #[.agg #[.int .i64 e, .int .i64 o, .int .i64 a, .int .i64 b, .int .i64 c, .slice p l.length q]] w fun r w' => ∃ po co, r = .returned (.agg #[.int .i64 e, .int .i64 o, .int .i64 a, .int .i64 b, .int .i64 c, .slice po l.length co]) ∧ OwnG w' 31 2 (.slice po l.length co) l.length (flatD l) w.heap.size ∧ Below w.heap.size w w' := by
  have hr : Hid (GRow lo w p (flatD l)) := hr0
  clear hr0
  go_enter Try.func33, Try.ntmps33
  go_upto_region 1 with fail
  refine wp_gen (fun W => Box W w.heap.size [.int .i64 e, .int .i64 o, .int .i64 a, .int .i64 b, .int .i64 c, .slice p l.length q] ∧ Box W (w.heap.size + 1) [.int .i64 0, .int .i64 0, .int .i64 0, .int .i64 0, .int .i64 0, .slice none 0 0] ∧ Below w.heap.size w W) ⟨box_mk.alloc, ?_, (bel_alloc _ _).trans ((bel_alloc _ _).mono (by simp))⟩ (fun W0 hI => ?_)
  · have := box_mk (W := w.alloc (.cells #[.int .i64 e, .int .i64 o, .int .i64 a, .int .i64 b, .int .i64 c, .slice p l.length q] 27)) (t := 27) (vs := [.int .i64 0, .int .i64 0, .int .i64 0, .int .i64 0, .int .i64 0, .slice none 0 0])
    simpa using this
  have Y : Hid _ := hI
  clear hI
  have Y0 : Hid (GRow lo (W0.alloc (.cells #[] 31)) p (flatD l) ∧ OwnG (W0.alloc (.cells #[] 31)) 31 2 (.slice (some ⟨W0.heap.size, 0, none⟩) 0 0) 0 [] W0.heap.size ∧ Box (W0.alloc (.cells #[] 31)) w.heap.size [.int .i64 e, .int .i64 o, .int .i64 a, .int .i64 b, .int .i64 c, .slice p l.length q]) := ⟨(hr.out.next Y.out.2.2).next (bel_alloc _ _), OwnG.lit (Nat.le_refl _), Y.out.1.alloc⟩
  obtain ⟨a0, a1, a2, a3, a4, a5⟩ := Y.out.1.c6
  have hlt0 := Y.out.1.lt
  go_wp2_with (first | (at_builtin; refine wpList_appG elD rfl _ _ rfl (.slice (some ⟨W0.heap.size, 0, none⟩) 0 0) 0 [] W0.heap.size l.length rfl Y0.out.2.1 (by simp) p l.length q (flatD l) rfl (flatD_len l) (flatD_one l) lo Y0.out.1 (by omega) (by omega) ?_) | go_in)
  clear hlt0
  intro po co W1 hO hG _
  have hb : Below W0.heap.size W0 W1 := (bel_alloc _ _).trans (hG.below (by simp) (fun k hk => by simp [Value.ownBlock] at hk; omega))
  have Y1 : Hid (Box W1 w.heap.size [.int .i64 e, .int .i64 o, .int .i64 a, .int .i64 b, .int .i64 c, .slice p l.length q] ∧ Box W1 (w.heap.size + 1) [.int .i64 0, .int .i64 0, .int .i64 0, .int .i64 0, .int .i64 0, .slice none 0 0] ∧ Below w.heap.size w W1 ∧ OwnG W1 31 2 (.slice po l.length co) l.length (flatD l) W0.heap.size ∧ w.heap.size + 1 < W0.heap.size) := ⟨Y.out.1.next hb, Y.out.2.1.next hb, Y.out.2.2.trans (hb.mono Y.out.2.2.size), by simpa using hO, Y.out.2.1.lt⟩
  clear Y0 hG
  clear hO hb a0 a1 a2 a3 a4 a5 Y
  generalize W0.heap.size = lv at *
  obtain ⟨a0, a1, a2, a3, a4, a5⟩ := Y1.out.1.c6
  obtain ⟨f0, f1, f2, f3, f4, f5⟩ := Y1.out.1.f6
  go_upto_region 2 with fail
  have Y2 : Hid (Box (W1.setCell ⟨w.heap.size, 5, none⟩ (.slice po l.length co)) w.heap.size [.int .i64 e, .int .i64 o, .int .i64 a, .int .i64 b, .int .i64 c, .slice po l.length co] ∧ Box (W1.setCell ⟨w.heap.size, 5, none⟩ (.slice po l.length co)) (w.heap.size + 1) [.int .i64 0, .int .i64 0, .int .i64 0, .int .i64 0, .int .i64 0, .slice none 0 0] ∧ Below w.heap.size w (W1.setCell ⟨w.heap.size, 5, none⟩ (.slice po l.length co)) ∧ OwnG (W1.setCell ⟨w.heap.size, 5, none⟩ (.slice po l.length co)) 31 2 (.slice po l.length co) l.length (flatD l) lv ∧ w.heap.size + 1 < lv) := by
    have hlt := Y1.out.2.2.2.2
    refine ⟨?_, Y1.out.2.1.oth (by omega), bel_in Y1.out.2.2.1 (by omega), Y1.out.2.2.2.1.kp Kp.set (fun k hk => by have := Y1.out.2.2.2.1.ge k hk; omega), hlt⟩
    have := Y1.out.1.set (i := 5) (u := .slice po l.length co) (by simp)
    simpa using this
  clear a0 a1 a2 a3 a4 a5 f0 f1 f2 f3 f4 f5 Y1
  generalize (W1.setCell ⟨w.heap.size, 5, none⟩ (.slice po l.length co)) = W2 at *
  obtain ⟨a0, a1, a2, a3, a4, a5⟩ := Y2.out.1.c6
  obtain ⟨b0, b1, b2, b3, b4, b5⟩ := Y2.out.2.1.c6
  obtain ⟨f0, f1, f2, f3, f4, f5⟩ := Y2.out.2.1.f6
  go_wp2_with fail
  have Z := Y2.out.2.1.s6 (u0 := .int .i64 e) (u1 := .int .i64 o) (u2 := .int .i64 a) (u3 := .int .i64 b) (u4 := .int .i64 c) (u5 := .slice po l.length co)
  obtain ⟨z0, z1, z2, z3, z4, z5⟩ := Z.c6
  clear a0 a1 a2 a3 a4 a5 b0 b1 b2 b3 b4 b5 f0 f1 f2 f3 f4 f5 Z
  refine bodyPost_ret (v := .agg #[.int .i64 e, .int .i64 o, .int .i64 a, .int .i64 b, .int .i64 c, .slice po l.length co]) (by simp [results, Try.results33, go_sem, z0, z1, z2, z3, z4, z5]) rfl ⟨po, co, rfl, ?_, ?_⟩
  · have hlt := Y2.out.2.2.2.2
    have q0 : ∀ k, (Value.slice po l.length co).ownBlock = some k → ¬ k = w.heap.size + 1 := fun k hk => by have := Y2.out.2.2.2.1.ge k hk; omega
    exact ((((((Y2.out.2.2.2.1.kp Kp.set q0).kp Kp.set q0).kp Kp.set q0).kp Kp.set q0).kp Kp.set q0).kp Kp.set q0).weak (by omega)
  · exact bel_in (bel_in (bel_in (bel_in (bel_in (bel_in Y2.out.2.2.1 (by omega)) (by omega)) (by omega)) (by omega)) (by omega)) (by omega)
end Go.Proofs.Ytklajcdlacemaaa
