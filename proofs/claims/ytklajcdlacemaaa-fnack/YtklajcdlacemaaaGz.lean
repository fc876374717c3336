/- GroupOf, sameGroup. -/
import Derived.Test.YtklajcdlacemaaaRows
import Derived.WalkKit
import Derived.WalkSpells
import Derived.WalkLawsBesides
import Derived.Deep.QuietTactic
import Derived.BigQuiet
import Derived.Deep.RegionHeld3
import Derived.Test.YtklajcdlacemaaaGh
import Derived.LoopN
namespace Go.Proofs.Ytklajcdlacemaaa
open Go.RowKit
set_option linter.unusedSimpArgs false
set_option linter.unusedVariables false

/-- What a drawn group is. -/
def GoP (w : World) (r : Ending) (w' : World) : Prop := ∃ (e o a b c : Int) (l : List Dt) (p : Option Addr) (q : Nat), r = .returned (.agg #[.int .i64 e, .int .i64 o, .int .i64 a, .int .i64 b, .int .i64 c, .slice p l.length q]) ∧ GRow 0 w' p (flatD l) ∧ GI 8 a b c l ∧ (1 ≤ e ∧ e ≤ 3) ∧ (0 ≤ o ∧ o < 3) ∧ Below w.heap.size w w'
set_option maxRecDepth 20000 in
set_option maxHeartbeats 2000000 in
theorem groupOf_any (ao : Option Addr) (len cap : Nat) (zs : List Int) (w : World) (hl : (len : Int) ≤ 1048576) (hr0 : Gen.IsRow .u8 w ao len cap zs) :
    Calls Try.prog 8 #[.slice ao len cap] w (GoP w) := by
  have RR : Hid (Gen.IsRow .u8 w ao len cap zs) := hr0
  clear hr0
  go_enter Try.func8, Try.ntmps8
  go_upto_region 1 with fail
  refine wp_gen (fun W => Box W w.heap.size [.int .i64 0, .int .i64 0, .int .i64 0, .int .i64 0, .int .i64 0, .slice none 0 0] ∧ Below w.heap.size w W) ⟨box_mk, bel_alloc _ _⟩ (fun W0 hI => ?_)
  have Y : Hid _ := hI
  clear hI
  go_wp2_with fail
  refine (source_any len cap ao _ hl).mono ?_
  rintro r W1 ⟨rfl, rfl⟩
  have CG : Hid (Calls Try.prog 26 #[.pointer (some ⟨W0.heap.size, 0, none⟩)] (W0.alloc (.cells #[.slice ao len cap, .int .i64 0, .int .i64 ((len : Int) % 1000)] 68)) (GrP (W0.alloc (.cells #[.slice ao len cap, .int .i64 0, .int .i64 ((len : Int) % 1000)] 68)) W0.heap.size)) := by
    have hs := Y.out.2.size
    refine group_any W0.heap.size len cap ao zs ((len : Int) % 1000) _ ?_ (row_below (row_below RR.out Y.out.2) (bel_alloc _ _)) (fun x hx hc => by have := row_lt RR.out x hx hc; omega) (fun x hx hc => by have := row_lt RR.out x hx hc; simp; omega) hl
    exact ⟨by go_simp, by go_simp, by go_simp, by go_simp, by go_simp, by simp, by omega, by omega⟩
  have Y1 : Hid (Box (W0.alloc (.cells #[.slice ao len cap, .int .i64 0, .int .i64 ((len : Int) % 1000)] 68)) w.heap.size [.int .i64 0, .int .i64 0, .int .i64 0, .int .i64 0, .int .i64 0, .slice none 0 0] ∧ Below w.heap.size w (W0.alloc (.cells #[.slice ao len cap, .int .i64 0, .int .i64 ((len : Int) % 1000)] 68)) ∧ w.heap.size < W0.heap.size) := ⟨Y.out.1.alloc, Y.out.2.trans ((bel_alloc _ _).mono Y.out.2.size), Y.out.1.lt⟩
  clear Y RR
  generalize (W0.alloc (.cells #[.slice ao len cap, .int .i64 0, .int .i64 ((len : Int) % 1000)] 68)) = W1 at *
  generalize W0.heap.size = gs at *
  go_wp2_with fail
  refine Calls.mono CG.out ?_
  rintro r W2 ⟨e, o, a, b, c, l, p, q, rfl, hR, hGI, he, ho, hG⟩
  have Y2 : Hid (Box W2 w.heap.size [.int .i64 0, .int .i64 0, .int .i64 0, .int .i64 0, .int .i64 0, .slice none 0 0] ∧ Below w.heap.size w W2 ∧ GRow (gs + 1) W2 p (flatD l) ∧ GI 8 a b c l ∧ w.heap.size < gs) := by
    have h1 := Y1.out.2.2
    have h2 := Y1.out.2.1
    refine ⟨Y1.out.1.kp (Kp.of_grown hG) (by omega), ?_, hR, hGI, h1⟩
    exact h2.trans ((Kp.of_grown hG).below h2.size (fun x hx e => by omega))
  clear hR hGI hG CG Y1
  obtain ⟨b0, b1, b2, b3, b4, b5⟩ := Y2.out.1.c6
  obtain ⟨f0, f1, f2, f3, f4, f5⟩ := Y2.out.1.f6
  go_wp2_with fail
  clear b0 b1 b2 b3 b4 b5 f0 f1 f2 f3 f4 f5
  have Z := Y2.out.1.s6 (u0 := .int .i64 e) (u1 := .int .i64 o) (u2 := .int .i64 a) (u3 := .int .i64 b) (u4 := .int .i64 c) (u5 := .slice p l.length q)
  obtain ⟨z0, z1, z2, z3, z4, z5⟩ := Z.c6
  clear Z
  have hq : w.heap.size < gs + 1 := by have := Y2.out.2.2.2.2; omega
  refine bodyPost_ret (v := .agg #[.int .i64 e, .int .i64 o, .int .i64 a, .int .i64 b, .int .i64 c, .slice p l.length q]) (by simp [results, Try.results8, go_sem, z0, z1, z2, z3, z4, z5]) rfl ⟨e, o, a, b, c, l, p, q, rfl, ?_, Y2.out.2.2.2.1, he, ho, ?_⟩
  · exact ((((((Y2.out.2.2.1.keep (kept_set hq)).keep (kept_set hq)).keep (kept_set hq)).keep (kept_set hq)).keep (kept_set hq)).keep (kept_set hq)).weak (Nat.zero_le _)
  · exact bel_in (bel_in (bel_in (bel_in (bel_in (bel_in Y2.out.2.1 (Nat.le_refl _)) (Nat.le_refl _)) (Nat.le_refl _)) (Nat.le_refl _)) (Nat.le_refl _)) (Nat.le_refl _)
theorem at3 (ao : Option Addr) (len cap : Nat) (zs : List Int) (i : Int) (w : World) (hi0 : 0 ≤ i) (hi : i ≤ 2) (hl : len ≤ 1048576) (hr0 : Gen.IsRow .u8 w ao len cap zs) : ∃ r : Int, (0 ≤ r ∧ r < 3) ∧ ∀ W, Below w.heap.size w W → Calls Try.prog 9 #[.slice ao len cap, .int .i64 i, .int .i64 3] W fun e w' => e = .returned (.int .i64 r) ∧ Below W.heap.size W w' := by
  obtain ⟨r, hr, h⟩ := at_det ao len cap zs i 3 w hi0 hi (by omega) hl hr0
  exact ⟨(r : Int), ⟨by omega, by omega⟩, h⟩
theorem eqv_same (a b c : Int) (w : World) : Sem.run Try.prog (Op.equalIn 10000 24 (.agg #[.int .i64 a, .int .i64 b, .int .i64 c]) (.agg #[.int .i64 a, .int .i64 b, .int .i64 c])) w = .ok true w := by
  have h29 := Try.underlying24
  have h3 := Try.underlying3
  rw [Op.equalIn]
  simp only [Sem.run_bind, run_underlying h29, Result.andThen_ok, Bool.false_eq_true, if_false]
  simp [go_sem, h3, List.range', List.forIn_cons]
theorem eqd_same (p n : Int) (w : World) : Sem.run Try.prog (Op.equalIn 10000 31 (.agg #[.int .i64 p, .int .i64 n]) (.agg #[.int .i64 p, .int .i64 n])) w = .ok true w := by
  have h40 := Try.underlying31
  have h3 := Try.underlying3
  have hs' : Try.prog.stoodInHeld 31 = false := by kernel_rfl
  rw [run_equalIn_struct w 9999 31 _ _ (by kernel_rfl) hs']
  simp [go_sem, h40, h3]
set_option maxHeartbeats 1000000 in
theorem sameDs_yes (lo lo2 q q2 : Nat) (p p2 : Option Addr) (l : List Dt) (w : World) (hm : (l.length : Int) ≤ 1048576) (hr0 : GRow lo w p (flatD l)) (hs0 : GRow lo2 w p2 (flatD l)) :
    Calls Try.prog 34 #[.slice p l.length q, .slice p2 l.length q2] w fun e w' => e = .returned (.bool true) ∧ Below w.heap.size w w' := by
  have hr : Hid _ := hr0.d
  have hs : Hid _ := hs0.d
  clear hr0 hs0
  go_enter Try.func34, Try.ntmps34
  go_wp2
  go_loopw [5] (fun s5 wr => ∃ k : Nat, k ≤ l.length ∧ s5 = .int .i64 k ∧ Below w.heap.size w wr) (fun s5 _ => l.length - (intOf s5).toNat)
  case atStart => exact ⟨0, by omega, rfl, Below.refl _ _⟩
  case round =>
    obtain ⟨k, hk, rfl, hB0⟩ := hrel
    have hB : Hid (Below w.heap.size w wr) := hB0
    clear hB0
    by_cases hkl : k < l.length
    · have hkl' : (k : Int) < (l.length : Int) := by omega
      rcases hr.out with h' | ⟨b, off, rfl, _, h2⟩
      · rw [h'] at hkl; simp at hkl
      rcases hs.out with h' | ⟨c, oft, rfl, _, h3⟩
      · rw [h'] at hkl; simp at hkl
      obtain ⟨x0, x1⟩ := (h2 k hkl).next hB.out (cell_lt (x := ⟨b, off + k * 2, none⟩) (h2 k hkl).1)
      obtain ⟨y0, y1⟩ := (h3 k hkl).next hB.out (cell_lt (x := ⟨c, oft + k * 2, none⟩) (h3 k hkl).1)
      have k0 : (0 : Int) ≤ (k : Int) := by omega
      have es := eqd_same l[k].p l[k].n
      clear h2 h3
      go_wp2
      go_quiet (fail)
      go_wp2
      go_roundw
      case rel => first | exact ⟨k + 1, by omega, by go_num, below_drewN hB.out _⟩ | ((repeat apply Exists.intro); exact ⟨⟨k + 1, by omega, by go_num, below_drewN hB.out _⟩, rfl⟩)
      case measure => simp [intOf]; omega
    · have hkl' : ¬ (k : Int) < (l.length : Int) := by omega
      go_wp2
      go_ret
      exact ⟨rfl, hB.out⟩
set_option maxRecDepth 20000 in
set_option maxHeartbeats 1000000 in
theorem sameG_yes (lo lo2 q q2 : Nat) (p p2 : Option Addr) (l : List Dt) (e o a b c : Int) (w : World) (hm : (l.length : Int) ≤ 1048576) (hr0 : GRow lo w p (flatD l)) (hs0 : GRow lo2 w p2 (flatD l)) :
    Calls Try.prog 13 #[.agg #[.int .i64 e, .int .i64 o, .int .i64 a, .int .i64 b, .int .i64 c, .slice p l.length q], .agg #[.int .i64 e, .int .i64 o, .int .i64 a, .int .i64 b, .int .i64 c, .slice p2 l.length q2]] w fun r w' => r = .returned (.bool true) ∧ Below w.heap.size w w' := by
  have hb0 : Hid (∀ o1 o2, Below w.heap.size w ((w.alloc o1).alloc o2)) := fun o1 o2 => ((Below.refl _ _).alloc (Nat.le_refl _) _).alloc (by simp) _
  have hr : Hid (GRow lo w p (flatD l)) := hr0
  have hs : Hid (GRow lo2 w p2 (flatD l)) := hs0
  clear hr0 hs0
  have ev := eqv_same a b c
  go_enter Try.func13, Try.ntmps13
  go_upto_region 1 with fail
  refine wp_gen (fun W => Box W w.heap.size [.int .i64 e, .int .i64 o, .int .i64 a, .int .i64 b, .int .i64 c, .slice p l.length q] ∧ Box W (w.heap.size + 1) [.int .i64 e, .int .i64 o, .int .i64 a, .int .i64 b, .int .i64 c, .slice p2 l.length q2] ∧ Below w.heap.size w W) ⟨box_mk.alloc, ?_, hb0.out _ _⟩ (fun W0 hI => ?_)
  · have := box_mk (W := w.alloc (.cells #[.int .i64 e, .int .i64 o, .int .i64 a, .int .i64 b, .int .i64 c, .slice p l.length q] 27)) (t := 27) (vs := [.int .i64 e, .int .i64 o, .int .i64 a, .int .i64 b, .int .i64 c, .slice p2 l.length q2])
    simpa using this
  have Y : Hid _ := hI
  clear hI hb0
  obtain ⟨a0, a1, a2, a3, a4, a5⟩ := Y.out.1.c6
  obtain ⟨b0, b1, b2, b3, b4, b5⟩ := Y.out.2.1.c6
  go_wp2_with fail
  refine (sameDs_yes lo lo2 q q2 p p2 l _ hm (hr.out.next Y.out.2.2) (hs.out.next Y.out.2.2)).mono ?_
  rintro e1 W2 ⟨rfl, hb⟩
  have hB : Hid (Below w.heap.size w W2) := Y.out.2.2.trans (hb.mono Y.out.2.2.size)
  clear hb a0 a1 a2 a3 a4 a5 b0 b1 b2 b3 b4 b5 Y ev
  go_wp2
  go_ret
  exact ⟨rfl, hB.out⟩
end Go.Proofs.Ytklajcdlacemaaa
