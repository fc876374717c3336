/- New clusters, on both sides. -/
import Derived.Test.YtagmpoakakbeaaaRows
import Derived.WalkKit
import Derived.WalkSpells
import Derived.WalkLawsBesides
import Derived.Deep.QuietTactic
import Derived.BigQuiet
import Derived.Deep.RegionHeld3
import Derived.Test.YtagmpoakakbeaaaKb
import Derived.LoopN
import Derived.Deep.Cut
namespace Go.Proofs.Ytagmpoakakbeaaa
open Go.RowKit
set_option linter.unusedSimpArgs false
set_option linter.unusedVariables false

/-- What a call that makes a new cluster leaves. -/
def NwC (w : World) (e : Ending) (w' : World) : Prop := ∃ g b c d k0 k1 n0 n1 p s, e = .returned (.agg #[.slice (some ⟨g, 0, none⟩) 3 c, .slice (some ⟨b, 0, none⟩) 3 d, .slice n0 0 k0, .slice n1 0 k1]) ∧ Box w' g (three p s) ∧ Box w' b (bs3 true true true) ∧ g ≠ b ∧ w.heap.size ≤ g ∧ w.heap.size ≤ b ∧ Below w.heap.size w w'
theorem OwnG.box {W : World} {e size n lo : Nat} {v : Value} {xs : List Value} (h : OwnG W e size v n xs lo) (hn : n ≠ 0) : ∃ g c, v = .slice (some ⟨g, 0, none⟩) n c ∧ lo ≤ g ∧ Box W g xs := by
  have hq := h.own
  rcases h.own.2 with ⟨rfl, h0⟩ | ⟨g, cap, cur, rfl, hb, hh, r⟩
  · exact absurd h0 hn
  · refine ⟨g, cap, rfl, h.ge g rfl, ⟨fun j hj => ⟨?_, ?_⟩, (h.own.lt g rfl).2⟩⟩
    · have hj2 := hj
      rw [h.own.1] at hj2
      rw [hq.cellAt j hj2, List.getElem?_eq_getElem hj]
    · simp [World.frozen?, hh]
theorem bel_set4 {w W : World} {base q : Nat} {a b c d : Value} (h : Below base w W) (hq : base ≤ q) : Below base w ((((W.setCell ⟨q, 0, none⟩ a).setCell ⟨q, 1, none⟩ b).setCell ⟨q, 2, none⟩ c).setCell ⟨q, 3, none⟩ d) := (((h.setCell hq _).setCell hq _).setCell hq _).setCell hq _
set_option maxHeartbeats 1000000 in
theorem new5 (id : Int) (w : World) : Calls Try.prog 56 #[.int .i64 id] w fun e w' => ∃ p0 p1 p2 p3, e = .returned (.agg #[.int .i64 id, .int .i64 0, .int .i64 0, .slice p0 0 0, .slice p1 0 0, .slice p2 0 0, .slice p3 0 0]) ∧ Below w.heap.size w w' := by
  go_enter Try.func56, Try.ntmps56
  go_wp2
  refine bodyPost_ret (v := .agg #[.int .i64 id, .int .i64 0, .int .i64 0, .slice (some ⟨w.heap.size + 1, 0, none⟩) 0 0, .slice (some ⟨w.heap.size + 1 + 1, 0, none⟩) 0 0, .slice (some ⟨w.heap.size + 1 + 1 + 1, 0, none⟩) 0 0, .slice (some ⟨w.heap.size + 1 + 1 + 1 + 1, 0, none⟩) 0 0]) (by simp [results, Try.results56, go_sem, *]) rfl ?_
  refine ⟨_, _, _, _, rfl, ?_⟩
  repeat (first | exact Below.refl _ _ | refine Below.drew ?_ | refine below_drewN ?_ _ | refine Below.alloc ?_ (by first | (simp; done) | (simp; omega)) _ | refine Below.setCell ?_ (by first | (simp; done) | (simp; omega)) _)

set_option maxRecDepth 100000 in
set_option maxHeartbeats 4000000 in
theorem l09New_any (w : World) : Calls Try.prog 36 #[] w (NwC w) := by
  have X : Hid (Box (w.alloc (.cells #[.slice none 0 0, .slice none 0 0, .slice none 0 0, .slice none 0 0] 26)) w.heap.size [.slice none 0 0, .slice none 0 0, .slice none 0 0, .slice none 0 0] ∧ Below w.heap.size w (w.alloc (.cells #[.slice none 0 0, .slice none 0 0, .slice none 0 0, .slice none 0 0] 26))) := ⟨box_mk, bel_alloc _ _⟩
  go_enter Try.func36, Try.ntmps36
  go_upto_region 1 with fail
  generalize (w.alloc (.cells #[.slice none 0 0, .slice none 0 0, .slice none 0 0, .slice none 0 0] 26)) = W0 at *
  go_wp2_with fail
  refine Calls.mono (new5 0 _) ?_
  rintro e W1 ⟨p0, p1, p2, p3, rfl, hb⟩
  replace X : Hid (Box W1 w.heap.size [.slice none 0 0, .slice none 0 0, .slice none 0 0, .slice none 0 0] ∧ Below w.heap.size w W1) := ⟨X.out.1.next hb, X.out.2.trans (hb.mono X.out.2.size)⟩
  clear hb
  go_wp2_with fail
  refine Calls.mono (new5 1 _) ?_
  rintro e W2 ⟨p4, p5, p6, p7, rfl, hb⟩
  replace X : Hid (Box W2 w.heap.size [.slice none 0 0, .slice none 0 0, .slice none 0 0, .slice none 0 0] ∧ Below w.heap.size w W2) := ⟨X.out.1.next hb, X.out.2.trans (hb.mono X.out.2.size)⟩
  clear hb
  go_wp2_with fail
  refine Calls.mono (new5 2 _) ?_
  rintro e W3 ⟨p8, p9, p10, p11, rfl, hb⟩
  replace X : Hid (Box W3 w.heap.size [.slice none 0 0, .slice none 0 0, .slice none 0 0, .slice none 0 0] ∧ Below w.heap.size w W3) := ⟨X.out.1.next hb, X.out.2.trans (hb.mono X.out.2.size)⟩
  clear hb
  have c0 : ∀ o1 o2 o3 o4, ((((W3.alloc o1).alloc o2).alloc o3).alloc o4).cell? ⟨w.heap.size, 0, none⟩ = some (.slice none 0 0) := fun _ _ _ _ => (X.out.1.alloc.alloc.alloc.alloc.is 0 (by simp)).1
  have f0 : ∀ o1 o2 o3 o4, ((((W3.alloc o1).alloc o2).alloc o3).alloc o4).frozen? ⟨w.heap.size, 0, none⟩ = false := fun _ _ _ _ => (X.out.1.alloc.alloc.alloc.alloc.is 0 (by simp)).2
  have c1 : ∀ o1 o2 o3 o4, ((((W3.alloc o1).alloc o2).alloc o3).alloc o4).cell? ⟨w.heap.size, 1, none⟩ = some (.slice none 0 0) := fun _ _ _ _ => (X.out.1.alloc.alloc.alloc.alloc.is 1 (by simp)).1
  have f1 : ∀ o1 o2 o3 o4, ((((W3.alloc o1).alloc o2).alloc o3).alloc o4).frozen? ⟨w.heap.size, 1, none⟩ = false := fun _ _ _ _ => (X.out.1.alloc.alloc.alloc.alloc.is 1 (by simp)).2
  have c2 : ∀ o1 o2 o3 o4, ((((W3.alloc o1).alloc o2).alloc o3).alloc o4).cell? ⟨w.heap.size, 2, none⟩ = some (.slice none 0 0) := fun _ _ _ _ => (X.out.1.alloc.alloc.alloc.alloc.is 2 (by simp)).1
  have f2 : ∀ o1 o2 o3 o4, ((((W3.alloc o1).alloc o2).alloc o3).alloc o4).frozen? ⟨w.heap.size, 2, none⟩ = false := fun _ _ _ _ => (X.out.1.alloc.alloc.alloc.alloc.is 2 (by simp)).2
  have c3 : ∀ o1 o2 o3 o4, ((((W3.alloc o1).alloc o2).alloc o3).alloc o4).cell? ⟨w.heap.size, 3, none⟩ = some (.slice none 0 0) := fun _ _ _ _ => (X.out.1.alloc.alloc.alloc.alloc.is 3 (by simp)).1
  have f3 : ∀ o1 o2 o3 o4, ((((W3.alloc o1).alloc o2).alloc o3).alloc o4).frozen? ⟨w.heap.size, 3, none⟩ = false := fun _ _ _ _ => (X.out.1.alloc.alloc.alloc.alloc.is 3 (by simp)).2
  have HZ : w.heap.size < W3.heap.size := X.out.1.lt
  go_wp2
  refine bodyPost_ret (v := .agg #[(.slice (some ⟨W3.heap.size, 0, none⟩) 3 3), (.slice (some ⟨W3.heap.size + 1, 0, none⟩) 3 3), (.slice (some ⟨W3.heap.size + 1 + 1, 0, none⟩) 0 0), (.slice (some ⟨W3.heap.size + 1 + 1 + 1, 0, none⟩) 0 0)]) (by simp [results, Try.results36, go_sem, *]) rfl ?_
  refine ⟨W3.heap.size, W3.heap.size + 1, _, _, _, _, _, _, fun n => ([p0, p1, p2, p3, p4, p5, p6, p7, p8, p9, p10, p11] : List (Option Addr)).getD n none, fun _ => 0, rfl, ?_, ?_, by omega, by omega, by omega, ?_⟩
  · refine Box.o4 ?_ (by omega)
    exact (((box_mk (vs := [.int .i64 0, .int .i64 0, .int .i64 0, .slice p0 0 0, .slice p1 0 0, .slice p2 0 0, .slice p3 0 0, .int .i64 1, .int .i64 0, .int .i64 0, .slice p4 0 0, .slice p5 0 0, .slice p6 0 0, .slice p7 0 0, .int .i64 2, .int .i64 0, .int .i64 0, .slice p8 0 0, .slice p9 0 0, .slice p10 0 0, .slice p11 0 0])).alloc).alloc).alloc
  · refine Box.o4 ?_ (by omega)
    have h : Box ((W3.alloc (.cells #[.int .i64 0, .int .i64 0, .int .i64 0, .slice p0 0 0, .slice p1 0 0, .slice p2 0 0, .slice p3 0 0, .int .i64 1, .int .i64 0, .int .i64 0, .slice p4 0 0, .slice p5 0 0, .slice p6 0 0, .slice p7 0 0, .int .i64 2, .int .i64 0, .int .i64 0, .slice p8 0 0, .slice p9 0 0, .slice p10 0 0, .slice p11 0 0] 67)).alloc (.cells #[.bool true, .bool true, .bool true] 4)) (W3.alloc (.cells #[.int .i64 0, .int .i64 0, .int .i64 0, .slice p0 0 0, .slice p1 0 0, .slice p2 0 0, .slice p3 0 0, .int .i64 1, .int .i64 0, .int .i64 0, .slice p4 0 0, .slice p5 0 0, .slice p6 0 0, .slice p7 0 0, .int .i64 2, .int .i64 0, .int .i64 0, .slice p8 0 0, .slice p9 0 0, .slice p10 0 0, .slice p11 0 0] 67)).heap.size [.bool true, .bool true, .bool true] := box_mk
    rw [World.alloc_size] at h
    exact h.alloc.alloc
  · refine bel_set4 ?_ (Nat.le_refl _)
    refine X.out.2.trans (Below.mono (((bel_alloc _ _).trans ((bel_alloc _ _).mono (by simp))).trans (((bel_alloc _ _).trans ((bel_alloc _ _).mono (by simp))).mono (by simp; omega))) X.out.2.size)
/-- What the loop over the nodes keeps. -/
structure RI (w W : World) (v v' : Value) (i j : Nat) (xs ys : List Value) : Prop where
  o : OwnG W 67 7 v i xs (w.heap.size + 2)
  u : OwnG W 4 1 v' j ys (w.heap.size + 2)
  ne : ∀ k, v.ownBlock = some k → v'.ownBlock ≠ some k
  a : Box W w.heap.size [.slice none 0 0, .slice none 0 0, .slice none 0 0, .slice none 0 0]
  c : Box W (w.heap.size + 1) [v, v', .slice none 0 0, .slice none 0 0]
  b : Below w.heap.size w W
  sz : w.heap.size + 2 ≤ W.heap.size
theorem bel_gro {w W W1 : World} {v v2 : Value} {ob : Obj} {q : Nat} (hb : Below w.heap.size w W) (hv : ∀ k, v.ownBlock = some k → w.heap.size ≤ k) (hG : Gro (W.alloc ob) W1 v v2) (hq : w.heap.size ≤ q) {i : Nat} {u : Value} : Below w.heap.size w (W1.setCell ⟨q, i, none⟩ u) := by
  refine Below.setCell ?_ hq _
  refine (hb.trans ((bel_alloc _ ob).mono hb.size)).trans (hG.below (by have := hb.size; simp; omega) hv)
theorem RI.node {w W W1 : World} {v v' v2 : Value} {i j i2 : Nat} {xs ys xs2 : List Value} {ob : Obj} (h : RI w W v v' i j xs ys) (hO : OwnG W1 67 7 v2 i2 xs2 (w.heap.size + 2)) (hG : Gro (W.alloc ob) W1 v v2) : RI w (W1.setCell ⟨w.heap.size + 1, 0, none⟩ v2) v2 v' i2 j xs2 ys := by
  have hz := h.sz
  have hs : W.heap.size + 1 ≤ W1.heap.size := by have := hG.size; simpa using this
  refine ⟨hO.kp Kp.set (fun k hk => by have := hO.ge k hk; omega), ?_, fun k hk => ?_, ?_, ?_, bel_gro h.b (fun k hk => by have := h.o.ge k hk; omega) hG (by omega), by simp [World.setCell]; omega⟩
  · exact ((h.u.next (bel_alloc _ ob)).apart (fun k hk e => h.ne k e hk) hG).kp Kp.set (fun k hk => by have := h.u.ge k hk; omega)
  · rcases hG.fresh k hk with e | e
    · exact h.ne k e
    · intro e2
      have := (h.u.lt k e2).2
      simp at e
      omega
  · exact ((h.a.alloc).gro hG (fun e => by have := h.o.ge _ e; omega)).oth (by omega)
  · exact ((h.c.alloc).gro hG (fun e => by have := h.o.ge _ e; omega)).set (i := 0) (u := v2) (by simp)
theorem RI.bool {w W W1 : World} {v v' v2 : Value} {i j j2 : Nat} {xs ys ys2 : List Value} {ob : Obj} (h : RI w W v v' i j xs ys) (hO : OwnG W1 4 1 v2 j2 ys2 (w.heap.size + 2)) (hG : Gro (W.alloc ob) W1 v' v2) : RI w (W1.setCell ⟨w.heap.size + 1, 1, none⟩ v2) v v2 i j2 xs ys2 := by
  have hz := h.sz
  have hs : W.heap.size + 1 ≤ W1.heap.size := by have := hG.size; simpa using this
  refine ⟨?_, hO.kp Kp.set (fun k hk => by have := hO.ge k hk; omega), fun k hk e => ?_, ?_, ?_, bel_gro h.b (fun k hk => by have := h.u.ge k hk; omega) hG (by omega), by simp [World.setCell]; omega⟩
  · exact ((h.o.next (bel_alloc _ ob)).apart (fun k hk e => h.ne k hk e) hG).kp Kp.set (fun k hk => by have := h.o.ge k hk; omega)
  · rcases hG.fresh k e with e | e
    · exact h.ne k hk e
    · have := (h.o.lt k hk).2
      simp at e
      omega
  · exact ((h.a.alloc).gro hG (fun e => by have := h.u.ge _ e; omega)).oth (by omega)
  · exact ((h.c.alloc).gro hG (fun e => by have := h.u.ge _ e; omega)).set (i := 1) (u := v2) (by simp)
theorem elN : ElemT Try.prog 22 67 7 120 := by
  refine ⟨Try.underlying22, ?_, by decide, by decide⟩
  have hI : (Try.prog.info? 67).map (fun i => (i.zero, i.size, i.bytes)) = some (some (.agg #[.int .i64 0, .int .i64 0, .int .i64 0, .slice none 0 0, .slice none 0 0, .slice none 0 0, .slice none 0 0]), 7, 120) := by kernel_rfl
  obtain ⟨i0, hi, hz0, hz1, hz2⟩ := info_parts hI
  exact ⟨i0, _, hi, hz0, hz1, hz2, rfl⟩
theorem elB : ElemT Try.prog 23 4 1 1 := by
  refine ⟨Try.underlying23, ?_, by decide, by decide⟩
  have hI : (Try.prog.info? 4).map (fun i => (i.zero, i.size, i.bytes)) = some (some (.bool false), 1, 1) := by kernel_rfl
  obtain ⟨i0, hi, hz0, hz1, hz2⟩ := info_parts hI
  exact ⟨i0, _, hi, hz0, hz1, hz2, rfl⟩
theorem lit_row {W : World} {t : TypeId} {vs : List Value} : GRow 0 (W.alloc (.cells vs.toArray t)) (some ⟨W.heap.size, 0, none⟩) vs := .inr ⟨_, 0, rfl, Nat.zero_le _, fun j hj => by rw [Nat.zero_add]; exact (box_mk.is j hj).1⟩

set_option maxRecDepth 100000 in
set_option maxHeartbeats 4000000 in
theorem implNew_any (w : World) : Calls Try.prog 15 #[] w (NwC w) := by
  have X : Hid (RI w ((w.alloc (.cells #[.slice none 0 0, .slice none 0 0, .slice none 0 0, .slice none 0 0] 26)).alloc (.cells #[.slice none 0 0, .slice none 0 0, .slice none 0 0, .slice none 0 0] 26)) (.slice none 0 0) (.slice none 0 0) 0 0 [] []) := by
    have h2 : Box ((w.alloc (.cells #[.slice none 0 0, .slice none 0 0, .slice none 0 0, .slice none 0 0] 26)).alloc (.cells #[.slice none 0 0, .slice none 0 0, .slice none 0 0, .slice none 0 0] 26)) (w.alloc (.cells #[.slice none 0 0, .slice none 0 0, .slice none 0 0, .slice none 0 0] 26)).heap.size [.slice none 0 0, .slice none 0 0, .slice none 0 0, .slice none 0 0] := box_mk
    rw [World.alloc_size] at h2
    exact ⟨OwnG.nil _ _ _ _, OwnG.nil _ _ _ _, fun k hk => absurd hk Gro.none_ne, box_mk.alloc, h2, (bel_alloc _ _).trans ((bel_alloc _ _).mono (by simp)), by simp⟩
  go_enter Try.func15, Try.ntmps15
  go_upto_region 2 with fail
  generalize ((w.alloc (.cells #[.slice none 0 0, .slice none 0 0, .slice none 0 0, .slice none 0 0] 26)).alloc (.cells #[.slice none 0 0, .slice none 0 0, .slice none 0 0, .slice none 0 0] 26)) = W0 at *
  go_wp2
  refine wp_loop_rounds 4 ?_
  rw [rounds_succ]
  obtain ⟨c0, c1, c2, c3⟩ := X.out.c.c4
  obtain ⟨f0, f1, f2, f3⟩ := X.out.c.f4
  have HS : Hid (w.heap.size + 2 ≤ (World.heap W0).size) := X.out.sz
  have XC : Hid (∀ ob, Box (World.alloc W0 ob) (w.heap.size + 1) [(.slice none 0 0), (.slice none 0 0), .slice none 0 0, .slice none 0 0]) := fun ob => X.out.c.alloc
  have XO : Hid (∀ k, (Value.ownBlock (.slice none 0 0)) = some k → w.heap.size + 2 ≤ k) := fun k hk => X.out.o.ge k hk
  clear c2 c3 f2 f3
  go_wp2_with (first | (at_builtin; refine wpList_appG elN rfl _ _ rfl (.slice none 0 0) 0 [] (w.heap.size + 2) 1 rfl (X.out.o.next (bel_alloc _ _)) (by have := HS.out; simp; omega) (some ⟨(World.heap W0).size, 0, none⟩) 1 1 [.int .i64 0, .int .i64 0, .int .i64 0, .slice none 0 0, .slice none 0 0, .slice none 0 0, .slice none 0 0] rfl rfl (by simp [Value.oneCell']) 0 lit_row (by omega) rfl ?_) | go_in)
  intro vo0 vc0 A0 hO hG hS
  replace X : Hid (RI w (World.setCell A0 ⟨w.heap.size + 1, 0, none⟩ (.slice vo0 1 vc0)) (.slice vo0 1 vc0) (.slice none 0 0) 1 0 [.int .i64 0, .int .i64 0, .int .i64 0, .slice none 0 0, .slice none 0 0, .slice none 0 0, .slice none 0 0] []) := X.out.node hO hG
  have CB : Box A0 (w.heap.size + 1) [(.slice none 0 0), (.slice none 0 0), .slice none 0 0, .slice none 0 0] := (XC.out _).gro hG (fun e => by have := XO.out _ e; omega)
  clear c0 c1 f0 f1 hO hG hS HS XC XO
  obtain ⟨c0, c1, c2, c3⟩ := CB.c4
  obtain ⟨f0, f1, f2, f3⟩ := CB.f4
  clear CB
  have HS : Hid (w.heap.size + 2 ≤ (World.setCell A0 ⟨w.heap.size + 1, 0, none⟩ (.slice vo0 1 vc0)).heap.size) := X.out.sz
  have XC : Hid (∀ ob, Box ((World.setCell A0 ⟨w.heap.size + 1, 0, none⟩ (.slice vo0 1 vc0)).alloc ob) (w.heap.size + 1) [.slice vo0 1 vc0, (.slice none 0 0), .slice none 0 0, .slice none 0 0]) := fun ob => X.out.c.alloc
  have XO : Hid (∀ k, (Value.ownBlock (.slice none 0 0)) = some k → w.heap.size + 2 ≤ k) := fun k hk => X.out.u.ge k hk
  go_upto_region 6 with fail
  generalize World.setCell A0 ⟨w.heap.size + 1, 0, none⟩ (.slice vo0 1 vc0) = W0b at *
  clear c0 c1 c2 c3 f0 f1 f2 f3
  obtain ⟨c0, c1, c2, c3⟩ := X.out.c.c4
  obtain ⟨f0, f1, f2, f3⟩ := X.out.c.f4
  go_wp2_with (first | (at_builtin; refine wpList_appG elB rfl _ _ rfl (.slice none 0 0) 0 [] (w.heap.size + 2) 1 rfl (X.out.u.next (bel_alloc _ _)) (by have := HS.out; simp; omega) (some ⟨(World.heap W0b).size, 0, none⟩) 1 1 [.bool true] rfl rfl (by simp [Value.oneCell']) 0 lit_row (by omega) rfl ?_) | go_in)
  intro uo0 uc0 B0 hO hG hS
  replace X : Hid (RI w (World.setCell B0 ⟨w.heap.size + 1, 1, none⟩ (.slice uo0 1 uc0)) (.slice vo0 1 vc0) (.slice uo0 1 uc0) 1 1 [.int .i64 0, .int .i64 0, .int .i64 0, .slice none 0 0, .slice none 0 0, .slice none 0 0, .slice none 0 0] [.bool true]) := X.out.bool hO hG
  have CB : Box B0 (w.heap.size + 1) [.slice vo0 1 vc0, (.slice none 0 0), .slice none 0 0, .slice none 0 0] := (XC.out _).gro hG (fun e => by have := XO.out _ e; omega)
  clear c0 c1 c2 c3 f0 f1 f2 f3 hO hG hS HS XC XO
  obtain ⟨c0, c1, c2, c3⟩ := CB.c4
  obtain ⟨f0, f1, f2, f3⟩ := CB.f4
  clear CB
  go_upto_region 7 with fail
  generalize World.setCell B0 ⟨w.heap.size + 1, 1, none⟩ (.slice uo0 1 uc0) = W0c at *
  clear c0 c1 c2 c3 f0 f1 f2 f3
  go_wp2
  rw [rounds_succ]
  obtain ⟨c0, c1, c2, c3⟩ := X.out.c.c4
  obtain ⟨f0, f1, f2, f3⟩ := X.out.c.f4
  have HS : Hid (w.heap.size + 2 ≤ (World.heap W0c).size) := X.out.sz
  have XC : Hid (∀ ob, Box (World.alloc W0c ob) (w.heap.size + 1) [(.slice vo0 1 vc0), (.slice uo0 1 uc0), .slice none 0 0, .slice none 0 0]) := fun ob => X.out.c.alloc
  have XO : Hid (∀ k, (Value.ownBlock (.slice vo0 1 vc0)) = some k → w.heap.size + 2 ≤ k) := fun k hk => X.out.o.ge k hk
  clear c2 c3 f2 f3
  go_wp2_with (first | (at_builtin; refine wpList_appG elN rfl _ _ rfl (.slice vo0 1 vc0) 1 [.int .i64 0, .int .i64 0, .int .i64 0, .slice none 0 0, .slice none 0 0, .slice none 0 0, .slice none 0 0] (w.heap.size + 2) 2 rfl (X.out.o.next (bel_alloc _ _)) (by have := HS.out; simp; omega) (some ⟨(World.heap W0c).size, 0, none⟩) 1 1 [.int .i64 1, .int .i64 0, .int .i64 0, .slice none 0 0, .slice none 0 0, .slice none 0 0, .slice none 0 0] rfl rfl (by simp [Value.oneCell']) 0 lit_row (by omega) rfl ?_) | go_in)
  intro vo1 vc1 A1 hO hG hS
  replace X : Hid (RI w (World.setCell A1 ⟨w.heap.size + 1, 0, none⟩ (.slice vo1 2 vc1)) (.slice vo1 2 vc1) (.slice uo0 1 uc0) 2 1 [.int .i64 0, .int .i64 0, .int .i64 0, .slice none 0 0, .slice none 0 0, .slice none 0 0, .slice none 0 0, .int .i64 1, .int .i64 0, .int .i64 0, .slice none 0 0, .slice none 0 0, .slice none 0 0, .slice none 0 0] [.bool true]) := X.out.node hO hG
  have CB : Box A1 (w.heap.size + 1) [(.slice vo0 1 vc0), (.slice uo0 1 uc0), .slice none 0 0, .slice none 0 0] := (XC.out _).gro hG (fun e => by have := XO.out _ e; omega)
  clear c0 c1 f0 f1 hO hG hS HS XC XO
  obtain ⟨c0, c1, c2, c3⟩ := CB.c4
  obtain ⟨f0, f1, f2, f3⟩ := CB.f4
  clear CB
  have HS : Hid (w.heap.size + 2 ≤ (World.setCell A1 ⟨w.heap.size + 1, 0, none⟩ (.slice vo1 2 vc1)).heap.size) := X.out.sz
  have XC : Hid (∀ ob, Box ((World.setCell A1 ⟨w.heap.size + 1, 0, none⟩ (.slice vo1 2 vc1)).alloc ob) (w.heap.size + 1) [.slice vo1 2 vc1, (.slice uo0 1 uc0), .slice none 0 0, .slice none 0 0]) := fun ob => X.out.c.alloc
  have XO : Hid (∀ k, (Value.ownBlock (.slice uo0 1 uc0)) = some k → w.heap.size + 2 ≤ k) := fun k hk => X.out.u.ge k hk
  go_upto_region 6 with fail
  generalize World.setCell A1 ⟨w.heap.size + 1, 0, none⟩ (.slice vo1 2 vc1) = W1b at *
  clear c0 c1 c2 c3 f0 f1 f2 f3
  obtain ⟨c0, c1, c2, c3⟩ := X.out.c.c4
  obtain ⟨f0, f1, f2, f3⟩ := X.out.c.f4
  go_wp2_with (first | (at_builtin; refine wpList_appG elB rfl _ _ rfl (.slice uo0 1 uc0) 1 [.bool true] (w.heap.size + 2) 2 rfl (X.out.u.next (bel_alloc _ _)) (by have := HS.out; simp; omega) (some ⟨(World.heap W1b).size, 0, none⟩) 1 1 [.bool true] rfl rfl (by simp [Value.oneCell']) 0 lit_row (by omega) rfl ?_) | go_in)
  intro uo1 uc1 B1 hO hG hS
  replace X : Hid (RI w (World.setCell B1 ⟨w.heap.size + 1, 1, none⟩ (.slice uo1 2 uc1)) (.slice vo1 2 vc1) (.slice uo1 2 uc1) 2 2 [.int .i64 0, .int .i64 0, .int .i64 0, .slice none 0 0, .slice none 0 0, .slice none 0 0, .slice none 0 0, .int .i64 1, .int .i64 0, .int .i64 0, .slice none 0 0, .slice none 0 0, .slice none 0 0, .slice none 0 0] [.bool true, .bool true]) := X.out.bool hO hG
  have CB : Box B1 (w.heap.size + 1) [.slice vo1 2 vc1, (.slice uo0 1 uc0), .slice none 0 0, .slice none 0 0] := (XC.out _).gro hG (fun e => by have := XO.out _ e; omega)
  clear c0 c1 c2 c3 f0 f1 f2 f3 hO hG hS HS XC XO
  obtain ⟨c0, c1, c2, c3⟩ := CB.c4
  obtain ⟨f0, f1, f2, f3⟩ := CB.f4
  clear CB
  go_upto_region 7 with fail
  generalize World.setCell B1 ⟨w.heap.size + 1, 1, none⟩ (.slice uo1 2 uc1) = W1c at *
  clear c0 c1 c2 c3 f0 f1 f2 f3
  go_wp2
  rw [rounds_succ]
  obtain ⟨c0, c1, c2, c3⟩ := X.out.c.c4
  obtain ⟨f0, f1, f2, f3⟩ := X.out.c.f4
  have HS : Hid (w.heap.size + 2 ≤ (World.heap W1c).size) := X.out.sz
  have XC : Hid (∀ ob, Box (World.alloc W1c ob) (w.heap.size + 1) [(.slice vo1 2 vc1), (.slice uo1 2 uc1), .slice none 0 0, .slice none 0 0]) := fun ob => X.out.c.alloc
  have XO : Hid (∀ k, (Value.ownBlock (.slice vo1 2 vc1)) = some k → w.heap.size + 2 ≤ k) := fun k hk => X.out.o.ge k hk
  clear c2 c3 f2 f3
  go_wp2_with (first | (at_builtin; refine wpList_appG elN rfl _ _ rfl (.slice vo1 2 vc1) 2 [.int .i64 0, .int .i64 0, .int .i64 0, .slice none 0 0, .slice none 0 0, .slice none 0 0, .slice none 0 0, .int .i64 1, .int .i64 0, .int .i64 0, .slice none 0 0, .slice none 0 0, .slice none 0 0, .slice none 0 0] (w.heap.size + 2) 3 rfl (X.out.o.next (bel_alloc _ _)) (by have := HS.out; simp; omega) (some ⟨(World.heap W1c).size, 0, none⟩) 1 1 [.int .i64 2, .int .i64 0, .int .i64 0, .slice none 0 0, .slice none 0 0, .slice none 0 0, .slice none 0 0] rfl rfl (by simp [Value.oneCell']) 0 lit_row (by omega) rfl ?_) | go_in)
  intro vo2 vc2 A2 hO hG hS
  replace X : Hid (RI w (World.setCell A2 ⟨w.heap.size + 1, 0, none⟩ (.slice vo2 3 vc2)) (.slice vo2 3 vc2) (.slice uo1 2 uc1) 3 2 [.int .i64 0, .int .i64 0, .int .i64 0, .slice none 0 0, .slice none 0 0, .slice none 0 0, .slice none 0 0, .int .i64 1, .int .i64 0, .int .i64 0, .slice none 0 0, .slice none 0 0, .slice none 0 0, .slice none 0 0, .int .i64 2, .int .i64 0, .int .i64 0, .slice none 0 0, .slice none 0 0, .slice none 0 0, .slice none 0 0] [.bool true, .bool true]) := X.out.node hO hG
  have CB : Box A2 (w.heap.size + 1) [(.slice vo1 2 vc1), (.slice uo1 2 uc1), .slice none 0 0, .slice none 0 0] := (XC.out _).gro hG (fun e => by have := XO.out _ e; omega)
  clear c0 c1 f0 f1 hO hG hS HS XC XO
  obtain ⟨c0, c1, c2, c3⟩ := CB.c4
  obtain ⟨f0, f1, f2, f3⟩ := CB.f4
  clear CB
  have HS : Hid (w.heap.size + 2 ≤ (World.setCell A2 ⟨w.heap.size + 1, 0, none⟩ (.slice vo2 3 vc2)).heap.size) := X.out.sz
  have XC : Hid (∀ ob, Box ((World.setCell A2 ⟨w.heap.size + 1, 0, none⟩ (.slice vo2 3 vc2)).alloc ob) (w.heap.size + 1) [.slice vo2 3 vc2, (.slice uo1 2 uc1), .slice none 0 0, .slice none 0 0]) := fun ob => X.out.c.alloc
  have XO : Hid (∀ k, (Value.ownBlock (.slice uo1 2 uc1)) = some k → w.heap.size + 2 ≤ k) := fun k hk => X.out.u.ge k hk
  go_upto_region 6 with fail
  generalize World.setCell A2 ⟨w.heap.size + 1, 0, none⟩ (.slice vo2 3 vc2) = W2b at *
  clear c0 c1 c2 c3 f0 f1 f2 f3
  obtain ⟨c0, c1, c2, c3⟩ := X.out.c.c4
  obtain ⟨f0, f1, f2, f3⟩ := X.out.c.f4
  go_wp2_with (first | (at_builtin; refine wpList_appG elB rfl _ _ rfl (.slice uo1 2 uc1) 2 [.bool true, .bool true] (w.heap.size + 2) 3 rfl (X.out.u.next (bel_alloc _ _)) (by have := HS.out; simp; omega) (some ⟨(World.heap W2b).size, 0, none⟩) 1 1 [.bool true] rfl rfl (by simp [Value.oneCell']) 0 lit_row (by omega) rfl ?_) | go_in)
  intro uo2 uc2 B2 hO hG hS
  replace X : Hid (RI w (World.setCell B2 ⟨w.heap.size + 1, 1, none⟩ (.slice uo2 3 uc2)) (.slice vo2 3 vc2) (.slice uo2 3 uc2) 3 3 [.int .i64 0, .int .i64 0, .int .i64 0, .slice none 0 0, .slice none 0 0, .slice none 0 0, .slice none 0 0, .int .i64 1, .int .i64 0, .int .i64 0, .slice none 0 0, .slice none 0 0, .slice none 0 0, .slice none 0 0, .int .i64 2, .int .i64 0, .int .i64 0, .slice none 0 0, .slice none 0 0, .slice none 0 0, .slice none 0 0] [.bool true, .bool true, .bool true]) := X.out.bool hO hG
  have CB : Box B2 (w.heap.size + 1) [.slice vo2 3 vc2, (.slice uo1 2 uc1), .slice none 0 0, .slice none 0 0] := (XC.out _).gro hG (fun e => by have := XO.out _ e; omega)
  clear c0 c1 c2 c3 f0 f1 f2 f3 hO hG hS HS XC XO
  obtain ⟨c0, c1, c2, c3⟩ := CB.c4
  obtain ⟨f0, f1, f2, f3⟩ := CB.f4
  clear CB
  go_upto_region 7 with fail
  generalize World.setCell B2 ⟨w.heap.size + 1, 1, none⟩ (.slice uo2 3 uc2) = W2c at *
  clear c0 c1 c2 c3 f0 f1 f2 f3
  go_wp2
  rw [rounds_succ]
  obtain ⟨g, gc, hv, lg, hbg⟩ := X.out.o.box (by decide)
  obtain ⟨b, bc, hu, lb, hbb⟩ := X.out.u.box (by decide)
  obtain ⟨rfl, rfl⟩ : vo2 = some ⟨g, 0, none⟩ ∧ vc2 = gc := by simpa using hv
  obtain ⟨rfl, rfl⟩ : uo2 = some ⟨b, 0, none⟩ ∧ uc2 = bc := by simpa using hu
  have HG : Hid (Box W2c g [.int .i64 0, .int .i64 0, .int .i64 0, .slice none 0 0, .slice none 0 0, .slice none 0 0, .slice none 0 0, .int .i64 1, .int .i64 0, .int .i64 0, .slice none 0 0, .slice none 0 0, .slice none 0 0, .slice none 0 0, .int .i64 2, .int .i64 0, .int .i64 0, .slice none 0 0, .slice none 0 0, .slice none 0 0, .slice none 0 0] ∧ Box W2c b [.bool true, .bool true, .bool true] ∧ g ≠ b ∧ w.heap.size + 2 ≤ g ∧ w.heap.size + 2 ≤ b) := ⟨hbg, hbb, fun e => by subst e; exact X.out.ne g rfl rfl, lg, lb⟩
  obtain ⟨c0, c1, c2, c3⟩ := X.out.c.c4
  obtain ⟨d0, d1, d2, d3⟩ := X.out.a.c4
  obtain ⟨f0, f1, f2, f3⟩ := X.out.a.f4
  clear hv hu lg lb hbg hbb
  go_wp2
  refine bodyPost_ret (v := .agg #[(.slice (some ⟨g, 0, none⟩) 3 vc2), (.slice (some ⟨b, 0, none⟩) 3 uc2), .slice none 0 0, .slice none 0 0]) (by simp [results, Try.results15, go_sem, *]) rfl ?_
  have h := HG.out
  refine ⟨g, b, _, _, _, _, _, _, fun _ => none, fun _ => 0, rfl, h.1.o4 (by omega), h.2.1.o4 (by omega), h.2.2.1, by omega, by omega, ?_⟩
  exact bel_set4 X.out.b (Nat.le_refl _)
end Go.Proofs.Ytagmpoakakbeaaa
