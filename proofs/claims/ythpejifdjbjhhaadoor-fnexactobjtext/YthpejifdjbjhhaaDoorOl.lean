/- ObjText of both sides, and its law. -/
import Derived.Test.YthpejifdjbjhhaaDoorRows
import Derived.WalkKit
import Derived.WalkSpells
import Derived.WalkLawsBesides
import Derived.Deep.QuietTactic
import Derived.BigQuiet
import Derived.Deep.RegionHeld3
import Derived.Test.YthpejifdjbjhhaaDoorOi
import Derived.Test.YthpejifdjbjhhaaDoorSp
import Derived.Test.YthpejifdjbjhhaaDoorSc
import Derived.Test.YthpejifdjbjhhaaDoorLk
import Derived.LoopN
namespace Go.Proofs.YthpejifdjbjhhaaDoor
open Go.RowKit
set_option linter.unusedSimpArgs false
set_option linter.unusedVariables false

def vvT (a b c : Int) : List UInt8 := vj (dsN a.toNat) (dsN b.toNat) (dsN c.toNat)
theorem vvT_len {a b c : Int} (h : vvB a b c = true) : (vvT a b c).length ≤ 100000 := by
  have h0 := of_decide_eq_true h
  have h1 := dsN_len a.toNat
  have h2 := dsN_len b.toNat
  have h3 := dsN_len c.toNat
  unfold vvT vj
  simp
  omega
theorem dg_int {a : Int} (h0 : 0 ≤ a) (h1 : a ≤ 9999) (W : World) : Calls Tryd.prog 49 #[.int .i64 a] W fun e w' => e = .returned (.string ⟨(dsN a.toNat).toArray⟩) ∧ Below W.heap.size W w' := by
  have h := digits_any (a.toNat + 1) a.toNat (by omega) (by omega) W
  rw [Int.toNat_of_nonneg h0] at h
  exact h
theorem it_int {a : Int} (h0 : 0 ≤ a) (h1 : a ≤ 9999) (W : World) (ht : TB W) : Calls Tryd.prog 54 #[.int .i64 a] W fun e w' => e = .returned (.string ⟨(dsN a.toNat).toArray⟩) ∧ Below W.heap.size W w' := by
  have h := itoa_any a.toNat (by omega) W ht
  rw [Int.toNat_of_nonneg h0] at h
  exact h
theorem ds_len {a : Int} (h1 : a ≤ 9999) : (dsN a.toNat).length ≤ 20000 := by have := dsN_len a.toNat; omega
theorem vvS {a b c : Int} (h : vvB a b c = true) (W : World) : Calls Tryd.prog 47 #[.agg #[.int .i64 a, .int .i64 b, .int .i64 c]] W fun e w' => e = .returned (.string ⟨(vvT a b c).toArray⟩) ∧ Below W.heap.size W w' := by
  have h0 := of_decide_eq_true h
  exact spec_vtext a b c _ _ _ W (dg_int h0.1.1 h0.1.2) (dg_int h0.2.1.1 h0.2.1.2) (dg_int h0.2.2.1 h0.2.2.2) (ds_len h0.1.2) (ds_len h0.2.1.2) (ds_len h0.2.2.2)
theorem vvI {a b c : Int} (h : vvB a b c = true) (W : World) (ht : TB W) : Calls Tryd.prog 25 #[.agg #[.int .i64 a, .int .i64 b, .int .i64 c]] W fun e w' => e = .returned (.string ⟨(vvT a b c).toArray⟩) ∧ Below W.heap.size W w' := by
  have h0 := of_decide_eq_true h
  exact impl_vtext a b c _ _ _ W ht (it_int h0.1.1 h0.1.2) (it_int h0.2.1.1 h0.2.1.2) (it_int h0.2.2.1 h0.2.2.2) (by show _ ≤ _; have := vvT_len h; unfold vvT at this; omega)
/-- What ObjText answers. -/
structure TRel (l : List Sib) (a b c : Int) (t : ByteArray) (code : Int) : Prop where
  ok : OkP l a b c → t = ⟨(objT (vvT a b c) l).toArray⟩ ∧ code = 0
  bad : ¬ OkP l a b c → t = ⟨#[]⟩ ∧ code = 1
theorem trel (l : List Sib) (a b c : Int) : ∃ t code, TRel l a b c t code := by
  by_cases h : OkP l a b c
  · exact ⟨_, _, ⟨fun _ => ⟨rfl, rfl⟩, fun h' => (h' h).elim⟩⟩
  · exact ⟨_, _, ⟨fun h' => (h h').elim, fun _ => ⟨rfl, rfl⟩⟩⟩
theorem ok_sibs {l : List Sib} {a b c : Int} (h : OkP l a b c) : ∀ s ∈ l, sibOK s.p s.n s.v s.d = true := fun s hs => by
  obtain ⟨i, hi, rfl⟩ := List.getElem_of_mem hs
  exact (h.2.2 i hi).1
set_option maxHeartbeats 2000000 in
theorem specText_any (cap : Nat) (ao : Option Addr) (l : List Sib) (a b c : Int) (t : ByteArray) (code : Int) (hT : Hid (TRel l a b c t code)) (w : World) (hm : (l.length : Int) ≤ 1048576) (hr0 : SibRow w ao l) :
    Calls Tryd.prog 6 #[.agg #[.slice ao l.length cap, .int .i64 a, .int .i64 b, .int .i64 c]] w fun e w' => e = .returned (.tuple #[.string t, .int .i64 code]) ∧ Below w.heap.size w w' := by
  have RA : Hid (SibRow w ao l) := hr0
  have B0 : Hid (Below w.heap.size w (w.alloc (.cells #[.slice ao l.length cap, .int .i64 a, .int .i64 b, .int .i64 c] 32))) := bel_alloc _ _
  clear hr0
  by_cases hO : OkP l a b c
  · obtain ⟨rfl, rfl⟩ := hT.out.ok hO
    have HO : Hid (OkP l a b c) := hO
    have COK : Hid (∀ W, SibRow W ao l → Calls Tryd.prog 20 #[.agg #[.slice ao l.length cap, .int .i64 a, .int .i64 b, .int .i64 c]] W fun e w' => e = .returned (.bool true) ∧ Below W.heap.size W w') := fun W h => specOK_any cap ao l a b c true ⟨fun _ => hO, fun _ => rfl⟩ W hm h
    clear hO hT hm
    go_enter Tryd.func6, Tryd.ntmps6
    go_wp2_with fail
    refine Calls.mono (COK.out _ (RA.out.next B0.out)) ?_
    rintro e w1 ⟨rfl, hb⟩
    have c0 := cell_next hb (b := w.heap.size) (o := 0) (v := .slice ao l.length cap) (by go_simp) (by simp)
    have c1 := cell_next hb (b := w.heap.size) (o := 1) (v := .int .i64 a) (by go_simp) (by simp)
    have c2 := cell_next hb (b := w.heap.size) (o := 2) (v := .int .i64 b) (by go_simp) (by simp)
    have c3 := cell_next hb (b := w.heap.size) (o := 3) (v := .int .i64 c) (by go_simp) (by simp)
    replace B0 := bel_next B0 hb
    clear hb
    go_wp2_with fail
    refine (l03obj_any cap ao l a b c (vvT a b c) _ (vvT_len HO.out.2.1) HO.out.1 (ok_sibs HO.out) (RA.out.next B0.out) (vvS HO.out.2.1)).mono ?_
    rintro e w2 ⟨rfl, hb⟩
    replace B0 := bel_next B0 hb
    clear hb c0 c1 c2 c3
    go_wp2
    go_ret2
    exact ⟨rfl, B0.out⟩
  · obtain ⟨rfl, rfl⟩ := hT.out.bad hO
    have COK : Hid (∀ W, SibRow W ao l → Calls Tryd.prog 20 #[.agg #[.slice ao l.length cap, .int .i64 a, .int .i64 b, .int .i64 c]] W fun e w' => e = .returned (.bool false) ∧ Below W.heap.size W w') := fun W h => specOK_any cap ao l a b c false ⟨fun h' => (by cases h'), fun h' => (hO h').elim⟩ W hm h
    clear hO hT hm
    go_enter Tryd.func6, Tryd.ntmps6
    go_wp2_with fail
    refine Calls.mono (COK.out _ (RA.out.next B0.out)) ?_
    rintro e w1 ⟨rfl, hb⟩
    replace B0 := bel_next B0 hb
    clear hb
    go_wp2
    go_ret2
    exact ⟨rfl, B0.out⟩
set_option maxHeartbeats 2000000 in
theorem implText_any (cap : Nat) (ao : Option Addr) (l : List Sib) (a b c : Int) (t : ByteArray) (code : Int) (hT : Hid (TRel l a b c t code)) (w : World) (hm : (l.length : Int) ≤ 1048576) (hr0 : SibRow w ao l) (ht : TB w) :
    Calls Tryd.prog 8 #[.agg #[.slice ao l.length cap, .int .i64 a, .int .i64 b, .int .i64 c]] w fun e w' => e = .returned (.tuple #[.string t, .int .i64 code]) ∧ Below w.heap.size w w' := by
  by_cases hO : OkP l a b c
  · obtain ⟨rfl, rfl⟩ := hT.out.ok hO
    exact implText_ok cap ao l a b c (vvT a b c) w (vvT_len hO.2.1) hO hr0 ht (vvI hO.2.1)
  · obtain ⟨rfl, rfl⟩ := hT.out.bad hO
    have RA : Hid (SibRow w ao l) := hr0
    have B0 : Hid (Below w.heap.size w (w.alloc (.cells #[.slice ao l.length cap, .int .i64 a, .int .i64 b, .int .i64 c] 32))) := bel_alloc _ _
    have COK : Hid (∀ W, SibRow W ao l → Calls Tryd.prog 24 #[.agg #[.slice ao l.length cap, .int .i64 a, .int .i64 b, .int .i64 c]] W fun e w' => e = .returned (.bool false) ∧ Below W.heap.size W w') := fun W h => implOK_any cap ao l a b c false ⟨fun h' => (by cases h'), fun h' => (hO h').elim⟩ W hm h
    clear hO hT hm hr0 ht
    go_enter Tryd.func8, Tryd.ntmps8
    go_wp2_with fail
    refine Calls.mono (COK.out _ (RA.out.next B0.out)) ?_
    rintro e w1 ⟨rfl, hb⟩
    replace B0 := bel_next B0 hb
    clear hb
    go_wp2
    go_ret2
    exact ⟨rfl, B0.out⟩

set_option maxRecDepth 100000 in
set_option maxHeartbeats 8000000 in
theorem law_text_small (cap : Nat) (ao : Option Addr) (l : List Sib) (a b c : Int) (w : World) (hl : l.length ≤ 1048576) (hr0 : SibRow w ao l) (ht0 : TB w) :
    Calls Tryd.prog 3 #[.agg #[.slice ao l.length cap, .int .i64 a, .int .i64 b, .int .i64 c]] w fun e w' => e = .returned (.bool true) ∧ Below w.heap.size w w' := by
  obtain ⟨t, code, hT0⟩ := trel l a b c
  have hT : Hid (TRel l a b c t code) := hT0
  have ht : Hid (TB w) := ht0
  have hm : (l.length : Int) ≤ 1048576 := by omega
  have hif : (if (l.length : Int) ≤ 1048576 then 1048576 - (l.length : Int) else -1) = 1048576 - (l.length : Int) := if_pos (by omega)
  have hng : ¬ 1048576 - (l.length : Int) < 0 := by omega
  have RA : Hid (SibRow w ao l) := hr0
  have B00 : Hid (Below w.heap.size w (w.alloc (.cells #[.slice ao l.length cap, .int .i64 a, .int .i64 b, .int .i64 c] 25))) := bel_alloc _ _
  clear hr0 hT0 ht0
  go_enter Tryd.func3, Tryd.ntmps3
  go_wp2_with fail
  refine (szObj_any cap ao l a b c 1048576 _ (by omega) (by omega) (by omega)).mono ?_
  rintro e w1 ⟨rfl, hb⟩
  have BA := c4_next box_new hb lt_new
  have LA := lt_next lt_new hb
  have HB : Hid (Below w.heap.size w w1) := B00.out.trans (hb.mono B00.out.size)
  replace RA := row_next (row_next RA B00.out) hb
  clear hb B00
  rw [hif]
  clear hif
  obtain ⟨bA0, bA1, bA2, bA3⟩ := BA.out
  go_wp2_with fail
  clear bA0 bA1 bA2 bA3
  refine (toObj_any cap ao l a b c _ hm RA.out).mono ?_
  rintro e w2 ⟨g1, rfl, hb, hg, hG, hT2, hS⟩
  replace BA := c4_next BA hb LA
  replace LA := lt_next LA hb
  replace RA := row_next RA hb
  replace HB := bel_next HB hb
  have R1 := row_of_at hS
  clear hb hg hG hT2 hS
  go_wp2_with fail
  refine (specText_any l.length _ l a b c t code hT _ hm R1.out).mono ?_
  rintro e w3 ⟨rfl, hb⟩
  replace BA := c4_next BA hb LA
  replace LA := lt_next LA hb
  replace RA := row_next RA hb
  replace HB := bel_next HB hb
  clear hb R1
  obtain ⟨bA0, bA1, bA2, bA3⟩ := BA.out
  go_wp2_with fail
  clear bA0 bA1 bA2 bA3
  refine (toObj_any cap ao l a b c _ hm RA.out).mono ?_
  rintro e w4 ⟨gx, rfl, hb, hg, hG, hT2, hS⟩
  replace BA := c4_next BA hb LA
  replace LA := lt_next LA hb
  replace RA := row_next RA hb
  replace HB := bel_next HB hb
  have RxA := row_of_at hS
  clear hb hg hG hT2 hS
  go_wp2_with fail
  refine (implText_any l.length _ l a b c t code hT _ hm (row_next RxA (bel_alloc _ _)).out (ht.out.next (bel_next HB (bel_alloc _ _)).out)).mono ?_
  rintro e w5 ⟨rfl, hb⟩
  have BxA := c4_next box_new hb lt_new
  have LxA := lt_next lt_new hb
  replace BA := c4_next (c4_next BA (bel_alloc _ _) LA) hb (lt_next LA (bel_alloc _ _))
  replace LA := lt_next (lt_next LA (bel_alloc _ _)) hb
  replace RA := row_next (row_next RA (bel_alloc _ _)) hb
  replace RxA := row_next (row_next RxA (bel_alloc _ _)) hb
  replace HB := bel_next (bel_next HB (bel_alloc _ _)) hb
  clear hb
  go_wp2_with fail
  refine wp_region_held_drew (S := (fun w' => (w'.cell? ⟨w.heap.size, 0, none⟩ = some (Value.slice ao l.length cap) ∧ w'.cell? ⟨w.heap.size, 1, none⟩ = some (.int .i64 a) ∧ w'.cell? ⟨w.heap.size, 2, none⟩ = some (.int .i64 b) ∧ w'.cell? ⟨w.heap.size, 3, none⟩ = some (.int .i64 c)) ∧ (w'.cell? ⟨w4.heap.size, 0, none⟩ = some (Value.slice (some ⟨gx, 0, none⟩) l.length l.length) ∧ w'.cell? ⟨w4.heap.size, 1, none⟩ = some (.int .i64 a) ∧ w'.cell? ⟨w4.heap.size, 2, none⟩ = some (.int .i64 b) ∧ w'.cell? ⟨w4.heap.size, 3, none⟩ = some (.int .i64 c)) ∧ (w.heap.size < w'.heap.size) ∧ (w4.heap.size < w'.heap.size) ∧ SibRow w' (ao) l ∧ SibRow w' (some ⟨gx, 0, none⟩) l ∧ Below w.heap.size w w')) (by kernel_rfl) ?_ (fun hHeld => ?_)
  · (try dsimp only)
    exact ⟨BA.out, BxA.out, LA.out, LxA.out, RA.out, RxA.out, (bel_next HB (bel_drew _)).out⟩
  refine wpAnyH_take (i := 0) (v := ?_) rfl (by kernel_rfl) (by kernel_rfl) (by kernel_rfl) (fun _ _ _ h => h) (Or.inl ⟨by rfl, ?_⟩) (by assumption) ?_
  rotate_left
  · intro w' hSw
    (try dsimp only at hSw)
    go_simp
    all_goals (try with_reducible rfl)
  (try simp only [Act.put, List.getElem_toArray, List.getElem_cons_zero, List.getElem_cons_succ, List.setIfInBounds_toArray, List.set_cons_zero, List.set_cons_succ])
  refine wpAnyH_take (i := 1) (v := ?_) rfl (by kernel_rfl) (by kernel_rfl) (by kernel_rfl) (fun _ _ _ h => h) (Or.inl ⟨by rfl, ?_⟩) (by assumption) ?_
  rotate_left
  · intro w' hSw
    (try dsimp only at hSw)
    go_simp
    all_goals (try with_reducible rfl)
  (try simp only [Act.put, List.getElem_toArray, List.getElem_cons_zero, List.getElem_cons_succ, List.setIfInBounds_toArray, List.set_cons_zero, List.set_cons_succ])
  refine wpAnyH_ready (rs := [2]) (by kernel_rfl) (by simp) ?_
  refine AllReadyH.cons rfl (fun K hK => ?_) AllReadyH.nil
  (try simp only [Act.put, List.getElem_toArray, List.getElem_cons_zero, List.getElem_cons_succ, List.setIfInBounds_toArray, List.set_cons_zero, List.set_cons_succ])
  go_simp
  (go_at_call 7; refine (toObj_any cap ao l a b c _ hm hHeld.2.2.2.2.1).mono ?_; rintro e w6 ⟨g9, rfl, hb, hg, hG, hT, hS⟩; have RT := row_of_at hS; clear hg hG hT hS)
  (try simp only [])
  refine hK.out _ _ ?_ (fun hHeld' => ?_)
  · (try dsimp only)
    exact ⟨c4_next hHeld.1 hb hHeld.2.2.1, c4_next hHeld.2.1 hb hHeld.2.2.2.1, lt_next hHeld.2.2.1 hb, lt_next hHeld.2.2.2.1 hb, row_next hHeld.2.2.2.2.1 hb, row_next hHeld.2.2.2.2.2.1 hb, bel_next hHeld.2.2.2.2.2.2 hb⟩
  clear hK K
  clear hHeld
  have hHeld := hHeld'
  clear hHeld'
  clear hb
  (try simp only [Act.put, List.getElem_toArray, List.getElem_cons_zero, List.getElem_cons_succ, List.setIfInBounds_toArray, List.set_cons_zero, List.set_cons_succ])
  refine wpAnyH_ready (rs := [3]) (by kernel_rfl) (by simp) ?_
  refine AllReadyH.cons rfl (fun K hK => ?_) AllReadyH.nil
  (try simp only [Act.put, List.getElem_toArray, List.getElem_cons_zero, List.getElem_cons_succ, List.setIfInBounds_toArray, List.set_cons_zero, List.set_cons_succ])
  go_simp
  (go_at_call 9; refine (eqObj_same l.length l.length _ _ l a b c _ hm hHeld.2.2.2.2.2.1 RT.out).mono ?_; rintro e w7 ⟨rfl, hb⟩)
  (try simp only [])
  refine hK.out _ _ ?_ (fun hHeld' => ?_)
  · (try dsimp only)
    exact ⟨c4_next hHeld.1 hb hHeld.2.2.1, c4_next hHeld.2.1 hb hHeld.2.2.2.1, lt_next hHeld.2.2.1 hb, lt_next hHeld.2.2.2.1 hb, row_next hHeld.2.2.2.2.1 hb, row_next hHeld.2.2.2.2.2.1 hb, bel_next hHeld.2.2.2.2.2.2 hb⟩
  clear hK K
  clear hHeld
  have hHeld := hHeld'
  clear hHeld'
  clear hb
  (try simp only [Act.put, List.getElem_toArray, List.getElem_cons_zero, List.getElem_cons_succ, List.setIfInBounds_toArray, List.set_cons_zero, List.set_cons_succ])
  refine wpAnyH_take (i := 4) (v := ?_) rfl (by kernel_rfl) (by kernel_rfl) (by kernel_rfl) (fun _ _ _ h => h) (Or.inl ⟨by rfl, ?_⟩) (by assumption) ?_
  rotate_left
  · intro w' hSw
    (try dsimp only at hSw)
    go_simp
    all_goals (try with_reducible rfl)
  (try simp only [Act.put, List.getElem_toArray, List.getElem_cons_zero, List.getElem_cons_succ, List.setIfInBounds_toArray, List.set_cons_zero, List.set_cons_succ])
  refine wpAnyH_done (by kernel_rfl) ?_ _
  replace BA : Hid _ := hHeld.1
  replace BxA : Hid _ := hHeld.2.1
  replace LA : Hid _ := hHeld.2.2.1
  replace LxA : Hid _ := hHeld.2.2.2.1
  replace RA : Hid _ := hHeld.2.2.2.2.1
  replace RxA : Hid _ := hHeld.2.2.2.2.2.1
  replace HB : Hid _ := hHeld.2.2.2.2.2.2
  clear hHeld
  clear RT
  go_wp2
  go_ret
  exact ⟨rfl, HB.out⟩

set_option maxHeartbeats 1000000 in
theorem law_text (cap : Nat) (ao : Option Addr) (l : List Sib) (a b c : Int) (w : World) (hl : l.length ≤ 9223372036854775807) (hr0 : SibRow w ao l) (ht0 : TB w) :
    Calls Tryd.prog 3 #[.agg #[.slice ao l.length cap, .int .i64 a, .int .i64 b, .int .i64 c]] w fun e w' => e = .returned (.bool true) ∧ Below w.heap.size w w' := by
  by_cases h : l.length ≤ 1048576
  · exact law_text_small cap ao l a b c w h hr0 ht0
  · have hif : (if (l.length : Int) ≤ 1048576 then 1048576 - (l.length : Int) else -1) = -1 := if_neg (by omega)
    have B00 : Hid (Below w.heap.size w (w.alloc (.cells #[.slice ao l.length cap, .int .i64 a, .int .i64 b, .int .i64 c] 25))) := bel_alloc _ _
    go_enter Tryd.func3, Tryd.ntmps3
    go_wp2_with fail
    refine (szObj_any cap ao l a b c 1048576 _ (by omega) (by omega) (by omega)).mono ?_
    rintro e w1 ⟨rfl, hb⟩
    have B0 : Hid (Below w.heap.size w w1) := B00.out.trans (hb.mono B00.out.size)
    clear hb B00
    rw [hif]
    go_wp2
    go_ret
    exact ⟨rfl, B0.out⟩
end Go.Proofs.YthpejifdjbjhhaaDoor
