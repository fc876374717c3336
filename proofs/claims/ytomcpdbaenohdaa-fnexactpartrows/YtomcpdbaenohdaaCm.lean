/- Rows in their order, on both sides; parts, values. -/
import Derived.Test.YtomcpdbaenohdaaRows
import Derived.WalkKit
import Derived.WalkSpells
import Derived.WalkLawsBesides
import Derived.Deep.QuietTactic
import Derived.BigQuiet
import Derived.Deep.RegionHeld3
import Derived.Test.YtomcpdbaenohdaaKy
import Derived.Test.YtomcpdbaenohdaaZk
import Derived.Test.YtomcpdbaenohdaaSr
import Derived.LoopN
import Derived.OwnWalk
import Derived.Laws.StructEq
namespace Go.Proofs.Ytomcpdbaenohdaa
open Go.RowKit
set_option linter.unusedSimpArgs false
set_option linter.unusedVariables false
def kb (s : ByteArray) : List UInt8 := s.data.toList
theorem kb_inj {s t : ByteArray} (h : kb s = kb t) : s = t := ByteArray.ext (Array.toList_inj.1 h)
theorem kb_tri (s t : ByteArray) (h : ¬ kb s < kb t) (hne : s ≠ t) : kb t < kb s := by
 rcases Decidable.em (kb t < kb s) with h' | h'
 ·exact h'
 ·exact absurd (kb_inj (List.le_antisymm (List.not_lt.1 h') (List.not_lt.1 h))) hne
theorem te (a b : ByteArray) : (a.toList == b.toList) = decide (a = b) := by
 by_cases h : a = b
 ·subst h; simp
 ·rw [decide_eq_false h]
  apply beq_false_of_ne
  intro e
  exact h (kb_inj (by rw [ByteArray.toList_eq, ByteArray.toList_eq] at e; exact e))
theorem te_no {a b : ByteArray} (h : a ≠ b) : (a.toList == b.toList) = false := by rw [te]; exact decide_eq_false h
theorem te_yes {a b : ByteArray} (h : a = b) : (a.toList == b.toList) = true := by rw [te]; exact decide_eq_true h
theorem bless (a b : ByteArray) : Op.bytesLess a.toList b.toList = decide (kb a < kb b) := by
 have h : ∀ x y : List UInt8, Op.bytesLess x y = decide (x < y) := by
  intro x
  induction x with
  | nil => intro y; cases y <;> simp [Op.bytesLess]
  | cons u x ih =>
   intro y
   cases y with
   | nil => simp [Op.bytesLess]
   | cons v y =>
    rw [Op.bytesLess, ih y]
    simp only [List.cons_lt_cons_iff]
    by_cases h1 : u < v <;> by_cases h2 : u = v <;> by_cases h3 : x < y <;> simp [h1, h2, h3]
 rw [h, ByteArray.toList_eq, ByteArray.toList_eq]
 rfl
theorem bless_y {a b : ByteArray} (h : kb a < kb b) : Op.bytesLess a.toList b.toList = true := by rw [bless]; exact decide_eq_true h
theorem bless_n {a b : ByteArray} (h : ¬ kb a < kb b) : Op.bytesLess a.toList b.toList = false := by rw [bless]; exact decide_eq_false h
def cmpI (x y : Int) : Int := if x < y then -1 else if y < x then 1 else 0
set_option maxHeartbeats 400000 in
theorem cmp_any (x y : Int) (w : World) :
    Calls Try.prog 39 #[.int .i64 x, .int .i64 y] w fun e w' => e = .returned (.int .i64 (cmpI x y)) ∧ w' = w := by
  have cs : x < y ∨ y < x ∨ x = y := by omega
  rcases cs with h | h | h
  case inr.inr =>
    subst h
    have HB : Hid (cmpI x x = 0) := by unfold Hid cmpI; simp
    go_enter Try.func39, Try.ntmps39
    go_wp2
    go_ret
    exact ⟨ret_int HB.out.symm, rfl⟩
  case inl =>
    have HB : Hid (cmpI x y = -1) := by unfold Hid cmpI; simp [h]
    go_enter Try.func39, Try.ntmps39
    go_wp2
    go_ret
    exact ⟨ret_int HB.out.symm, rfl⟩
  case inr.inl =>
    have HB : Hid (cmpI x y = 1) := by unfold Hid cmpI; rw [if_neg (by omega), if_pos h]
    go_enter Try.func39, Try.ntmps39
    go_wp2
    go_ret
    exact ⟨ret_int HB.out.symm, rfl⟩
set_option maxHeartbeats 1000000 in
theorem or2_any (g : Nat) (x y r : Int) (hr : Hid (r = if x = 0 then y else x)) (w : World) (c0 : w.cell? ⟨g, 0, none⟩ = some (.int .i64 x)) (c1 : w.cell? ⟨g, 1, none⟩ = some (.int .i64 y)) :
    Calls Try.prog 38 #[.slice (some ⟨g, 0, none⟩) 2 2] w fun e w' => e = .returned (.int .i64 r) ∧ w' = w := by
  by_cases hx : x = 0
  · subst hx
    have HR : Hid (r = y) := hr.out.trans (if_pos rfl)
    by_cases hy : y = 0
    · subst hy
      go_enter Try.func38, Try.ntmps38
      go_wp2
      refine wp_loop_rounds 3 ?_
      repeat (rw [rounds_succ]; go_wp2)
      go_ret
      exact ⟨ret_int HR.out.symm, rfl⟩
    · have d0 : (y == 0) = false := beq_eq_false_iff_ne.2 hy
      go_enter Try.func38, Try.ntmps38
      go_wp2
      refine wp_loop_rounds 3 ?_
      repeat (rw [rounds_succ]; go_wp2)
      go_ret
      exact ⟨ret_int HR.out.symm, rfl⟩
  · have d0 : (x == 0) = false := beq_eq_false_iff_ne.2 hx
    have HR : Hid (r = x) := hr.out.trans (if_neg hx)
    go_enter Try.func38, Try.ntmps38
    go_wp2
    refine wp_loop_rounds 3 ?_
    repeat (rw [rounds_succ]; go_wp2)
    go_ret
    exact ⟨ret_int HR.out.symm, rfl⟩

theorem kb_irr (s : ByteArray) : ¬ kb s < kb s := List.lt_irrefl _
theorem kb_asymm {s t : ByteArray} (h : kb s < kb t) : ¬ kb t < kb s := List.lt_asymm h
/-- A row comes ahead of another. -/
def lessP (a b : Rw) : Prop := a.part < b.part ∨ a.part = b.part ∧ kb a.key < kb b.key
def cmpS (a b : ByteArray) : Int := if kb a < kb b then -1 else if kb b < kb a then 1 else 0
def cmpR (a b : Rw) : Int := if cmpI a.part b.part = 0 then cmpS a.key b.key else cmpI a.part b.part
theorem cmpR_less (a b : Rw) : cmpR a b < 0 ↔ lessP a b := by
  unfold cmpR cmpI cmpS lessP
  by_cases h1 : a.part < b.part
  · simp [h1]
  · by_cases h2 : b.part < a.part
    · simp [h1, h2]; omega
    · have e : a.part = b.part := by omega
      by_cases h3 : kb a.key < kb b.key
      · simp [e, h3]
      · by_cases h4 : kb b.key < kb a.key <;> simp [e, h3, h4]
set_option maxHeartbeats 400000 in
theorem cmpS_any (x y : ByteArray) (w : World) :
    Calls Try.prog 40 #[.string x, .string y] w fun e w' => e = .returned (.int .i64 (cmpS x y)) ∧ w' = w := by
  by_cases h1 : kb x < kb y
  · have HB : Hid (cmpS x y = -1) := by unfold Hid cmpS; simp [h1]
    have e1 := bless_y h1
    go_enter Try.func40, Try.ntmps40
    go_wp2
    go_ret
    exact ⟨ret_int HB.out.symm, rfl⟩
  · have e1 := bless_n h1
    by_cases h2 : kb y < kb x
    · have HB : Hid (cmpS x y = 1) := by unfold Hid cmpS; simp [h1, h2]
      have e3 := te_no (a := x) (b := y) (fun e => by rw [e] at h2; exact kb_irr y h2)
      go_enter Try.func40, Try.ntmps40
      go_wp2
      go_ret
      exact ⟨ret_int HB.out.symm, rfl⟩
    · have HB : Hid (cmpS x y = 0) := by unfold Hid cmpS; simp [h1, h2]
      have e3 := te_yes (a := x) (b := y) (Classical.byContradiction fun e => h2 (kb_tri x y h1 e))
      go_enter Try.func40, Try.ntmps40
      go_wp2
      go_ret
      exact ⟨ret_int HB.out.symm, rfl⟩
set_option maxHeartbeats 400000 in
theorem part_any (x : Int) (b : Bool) (hb : Hid (b = true ↔ (0 ≤ x ∧ x ≤ 3))) (w : World) :
    Calls Try.prog 26 #[.int .i64 x] w fun e w' => e = .returned (.bool b) ∧ w' = w := by
  by_cases h1 : 0 ≤ x
  · by_cases h2 : x < 4
    · have HB : Hid (b = true) := hb.out.2 ⟨h1, by omega⟩
      go_enter Try.func26, Try.ntmps26
      go_wp2
      go_ret
      exact ⟨ret_bool HB.out.symm, rfl⟩
    · have HB : Hid (b = false) := by have := hb.out; cases b; rfl; simp at this; omega
      go_enter Try.func26, Try.ntmps26
      go_wp2
      go_ret
      exact ⟨ret_bool HB.out.symm, rfl⟩
  · have HB : Hid (b = false) := by have := hb.out; cases b; rfl; simp at this; omega
    go_enter Try.func26, Try.ntmps26
    go_wp2
    go_ret
    exact ⟨ret_bool HB.out.symm, rfl⟩
set_option maxHeartbeats 400000 in
theorem val_any (x : Int) (b : Bool) (hb : Hid (b = true ↔ (0 ≤ x ∧ x ≤ 999))) (w : World) :
    Calls Try.prog 37 #[.int .i64 x, .bool false] w fun e w' => e = .returned (.bool b) ∧ w' = w := by
  by_cases h1 : 0 ≤ x
  · by_cases h2 : x ≤ 999
    · have HB : Hid (b = true) := hb.out.2 ⟨h1, by omega⟩
      go_enter Try.func37, Try.ntmps37
      go_wp2
      go_ret
      exact ⟨ret_bool HB.out.symm, rfl⟩
    · have HB : Hid (b = false) := by have := hb.out; cases b; rfl; simp at this; omega
      go_enter Try.func37, Try.ntmps37
      go_wp2
      go_ret
      exact ⟨ret_bool HB.out.symm, rfl⟩
  · have HB : Hid (b = false) := by have := hb.out; cases b; rfl; simp at this; omega
    go_enter Try.func37, Try.ntmps37
    go_wp2
    go_ret
    exact ⟨ret_bool HB.out.symm, rfl⟩
set_option maxHeartbeats 1000000 in
theorem less_any (x y : Rm) (w : World) :
    Calls Try.prog 20 #[.agg #[.int .i64 x.r.part, .string x.r.key, .slice x.p x.r.vs.length x.q], .agg #[.int .i64 y.r.part, .string y.r.key, .slice y.p y.r.vs.length y.q]] w (Told (lessP x.r y.r) w) := by
  have hb0 : Hid (∀ o1 o2, Below w.heap.size w ((w.alloc o1).alloc o2)) := fun o1 o2 => ((Below.refl _ _).alloc (Nat.le_refl _) _).alloc (by simp) _
  go_enter Try.func20, Try.ntmps20
  go_upto_region 1 with fail
  refine wp_gen (fun W => Box W w.heap.size [.int .i64 x.r.part, .string x.r.key, .slice x.p x.r.vs.length x.q] ∧ Box W (w.heap.size + 1) [.int .i64 y.r.part, .string y.r.key, .slice y.p y.r.vs.length y.q] ∧ Below w.heap.size w W) ⟨box_mk.alloc, ?_, hb0.out _ _⟩ (fun W0 hI => ?_)
  · have := box_mk (W := w.alloc (.cells #[.int .i64 x.r.part, .string x.r.key, .slice x.p x.r.vs.length x.q] 38)) (t := 38) (vs := [.int .i64 y.r.part, .string y.r.key, .slice y.p y.r.vs.length y.q])
    simpa using this
  have Y : Hid _ := hI
  clear hI hb0
  obtain ⟨a0, a1, a2⟩ := Y.out.1.c3
  obtain ⟨b0, b1, b2⟩ := Y.out.2.1.c3
  by_cases h1 : x.r.part < y.r.part
  · have HL : Hid (lessP x.r y.r) := .inl h1
    go_wp2
    go_ret
    exact ⟨true, rfl, by simp [HL.out], Y.out.2.2⟩
  · by_cases h2 : x.r.part = y.r.part
    · by_cases h3 : kb x.r.key < kb y.r.key
      · have HL : Hid (lessP x.r y.r) := .inr ⟨h2, h3⟩
        have e1 := bless_y h3
        go_wp2
        go_ret
        exact ⟨true, rfl, by simp [HL.out], Y.out.2.2⟩
      · have HL : Hid (¬ lessP x.r y.r) := fun h => h.elim h1 (fun h => h3 h.2)
        have e1 := bless_n h3
        go_wp2
        go_ret
        exact ⟨false, rfl, by simp [HL.out], Y.out.2.2⟩
    · have HL : Hid (¬ lessP x.r y.r) := fun h => h.elim h1 (fun h => h2 h.1)
      go_wp2
      go_ret
      exact ⟨false, rfl, by simp [HL.out], Y.out.2.2⟩
set_option maxHeartbeats 2000000 in
theorem cmpRows_any (x y : Rm) (w : World) :
    Calls Try.prog 23 #[.agg #[.int .i64 x.r.part, .string x.r.key, .slice x.p x.r.vs.length x.q], .agg #[.int .i64 y.r.part, .string y.r.key, .slice y.p y.r.vs.length y.q]] w fun e w' => e = .returned (.int .i64 (cmpR x.r y.r)) ∧ Below w.heap.size w w' := by
  have hb0 : Hid (∀ o1 o2, Below w.heap.size w ((w.alloc o1).alloc o2)) := fun o1 o2 => ((Below.refl _ _).alloc (Nat.le_refl _) _).alloc (by simp) _
  have HD : Hid (cmpR x.r y.r = if cmpI x.r.part y.r.part = 0 then cmpS x.r.key y.r.key else cmpI x.r.part y.r.part) := rfl
  go_enter Try.func23, Try.ntmps23
  go_upto_region 1 with fail
  refine wp_gen (fun W => Box W w.heap.size [.int .i64 x.r.part, .string x.r.key, .slice x.p x.r.vs.length x.q] ∧ Box W (w.heap.size + 1) [.int .i64 y.r.part, .string y.r.key, .slice y.p y.r.vs.length y.q] ∧ Below w.heap.size w W) ⟨box_mk.alloc, ?_, hb0.out _ _⟩ (fun W0 hI => ?_)
  · have := box_mk (W := w.alloc (.cells #[.int .i64 x.r.part, .string x.r.key, .slice x.p x.r.vs.length x.q] 38)) (t := 38) (vs := [.int .i64 y.r.part, .string y.r.key, .slice y.p y.r.vs.length y.q])
    simpa using this
  have Y : Hid (Box W0 w.heap.size [.int .i64 x.r.part, .string x.r.key, .slice x.p x.r.vs.length x.q] ∧ Box W0 (w.heap.size + 1) [.int .i64 y.r.part, .string y.r.key, .slice y.p y.r.vs.length y.q] ∧ Below w.heap.size w W0) := hI
  clear hI hb0
  refine wp_region_held_drew (S := (fun w' => (w'.cell? ⟨w.heap.size, 0, none⟩ = some (.int .i64 x.r.part) ∧ w'.cell? ⟨w.heap.size, 1, none⟩ = some (.string x.r.key) ∧ w'.cell? ⟨w.heap.size, 2, none⟩ = some (.slice x.p x.r.vs.length x.q)) ∧ w'.cell? ⟨w.heap.size + 1, 0, none⟩ = some (.int .i64 y.r.part) ∧ w'.cell? ⟨w.heap.size + 1, 1, none⟩ = some (.string y.r.key) ∧ w'.cell? ⟨w.heap.size + 1, 2, none⟩ = some (.slice y.p y.r.vs.length y.q))) (by kernel_rfl) ?_ (fun hHeld => ?_)
  · (try dsimp only)
    exact ⟨(Y.out.1.next (bel_drew _)).c3, (Y.out.2.1.next (bel_drew _)).c3⟩
  replace Y : Hid (Box W0.drew w.heap.size [.int .i64 x.r.part, .string x.r.key, .slice x.p x.r.vs.length x.q] ∧ Box W0.drew (w.heap.size + 1) [.int .i64 y.r.part, .string y.r.key, .slice y.p y.r.vs.length y.q] ∧ Below w.heap.size w W0.drew) := ⟨Y.out.1.next (bel_drew _), Y.out.2.1.next (bel_drew _), Y.out.2.2.drew⟩
  generalize W0.drew = V1 at *
  refine wTk 0 ?_
  refine wTk 1 ?_
  refine wTk 2 ?_
  refine wTk 3 ?_
  refine wTk 5 ?_
  refine wTk 6 ?_
  refine wTk 7 ?_
  refine wTk 8 ?_
  refine wRd 4 (fun K hK => ?_)
  go_simp
  go_at_call 39
  refine (cmp_any _ _ _).mono ?_
  rintro e V2 ⟨rfl, rfl⟩
  (try simp only [])
  refine wHk hK ⟨Y.out.1.c3, Y.out.2.1.c3⟩ ?_
  clear hK K hHeld
  intro hHeld
  refine wRd 9 (fun K hK => ?_)
  go_simp
  go_at_call 40
  refine (cmpS_any _ _ _).mono ?_
  rintro e V3 ⟨rfl, rfl⟩
  (try simp only [])
  refine wHk hK ⟨Y.out.1.c3, Y.out.2.1.c3⟩ ?_
  clear hK K hHeld
  intro hHeld
  refine wRd 10 (fun K hK => ?_)
  go_simp
  (try simp only [])
  have HA : Hid (Box (V3.alloc (.cells #[.int .i64 (cmpI x.r.part y.r.part), .int .i64 (cmpS x.r.key y.r.key)] 3)) V3.heap.size [.int .i64 (cmpI x.r.part y.r.part), .int .i64 (cmpS x.r.key y.r.key)]) := box_mk
  replace Y : Hid (Box (V3.alloc (.cells #[.int .i64 (cmpI x.r.part y.r.part), .int .i64 (cmpS x.r.key y.r.key)] 3)) w.heap.size [.int .i64 x.r.part, .string x.r.key, .slice x.p x.r.vs.length x.q] ∧ Box (V3.alloc (.cells #[.int .i64 (cmpI x.r.part y.r.part), .int .i64 (cmpS x.r.key y.r.key)] 3)) (w.heap.size + 1) [.int .i64 y.r.part, .string y.r.key, .slice y.p y.r.vs.length y.q] ∧ Below w.heap.size w (V3.alloc (.cells #[.int .i64 (cmpI x.r.part y.r.part), .int .i64 (cmpS x.r.key y.r.key)] 3))) := ⟨Y.out.1.alloc, Y.out.2.1.alloc, Y.out.2.2.trans ((bel_alloc _ _).mono Y.out.2.2.size)⟩
  refine wHk hK ⟨Y.out.1.c3, Y.out.2.1.c3⟩ ?_
  clear hK K hHeld
  intro hHeld
  generalize V3.alloc (.cells #[.int .i64 (cmpI x.r.part y.r.part), .int .i64 (cmpS x.r.key y.r.key)] 3) = V4 at *
  generalize V3.heap.size = gs at *
  refine wRd 11 (fun K hK => ?_)
  go_simp
  go_at_call 38
  refine (or2_any gs _ _ _ HD V4 HA.out.c2.1 HA.out.c2.2).mono ?_
  rintro e V5 ⟨rfl, rfl⟩
  (try simp only [])
  refine wHk hK ⟨Y.out.1.c3, Y.out.2.1.c3⟩ ?_
  clear hK K hHeld
  intro hHeld
  refine wTk 12 ?_
  refine wpAnyH_done (by kernel_rfl) ?_ _
  clear hHeld
  go_wp2
  go_ret
  exact ⟨rfl, Y.out.2.2⟩
end Go.Proofs.Ytomcpdbaenohdaa
