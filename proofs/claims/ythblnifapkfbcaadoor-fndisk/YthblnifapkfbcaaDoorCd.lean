/- CrashDisk, on both sides. -/
import Derived.Test.YthblnifapkfbcaaDoorRows
import Derived.WalkKit
import Derived.WalkSpells
import Derived.WalkLawsBesides
import Derived.Deep.QuietTactic
import Derived.BigQuiet
import Derived.Deep.RegionHeld3
import Derived.Test.YthblnifapkfbcaaDoorCr
import Derived.LoopN
namespace Go.Proofs.YthblnifapkfbcaaDoor
open Go.RowKit
set_option linter.unusedSimpArgs false
set_option linter.unusedVariables false

def crC (ss us : List ByteArray) (keep torn : Int) : Int := if ss.length + us.length ≤ 300 then (if (keep < 0 ∨ 300 < keep ∨ torn < 0 ∨ 65536 < torn) then 4 else 0) else 1
def crL (ss us : List ByteArray) (keep torn : Int) : List ByteArray := if ss.length + us.length ≤ 300 then (if (keep < 0 ∨ 300 < keep ∨ torn < 0 ∨ 65536 < torn) then [] else ss ++ surv us keep.toNat torn.toNat) else []
section
variable {ss us : List ByteArray} {keep torn : Int}
theorem crC_no (h : ¬ ss.length + us.length ≤ 300) : crC ss us keep torn = 1 := by unfold crC; rw [if_neg h]
theorem crL_no (h : ¬ ss.length + us.length ≤ 300) : crL ss us keep torn = [] := by unfold crL; rw [if_neg h]
theorem crC_bad (h : ss.length + us.length ≤ 300) (hb : (keep < 0 ∨ 300 < keep ∨ torn < 0 ∨ 65536 < torn)) : crC ss us keep torn = 4 := by unfold crC; rw [if_pos h, if_pos hb]
theorem crL_bad (h : ss.length + us.length ≤ 300) (hb : (keep < 0 ∨ 300 < keep ∨ torn < 0 ∨ 65536 < torn)) : crL ss us keep torn = [] := by unfold crL; rw [if_pos h, if_pos hb]
theorem crC_ok (h : ss.length + us.length ≤ 300) (hb : ¬ (keep < 0 ∨ 300 < keep ∨ torn < 0 ∨ 65536 < torn)) : crC ss us keep torn = 0 := by unfold crC; rw [if_pos h, if_neg hb]
theorem crL_ok (h : ss.length + us.length ≤ 300) (hb : ¬ (keep < 0 ∨ 300 < keep ∨ torn < 0 ∨ 65536 < torn)) : crL ss us keep torn = ss ++ surv us keep.toNat torn.toNat := by unfold crL; rw [if_pos h, if_neg hb]
theorem crL_len (ss us : List ByteArray) (keep torn : Int) : (crL ss us keep torn).length ≤ 300 := by
  unfold crL
  split
  · split
    · simp
    · have := surv_len us keep.toNat torn.toNat; rw [List.length_append]; omega
  · simp
end
theorem crashOK_any (x y : Int) (r : Bool) (w : World) (hr : (decide (0 ≤ x) && decide (x ≤ 300) && decide (0 ≤ y) && decide (y ≤ 65536)) = r) :
    Calls Tryd.prog 22 #[.int .i64 x, .int .i64 y] w fun e w' => e = .returned (.bool r) ∧ w' = w := by
  subst hr
  by_cases h1 : 0 ≤ x <;> by_cases h2 : x ≤ 300 <;> by_cases h3 : 0 ≤ y <;> by_cases h4 : y ≤ 65536
  all_goals
    go_enter Tryd.func22, Tryd.ntmps22
    go_wp2
    go_ret
    exact ⟨ret_bool (by simp [h1, h2, h3, h4]), rfl⟩
theorem in_any (x a b : Int) (r : Bool) (w : World) (hr : (decide (a ≤ x) && decide (x ≤ b)) = r) :
    Calls Tryd.prog 25 #[.int .i64 x, .int .i64 a, .int .i64 b] w fun e w' => e = .returned (.bool r) ∧ w' = w := by
  subst hr
  by_cases h1 : a ≤ x <;> by_cases h2 : x ≤ b
  all_goals
    go_enter Tryd.func25, Tryd.ntmps25
    go_wp2
    go_ret
    exact ⟨ret_bool (by simp [h1, h2]), rfl⟩

set_option maxHeartbeats 4000000 in
theorem specCrash_any (v0 v1 : Value) (ss us : List ByteArray) (keep torn : Int) (w : World) (hn : ss.length ≤ 1048576) (hn' : us.length ≤ 1048576) (hw0 : ∀ s ∈ us, s.size ≤ 1048576) (hr0 : RowV w v0 ss) (hs0 : RowV w v1 us) :
    Calls Tryd.prog 11 #[.agg #[v0, v1], .int .i64 keep, .int .i64 torn] w (DP w (crC ss us keep torn) (crL ss us keep torn) []) := by
  have RA : Hid (RowV w v0 ss) := hr0
  have RU : Hid (RowV w v1 us) := hs0
  have HW : Hid (∀ s ∈ us, s.size ≤ 1048576) := hw0
  clear hr0 hs0 hw0
  have B0 : Hid (Below w.heap.size w ((w.alloc (.cells #[v0, v1] 25)).alloc (.cells #[.slice none 0 0, .slice none 0 0] 25))) := ((Below.refl _ _).alloc (Nat.le_refl _) _).alloc (by simp) _
  by_cases hok : ss.length + us.length ≤ 300
  case neg =>
    rw [crC_no hok, crL_no hok]
    have hd : decide (ss.length + us.length ≤ 300) = false := decide_eq_false hok
    go_enter Tryd.func11, Tryd.ntmps11
    go_wp2_with fail
    refine (specOK_any v0 v1 ss us _ hn hn' (RA.out.next B0.out) (RU.out.next B0.out)).mono ?_
    rintro e w1 ⟨rfl, hb⟩
    have HB : Hid (Below w.heap.size w w1) := bel_next B0 hb
    have hz := hb.size
    simp at hz
    have HZ : Hid (w.heap.size + 2 ≤ w1.heap.size) := hz
    have x0 : w1.cell? ⟨w.heap.size, 0, none⟩ = some v0 := cell_next hb (by go_simp) (by simp; omega)
    have x1 : w1.cell? ⟨w.heap.size, 1, none⟩ = some v1 := cell_next hb (by go_simp) (by simp; omega)
    have p0 : w1.cell? ⟨w.heap.size + 1, 0, none⟩ = some (.slice none 0 0) := cell_next hb (by go_simp) (by simp)
    have p1 : w1.cell? ⟨w.heap.size + 1, 1, none⟩ = some (.slice none 0 0) := cell_next hb (by go_simp) (by simp)
    have q0 : w1.frozen? ⟨w.heap.size + 1, 0, none⟩ = false := frozen_next hb (by go_simp) (by simp)
    have q1 : w1.frozen? ⟨w.heap.size + 1, 1, none⟩ = false := frozen_next hb (by go_simp) (by simp)
    have TH : Hid (Th2 w1 (w.heap.size + 1)) := ⟨⟨⟨_, p0⟩, ⟨_, p1⟩⟩, q0, q1⟩
    clear hb hz B0
    rw [hd]
    go_wp2_with fail
    refine bodyPost_ret (v := .tuple #[.agg #[.slice none 0 0, .slice none 0 0], .int .i64 1]) (by simp [results, Tryd.results11, go_sem, set2_cells TH.out, *]) rfl ?_
    exact ⟨none, 0, none, 0, rfl, bel_set (bel_set HB.out (by omega)) (by omega), own2_nil _ _ _⟩
  have hd : decide (ss.length + us.length ≤ 300) = true := decide_eq_true hok
  by_cases hbad : (keep < 0 ∨ 300 < keep ∨ torn < 0 ∨ 65536 < torn)
  · rw [crC_bad hok hbad, crL_bad hok hbad]
    by_cases hk : 0 ≤ keep ∧ keep ≤ 300
    · obtain ⟨hk0, hk3⟩ := hk
      have ht : (decide (0 ≤ torn) && decide (torn ≤ 65536)) = false := by simp; omega
      have IN1 : Hid (∀ W : World, Calls Tryd.prog 25 #[.int .i64 keep, .int .i64 0, .int .i64 300] W fun e w' => e = .returned (.bool true) ∧ w' = W) := fun W => in_any keep 0 300 true W (by simp; omega)
      have IN2 : Hid (∀ W : World, Calls Tryd.prog 25 #[.int .i64 torn, .int .i64 0, .int .i64 65536] W fun e w' => e = .returned (.bool false) ∧ w' = W) := fun W => in_any torn 0 65536 false W (by rw [ht])
      go_enter Tryd.func11, Tryd.ntmps11
      go_wp2_with fail
      refine (specOK_any v0 v1 ss us _ hn hn' (RA.out.next B0.out) (RU.out.next B0.out)).mono ?_
      rintro e w1 ⟨rfl, hb⟩
      have HB : Hid (Below w.heap.size w w1) := bel_next B0 hb
      have hz := hb.size
      simp at hz
      have HZ : Hid (w.heap.size + 2 ≤ w1.heap.size) := hz
      have x0 : w1.cell? ⟨w.heap.size, 0, none⟩ = some v0 := cell_next hb (by go_simp) (by simp; omega)
      have x1 : w1.cell? ⟨w.heap.size, 1, none⟩ = some v1 := cell_next hb (by go_simp) (by simp; omega)
      have p0 : w1.cell? ⟨w.heap.size + 1, 0, none⟩ = some (.slice none 0 0) := cell_next hb (by go_simp) (by simp)
      have p1 : w1.cell? ⟨w.heap.size + 1, 1, none⟩ = some (.slice none 0 0) := cell_next hb (by go_simp) (by simp)
      have q0 : w1.frozen? ⟨w.heap.size + 1, 0, none⟩ = false := frozen_next hb (by go_simp) (by simp)
      have q1 : w1.frozen? ⟨w.heap.size + 1, 1, none⟩ = false := frozen_next hb (by go_simp) (by simp)
      have TH : Hid (Th2 w1 (w.heap.size + 1)) := ⟨⟨⟨_, p0⟩, ⟨_, p1⟩⟩, q0, q1⟩
      clear hb hz B0
      rw [hd]
      go_wp2_with fail
      refine Calls.mono (IN1.out _) ?_
      rintro e w1' ⟨rfl, rfl⟩
      go_wp2_with fail
      refine Calls.mono (IN2.out _) ?_
      rintro e w1'' ⟨rfl, rfl⟩
      go_wp2_with fail
      refine bodyPost_ret (v := .tuple #[.agg #[.slice none 0 0, .slice none 0 0], .int .i64 4]) (by simp [results, Tryd.results11, go_sem, set2_cells TH.out, *]) rfl ?_
      exact ⟨none, 0, none, 0, rfl, bel_set (bel_set HB.out (by omega)) (by omega), own2_nil _ _ _⟩
    · have IN1 : Hid (∀ W : World, Calls Tryd.prog 25 #[.int .i64 keep, .int .i64 0, .int .i64 300] W fun e w' => e = .returned (.bool false) ∧ w' = W) := fun W => in_any keep 0 300 false W (by by_cases h : 0 ≤ keep <;> simp [h] <;> omega)
      go_enter Tryd.func11, Tryd.ntmps11
      go_wp2_with fail
      refine (specOK_any v0 v1 ss us _ hn hn' (RA.out.next B0.out) (RU.out.next B0.out)).mono ?_
      rintro e w1 ⟨rfl, hb⟩
      have HB : Hid (Below w.heap.size w w1) := bel_next B0 hb
      have hz := hb.size
      simp at hz
      have HZ : Hid (w.heap.size + 2 ≤ w1.heap.size) := hz
      have x0 : w1.cell? ⟨w.heap.size, 0, none⟩ = some v0 := cell_next hb (by go_simp) (by simp; omega)
      have x1 : w1.cell? ⟨w.heap.size, 1, none⟩ = some v1 := cell_next hb (by go_simp) (by simp; omega)
      have p0 : w1.cell? ⟨w.heap.size + 1, 0, none⟩ = some (.slice none 0 0) := cell_next hb (by go_simp) (by simp)
      have p1 : w1.cell? ⟨w.heap.size + 1, 1, none⟩ = some (.slice none 0 0) := cell_next hb (by go_simp) (by simp)
      have q0 : w1.frozen? ⟨w.heap.size + 1, 0, none⟩ = false := frozen_next hb (by go_simp) (by simp)
      have q1 : w1.frozen? ⟨w.heap.size + 1, 1, none⟩ = false := frozen_next hb (by go_simp) (by simp)
      have TH : Hid (Th2 w1 (w.heap.size + 1)) := ⟨⟨⟨_, p0⟩, ⟨_, p1⟩⟩, q0, q1⟩
      clear hb hz B0
      rw [hd]
      go_wp2_with fail
      refine Calls.mono (IN1.out _) ?_
      rintro e w1' ⟨rfl, rfl⟩
      go_wp2_with fail
      refine bodyPost_ret (v := .tuple #[.agg #[.slice none 0 0, .slice none 0 0], .int .i64 4]) (by simp [results, Tryd.results11, go_sem, set2_cells TH.out, *]) rfl ?_
      exact ⟨none, 0, none, 0, rfl, bel_set (bel_set HB.out (by omega)) (by omega), own2_nil _ _ _⟩
  · rw [crC_ok hok hbad, crL_ok hok hbad]
    have IN1 : Hid (∀ W : World, Calls Tryd.prog 25 #[.int .i64 keep, .int .i64 0, .int .i64 300] W fun e w' => e = .returned (.bool true) ∧ w' = W) := fun W => in_any keep 0 300 true W (by simp; omega)
    have IN2 : Hid (∀ W : World, Calls Tryd.prog 25 #[.int .i64 torn, .int .i64 0, .int .i64 65536] W fun e w' => e = .returned (.bool true) ∧ w' = W) := fun W => in_any torn 0 65536 true W (by simp; omega)
    have CR : Hid (∀ W : World, RowV W v0 ss → RowV W v1 us → Calls Tryd.prog 26 #[.agg #[v0, v1], .int .i64 keep, .int .i64 torn] W fun e w' => ∃ p0 d0 p1 d1, e = .returned (.agg #[.slice p0 (ss ++ surv us keep.toNat torn.toNat).length d0, .slice p1 0 d1]) ∧ Below W.heap.size W w' ∧ Own2 w' (.slice p0 (ss ++ surv us keep.toNat torn.toNat).length d0) (.slice p1 0 d1) (ss ++ surv us keep.toNat torn.toNat) [] W.heap.size w'.heap.size) := fun W h0 h1 => by
      have ek : (keep.toNat : Int) = keep := by omega
      have et : (torn.toNat : Int) = torn := by omega
      have := l04Crash_any v0 v1 ss us keep.toNat torn.toNat W hn hn' HW.out (by omega) (by omega) h0 h1
      rw [ek, et] at this
      exact this
    obtain ⟨LS, hLS⟩ : ∃ LS, LS = ss ++ surv us keep.toNat torn.toNat := ⟨_, rfl⟩
    obtain ⟨LL, hLL⟩ : ∃ LL, LL = LS.length := ⟨_, rfl⟩
    rw [← hLS, ← hLL] at CR
    rw [← hLS]
    have HLL : Hid (LL = LS.length) := hLL
    clear hLL hLS
    go_enter Tryd.func11, Tryd.ntmps11
    go_wp2_with fail
    refine (specOK_any v0 v1 ss us _ hn hn' (RA.out.next B0.out) (RU.out.next B0.out)).mono ?_
    rintro e w1 ⟨rfl, hb⟩
    have HB : Hid (Below w.heap.size w w1) := bel_next B0 hb
    have hz := hb.size
    simp at hz
    have HZ : Hid (w.heap.size + 2 ≤ w1.heap.size) := hz
    have x0 : w1.cell? ⟨w.heap.size, 0, none⟩ = some v0 := cell_next hb (by go_simp) (by simp; omega)
    have x1 : w1.cell? ⟨w.heap.size, 1, none⟩ = some v1 := cell_next hb (by go_simp) (by simp; omega)
    have p0 : w1.cell? ⟨w.heap.size + 1, 0, none⟩ = some (.slice none 0 0) := cell_next hb (by go_simp) (by simp)
    have p1 : w1.cell? ⟨w.heap.size + 1, 1, none⟩ = some (.slice none 0 0) := cell_next hb (by go_simp) (by simp)
    have q0 : w1.frozen? ⟨w.heap.size + 1, 0, none⟩ = false := frozen_next hb (by go_simp) (by simp)
    have q1 : w1.frozen? ⟨w.heap.size + 1, 1, none⟩ = false := frozen_next hb (by go_simp) (by simp)
    have TH : Hid (Th2 w1 (w.heap.size + 1)) := ⟨⟨⟨_, p0⟩, ⟨_, p1⟩⟩, q0, q1⟩
    clear hb hz B0
    rw [hd]
    go_wp2_with fail
    refine Calls.mono (IN1.out _) ?_
    rintro e w1' ⟨rfl, rfl⟩
    go_wp2_with fail
    refine Calls.mono (IN2.out _) ?_
    rintro e w1'' ⟨rfl, rfl⟩
    go_wp2_with fail
    refine Calls.mono (CR.out _ (RA.out.next HB.out) (RU.out.next HB.out)) ?_
    rintro e w2 ⟨pa, ca, pb, cb, rfl, hb, hO⟩
    have HB2 : Hid (Below w.heap.size w w2) := bel_next HB hb
    have HZ2 : Hid (w1''.heap.size ≤ w2.heap.size) := hb.size
    have H12 : Hid (Below w1''.heap.size w1'' w2) := hb
    have OX : Hid (Own2 w2 (.slice pa LL ca) (.slice pb 0 cb) LS [] w1''.heap.size w2.heap.size) := hO
    clear hb hO HB
    have hz := HZ2.out
    have y0 : w2.cell? ⟨w.heap.size + 1, 0, none⟩ = some (.slice none 0 0) := cell_next H12.out p0 (by have := HZ.out; omega)
    have y1 : w2.cell? ⟨w.heap.size + 1, 1, none⟩ = some (.slice none 0 0) := cell_next H12.out p1 (by have := HZ.out; omega)
    have z0 : w2.frozen? ⟨w.heap.size + 1, 0, none⟩ = false := frozen_next H12.out q0 (by have := HZ.out; omega)
    have z1 : w2.frozen? ⟨w.heap.size + 1, 1, none⟩ = false := frozen_next H12.out q1 (by have := HZ.out; omega)
    have TH2 : Th2 w2 (w.heap.size + 1) := TH.out.next H12.out
    clear x0 x1 p0 p1 q0 q1 TH H12
    go_wp2_with fail
    refine bodyPost_ret (v := .tuple #[.agg #[.slice pa LL ca, .slice pb 0 cb], .int .i64 0]) (by simp [results, Tryd.results11, go_sem, set2_cells TH2, *]) rfl ?_
    obtain rfl := HLL.out
    refine ⟨pa, ca, pb, cb, rfl, bel_set (bel_set HB2.out (by omega)) (by omega), ?_⟩
    exact Own2.weak (Own2.set (Own2.set OX.out (Or.inl (by have := HZ.out; omega))) (Or.inl (by have := HZ.out; omega))) (by have := HZ.out; omega) (by simp)

set_option maxHeartbeats 4000000 in
theorem implCrash_any (v0 v1 : Value) (ss us : List ByteArray) (keep torn : Int) (w : World) (hn : ss.length ≤ 1048576) (hn' : us.length ≤ 1048576) (hw0 : ∀ s ∈ us, s.size ≤ 1048576) (hr0 : RowV w v0 ss) (hs0 : RowV w v1 us) :
    Calls Tryd.prog 10 #[.agg #[v0, v1], .int .i64 keep, .int .i64 torn] w (DP w (crC ss us keep torn) (crL ss us keep torn) []) := by
  have RA : Hid (RowV w v0 ss) := hr0
  have RU : Hid (RowV w v1 us) := hs0
  have HW : Hid (∀ s ∈ us, s.size ≤ 1048576) := hw0
  clear hr0 hs0 hw0
  have B0 : Hid (Below w.heap.size w ((w.alloc (.cells #[v0, v1] 25)).alloc (.cells #[.slice none 0 0, .slice none 0 0] 25))) := ((Below.refl _ _).alloc (Nat.le_refl _) _).alloc (by simp) _
  by_cases hok : ss.length + us.length ≤ 300
  case neg =>
    rw [crC_no hok, crL_no hok]
    have hd : decide (ss.length + us.length ≤ 300) = false := decide_eq_false hok
    go_enter Tryd.func10, Tryd.ntmps10
    go_wp2_with fail
    refine (implOK_any v0 v1 ss us _ hn hn' (RA.out.next B0.out) (RU.out.next B0.out)).mono ?_
    rintro e w1 ⟨rfl, hb⟩
    have HB : Hid (Below w.heap.size w w1) := bel_next B0 hb
    have hz := hb.size
    simp at hz
    have HZ : Hid (w.heap.size + 2 ≤ w1.heap.size) := hz
    have x0 : w1.cell? ⟨w.heap.size, 0, none⟩ = some v0 := cell_next hb (by go_simp) (by simp; omega)
    have x1 : w1.cell? ⟨w.heap.size, 1, none⟩ = some v1 := cell_next hb (by go_simp) (by simp; omega)
    have p0 : w1.cell? ⟨w.heap.size + 1, 0, none⟩ = some (.slice none 0 0) := cell_next hb (by go_simp) (by simp)
    have p1 : w1.cell? ⟨w.heap.size + 1, 1, none⟩ = some (.slice none 0 0) := cell_next hb (by go_simp) (by simp)
    have q0 : w1.frozen? ⟨w.heap.size + 1, 0, none⟩ = false := frozen_next hb (by go_simp) (by simp)
    have q1 : w1.frozen? ⟨w.heap.size + 1, 1, none⟩ = false := frozen_next hb (by go_simp) (by simp)
    have TH : Hid (Th2 w1 (w.heap.size + 1)) := ⟨⟨⟨_, p0⟩, ⟨_, p1⟩⟩, q0, q1⟩
    clear hb hz B0
    rw [hd]
    go_wp2_with fail
    refine bodyPost_ret (v := .tuple #[.agg #[.slice none 0 0, .slice none 0 0], .int .i64 1]) (by simp [results, Tryd.results10, go_sem, set2_cells TH.out, *]) rfl ?_
    exact ⟨none, 0, none, 0, rfl, bel_set (bel_set HB.out (by omega)) (by omega), own2_nil _ _ _⟩
  have hd : decide (ss.length + us.length ≤ 300) = true := decide_eq_true hok
  by_cases hbad : (keep < 0 ∨ 300 < keep ∨ torn < 0 ∨ 65536 < torn)
  case pos =>
    rw [crC_bad hok hbad, crL_bad hok hbad]
    have CK : Hid (∀ W : World, Calls Tryd.prog 22 #[.int .i64 keep, .int .i64 torn] W fun e w' => e = .returned (.bool false) ∧ w' = W) := fun W => crashOK_any keep torn false W (by simp; omega)
    clear hok hbad
    go_enter Tryd.func10, Tryd.ntmps10
    go_wp2_with fail
    refine (implOK_any v0 v1 ss us _ hn hn' (RA.out.next B0.out) (RU.out.next B0.out)).mono ?_
    rintro e w1 ⟨rfl, hb⟩
    have HB : Hid (Below w.heap.size w w1) := bel_next B0 hb
    have hz := hb.size
    simp at hz
    have HZ : Hid (w.heap.size + 2 ≤ w1.heap.size) := hz
    have x0 : w1.cell? ⟨w.heap.size, 0, none⟩ = some v0 := cell_next hb (by go_simp) (by simp; omega)
    have x1 : w1.cell? ⟨w.heap.size, 1, none⟩ = some v1 := cell_next hb (by go_simp) (by simp; omega)
    have p0 : w1.cell? ⟨w.heap.size + 1, 0, none⟩ = some (.slice none 0 0) := cell_next hb (by go_simp) (by simp)
    have p1 : w1.cell? ⟨w.heap.size + 1, 1, none⟩ = some (.slice none 0 0) := cell_next hb (by go_simp) (by simp)
    have q0 : w1.frozen? ⟨w.heap.size + 1, 0, none⟩ = false := frozen_next hb (by go_simp) (by simp)
    have q1 : w1.frozen? ⟨w.heap.size + 1, 1, none⟩ = false := frozen_next hb (by go_simp) (by simp)
    have TH : Hid (Th2 w1 (w.heap.size + 1)) := ⟨⟨⟨_, p0⟩, ⟨_, p1⟩⟩, q0, q1⟩
    clear hb hz B0
    rw [hd]
    go_wp2_with fail
    refine Calls.mono (CK.out _) ?_
    rintro e w1' ⟨rfl, rfl⟩
    go_wp2_with fail
    refine bodyPost_ret (v := .tuple #[.agg #[.slice none 0 0, .slice none 0 0], .int .i64 4]) (by simp [results, Tryd.results10, go_sem, set2_cells TH.out, *]) rfl ?_
    exact ⟨none, 0, none, 0, rfl, bel_set (bel_set HB.out (by omega)) (by omega), own2_nil _ _ _⟩
  rw [crC_ok hok hbad, crL_ok hok hbad]
  obtain ⟨ao, c0, rfl, _, hta⟩ := RA.out
  obtain ⟨bo, c1, rfl, _, htb⟩ := RU.out
  have TA : Hid (TRow w ao ss) := hta
  clear hta htb
  have SV : Hid (∀ W : World, RowV W (.slice bo us.length c1) us → Calls Tryd.prog 23 #[.slice bo us.length c1, .int .i64 keep, .int .i64 torn] W fun e w' => ∃ v', e = .returned v' ∧ Below W.heap.size W w' ∧ RowV w' v' (surv us keep.toNat torn.toNat)) := fun W h0 => by
    have ek : (keep.toNat : Int) = keep := by omega
    have et : (torn.toNat : Int) = torn := by omega
    have := surv_any _ us keep.toNat torn.toNat W hn' HW.out (by omega) (by omega) h0
    rw [ek, et] at this
    exact this
  obtain ⟨SU, hSU⟩ : ∃ SU, SU = surv us keep.toNat torn.toNat := ⟨_, rfl⟩
  have hsl : SU.length ≤ 1048576 := by rw [hSU]; exact Nat.le_trans (surv_len _ _ _) hn'
  rw [← hSU] at SV
  rw [← hSU]
  clear hSU
  obtain ⟨LS, hLS⟩ : ∃ LS, LS = ss ++ SU := ⟨_, rfl⟩
  obtain ⟨LL, hLL⟩ : ∃ LL, LL = LS.length := ⟨_, rfl⟩
  have CLN : Hid (∀ (W : World) (so : Option Addr) (sc : Nat), TRow W ao ss → TRow W so SU → Calls Tryd.prog 18 #[.slice ao ss.length c0, .slice so SU.length sc] W fun e w' => ∃ g, e = .returned (.slice (some ⟨g, 0, none⟩) LL LL) ∧ Below W.heap.size W w' ∧ W.heap.size ≤ g ∧ g < w'.heap.size ∧ w'.ownsRow 0 9 1 (.slice (some ⟨g, 0, none⟩) LL LL) LL (V LS)) := fun W so sc h0 h1 => by
    have := copyLines_any ao so c0 sc ss SU W hn hsl h0 h1
    rw [← List.length_append, ← hLS, ← hLL] at this
    exact this
  rw [← hLS]
  have HLL : Hid (LL = LS.length) := hLL
  clear hLL hLS
  have CK : Hid (∀ W : World, Calls Tryd.prog 22 #[.int .i64 keep, .int .i64 torn] W fun e w' => e = .returned (.bool true) ∧ w' = W) := fun W => crashOK_any keep torn true W (by simp; omega)
  clear hbad
  go_enter Tryd.func10, Tryd.ntmps10
  go_wp2_with fail
  refine (implOK_any _ _ ss us _ hn hn' (RA.out.next B0.out) (RU.out.next B0.out)).mono ?_
  rintro e w1 ⟨rfl, hb⟩
  have HB : Hid (Below w.heap.size w w1) := bel_next B0 hb
  have hz := hb.size
  simp at hz
  have HZ : Hid (w.heap.size + 2 ≤ w1.heap.size) := hz
  have x0 : w1.cell? ⟨w.heap.size, 0, none⟩ = some (.slice ao ss.length c0) := cell_next hb (by go_simp) (by simp; omega)
  have x1 : w1.cell? ⟨w.heap.size, 1, none⟩ = some (.slice bo us.length c1) := cell_next hb (by go_simp) (by simp; omega)
  have p0 : w1.cell? ⟨w.heap.size + 1, 0, none⟩ = some (.slice none 0 0) := cell_next hb (by go_simp) (by simp)
  have p1 : w1.cell? ⟨w.heap.size + 1, 1, none⟩ = some (.slice none 0 0) := cell_next hb (by go_simp) (by simp)
  have q0 : w1.frozen? ⟨w.heap.size + 1, 0, none⟩ = false := frozen_next hb (by go_simp) (by simp)
  have q1 : w1.frozen? ⟨w.heap.size + 1, 1, none⟩ = false := frozen_next hb (by go_simp) (by simp)
  have TH : Hid (Th2 w1 (w.heap.size + 1)) := ⟨⟨⟨_, p0⟩, ⟨_, p1⟩⟩, q0, q1⟩
  clear hb hz B0
  rw [hd]
  go_wp2_with fail
  refine Calls.mono (CK.out _) ?_
  rintro e w1' ⟨rfl, rfl⟩
  go_wp2
  refine wp_region_held_drew (S := (fun w' => (w'.cell? ⟨w.heap.size, 0, none⟩ = some (.slice ao ss.length c0) ∧ w'.cell? ⟨w.heap.size, 1, none⟩ = some (.slice bo us.length c1)) ∧ w.heap.size + 1 + 1 ≤ w'.heap.size ∧ Below w.heap.size w w')) (by kernel_rfl) ?_ (fun hHeld => ?_)
  · (try dsimp only)
    exact ⟨⟨cell_next (bel_drew _) x0 (cell_lt' x0), cell_next (bel_drew _) x1 (cell_lt' x1)⟩, HZ.out, (bel_next HB (bel_drew _)).out⟩
  refine wpAnyH_take (i := 0) (v := ?_) rfl (by kernel_rfl) (by kernel_rfl) (by kernel_rfl) (fun _ _ _ h => h) (Or.inl ⟨by rfl, ?_⟩) (by assumption) ?_
  rotate_left
  · intro w' hSw
    (try dsimp only at hSw)
    go_simp
    all_goals (try with_reducible rfl)
  (try simp only [Act.put, List.getElem_toArray, List.getElem_cons_zero, List.getElem_cons_succ, List.setIfInBounds_toArray, List.set_cons_zero, List.set_cons_succ])
  refine wpAnyH_take (i := 1) (v := ?_) rfl (by kernel_rfl) (by kernel_rfl) (by kernel_rfl) (fun _ _ _ h => h) (Or.inl ⟨by rfl, ?_⟩) (by assumption) ?_
  rotate_left
  · intro w' hSw
    (try dsimp only at hSw)
    go_simp
    all_goals (try with_reducible rfl)
  (try simp only [Act.put, List.getElem_toArray, List.getElem_cons_zero, List.getElem_cons_succ, List.setIfInBounds_toArray, List.set_cons_zero, List.set_cons_succ])
  refine wpAnyH_take (i := 2) (v := ?_) rfl (by kernel_rfl) (by kernel_rfl) (by kernel_rfl) (fun _ _ _ h => h) (Or.inl ⟨by rfl, ?_⟩) (by assumption) ?_
  rotate_left
  · intro w' hSw
    (try dsimp only at hSw)
    go_simp
    all_goals (try with_reducible rfl)
  (try simp only [Act.put, List.getElem_toArray, List.getElem_cons_zero, List.getElem_cons_succ, List.setIfInBounds_toArray, List.set_cons_zero, List.set_cons_succ])
  refine wpAnyH_take (i := 3) (v := ?_) rfl (by kernel_rfl) (by kernel_rfl) (by kernel_rfl) (fun _ _ _ h => h) (Or.inl ⟨by rfl, ?_⟩) (by assumption) ?_
  rotate_left
  · intro w' hSw
    (try dsimp only at hSw)
    go_simp
    all_goals (try with_reducible rfl)
  (try simp only [Act.put, List.getElem_toArray, List.getElem_cons_zero, List.getElem_cons_succ, List.setIfInBounds_toArray, List.set_cons_zero, List.set_cons_succ])
  refine wpAnyH_take (i := 4) (v := ?_) rfl (by kernel_rfl) (by kernel_rfl) (by kernel_rfl) (fun _ _ _ h => h) (Or.inl ⟨by rfl, ?_⟩) (by assumption) ?_
  rotate_left
  · intro w' hSw
    (try dsimp only at hSw)
    go_simp
    all_goals (try with_reducible rfl)
  (try simp only [Act.put, List.getElem_toArray, List.getElem_cons_zero, List.getElem_cons_succ, List.setIfInBounds_toArray, List.set_cons_zero, List.set_cons_succ])
  refine wpAnyH_take (i := 5) (v := ?_) rfl (by kernel_rfl) (by kernel_rfl) (by kernel_rfl) (fun _ _ _ h => h) (Or.inl ⟨by rfl, ?_⟩) (by assumption) ?_
  rotate_left
  · intro w' hSw
    (try dsimp only at hSw)
    go_simp
    all_goals (try with_reducible rfl)
  (try simp only [Act.put, List.getElem_toArray, List.getElem_cons_zero, List.getElem_cons_succ, List.setIfInBounds_toArray, List.set_cons_zero, List.set_cons_succ])
  replace TH : Hid _ := TH.out.next (bel_drew _)
  clear x0 x1 p0 p1 q0 q1
  generalize w1'.drew = wd at *
  refine wpAnyH_ready (rs := [6]) (by kernel_rfl) (by simp) ?_
  refine AllReadyH.cons rfl (fun K hK => ?_) AllReadyH.nil
  (try simp only [Act.put, List.getElem_toArray, List.getElem_cons_zero, List.getElem_cons_succ, List.setIfInBounds_toArray, List.set_cons_zero, List.set_cons_succ])
  go_simp
  go_at_call 23
  refine Calls.mono (SV.out _ (RU.out.next hHeld.2.2)) ?_
  rintro e w2 ⟨v', rfl, hb, hR⟩
  obtain ⟨so, sc, rfl, _, hR⟩ := hR
  have TH2 : Hid _ := TH.out.next hb
  refine hK.out _ _ ?_ (fun hHeld' => ?_)
  · (try dsimp only)
    exact ⟨⟨cell_next hb hHeld.1.1 (cell_lt' hHeld.1.1), cell_next hb hHeld.1.2 (cell_lt' hHeld.1.2)⟩, Nat.le_trans hHeld.2.1 (hb).size, (bel_next (w := w) hHeld.2.2 hb).out⟩
  clear hK K hHeld
  have hHeld := hHeld'
  clear hHeld'
  (try simp only [Act.put, List.getElem_toArray, List.getElem_cons_zero, List.getElem_cons_succ, List.setIfInBounds_toArray, List.set_cons_zero, List.set_cons_succ])
  clear hb TH
  have HR : Hid _ := hR
  clear hR
  refine wpAnyH_ready (rs := [7]) (by kernel_rfl) (by simp) ?_
  refine AllReadyH.cons rfl (fun K hK => ?_) AllReadyH.nil
  (try simp only [Act.put, List.getElem_toArray, List.getElem_cons_zero, List.getElem_cons_succ, List.setIfInBounds_toArray, List.set_cons_zero, List.set_cons_succ])
  go_simp
  go_at_call 18
  refine Calls.mono (CLN.out _ so sc (TA.out.next hHeld.2.2) HR.out) ?_
  rintro e w3 ⟨g, rfl, hb, hg, hG, hO⟩
  have TH3 : Hid _ := TH2.out.next hb
  have hz2 := hHeld.2.1
  refine hK.out _ _ ?_ (fun hHeld' => ?_)
  · (try dsimp only)
    exact ⟨⟨cell_next hb hHeld.1.1 (cell_lt' hHeld.1.1), cell_next hb hHeld.1.2 (cell_lt' hHeld.1.2)⟩, Nat.le_trans hHeld.2.1 (hb).size, (bel_next (w := w) hHeld.2.2 hb).out⟩
  clear hK K hHeld
  have hHeld := hHeld'
  clear hHeld'
  (try simp only [Act.put, List.getElem_toArray, List.getElem_cons_zero, List.getElem_cons_succ, List.setIfInBounds_toArray, List.set_cons_zero, List.set_cons_succ])
  have OX : Hid (Own2 w3 (.slice (some ⟨g, 0, none⟩) LL LL) (.slice none 0 0) LS [] (w.heap.size + 1 + 1) w3.heap.size) := by
    have hll := HLL.out
    exact ⟨by rw [← hll]; exact hO, World.ownsRow_nil _ _ _ _, fun k hk => (by simp [Value.ownBlock] at hk; omega), fun k hk => absurd hk Gro.none_ne, fun k _ hk => absurd hk Gro.none_ne⟩
  clear hb hg hG hO TH2
  refine wpAnyH_take (i := 8) (v := ?_) rfl (by kernel_rfl) (by kernel_rfl) (by kernel_rfl) (fun _ _ _ h => h) (Or.inl ⟨by rfl, ?_⟩) (by assumption) ?_
  rotate_left
  · intro w' hSw
    (try dsimp only at hSw)
    go_simp
    all_goals (try with_reducible rfl)
  (try simp only [Act.put, List.getElem_toArray, List.getElem_cons_zero, List.getElem_cons_succ, List.setIfInBounds_toArray, List.set_cons_zero, List.set_cons_succ])
  obtain ⟨⟨⟨u0, T0⟩, ⟨u1, T1⟩⟩, Z0, Z1⟩ := TH3.out
  refine wpAnyH_ready (rs := [9]) (by kernel_rfl) (by simp) ?_
  refine AllReadyH.cons rfl (fun K hK => ?_) AllReadyH.nil
  (try simp only [Act.put, List.getElem_toArray, List.getElem_cons_zero, List.getElem_cons_succ, List.setIfInBounds_toArray, List.set_cons_zero, List.set_cons_succ])
  go_simp
  (try simp only [])
  refine hK.out _ _ ?_ (fun hHeld' => ?_)
  · (try dsimp only)
    exact ⟨⟨cell_set (cell_set hHeld.1.1 (by omega)) (by omega), cell_set (cell_set hHeld.1.2 (by omega)) (by omega)⟩, by simpa [World.setCell] using hHeld.2.1, bel_set (bel_set hHeld.2.2 (by omega)) (by omega)⟩
  clear hK K hHeld
  have hHeld := hHeld'
  clear hHeld'
  (try simp only [Act.put, List.getElem_toArray, List.getElem_cons_zero, List.getElem_cons_succ, List.setIfInBounds_toArray, List.set_cons_zero, List.set_cons_succ])
  refine wpAnyH_take (i := 10) (v := ?_) rfl (by kernel_rfl) (by kernel_rfl) (by kernel_rfl) (fun _ _ _ h => h) (Or.inl ⟨by rfl, ?_⟩) (by assumption) ?_
  rotate_left
  · intro w' hSw
    (try dsimp only at hSw)
    go_simp
    all_goals (try with_reducible rfl)
  (try simp only [Act.put, List.getElem_toArray, List.getElem_cons_zero, List.getElem_cons_succ, List.setIfInBounds_toArray, List.set_cons_zero, List.set_cons_succ])
  refine wpAnyH_done (by kernel_rfl) ?_ _
  have CC := set2_cells (v0 := .slice (some ⟨g, 0, none⟩) LL LL) (v1 := .slice none 0 0) TH3.out
  obtain ⟨C0, C1⟩ := CC
  have HB9 : Hid (Below w.heap.size w _) := hHeld.2.2
  clear hHeld T0 T1 Z0 Z1
  go_wp2_with fail
  refine bodyPost_ret (v := .tuple #[.agg #[.slice (some ⟨g, 0, none⟩) LL LL, .slice none 0 0], .int .i64 0]) (by simp [results, Tryd.results10, go_sem, *]) rfl ?_
  obtain rfl := HLL.out
  refine ⟨_, _, _, _, rfl, HB9.out, ?_⟩
  exact Own2.weak (Own2.set (Own2.set OX.out (Or.inl (by omega))) (Or.inl (by omega))) (by omega) (by simp)
  
end Go.Proofs.YthblnifapkfbcaaDoor
