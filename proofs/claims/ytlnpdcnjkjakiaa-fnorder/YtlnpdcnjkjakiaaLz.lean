/- The law FnOrder: what is before one way is after the other way; dots have one order. -/
import Derived.Test.YtlnpdcnjkjakiaaRows
import Derived.Test.YtlnpdcnjkjakiaaSrc
import Derived.Test.YtlnpdcnjkjakiaaVa
import Derived.Test.YtlnpdcnjkjakiaaVb
import Derived.Test.YtlnpdcnjkjakiaaVc
import Derived.Test.YtlnpdcnjkjakiaaVd
import Derived.Test.YtlnpdcnjkjakiaaVe
import Derived.Test.YtlnpdcnjkjakiaaDr
import Derived.WalkKit
import Derived.WalkSpells
import Derived.WalkLawsBesides
import Derived.Deep.QuietTactic
import Derived.BigQuiet
import Derived.Deep.RegionHeld3
import Derived.LoopN
import Derived.RegionTactic
import Derived.BigRegion
namespace Go.Proofs.Ytlnpdcnjkjakiaa
open Go.RowKit
set_option linter.unusedSimpArgs false
set_option linter.unusedVariables false


theorem eqd (p q f g : Int) (w : World) : Sem.run Try.prog (Op.equalIn 10000 27 (.agg #[.int .i64 p, .int .i64 q]) (.agg #[.int .i64 f, .int .i64 g])) w = .ok (p == f && q == g) w := by
  have h27 := Try.underlying27
  have h3 := Try.underlying3
  have hs : Try.prog.stoodInHeld 27 = false := by kernel_rfl
  rw [run_equalIn_struct w 9999 27 _ _ (by kernel_rfl) hs]
  simp [go_sem, h27, h3]
  cases h1 : (p == f) <;> cases h2 : (q == g) <;> simp_all [go_sem]
theorem vvB_of' {a b c : Int} (h : (0 ≤ a ∧ a ≤ 9999) ∧ (0 ≤ b ∧ b ≤ 9999) ∧ (0 ≤ c ∧ c ≤ 9999)) : vvB a b c = true := decide_eq_true h
theorem dotB_of' {p q : Int} (h : 0 ≤ p ∧ p < 3 ∧ 1 ≤ q ∧ q ≤ 9999) : dotB p q = true := decide_eq_true h


theorem ord_cases (a b c x y z : Int) : (ordR a b c x y z = 0 ∧ ordR x y z a b c = 0 ∧ (a == x && (b == y && c == z)) = true) ∨ (ordR a b c x y z = 1 ∧ ordR x y z a b c = 2 ∧ (a == x && (b == y && c == z)) = false) ∨ (ordR a b c x y z = 2 ∧ ordR x y z a b c = 1 ∧ (a == x && (b == y && c == z)) = false) ∨ (ordR a b c x y z = 3 ∧ ordR x y z a b c = 3 ∧ (a == x && (b == y && c == z)) = false) := by
  have hb : (a == x && (b == y && c == z)) = decide (a = x ∧ b = y ∧ c = z) := by rw [Bool.eq_iff_iff]; simp
  rw [hb]
  simp only [decide_eq_true_eq, decide_eq_false_iff_not]
  unfold ordR
  by_cases h1 : a < x ∨ b < y ∨ c < z <;> by_cases h2 : x < a ∨ y < b ∨ z < c <;> simp only [h1, h2, if_true, if_false] <;> omega
theorem dots_cases (p q f g : Int) (h1 : dotB p q = true) (h2 : dotB f g = true) : (dotsV p q f g = 0 ∧ dotsV f g p q = 0 ∧ (p == f && q == g) = true) ∨ (dotsV p q f g = 1 ∧ dotsV f g p q = -1 ∧ (p == f && q == g) = false) ∨ (dotsV p q f g = -1 ∧ dotsV f g p q = 1 ∧ (p == f && q == g) = false) := by
  have hb : (p == f && q == g) = decide (p = f ∧ q = g) := by rw [Bool.eq_iff_iff]; simp
  rw [hb]
  simp only [decide_eq_true_eq, decide_eq_false_iff_not]
  unfold dotsV cmpI
  simp only [h1, h2, and_self, if_true]
  (repeat' split) <;> omega

set_option maxRecDepth 100000 in
set_option maxHeartbeats 60000000 in
theorem fnorder_main (w : World) (ao : Option Addr) (len cap : Nat) (zs : List Int) (hr1 : Gen.IsRow .u8 w ao len cap zs) (bo : Option Addr) (ln cp : Nat) (ys : List Int) (hr2 : Gen.IsRow .u8 w bo ln cp ys) (hl1 : (len : Int) ≤ 1048576) (hl2 : (ln : Int) ≤ 1048576) :
    Calls Try.prog 4 #[.slice ao len cap, .slice bo ln cp] w fun e w' => e = .returned (.bool true) ∧ Below w.heap.size w w' := by
  have R1_0 : Hid (Gen.IsRow .u8 w ao len cap zs) := hr1
  have R2_0 : Hid (Gen.IsRow .u8 w bo ln cp ys) := hr2
  have B_0 : Hid (Below w.heap.size w w) := Below.refl _ _
  clear hr1 hr2
  have hn1 : ¬ 1048576 < (len : Int) := by omega
  have hn2 : ¬ 1048576 < (ln : Int) := by omega
  go_enter Try.func4, Try.ntmps4
  go_wp2_with fail
  refine (vvDrawn_any len cap ao zs _ R1_0.out hl1).mono ?_
  rintro e w1 ⟨a, b, c, ⟨⟨a0, a1⟩, ⟨b0, b1⟩, c0, c1⟩, rfl, hb⟩
  have hb1 : Below w.heap.size w w1 := hb
  have hq1 := hb1.size
  have R1_1 : Hid (Gen.IsRow .u8 w1 ao len cap zs) := row_below R1_0.out hb1
  have R2_1 : Hid (Gen.IsRow .u8 w1 bo ln cp ys) := row_below R2_0.out hb1
  have B_1 : Hid (Below w.heap.size w w1) := B_0.out.trans (hb1.mono B_0.out.size)
  clear hb hb1 hq1 R1_0 R2_0 B_0
  go_wp2_with fail
  refine (vvDrawn_any ln cp bo ys _ (row_alloc R2_1.out) hl2).mono ?_
  rintro e w2 ⟨x, y, z, ⟨⟨x0, x1⟩, ⟨y0, y1⟩, z0, z1⟩, rfl, hb⟩
  have hb2 : Below w1.heap.size w1 w2 := ((Below.refl _ _).alloc (Nat.le_refl _) _).trans (hb.mono (by simp))
  have hq2 := hb2.size
  have C10_2 := cell_next hb (b := w1.heap.size) (o := 0) (v := .int .i64 a) (by go_simp) (by simp)
  have C11_2 := cell_next hb (b := w1.heap.size) (o := 1) (v := .int .i64 b) (by go_simp) (by simp)
  have C12_2 := cell_next hb (b := w1.heap.size) (o := 2) (v := .int .i64 c) (by go_simp) (by simp)
  have L1_2 : w1.heap.size < w2.heap.size := by have := hb.size; simp at this; omega
  have R1_2 : Hid (Gen.IsRow .u8 w2 ao len cap zs) := row_below R1_1.out hb2
  have R2_2 : Hid (Gen.IsRow .u8 w2 bo ln cp ys) := row_below R2_1.out hb2
  have B_2 : Hid (Below w.heap.size w w2) := B_1.out.trans (hb2.mono B_1.out.size)
  clear hb hb2 hq2 R1_1 R2_1 B_1
  have hva : vvB a b c = true := vvB_of' (by omega)
  have hvx : vvB x y z = true := vvB_of' (by omega)
  obtain ⟨r, hr⟩ : ∃ r, r = ordR a b c x y z := ⟨_, rfl⟩
  obtain ⟨r', hr'⟩ : ∃ r, r = ordR x y z a b c := ⟨_, rfl⟩
  have hrr : Hid ((r = 0 ∧ r' = 0 ∧ (a == x && (b == y && c == z)) = true) ∨ (r = 1 ∧ r' = 2 ∧ (a == x && (b == y && c == z)) = false) ∨ (r = 2 ∧ r' = 1 ∧ (a == x && (b == y && c == z)) = false) ∨ (r = 3 ∧ r' = 3 ∧ (a == x && (b == y && c == z)) = false)) := by
    rw [hr, hr']
    exact ord_cases a b c x y z
  have Q3 : Hid (∀ W, Calls Try.prog 9 #[.agg #[.int .i64 a, .int .i64 b, .int .i64 c], .agg #[.int .i64 x, .int .i64 y, .int .i64 z]] W fun e w' => e = .returned (.tuple #[.int .i64 r, .int .i64 0]) ∧ Below W.heap.size W w') := fun W => by rw [hr]; exact impl_order_all a b c x y z W hva hvx
  have Q4 : Hid (∀ W, Calls Try.prog 9 #[.agg #[.int .i64 x, .int .i64 y, .int .i64 z], .agg #[.int .i64 a, .int .i64 b, .int .i64 c]] W fun e w' => e = .returned (.tuple #[.int .i64 r', .int .i64 0]) ∧ Below W.heap.size W w') := fun W => by rw [hr']; exact impl_order_all x y z a b c W hvx hva
  have Q5 : Hid (∀ W, Calls Try.prog 14 #[.agg #[.int .i64 a, .int .i64 b, .int .i64 c], .agg #[.int .i64 x, .int .i64 y, .int .i64 z]] W fun e w' => e = .returned (.tuple #[.int .i64 r, .int .i64 0]) ∧ Below W.heap.size W w') := fun W => by rw [hr]; exact spec_order_good a b c x y z _ W hva hvx (fun W => l01_order_all a b c x y z W)
  have HVA : Hid (vvB a b c = true) := hva
  clear hva hvx hr hr'

  go_wp2_with fail
  refine (Q3.out _).mono ?_
  rintro e w3 ⟨rfl, hb⟩
  have hb3 : Below w2.heap.size w2 w3 := ((Below.refl _ _).alloc (Nat.le_refl _) _).trans (hb.mono (by simp))
  have C10_3 := cell_next hb3 C10_2 L1_2
  have C11_3 := cell_next hb3 C11_2 L1_2
  have C12_3 := cell_next hb3 C12_2 L1_2
  have hq3 := hb3.size
  have L1_3 : w1.heap.size < w3.heap.size := Nat.lt_of_lt_of_le L1_2 hq3
  have C20_3 := cell_next hb (b := w2.heap.size) (o := 0) (v := .int .i64 x) (by go_simp) (by simp)
  have C21_3 := cell_next hb (b := w2.heap.size) (o := 1) (v := .int .i64 y) (by go_simp) (by simp)
  have C22_3 := cell_next hb (b := w2.heap.size) (o := 2) (v := .int .i64 z) (by go_simp) (by simp)
  have L2_3 : w2.heap.size < w3.heap.size := by have := hb.size; simp at this; omega
  have R1_3 : Hid (Gen.IsRow .u8 w3 ao len cap zs) := row_below R1_2.out hb3
  have R2_3 : Hid (Gen.IsRow .u8 w3 bo ln cp ys) := row_below R2_2.out hb3
  have B_3 : Hid (Below w.heap.size w w3) := B_2.out.trans (hb3.mono B_2.out.size)
  clear hb hb3 hq3 C10_2 C11_2 C12_2 L1_2 R1_2 R2_2 B_2
  go_wp2_with fail
  refine (Q4.out _).mono ?_
  rintro e w4 ⟨rfl, hb⟩
  have hb4 : Below w3.heap.size w3 w4 := hb
  have C10_4 := cell_next hb4 C10_3 L1_3
  have C11_4 := cell_next hb4 C11_3 L1_3
  have C12_4 := cell_next hb4 C12_3 L1_3
  have C20_4 := cell_next hb4 C20_3 L2_3
  have C21_4 := cell_next hb4 C21_3 L2_3
  have C22_4 := cell_next hb4 C22_3 L2_3
  have hq4 := hb4.size
  have L1_4 : w1.heap.size < w4.heap.size := Nat.lt_of_lt_of_le L1_3 hq4
  have L2_4 : w2.heap.size < w4.heap.size := Nat.lt_of_lt_of_le L2_3 hq4
  have R1_4 : Hid (Gen.IsRow .u8 w4 ao len cap zs) := row_below R1_3.out hb4
  have R2_4 : Hid (Gen.IsRow .u8 w4 bo ln cp ys) := row_below R2_3.out hb4
  have B_4 : Hid (Below w.heap.size w w4) := B_3.out.trans (hb4.mono B_3.out.size)
  clear hb hb4 hq4 C10_3 C11_3 C12_3 C20_3 C21_3 C22_3 L1_3 L2_3 R1_3 R2_3 B_3
  go_wp2_with fail
  refine (Q5.out _).mono ?_
  rintro e w5 ⟨rfl, hb⟩
  have hb5 : Below w4.heap.size w4 w5 := hb
  have C10_5 := cell_next hb5 C10_4 L1_4
  have C11_5 := cell_next hb5 C11_4 L1_4
  have C12_5 := cell_next hb5 C12_4 L1_4
  have C20_5 := cell_next hb5 C20_4 L2_4
  have C21_5 := cell_next hb5 C21_4 L2_4
  have C22_5 := cell_next hb5 C22_4 L2_4
  have hq5 := hb5.size
  have L1_5 : w1.heap.size < w5.heap.size := Nat.lt_of_lt_of_le L1_4 hq5
  have L2_5 : w2.heap.size < w5.heap.size := Nat.lt_of_lt_of_le L2_4 hq5
  have R1_5 : Hid (Gen.IsRow .u8 w5 ao len cap zs) := row_below R1_4.out hb5
  have R2_5 : Hid (Gen.IsRow .u8 w5 bo ln cp ys) := row_below R2_4.out hb5
  have B_5 : Hid (Below w.heap.size w w5) := B_4.out.trans (hb5.mono B_4.out.size)
  clear hb hb5 hq5 C10_4 C11_4 C12_4 C20_4 C21_4 C22_4 L1_4 L2_4 R1_4 R2_4 B_4
  go_wp2_with fail
  refine (dotDrawn_any len cap ao zs _ R1_5.out hl1).mono ?_
  rintro e w6 ⟨p, q, ⟨⟨p0, p1⟩, q0, q1⟩, rfl, hb⟩
  have hb6 : Below w5.heap.size w5 w6 := hb
  have C10_6 := cell_next hb6 C10_5 L1_5
  have C11_6 := cell_next hb6 C11_5 L1_5
  have C12_6 := cell_next hb6 C12_5 L1_5
  have C20_6 := cell_next hb6 C20_5 L2_5
  have C21_6 := cell_next hb6 C21_5 L2_5
  have C22_6 := cell_next hb6 C22_5 L2_5
  have hq6 := hb6.size
  have L1_6 : w1.heap.size < w6.heap.size := Nat.lt_of_lt_of_le L1_5 hq6
  have L2_6 : w2.heap.size < w6.heap.size := Nat.lt_of_lt_of_le L2_5 hq6
  have R1_6 : Hid (Gen.IsRow .u8 w6 ao len cap zs) := row_below R1_5.out hb6
  have R2_6 : Hid (Gen.IsRow .u8 w6 bo ln cp ys) := row_below R2_5.out hb6
  have B_6 : Hid (Below w.heap.size w w6) := B_5.out.trans (hb6.mono B_5.out.size)
  clear hb hb6 hq6 C10_5 C11_5 C12_5 C20_5 C21_5 C22_5 L1_5 L2_5 R1_5 R2_5 B_5
  go_wp2_with fail
  refine (dotDrawn_any ln cp bo ys _ (row_alloc R2_6.out) hl2).mono ?_
  rintro e w7 ⟨f, g, ⟨⟨f0, f1⟩, g0, g1⟩, rfl, hb⟩
  have hb7 : Below w6.heap.size w6 w7 := ((Below.refl _ _).alloc (Nat.le_refl _) _).trans (hb.mono (by simp))
  have C10_7 := cell_next hb7 C10_6 L1_6
  have C11_7 := cell_next hb7 C11_6 L1_6
  have C12_7 := cell_next hb7 C12_6 L1_6
  have C20_7 := cell_next hb7 C20_6 L2_6
  have C21_7 := cell_next hb7 C21_6 L2_6
  have C22_7 := cell_next hb7 C22_6 L2_6
  have hq7 := hb7.size
  have L1_7 : w1.heap.size < w7.heap.size := Nat.lt_of_lt_of_le L1_6 hq7
  have L2_7 : w2.heap.size < w7.heap.size := Nat.lt_of_lt_of_le L2_6 hq7
  have C60_7 := cell_next hb (b := w6.heap.size) (o := 0) (v := .int .i64 p) (by go_simp) (by simp)
  have C61_7 := cell_next hb (b := w6.heap.size) (o := 1) (v := .int .i64 q) (by go_simp) (by simp)
  have L6_7 : w6.heap.size < w7.heap.size := by have := hb.size; simp at this; omega
  have R1_7 : Hid (Gen.IsRow .u8 w7 ao len cap zs) := row_below R1_6.out hb7
  have R2_7 : Hid (Gen.IsRow .u8 w7 bo ln cp ys) := row_below R2_6.out hb7
  have B_7 : Hid (Below w.heap.size w w7) := B_6.out.trans (hb7.mono B_6.out.size)
  clear hb hb7 hq7 C10_6 C11_6 C12_6 C20_6 C21_6 C22_6 L1_6 L2_6 R1_6 R2_6 B_6
  have hdp : dotB p q = true := dotB_of' (by omega)
  have hdf : dotB f g = true := dotB_of' (by omega)
  obtain ⟨m, hm⟩ : ∃ m, m = dotsV p q f g := ⟨_, rfl⟩
  obtain ⟨n, hn⟩ : ∃ n, n = dotsV f g p q := ⟨_, rfl⟩
  have hmn : Hid ((m = 0 ∧ n = 0 ∧ (p == f && q == g) = true) ∨ (m = 1 ∧ n = -1 ∧ (p == f && q == g) = false) ∨ (m = -1 ∧ n = 1 ∧ (p == f && q == g) = false)) := by
    rw [hm, hn]
    exact dots_cases p q f g hdp hdf
  obtain ⟨hs, hhs⟩ : ∃ hs : Bool, hs = decide (q ≤ comp a b c p) := ⟨_, rfl⟩
  have Q8 : Hid (∀ W, Calls Try.prog 15 #[.agg #[.int .i64 p, .int .i64 q], .agg #[.int .i64 f, .int .i64 g]] W fun e w' => e = .returned (.tuple #[.int .i64 m, .int .i64 0]) ∧ Below W.heap.size W w') := fun W => by
    have := impl_dots p q f g W
    rw [show dotsC p q f g = 0 from by simp [dotsC, hdp, hdf]] at this
    rw [hm]; exact this
  have Q9 : Hid (∀ W, Calls Try.prog 15 #[.agg #[.int .i64 f, .int .i64 g], .agg #[.int .i64 p, .int .i64 q]] W fun e w' => e = .returned (.tuple #[.int .i64 n, .int .i64 0]) ∧ Below W.heap.size W w') := fun W => by
    have := impl_dots f g p q W
    rw [show dotsC f g p q = 0 from by simp [dotsC, hdp, hdf]] at this
    rw [hn]; exact this
  have Q10 : Hid (∀ W, Calls Try.prog 16 #[.agg #[.int .i64 p, .int .i64 q], .agg #[.int .i64 f, .int .i64 g]] W fun e w' => e = .returned (.tuple #[.int .i64 m, .int .i64 0]) ∧ Below W.heap.size W w') := fun W => by
    have := spec_dots p q f g W
    rw [show dotsC p q f g = 0 from by simp [dotsC, hdp, hdf]] at this
    rw [hm]; exact this
  have Q11 : Hid (∀ W, Calls Try.prog 11 #[.agg #[.int .i64 a, .int .i64 b, .int .i64 c], .agg #[.int .i64 p, .int .i64 q]] W fun e w' => e = .returned (.tuple #[.bool hs, .int .i64 0]) ∧ Below W.heap.size W w') := fun W => by
    have := impl_has a b c p q W
    rw [HVA.out, hdp] at this
    rw [hhs]
    have e1 : hasV (true && true) (comp a b c p) q = decide (q ≤ comp a b c p) := by simp [hasV]
    rw [e1] at this
    exact this
  have HP : Hid (p = 0 ∨ p = 1 ∨ p = 2) := dot_node hdp
  have HH : Hid (hs = decide (q ≤ comp a b c p)) := hhs
  clear hdp hdf hm hn hhs R1_7 R2_7 HVA

  go_wp2_with fail
  refine (Q8.out _).mono ?_
  rintro e w8 ⟨rfl, hb⟩
  have hb8 : Below w7.heap.size w7 w8 := ((Below.refl _ _).alloc (Nat.le_refl _) _).trans (hb.mono (by simp))
  have C10_8 := cell_next hb8 C10_7 L1_7
  have C11_8 := cell_next hb8 C11_7 L1_7
  have C12_8 := cell_next hb8 C12_7 L1_7
  have C20_8 := cell_next hb8 C20_7 L2_7
  have C21_8 := cell_next hb8 C21_7 L2_7
  have C22_8 := cell_next hb8 C22_7 L2_7
  have C60_8 := cell_next hb8 C60_7 L6_7
  have C61_8 := cell_next hb8 C61_7 L6_7
  have hq8 := hb8.size
  have L1_8 : w1.heap.size < w8.heap.size := Nat.lt_of_lt_of_le L1_7 hq8
  have L2_8 : w2.heap.size < w8.heap.size := Nat.lt_of_lt_of_le L2_7 hq8
  have L6_8 : w6.heap.size < w8.heap.size := Nat.lt_of_lt_of_le L6_7 hq8
  have C70_8 := cell_next hb (b := w7.heap.size) (o := 0) (v := .int .i64 f) (by go_simp) (by simp)
  have C71_8 := cell_next hb (b := w7.heap.size) (o := 1) (v := .int .i64 g) (by go_simp) (by simp)
  have L7_8 : w7.heap.size < w8.heap.size := by have := hb.size; simp at this; omega
  have B_8 : Hid (Below w.heap.size w w8) := B_7.out.trans (hb8.mono B_7.out.size)
  clear hb hb8 hq8 C10_7 C11_7 C12_7 C20_7 C21_7 C22_7 C60_7 C61_7 L1_7 L2_7 L6_7 B_7
  go_wp2_with fail
  refine (Q9.out _).mono ?_
  rintro e w9 ⟨rfl, hb⟩
  have hb9 : Below w8.heap.size w8 w9 := hb
  have C10_9 := cell_next hb9 C10_8 L1_8
  have C11_9 := cell_next hb9 C11_8 L1_8
  have C12_9 := cell_next hb9 C12_8 L1_8
  have C20_9 := cell_next hb9 C20_8 L2_8
  have C21_9 := cell_next hb9 C21_8 L2_8
  have C22_9 := cell_next hb9 C22_8 L2_8
  have C60_9 := cell_next hb9 C60_8 L6_8
  have C61_9 := cell_next hb9 C61_8 L6_8
  have C70_9 := cell_next hb9 C70_8 L7_8
  have C71_9 := cell_next hb9 C71_8 L7_8
  have hq9 := hb9.size
  have L1_9 : w1.heap.size < w9.heap.size := Nat.lt_of_lt_of_le L1_8 hq9
  have L2_9 : w2.heap.size < w9.heap.size := Nat.lt_of_lt_of_le L2_8 hq9
  have L6_9 : w6.heap.size < w9.heap.size := Nat.lt_of_lt_of_le L6_8 hq9
  have L7_9 : w7.heap.size < w9.heap.size := Nat.lt_of_lt_of_le L7_8 hq9
  have B_9 : Hid (Below w.heap.size w w9) := B_8.out.trans (hb9.mono B_8.out.size)
  clear hb hb9 hq9 C10_8 C11_8 C12_8 C20_8 C21_8 C22_8 C60_8 C61_8 C70_8 C71_8 L1_8 L2_8 L6_8 L7_8 B_8
  go_wp2_with fail
  refine (Q10.out _).mono ?_
  rintro e w10 ⟨rfl, hb⟩
  have hb10 : Below w9.heap.size w9 w10 := hb
  have C10_10 := cell_next hb10 C10_9 L1_9
  have C11_10 := cell_next hb10 C11_9 L1_9
  have C12_10 := cell_next hb10 C12_9 L1_9
  have C20_10 := cell_next hb10 C20_9 L2_9
  have C21_10 := cell_next hb10 C21_9 L2_9
  have C22_10 := cell_next hb10 C22_9 L2_9
  have C60_10 := cell_next hb10 C60_9 L6_9
  have C61_10 := cell_next hb10 C61_9 L6_9
  have C70_10 := cell_next hb10 C70_9 L7_9
  have C71_10 := cell_next hb10 C71_9 L7_9
  have hq10 := hb10.size
  have L1_10 : w1.heap.size < w10.heap.size := Nat.lt_of_lt_of_le L1_9 hq10
  have L2_10 : w2.heap.size < w10.heap.size := Nat.lt_of_lt_of_le L2_9 hq10
  have L6_10 : w6.heap.size < w10.heap.size := Nat.lt_of_lt_of_le L6_9 hq10
  have L7_10 : w7.heap.size < w10.heap.size := Nat.lt_of_lt_of_le L7_9 hq10
  have B_10 : Hid (Below w.heap.size w w10) := B_9.out.trans (hb10.mono B_9.out.size)
  clear hb hb10 hq10 C10_9 C11_9 C12_9 C20_9 C21_9 C22_9 C60_9 C61_9 C70_9 C71_9 L1_9 L2_9 L6_9 L7_9 B_9
  go_wp2_with fail
  refine (Q11.out _).mono ?_
  rintro e w11 ⟨rfl, hb⟩
  have hb11 : Below w10.heap.size w10 w11 := hb
  have C10_11 := cell_next hb11 C10_10 L1_10
  have C11_11 := cell_next hb11 C11_10 L1_10
  have C12_11 := cell_next hb11 C12_10 L1_10
  have C20_11 := cell_next hb11 C20_10 L2_10
  have C21_11 := cell_next hb11 C21_10 L2_10
  have C22_11 := cell_next hb11 C22_10 L2_10
  have C60_11 := cell_next hb11 C60_10 L6_10
  have C61_11 := cell_next hb11 C61_10 L6_10
  have C70_11 := cell_next hb11 C70_10 L7_10
  have C71_11 := cell_next hb11 C71_10 L7_10
  have hq11 := hb11.size
  have L1_11 : w1.heap.size < w11.heap.size := Nat.lt_of_lt_of_le L1_10 hq11
  have L2_11 : w2.heap.size < w11.heap.size := Nat.lt_of_lt_of_le L2_10 hq11
  have L6_11 : w6.heap.size < w11.heap.size := Nat.lt_of_lt_of_le L6_10 hq11
  have L7_11 : w7.heap.size < w11.heap.size := Nat.lt_of_lt_of_le L7_10 hq11
  have B_11 : Hid (Below w.heap.size w w11) := B_10.out.trans (hb11.mono B_10.out.size)
  clear hb hb11 hq11 C10_10 C11_10 C12_10 C20_10 C21_10 C22_10 C60_10 C61_10 C70_10 C71_10 L1_10 L2_10 L6_10 L7_10 B_10
  clear Q3 Q4 Q5 Q8 Q9 Q10 Q11
  have ev := eqv a b c x y z
  obtain ⟨bd, hbd⟩ : ∃ bd, bd = (p == f && q == g) := ⟨_, rfl⟩
  have ed := eqd p q f g
  rw [← hbd] at ed hmn
  have hmb : ((m == 0) == bd) = true ∧ (m == -n) = true ∧ -1 ≤ n ∧ n ≤ 1 := by
    rcases hmn.out with ⟨rfl, rfl, rfl⟩ | ⟨rfl, rfl, rfl⟩ | ⟨rfl, rfl, rfl⟩ <;> decide
  obtain ⟨hmb, hmn1, hn3, hn4⟩ := hmb
  clear hbd hmn
  have hB := B_11.out
  have hsz := hB.size
  have eh : hs = decide (q ≤ comp a b c p) := HH.out
  have hcp : w11.cell? ⟨w1.heap.size, p.toNat, none⟩ = some (.int .i64 (comp a b c p)) := by
    rcases HP.out with rfl | rfl | rfl
    · exact C10_11
    · exact C11_11
    · exact C12_11
  obtain ⟨cc, hcc⟩ : ∃ cc, cc = comp a b c p := ⟨_, rfl⟩
  rw [← hcc] at eh hcp
  clear hcc HP HH B_11
  rcases hrr.out with ⟨rfl, rfl, e1⟩ | ⟨rfl, rfl, e1⟩ | ⟨rfl, rfl, e1⟩ | ⟨rfl, rfl, e1⟩ <;> rw [e1] at ev <;> clear hrr e1
  all_goals
    as_aux_lemma =>
      go_wp2
      simp only [List.append_eq, List.cons_append, List.nil_append]
      go_region
      go_wp2
      go_ret
      exact ⟨rfl, (hB.alloc hsz _).drew⟩

theorem fnorder_law (ao : Option Addr) (len cap : Nat) (zs : List Int) (w : World) (hr1 : Gen.IsRow .u8 w ao len cap zs) (bo : Option Addr) (ln cp : Nat) (ys : List Int) (hr2 : Gen.IsRow .u8 w bo ln cp ys) :
    Calls Try.prog 4 #[.slice ao len cap, .slice bo ln cp] w fun e w' => e = .returned (.bool true) ∧ Below w.heap.size w w' := by
  by_cases h1 : 1048576 < (len : Int)
  · clear hr1 hr2
    go_enter Try.func4, Try.ntmps4
    go_wp2
    go_ret
    exact ⟨rfl, Below.refl _ _⟩
  · by_cases h2 : 1048576 < (ln : Int)
    · clear hr1 hr2
      go_enter Try.func4, Try.ntmps4
      go_wp2
      go_ret
      exact ⟨rfl, Below.refl _ _⟩
    · exact fnorder_main w ao len cap zs hr1 bo ln cp ys hr2 (by omega) (by omega)
end Go.Proofs.Ytlnpdcnjkjakiaa
