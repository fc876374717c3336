/- The law FnVv: what two know together is above both, what both know below; who knows an event added knows it. -/
import Derived.Test.YtlnpdcnjkjakiaaRows
import Derived.Test.YtlnpdcnjkjakiaaSrc
import Derived.Test.YtlnpdcnjkjakiaaVa
import Derived.Test.YtlnpdcnjkjakiaaVb
import Derived.Test.YtlnpdcnjkjakiaaVc
import Derived.Test.YtlnpdcnjkjakiaaVe
import Derived.Test.YtlnpdcnjkjakiaaDr
import Derived.WalkKit
import Derived.WalkSpells
import Derived.WalkLawsBesides
import Derived.Deep.QuietTactic
import Derived.BigQuiet
import Derived.Deep.RegionHeld3
import Derived.LoopN
namespace Go.Proofs.Ytlnpdcnjkjakiaa
open Go.RowKit
set_option linter.unusedSimpArgs false
set_option linter.unusedVariables false


theorem vvB_of {a b c : Int} (h : (0 ≤ a ∧ a ≤ 9999) ∧ (0 ≤ b ∧ b ≤ 9999) ∧ (0 ≤ c ∧ c ≤ 9999)) : vvB a b c = true := decide_eq_true h
theorem dotB_of {p q : Int} (h : 0 ≤ p ∧ p < 3 ∧ 1 ≤ q ∧ q ≤ 9999) : dotB p q = true := decide_eq_true h
theorem add_at (a b c p q : Int) (h0 : 0 ≤ p) (h3 : p < 3) : ∃ u v t : Int, (u = addV true 0 p a q ∧ v = addV true 1 p b q ∧ t = addV true 2 p c q) ∧ (p = 0 ∨ u = a) ∧ (p = 1 ∨ v = b) ∧ (p = 2 ∨ t = c) ∧ q ≤ comp u v t p ∧ (u = a ∨ u = q) ∧ (v = b ∨ v = q) ∧ (t = c ∨ t = q) := by
  refine ⟨_, _, _, ⟨rfl, rfl, rfl⟩, ?_⟩
  have hp : p = 0 ∨ p = 1 ∨ p = 2 := by omega
  rcases hp with rfl | rfl | rfl <;> simp [addV, comp] <;> (try split) <;> (try simp) <;> (try omega)


set_option maxRecDepth 100000 in
set_option maxHeartbeats 4000000 in
theorem fnvv_main (w : World) (ao : Option Addr) (len cap : Nat) (zs : List Int) (hr1 : Gen.IsRow .u8 w ao len cap zs) (bo : Option Addr) (ln cp : Nat) (ys : List Int) (hr2 : Gen.IsRow .u8 w bo ln cp ys) (hl1 : (len : Int) ≤ 1048576) (hl2 : (ln : Int) ≤ 1048576) :
    Calls Try.prog 3 #[.slice ao len cap, .slice bo ln cp] w fun e w' => e = .returned (.bool true) ∧ Below w.heap.size w w' := by
  have R1_0 : Hid (Gen.IsRow .u8 w ao len cap zs) := hr1
  have R2_0 : Hid (Gen.IsRow .u8 w bo ln cp ys) := hr2
  have B_0 : Hid (Below w.heap.size w w) := Below.refl _ _
  clear hr1 hr2
  have hn1 : ¬ 1048576 < (len : Int) := by omega
  have hn2 : ¬ 1048576 < (ln : Int) := by omega
  go_enter Try.func3, Try.ntmps3
  go_wp2_with fail
  refine (vvDrawn_any len cap ao zs _ R1_0.out hl1).mono ?_
  rintro e w1 ⟨a, b, c, ⟨⟨a0, a1⟩, ⟨b0, b1⟩, c0, c1⟩, rfl, hb⟩
  have hb1 : Below w.heap.size w w1 := hb
  have hq1 := hb1.size
  have R1_1 : Hid (Gen.IsRow .u8 w1 ao len cap zs) := row_below R1_0.out hb1
  have R2_1 : Hid (Gen.IsRow .u8 w1 bo ln cp ys) := row_below R2_0.out hb1
  have B_1 : Hid (Below w.heap.size w w1) := B_0.out.trans (hb1.mono B_0.out.size)
  clear hb hb1 hq1 R1_0 R2_0 B_0
  go_wp2_with fail
  refine (vvDrawn_any ln cp bo ys _ (row_alloc R2_1.out) hl2).mono ?_
  rintro e w2 ⟨x, y, z, ⟨⟨x0, x1⟩, ⟨y0, y1⟩, z0, z1⟩, rfl, hb⟩
  have hb2 : Below w1.heap.size w1 w2 := ((Below.refl _ _).alloc (Nat.le_refl _) _).trans (hb.mono (by simp))
  have hq2 := hb2.size
  have C10_2 := cell_next hb (b := w1.heap.size) (o := 0) (v := .int .i64 a) (by go_simp) (by simp)
  have C11_2 := cell_next hb (b := w1.heap.size) (o := 1) (v := .int .i64 b) (by go_simp) (by simp)
  have C12_2 := cell_next hb (b := w1.heap.size) (o := 2) (v := .int .i64 c) (by go_simp) (by simp)
  have L1_2 : w1.heap.size < w2.heap.size := by have := hb.size; simp at this; omega
  have R1_2 : Hid (Gen.IsRow .u8 w2 ao len cap zs) := row_below R1_1.out hb2
  have R2_2 : Hid (Gen.IsRow .u8 w2 bo ln cp ys) := row_below R2_1.out hb2
  have B_2 : Hid (Below w.heap.size w w2) := B_1.out.trans (hb2.mono B_1.out.size)
  clear hb hb2 hq2 R1_1 R2_1 B_1
  go_wp2_with fail
  refine (dotDrawn_any ln cp bo ys _ (row_alloc R2_2.out) hl2).mono ?_
  rintro e w3 ⟨p, q, ⟨⟨p0, p1⟩, q0, q1⟩, rfl, hb⟩
  have hb3 : Below w2.heap.size w2 w3 := ((Below.refl _ _).alloc (Nat.le_refl _) _).trans (hb.mono (by simp))
  have C10_3 := cell_next hb3 C10_2 L1_2
  have C11_3 := cell_next hb3 C11_2 L1_2
  have C12_3 := cell_next hb3 C12_2 L1_2
  have hq3 := hb3.size
  have L1_3 : w1.heap.size < w3.heap.size := Nat.lt_of_lt_of_le L1_2 hq3
  have C20_3 := cell_next hb (b := w2.heap.size) (o := 0) (v := .int .i64 x) (by go_simp) (by simp)
  have C21_3 := cell_next hb (b := w2.heap.size) (o := 1) (v := .int .i64 y) (by go_simp) (by simp)
  have C22_3 := cell_next hb (b := w2.heap.size) (o := 2) (v := .int .i64 z) (by go_simp) (by simp)
  have L2_3 : w2.heap.size < w3.heap.size := by have := hb.size; simp at this; omega
  have R1_3 : Hid (Gen.IsRow .u8 w3 ao len cap zs) := row_below R1_2.out hb3
  have R2_3 : Hid (Gen.IsRow .u8 w3 bo ln cp ys) := row_below R2_2.out hb3
  have B_3 : Hid (Below w.heap.size w w3) := B_2.out.trans (hb3.mono B_2.out.size)
  clear hb hb3 hq3 C10_2 C11_2 C12_2 L1_2 R1_2 R2_2 B_2
  have hva : vvB a b c = true := vvB_of (by omega)
  have hvx : vvB x y z = true := vvB_of (by omega)
  have hdp : dotB p q = true := dotB_of (by omega)
  obtain ⟨m, hm⟩ : ∃ m, (a < x ∧ m = x) ∨ (x ≤ a ∧ m = a) := ⟨_, mx_or a x⟩
  obtain ⟨n, hn⟩ : ∃ m, (b < y ∧ m = y) ∨ (y ≤ b ∧ m = b) := ⟨_, mx_or b y⟩
  obtain ⟨o, ho⟩ : ∃ m, (c < z ∧ m = z) ∨ (z ≤ c ∧ m = c) := ⟨_, mx_or c z⟩
  obtain ⟨l, hl⟩ : ∃ m, (x < a ∧ m = x) ∨ (a ≤ x ∧ m = a) := ⟨_, mn_or a x⟩
  obtain ⟨i, hi⟩ : ∃ m, (y < b ∧ m = y) ∨ (b ≤ y ∧ m = b) := ⟨_, mn_or b y⟩
  obtain ⟨j, hj⟩ : ∃ m, (z < c ∧ m = z) ∨ (c ≤ z ∧ m = c) := ⟨_, mn_or c z⟩
  have hvm : vvB m n o = true := vvB_of (by omega)
  have hvl : vvB l i j = true := vvB_of (by omega)
  obtain ⟨r1, hr1⟩ : ∃ r, r = ordR a b c m n o := ⟨_, rfl⟩
  obtain ⟨r2, hr2⟩ : ∃ r, r = ordR l i j x y z := ⟨_, rfl⟩
  have hr1' : r1 = 0 ∨ r1 = 1 := by rw [hr1]; unfold ordR; (repeat' split) <;> omega
  have hr2' : r2 = 0 ∨ r2 = 1 := by rw [hr2]; unfold ordR; (repeat' split) <;> omega
  obtain ⟨u, v, t, ⟨eu, ev, et⟩, k0, k1, k2, kq, ku, kv, kt⟩ := add_at a b c p q p0 p1
  have hvu : vvB u v t = true := vvB_of (by omega)
  have Q4 : Hid (∀ W, Calls Try.prog 7 #[.agg #[.int .i64 a, .int .i64 b, .int .i64 c], .agg #[.int .i64 x, .int .i64 y, .int .i64 z]] W fun e w' => e = .returned (.tuple #[.agg #[.int .i64 m, .int .i64 n, .int .i64 o], .int .i64 0]) ∧ Below W.heap.size W w') := fun W => impl_max_good a b c x y z m n o W hva hvx hm hn ho
  have Q5 : Hid (∀ W, Calls Try.prog 8 #[.agg #[.int .i64 a, .int .i64 b, .int .i64 c], .agg #[.int .i64 x, .int .i64 y, .int .i64 z]] W fun e w' => e = .returned (.tuple #[.agg #[.int .i64 l, .int .i64 i, .int .i64 j], .int .i64 0]) ∧ Below W.heap.size W w') := fun W => impl_min_good a b c x y z l i j W hva hvx hl hi hj
  have Q6 : Hid (∀ W, Calls Try.prog 9 #[.agg #[.int .i64 a, .int .i64 b, .int .i64 c], .agg #[.int .i64 m, .int .i64 n, .int .i64 o]] W fun e w' => e = .returned (.tuple #[.int .i64 r1, .int .i64 0]) ∧ Below W.heap.size W w') := fun W => by rw [hr1]; exact impl_order_all a b c m n o W hva hvm
  have Q7 : Hid (∀ W, Calls Try.prog 9 #[.agg #[.int .i64 l, .int .i64 i, .int .i64 j], .agg #[.int .i64 x, .int .i64 y, .int .i64 z]] W fun e w' => e = .returned (.tuple #[.int .i64 r2, .int .i64 0]) ∧ Below W.heap.size W w') := fun W => by rw [hr2]; exact impl_order_all l i j x y z W hvl hvx
  have Q8 : Hid (∀ W, Calls Try.prog 10 #[.agg #[.int .i64 a, .int .i64 b, .int .i64 c], .agg #[.int .i64 p, .int .i64 q]] W fun e w' => e = .returned (.tuple #[.agg #[.int .i64 u, .int .i64 v, .int .i64 t], .int .i64 0]) ∧ Below W.heap.size W w') := fun W => by
    have := impl_add a b c p q W
    rw [hva, hdp] at this
    rw [eu, ev, et]
    exact this
  have Q9 : Hid (∀ W, Calls Try.prog 11 #[.agg #[.int .i64 u, .int .i64 v, .int .i64 t], .agg #[.int .i64 p, .int .i64 q]] W fun e w' => e = .returned (.tuple #[.bool true, .int .i64 0]) ∧ Below W.heap.size W w') := fun W => by
    have := impl_has u v t p q W
    rw [hvu, hdp] at this
    have e1 : hasV (true && true) (comp u v t p) q = true := by simp [hasV, kq]
    rw [e1] at this
    exact this
  have Hm : Hid ((a < x ∧ m = x) ∨ (x ≤ a ∧ m = a)) := hm
  have Hn : Hid ((b < y ∧ n = y) ∨ (y ≤ b ∧ n = b)) := hn
  have Ho : Hid ((c < z ∧ o = z) ∨ (z ≤ c ∧ o = c)) := ho
  have Hl : Hid ((x < a ∧ l = x) ∨ (a ≤ x ∧ l = a)) := hl
  have Hi : Hid ((y < b ∧ i = y) ∨ (b ≤ y ∧ i = b)) := hi
  have Hj : Hid ((z < c ∧ j = z) ∨ (c ≤ z ∧ j = c)) := hj
  have K0 : Hid (p = 0 ∨ u = a) := k0
  have K1 : Hid (p = 1 ∨ v = b) := k1
  have K2 : Hid (p = 2 ∨ t = c) := k2
  have J1 : Hid (r1 = 0 ∨ r1 = 1) := hr1'
  have J2 : Hid (r2 = 0 ∨ r2 = 1) := hr2'
  have HM : Hid (vvB m n o = true) := hvm
  have HD : Hid (dotB p q = true) := hdp
  have hpp : 0 ≤ p ∧ p < 3 := ⟨p0, p1⟩
  clear hva hvx hdp hm hn ho hl hi hj hvm hvl hr1 hr2 hr1' hr2' eu ev et k0 k1 k2 kq ku kv kt hvu R1_3 R2_3

  go_wp2_with fail
  refine (Q4.out _).mono ?_
  rintro e w4 ⟨rfl, hb⟩
  have hb4 : Below w3.heap.size w3 w4 := ((Below.refl _ _).alloc (Nat.le_refl _) _).trans (hb.mono (by simp))
  have C10_4 := cell_next hb4 C10_3 L1_3
  have C11_4 := cell_next hb4 C11_3 L1_3
  have C12_4 := cell_next hb4 C12_3 L1_3
  have C20_4 := cell_next hb4 C20_3 L2_3
  have C21_4 := cell_next hb4 C21_3 L2_3
  have C22_4 := cell_next hb4 C22_3 L2_3
  have hq4 := hb4.size
  have L1_4 : w1.heap.size < w4.heap.size := Nat.lt_of_lt_of_le L1_3 hq4
  have L2_4 : w2.heap.size < w4.heap.size := Nat.lt_of_lt_of_le L2_3 hq4
  have C30_4 := cell_next hb (b := w3.heap.size) (o := 0) (v := .int .i64 p) (by go_simp) (by simp)
  have C31_4 := cell_next hb (b := w3.heap.size) (o := 1) (v := .int .i64 q) (by go_simp) (by simp)
  have L3_4 : w3.heap.size < w4.heap.size := by have := hb.size; simp at this; omega
  have B_4 : Hid (Below w.heap.size w w4) := B_3.out.trans (hb4.mono B_3.out.size)
  clear hb hb4 hq4 C10_3 C11_3 C12_3 C20_3 C21_3 C22_3 L1_3 L2_3 B_3
  go_wp2_with fail
  refine (Q5.out _).mono ?_
  rintro e w5 ⟨rfl, hb⟩
  have hb5 : Below w4.heap.size w4 w5 := ((Below.refl _ _).alloc (Nat.le_refl _) _).trans (hb.mono (by simp))
  have C10_5 := cell_next hb5 C10_4 L1_4
  have C11_5 := cell_next hb5 C11_4 L1_4
  have C12_5 := cell_next hb5 C12_4 L1_4
  have C20_5 := cell_next hb5 C20_4 L2_4
  have C21_5 := cell_next hb5 C21_4 L2_4
  have C22_5 := cell_next hb5 C22_4 L2_4
  have C30_5 := cell_next hb5 C30_4 L3_4
  have C31_5 := cell_next hb5 C31_4 L3_4
  have hq5 := hb5.size
  have L1_5 : w1.heap.size < w5.heap.size := Nat.lt_of_lt_of_le L1_4 hq5
  have L2_5 : w2.heap.size < w5.heap.size := Nat.lt_of_lt_of_le L2_4 hq5
  have L3_5 : w3.heap.size < w5.heap.size := Nat.lt_of_lt_of_le L3_4 hq5
  have C40_5 := cell_next hb (b := w4.heap.size) (o := 0) (v := .int .i64 m) (by go_simp) (by simp)
  have C41_5 := cell_next hb (b := w4.heap.size) (o := 1) (v := .int .i64 n) (by go_simp) (by simp)
  have C42_5 := cell_next hb (b := w4.heap.size) (o := 2) (v := .int .i64 o) (by go_simp) (by simp)
  have L4_5 : w4.heap.size < w5.heap.size := by have := hb.size; simp at this; omega
  have B_5 : Hid (Below w.heap.size w w5) := B_4.out.trans (hb5.mono B_4.out.size)
  clear hb hb5 hq5 C10_4 C11_4 C12_4 C20_4 C21_4 C22_4 C30_4 C31_4 L1_4 L2_4 L3_4 B_4
  go_wp2_with fail
  refine (Q6.out _).mono ?_
  rintro e w6 ⟨rfl, hb⟩
  have hb6 : Below w5.heap.size w5 w6 := ((Below.refl _ _).alloc (Nat.le_refl _) _).trans (hb.mono (by simp))
  have C10_6 := cell_next hb6 C10_5 L1_5
  have C11_6 := cell_next hb6 C11_5 L1_5
  have C12_6 := cell_next hb6 C12_5 L1_5
  have C20_6 := cell_next hb6 C20_5 L2_5
  have C21_6 := cell_next hb6 C21_5 L2_5
  have C22_6 := cell_next hb6 C22_5 L2_5
  have C30_6 := cell_next hb6 C30_5 L3_5
  have C31_6 := cell_next hb6 C31_5 L3_5
  have C40_6 := cell_next hb6 C40_5 L4_5
  have C41_6 := cell_next hb6 C41_5 L4_5
  have C42_6 := cell_next hb6 C42_5 L4_5
  have hq6 := hb6.size
  have L1_6 : w1.heap.size < w6.heap.size := Nat.lt_of_lt_of_le L1_5 hq6
  have L2_6 : w2.heap.size < w6.heap.size := Nat.lt_of_lt_of_le L2_5 hq6
  have L3_6 : w3.heap.size < w6.heap.size := Nat.lt_of_lt_of_le L3_5 hq6
  have L4_6 : w4.heap.size < w6.heap.size := Nat.lt_of_lt_of_le L4_5 hq6
  have C50_6 := cell_next hb (b := w5.heap.size) (o := 0) (v := .int .i64 l) (by go_simp) (by simp)
  have C51_6 := cell_next hb (b := w5.heap.size) (o := 1) (v := .int .i64 i) (by go_simp) (by simp)
  have C52_6 := cell_next hb (b := w5.heap.size) (o := 2) (v := .int .i64 j) (by go_simp) (by simp)
  have L5_6 : w5.heap.size < w6.heap.size := by have := hb.size; simp at this; omega
  have B_6 : Hid (Below w.heap.size w w6) := B_5.out.trans (hb6.mono B_5.out.size)
  clear hb hb6 hq6 C10_5 C11_5 C12_5 C20_5 C21_5 C22_5 C30_5 C31_5 C40_5 C41_5 C42_5 L1_5 L2_5 L3_5 L4_5 B_5
  go_wp2_with fail
  refine (Q7.out _).mono ?_
  rintro e w7 ⟨rfl, hb⟩
  have hb7 : Below w6.heap.size w6 w7 := hb
  have C10_7 := cell_next hb7 C10_6 L1_6
  have C11_7 := cell_next hb7 C11_6 L1_6
  have C12_7 := cell_next hb7 C12_6 L1_6
  have C20_7 := cell_next hb7 C20_6 L2_6
  have C21_7 := cell_next hb7 C21_6 L2_6
  have C22_7 := cell_next hb7 C22_6 L2_6
  have C30_7 := cell_next hb7 C30_6 L3_6
  have C31_7 := cell_next hb7 C31_6 L3_6
  have C40_7 := cell_next hb7 C40_6 L4_6
  have C41_7 := cell_next hb7 C41_6 L4_6
  have C42_7 := cell_next hb7 C42_6 L4_6
  have C50_7 := cell_next hb7 C50_6 L5_6
  have C51_7 := cell_next hb7 C51_6 L5_6
  have C52_7 := cell_next hb7 C52_6 L5_6
  have hq7 := hb7.size
  have L1_7 : w1.heap.size < w7.heap.size := Nat.lt_of_lt_of_le L1_6 hq7
  have L2_7 : w2.heap.size < w7.heap.size := Nat.lt_of_lt_of_le L2_6 hq7
  have L3_7 : w3.heap.size < w7.heap.size := Nat.lt_of_lt_of_le L3_6 hq7
  have L4_7 : w4.heap.size < w7.heap.size := Nat.lt_of_lt_of_le L4_6 hq7
  have L5_7 : w5.heap.size < w7.heap.size := Nat.lt_of_lt_of_le L5_6 hq7
  have B_7 : Hid (Below w.heap.size w w7) := B_6.out.trans (hb7.mono B_6.out.size)
  clear hb hb7 hq7 C10_6 C11_6 C12_6 C20_6 C21_6 C22_6 C30_6 C31_6 C40_6 C41_6 C42_6 C50_6 C51_6 C52_6 L1_6 L2_6 L3_6 L4_6 L5_6 B_6
  go_wp2_with fail
  refine (Q8.out _).mono ?_
  rintro e w8 ⟨rfl, hb⟩
  have hb8 : Below w7.heap.size w7 w8 := hb
  have C10_8 := cell_next hb8 C10_7 L1_7
  have C11_8 := cell_next hb8 C11_7 L1_7
  have C12_8 := cell_next hb8 C12_7 L1_7
  have C20_8 := cell_next hb8 C20_7 L2_7
  have C21_8 := cell_next hb8 C21_7 L2_7
  have C22_8 := cell_next hb8 C22_7 L2_7
  have C30_8 := cell_next hb8 C30_7 L3_7
  have C31_8 := cell_next hb8 C31_7 L3_7
  have C40_8 := cell_next hb8 C40_7 L4_7
  have C41_8 := cell_next hb8 C41_7 L4_7
  have C42_8 := cell_next hb8 C42_7 L4_7
  have C50_8 := cell_next hb8 C50_7 L5_7
  have C51_8 := cell_next hb8 C51_7 L5_7
  have C52_8 := cell_next hb8 C52_7 L5_7
  have hq8 := hb8.size
  have L1_8 : w1.heap.size < w8.heap.size := Nat.lt_of_lt_of_le L1_7 hq8
  have L2_8 : w2.heap.size < w8.heap.size := Nat.lt_of_lt_of_le L2_7 hq8
  have L3_8 : w3.heap.size < w8.heap.size := Nat.lt_of_lt_of_le L3_7 hq8
  have L4_8 : w4.heap.size < w8.heap.size := Nat.lt_of_lt_of_le L4_7 hq8
  have L5_8 : w5.heap.size < w8.heap.size := Nat.lt_of_lt_of_le L5_7 hq8
  have B_8 : Hid (Below w.heap.size w w8) := B_7.out.trans (hb8.mono B_7.out.size)
  clear hb hb8 hq8 C10_7 C11_7 C12_7 C20_7 C21_7 C22_7 C30_7 C31_7 C40_7 C41_7 C42_7 C50_7 C51_7 C52_7 L1_7 L2_7 L3_7 L4_7 L5_7 B_7
  go_wp2_with fail
  refine (Q9.out _).mono ?_
  rintro e w9 ⟨rfl, hb⟩
  have hb9 : Below w8.heap.size w8 w9 := ((Below.refl _ _).alloc (Nat.le_refl _) _).trans (hb.mono (by simp))
  have C10_9 := cell_next hb9 C10_8 L1_8
  have C11_9 := cell_next hb9 C11_8 L1_8
  have C12_9 := cell_next hb9 C12_8 L1_8
  have C20_9 := cell_next hb9 C20_8 L2_8
  have C21_9 := cell_next hb9 C21_8 L2_8
  have C22_9 := cell_next hb9 C22_8 L2_8
  have C30_9 := cell_next hb9 C30_8 L3_8
  have C31_9 := cell_next hb9 C31_8 L3_8
  have C40_9 := cell_next hb9 C40_8 L4_8
  have C41_9 := cell_next hb9 C41_8 L4_8
  have C42_9 := cell_next hb9 C42_8 L4_8
  have C50_9 := cell_next hb9 C50_8 L5_8
  have C51_9 := cell_next hb9 C51_8 L5_8
  have C52_9 := cell_next hb9 C52_8 L5_8
  have hq9 := hb9.size
  have L1_9 : w1.heap.size < w9.heap.size := Nat.lt_of_lt_of_le L1_8 hq9
  have L2_9 : w2.heap.size < w9.heap.size := Nat.lt_of_lt_of_le L2_8 hq9
  have L3_9 : w3.heap.size < w9.heap.size := Nat.lt_of_lt_of_le L3_8 hq9
  have L4_9 : w4.heap.size < w9.heap.size := Nat.lt_of_lt_of_le L4_8 hq9
  have L5_9 : w5.heap.size < w9.heap.size := Nat.lt_of_lt_of_le L5_8 hq9
  have C80_9 := cell_next hb (b := w8.heap.size) (o := 0) (v := .int .i64 u) (by go_simp) (by simp)
  have C81_9 := cell_next hb (b := w8.heap.size) (o := 1) (v := .int .i64 v) (by go_simp) (by simp)
  have C82_9 := cell_next hb (b := w8.heap.size) (o := 2) (v := .int .i64 t) (by go_simp) (by simp)
  have L8_9 : w8.heap.size < w9.heap.size := by have := hb.size; simp at this; omega
  have B_9 : Hid (Below w.heap.size w w9) := B_8.out.trans (hb9.mono B_8.out.size)
  clear hb hb9 hq9 C10_8 C11_8 C12_8 C20_8 C21_8 C22_8 C30_8 C31_8 C40_8 C41_8 C42_8 C50_8 C51_8 C52_8 L1_8 L2_8 L3_8 L4_8 L5_8 B_8
  clear Q4 Q5 Q6 Q7 Q8 Q9
  go_wp2_with fail
  go_loopw [20] (fun s20 wr => ∃ k : Nat, k ≤ 3 ∧ s20 = .int .i64 k ∧ wr.cell? ⟨w1.heap.size, 0, none⟩ = some (.int .i64 a) ∧ wr.cell? ⟨w1.heap.size, 1, none⟩ = some (.int .i64 b) ∧ wr.cell? ⟨w1.heap.size, 2, none⟩ = some (.int .i64 c) ∧ wr.cell? ⟨w2.heap.size, 0, none⟩ = some (.int .i64 x) ∧ wr.cell? ⟨w2.heap.size, 1, none⟩ = some (.int .i64 y) ∧ wr.cell? ⟨w2.heap.size, 2, none⟩ = some (.int .i64 z) ∧ wr.cell? ⟨w3.heap.size, 0, none⟩ = some (.int .i64 p) ∧ wr.cell? ⟨w3.heap.size, 1, none⟩ = some (.int .i64 q) ∧ wr.cell? ⟨w4.heap.size, 0, none⟩ = some (.int .i64 m) ∧ wr.cell? ⟨w4.heap.size, 1, none⟩ = some (.int .i64 n) ∧ wr.cell? ⟨w4.heap.size, 2, none⟩ = some (.int .i64 o) ∧ wr.cell? ⟨w5.heap.size, 0, none⟩ = some (.int .i64 l) ∧ wr.cell? ⟨w5.heap.size, 1, none⟩ = some (.int .i64 i) ∧ wr.cell? ⟨w5.heap.size, 2, none⟩ = some (.int .i64 j) ∧ wr.cell? ⟨w8.heap.size, 0, none⟩ = some (.int .i64 u) ∧ wr.cell? ⟨w8.heap.size, 1, none⟩ = some (.int .i64 v) ∧ wr.cell? ⟨w8.heap.size, 2, none⟩ = some (.int .i64 t) ∧ w1.heap.size < wr.heap.size ∧ w2.heap.size < wr.heap.size ∧ w3.heap.size < wr.heap.size ∧ w4.heap.size < wr.heap.size ∧ w5.heap.size < wr.heap.size ∧ w8.heap.size < wr.heap.size ∧ Below w.heap.size w wr) (fun s20 _ => 3 - (intOf s20).toNat)
  case atStart => exact ⟨0, by omega, rfl, C10_9, C11_9, C12_9, C20_9, C21_9, C22_9, C30_9, C31_9, C40_9, C41_9, C42_9, C50_9, C51_9, C52_9, C80_9, C81_9, C82_9, L1_9, L2_9, L3_9, L4_9, L5_9, L8_9, B_9.out⟩
  case round =>
    obtain ⟨k, hk, rfl, C10, C11, C12, C20, C21, C22, C30, C31, C40, C41, C42, C50, C51, C52, C80, C81, C82, L1, L2, L3, L4, L5, L8, hB⟩ := hrel
    have hB' : Hid (Below w.heap.size w wr) := hB
    clear hB
    have hkc : k = 0 ∨ k = 1 ∨ k = 2 ∨ k = 3 := by omega
    rcases hkc with rfl | rfl | rfl | rfl
    · rcases Hm.out with ⟨g1, g2⟩ | ⟨g1, g2⟩ <;> rcases Hl.out with ⟨g3, g4⟩ | ⟨g3, g4⟩ <;> by_cases g5 : p = 0
      all_goals first
        | (exfalso; omega)
        | skip
      all_goals
        as_aux_lemma =>
          have g6 : p = 0 ∨ u = a := K0.out
          rcases g6 with g7 | g7
          all_goals first
            | (exfalso; omega)
            | skip
          all_goals
            clear Hm Hn Ho Hl Hi Hj K0 K1 K2
            first
              | (subst g5; subst g2; subst g4)
              | (have g8 : ((0 : Int) == p) = false := beq_eq_false_iff_ne.2 (by omega); have g9 : ((0 : Int) != p) = true := bne_iff_ne.2 (by omega); have g10 : ¬ ((0 : Int) = p) := (by omega); clear g5; subst g2; subst g4; subst g7)
            go_wp2
            go_quiet (fail)
            go_wp2
            go_roundw
            case rel => exact ⟨1, by omega, rfl, C10, C11, C12, C20, C21, C22, C30, C31, C40, C41, C42, C50, C51, C52, C80, C81, C82, L1, L2, L3, L4, L5, L8, below_drewN hB'.out _⟩
            case measure => simp [intOf]
    · rcases Hn.out with ⟨g1, g2⟩ | ⟨g1, g2⟩ <;> rcases Hi.out with ⟨g3, g4⟩ | ⟨g3, g4⟩ <;> by_cases g5 : p = 1
      all_goals first
        | (exfalso; omega)
        | skip
      all_goals
        as_aux_lemma =>
          have g6 : p = 1 ∨ v = b := K1.out
          rcases g6 with g7 | g7
          all_goals first
            | (exfalso; omega)
            | skip
          all_goals
            clear Hm Hn Ho Hl Hi Hj K0 K1 K2
            first
              | (subst g5; subst g2; subst g4)
              | (have g8 : ((1 : Int) == p) = false := beq_eq_false_iff_ne.2 (by omega); have g9 : ((1 : Int) != p) = true := bne_iff_ne.2 (by omega); have g10 : ¬ ((1 : Int) = p) := (by omega); clear g5; subst g2; subst g4; subst g7)
            go_wp2
            go_quiet (fail)
            go_wp2
            go_roundw
            case rel => exact ⟨2, by omega, rfl, C10, C11, C12, C20, C21, C22, C30, C31, C40, C41, C42, C50, C51, C52, C80, C81, C82, L1, L2, L3, L4, L5, L8, below_drewN hB'.out _⟩
            case measure => simp [intOf]
    · rcases Ho.out with ⟨g1, g2⟩ | ⟨g1, g2⟩ <;> rcases Hj.out with ⟨g3, g4⟩ | ⟨g3, g4⟩ <;> by_cases g5 : p = 2
      all_goals first
        | (exfalso; omega)
        | skip
      all_goals
        as_aux_lemma =>
          have g6 : p = 2 ∨ t = c := K2.out
          rcases g6 with g7 | g7
          all_goals first
            | (exfalso; omega)
            | skip
          all_goals
            clear Hm Hn Ho Hl Hi Hj K0 K1 K2
            first
              | (subst g5; subst g2; subst g4)
              | (have g8 : ((2 : Int) == p) = false := beq_eq_false_iff_ne.2 (by omega); have g9 : ((2 : Int) != p) = true := bne_iff_ne.2 (by omega); have g10 : ¬ ((2 : Int) = p) := (by omega); clear g5; subst g2; subst g4; subst g7)
            go_wp2
            go_quiet (fail)
            go_wp2
            go_roundw
            case rel => exact ⟨3, by omega, rfl, C10, C11, C12, C20, C21, C22, C30, C31, C40, C41, C42, C50, C51, C52, C80, C81, C82, L1, L2, L3, L4, L5, L8, below_drewN hB'.out _⟩
            case measure => simp [intOf]
    · rcases J1.out with rfl | rfl <;> rcases J2.out with rfl | rfl
      all_goals
        as_aux_lemma =>
          have hM := HM.out
          have hD := HD.out
          clear Hm Hn Ho Hl Hi Hj K0 K1 K2 J1 J2
          go_wp2_with fail
          refine (impl_vv _ _ _ _).mono ?_
          rintro e wv ⟨rfl, hb⟩
          have hq := hb.size
          have d0 := cell_next hb C30 L3
          have d1 := cell_next hb C31 L3
          have hB2 : Hid (Below w.heap.size w wv) := hB'.out.trans (hb.mono hB'.out.size)
          clear hb hB'
          go_wp2_with fail
          refine (impl_dot _ _ _).mono ?_
          rintro e wd ⟨rfl, hb⟩
          go_wp2
          go_ret
          exact ⟨rfl, hB2.out.trans (hb.mono hB2.out.size)⟩

theorem fnvv_law (ao : Option Addr) (len cap : Nat) (zs : List Int) (w : World) (hr1 : Gen.IsRow .u8 w ao len cap zs) (bo : Option Addr) (ln cp : Nat) (ys : List Int) (hr2 : Gen.IsRow .u8 w bo ln cp ys) :
    Calls Try.prog 3 #[.slice ao len cap, .slice bo ln cp] w fun e w' => e = .returned (.bool true) ∧ Below w.heap.size w w' := by
  by_cases h1 : 1048576 < (len : Int)
  · clear hr1 hr2
    go_enter Try.func3, Try.ntmps3
    go_wp2
    go_ret
    exact ⟨rfl, Below.refl _ _⟩
  · by_cases h2 : 1048576 < (ln : Int)
    · clear hr1 hr2
      go_enter Try.func3, Try.ntmps3
      go_wp2
      go_ret
      exact ⟨rfl, Below.refl _ _⟩
    · exact fnvv_main w ao len cap zs hr1 bo ln cp ys hr2 (by omega) (by omega)
end Go.Proofs.Ytlnpdcnjkjakiaa
