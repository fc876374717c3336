/- DotText of both sides, and the law's walk. -/
import Derived.Test.YtjgbmbnccjmkkaaDoorRows
import Derived.WalkKit
import Derived.WalkSpells
import Derived.WalkLawsBesides
import Derived.Deep.QuietTactic
import Derived.BigQuiet
import Derived.Deep.RegionHeld3
import Derived.Test.YtjgbmbnccjmkkaaDoorDt
namespace Go.Proofs.YtjgbmbnccjmkkaaDoor
open Go.RowKit
set_option linter.unusedSimpArgs false
set_option linter.unusedVariables false

def dtS (a b : Int) : ByteArray := if dotB a b = true then ⟨(UInt8.ofNat (97 + a.toNat) :: dsN b.toNat).toArray⟩ else ⟨#[]⟩
def dtC (a b : Int) : Int := if dotB a b = true then 0 else 1
theorem dtS_yes {a b : Int} (h : dotB a b = true) : dtS a b = ⟨(UInt8.ofNat (97 + a.toNat) :: dsN b.toNat).toArray⟩ := if_pos h
theorem dtS_no {a b : Int} (h : dotB a b = false) : dtS a b = ⟨#[]⟩ := if_neg (by simp [h])
theorem dtC_yes {a b : Int} (h : dotB a b = true) : dtC a b = 0 := if_pos h
theorem dtC_no {a b : Int} (h : dotB a b = false) : dtC a b = 1 := if_neg (by simp [h])
theorem ret2 {s t : ByteArray} {a b : Int} (h : s = t) (k : a = b) : Ending.returned (.tuple #[.string s, .int .i64 a]) = .returned (.tuple #[.string t, .int .i64 b]) := by rw [h, k]
theorem dotB_iff {a b : Int} : dotB a b = true ↔ 0 ≤ a ∧ a < 3 ∧ 1 ≤ b ∧ b ≤ 9999 := by simp [dotB]
theorem spec_text' (a b : Int) (h : dotB a b = true) (w : World) :
    Calls Tryd.prog 8 #[.agg #[.int .i64 a, .int .i64 b]] w fun e w' => e = .returned (.string (dtS a b)) ∧ Below w.heap.size w w' := by
  have hd := dotB_iff.1 h
  rw [dtS_yes h]
  obtain ⟨n, rfl⟩ : ∃ n : Nat, b = (n : Int) := ⟨b.toNat, by omega⟩
  exact spec_text a _ n (by omega) (by omega) (show _ = _ by rw [u8_small _ (by omega)]; omega) (by omega) w
theorem impl_text' (a b : Int) (h : dotB a b = true) (w : World) (ht : TB w) :
    Calls Tryd.prog 10 #[.agg #[.int .i64 a, .int .i64 b]] w fun e w' => e = .returned (.string (dtS a b)) ∧ Below w.heap.size w w' := by
  have hd := dotB_iff.1 h
  rw [dtS_yes h]
  obtain ⟨n, rfl⟩ : ∃ n : Nat, b = (n : Int) := ⟨b.toNat, by omega⟩
  have hk : a = 0 ∨ a = 1 ∨ a = 2 := by omega
  rcases hk with rfl | rfl | rfl
  · exact impl_text0 n (by omega) w ht
  · exact impl_text1 n (by omega) w ht
  · exact impl_text2 n (by omega) w ht

set_option maxHeartbeats 1000000 in
theorem spec_full (a b : Int) (w : World) :
    Calls Tryd.prog 4 #[.agg #[.int .i64 a, .int .i64 b]] w fun e w' => e = .returned (.tuple #[.string (dtS a b), .int .i64 (dtC a b)]) ∧ Below w.heap.size w w' := by
  have B0 : Hid (Below w.heap.size w (w.alloc (.cells #[.int .i64 a, .int .i64 b] 26))) := bel_alloc _ _
  have HS : Hid (dotB a b = false → dtS a b = ⟨#[]⟩ ∧ dtC a b = 1) := fun h => ⟨dtS_no h, dtC_no h⟩
  have HY : Hid (dotB a b = true → dtC a b = 0) := fun h => dtC_yes h
  obtain ⟨r, hr⟩ : ∃ r, dotB a b = r := ⟨_, rfl⟩
  have HR : Hid (dotB a b = r) := hr
  have D : Hid (∀ W, Calls Tryd.prog 7 #[.agg #[.int .i64 a, .int .i64 b]] W fun e w' => e = .returned (.bool r) ∧ Below W.heap.size W w') := fun W => by have := spec_dot a b W; rw [hr] at this; exact this
  clear hr
  cases r with
  | false =>
    go_enter Tryd.func4, Tryd.ntmps4
    go_wp2_with (go_at_call 7; refine (D.out _).mono ?_; rintro e w1 ⟨rfl, hb⟩)
    go_ret2
    exact ⟨ret2 (HS.out HR.out).1.symm (HS.out HR.out).2.symm, (bel_next B0 hb).out⟩
  | true =>
    go_enter Tryd.func4, Tryd.ntmps4
    go_wp2_with (first
      | (go_at_call 7; refine (D.out _).mono ?_; rintro e w1 ⟨rfl, hb⟩; have hc := cell_next hb (b := w.heap.size) (o := 0) (v := .int .i64 a) (by go_simp) (by simp); have hc' := cell_next hb (b := w.heap.size) (o := 1) (v := .int .i64 b) (by go_simp) (by simp))
      | (go_at_call 8; refine (spec_text' a b HR.out _).mono ?_; rintro e w2 ⟨rfl, hb2⟩))
    go_ret2
    exact ⟨ret2 rfl (HY.out HR.out).symm, (bel_next (bel_next B0 hb) hb2).out⟩

set_option maxHeartbeats 1000000 in
theorem impl_full (a b : Int) (w : World) (ht : Hid (TB w)) :
    Calls Tryd.prog 6 #[.agg #[.int .i64 a, .int .i64 b]] w fun e w' => e = .returned (.tuple #[.string (dtS a b), .int .i64 (dtC a b)]) ∧ Below w.heap.size w w' := by
  have B0 : Hid (Below w.heap.size w (w.alloc (.cells #[.int .i64 a, .int .i64 b] 26))) := bel_alloc _ _
  have HS : Hid (dotB a b = false → dtS a b = ⟨#[]⟩ ∧ dtC a b = 1) := fun h => ⟨dtS_no h, dtC_no h⟩
  have HY : Hid (dotB a b = true → dtC a b = 0) := fun h => dtC_yes h
  obtain ⟨r, hr⟩ : ∃ r, dotB a b = r := ⟨_, rfl⟩
  have HR : Hid (dotB a b = r) := hr
  have D : Hid (∀ W, Calls Tryd.prog 9 #[.agg #[.int .i64 a, .int .i64 b]] W fun e w' => e = .returned (.bool r) ∧ Below W.heap.size W w') := fun W => by have := impl_dot a b W; rw [hr] at this; exact this
  clear hr
  cases r with
  | false =>
    go_enter Tryd.func6, Tryd.ntmps6
    go_wp2_with (go_at_call 9; refine (D.out _).mono ?_; rintro e w1 ⟨rfl, hb⟩)
    go_ret2
    exact ⟨ret2 (HS.out HR.out).1.symm (HS.out HR.out).2.symm, (bel_next B0 hb).out⟩
  | true =>
    go_enter Tryd.func6, Tryd.ntmps6
    go_wp2_with (first
      | (go_at_call 9; refine (D.out _).mono ?_; rintro e w1 ⟨rfl, hb⟩; have hc := cell_next hb (b := w.heap.size) (o := 0) (v := .int .i64 a) (by go_simp) (by simp); have hc' := cell_next hb (b := w.heap.size) (o := 1) (v := .int .i64 b) (by go_simp) (by simp))
      | (go_at_call 10; refine (impl_text' a b HR.out _ ((show TB w from ht.out).next (bel_next (B0 : Hid _) hb).out)).mono ?_; rintro e w2 ⟨rfl, hb2⟩))
    go_ret2
    exact ⟨ret2 rfl (HY.out HR.out).symm, (bel_next (bel_next B0 hb) hb2).out⟩

set_option maxHeartbeats 1000000 in
theorem dotText_law (a b : Int) (_wa : (Lit.int .i64 a).wf = true) (_wb : (Lit.int .i64 b).wf = true) (w : World) (hc : TB w) :
    Calls Tryd.prog 3 #[.agg #[.int .i64 a, .int .i64 b]] w fun e w' => e = .returned (.bool true) ∧ Below w.heap.size w w' := by
  clear _wa _wb
  have ht : Hid (TB w) := hc
  clear hc
  have B0 : Hid (Below w.heap.size w (w.alloc (.cells #[.int .i64 a, .int .i64 b] 23))) := bel_alloc _ _
  go_enter Tryd.func3, Tryd.ntmps3
  go_wp2_with fail
  refine (toDot_any a b _).mono ?_
  rintro e w1 ⟨rfl, hb⟩
  have ca := cell_next hb (b := w.heap.size) (o := 0) (v := .int .i64 a) (by go_simp) (by simp)
  have cb := cell_next hb (b := w.heap.size) (o := 1) (v := .int .i64 b) (by go_simp) (by simp)
  replace B0 := bel_next B0 hb
  have hz : w.heap.size < w1.heap.size := Nat.lt_of_lt_of_le (by simp) hb.size
  clear hb
  go_wp2_with fail
  refine (spec_full a b _).mono ?_
  rintro e w2 ⟨rfl, hb⟩
  replace ca := cell_next hb ca hz
  replace cb := cell_next hb cb hz
  replace B0 := bel_next B0 hb
  replace hz : w.heap.size < w2.heap.size := Nat.lt_of_lt_of_le hz hb.size
  clear hb
  go_wp2_with fail
  refine (toDot_any a b _).mono ?_
  rintro e w3 ⟨rfl, hb⟩
  replace B0 := bel_next B0 hb
  clear hb
  go_wp2_with fail
  refine (impl_full a b _ ((show TB w from ht.out).next B0.out)).mono ?_
  rintro e w4 ⟨rfl, hb⟩
  replace B0 := bel_next B0 hb
  clear hb
  go_wp2
  go_ret
  exact ⟨rfl, B0.out⟩
end Go.Proofs.YtjgbmbnccjmkkaaDoor
