/- VvText of both sides, and the law's walk. -/
import Derived.Test.YtmkdmedekgndkaaDoorRows
import Derived.WalkKit
import Derived.WalkSpells
import Derived.WalkLawsBesides
import Derived.Deep.QuietTactic
import Derived.BigQuiet
import Derived.Deep.RegionHeld3
import Derived.Test.YtmkdmedekgndkaaDoorVs
namespace Go.Proofs.YtmkdmedekgndkaaDoor
open Go.RowKit
set_option linter.unusedSimpArgs false
set_option linter.unusedVariables false

def vtL (a b c : Int) : List UInt8 := vj (dsN a.toNat) (dsN b.toNat) (dsN c.toNat)
def vtS (a b c : Int) : ByteArray := if vvB a b c = true then ⟨(vtL a b c).toArray⟩ else ⟨#[]⟩
def vtC (a b c : Int) : Int := if vvB a b c = true then 0 else 1
theorem vret2 {s t : ByteArray} {a b : Int} (h : s = t) (k : a = b) : Ending.returned (.tuple #[.string s, .int .i64 a]) = .returned (.tuple #[.string t, .int .i64 b]) := by rw [h, k]
theorem vvB_iff {a b c : Int} : vvB a b c = true ↔ (0 ≤ a ∧ a ≤ 9999) ∧ (0 ≤ b ∧ b ≤ 9999) ∧ (0 ≤ c ∧ c ≤ 9999) := by simp [vvB]
theorem dig_at (a : Int) (h0 : 0 ≤ a) (h1 : a ≤ 9999) (W : World) : Calls Tryd.prog 36 #[.int .i64 a] W fun e w' => e = .returned (.string ⟨(dsN a.toNat).toArray⟩) ∧ Below W.heap.size W w' := by
  obtain ⟨n, rfl⟩ : ∃ n : Nat, a = (n : Int) := ⟨a.toNat, by omega⟩
  exact digits_any (n + 1) n (by omega) (by omega) W
theorem itoa_at (a : Int) (h0 : 0 ≤ a) (h1 : a ≤ 9999) (W : World) (ht : TB W) : Calls Tryd.prog 37 #[.int .i64 a] W fun e w' => e = .returned (.string ⟨(dsN a.toNat).toArray⟩) ∧ Below W.heap.size W w' := by
  obtain ⟨n, rfl⟩ : ∃ n : Nat, a = (n : Int) := ⟨a.toNat, by omega⟩
  exact itoa_any n (by omega) W ht
theorem ds_le (a : Int) (h1 : a ≤ 9999) : (dsN a.toNat).length ≤ 20000 := by have := dsN_len a.toNat; omega
theorem spec_vtext' (a b c : Int) (h : vvB a b c = true) (w : World) :
    Calls Tryd.prog 22 #[(.agg #[.int .i64 a, .int .i64 b, .int .i64 c])] w fun e w' => e = .returned (.string (vtS a b c)) ∧ Below w.heap.size w w' := by
  have hd := vvB_iff.1 h
  have e : vtS a b c = ⟨(vtL a b c).toArray⟩ := if_pos h
  rw [e]
  exact spec_vtext a b c _ _ _ w (fun W => dig_at a (by omega) (by omega) W) (fun W => dig_at b (by omega) (by omega) W) (fun W => dig_at c (by omega) (by omega) W) (ds_le a (by omega)) (ds_le b (by omega)) (ds_le c (by omega))
theorem impl_vtext' (a b c : Int) (h : vvB a b c = true) (w : World) (ht : TB w) :
    Calls Tryd.prog 24 #[(.agg #[.int .i64 a, .int .i64 b, .int .i64 c])] w fun e w' => e = .returned (.string (vtS a b c)) ∧ Below w.heap.size w w' := by
  have hd := vvB_iff.1 h
  have e : vtS a b c = ⟨(vtL a b c).toArray⟩ := if_pos h
  rw [e]
  refine impl_vtext a b c _ _ _ w ht (fun W k => itoa_at a (by omega) (by omega) W k) (fun W k => itoa_at b (by omega) (by omega) W k) (fun W k => itoa_at c (by omega) (by omega) W k) ?_
  have h1 := ds_le a (by omega)
  have h2 := ds_le b (by omega)
  have h3 := ds_le c (by omega)
  show (vj _ _ _).length ≤ _
  simp [vj]
  omega

set_option maxHeartbeats 1000000 in
theorem spec_vfull (a b c : Int) (w : World) :
    Calls Tryd.prog 9 #[(.agg #[.int .i64 a, .int .i64 b, .int .i64 c])] w fun e w' => e = .returned (.tuple #[.string (vtS a b c), .int .i64 (vtC a b c)]) ∧ Below w.heap.size w w' := by
  have B0 : Hid (Below w.heap.size w (w.alloc (.cells #[.int .i64 a, .int .i64 b, .int .i64 c] 31))) := bel_alloc _ _
  have HS : Hid (vvB a b c = false → vtS a b c = ⟨#[]⟩ ∧ vtC a b c = 1) := fun h => ⟨if_neg (by simp [h]), if_neg (by simp [h])⟩
  have HY : Hid (vvB a b c = true → vtC a b c = 0) := fun h => if_pos h
  obtain ⟨r, hr⟩ : ∃ r, vvB a b c = r := ⟨_, rfl⟩
  have HR : Hid (vvB a b c = r) := hr
  have D : Hid (∀ W, Calls Tryd.prog 21 #[(.agg #[.int .i64 a, .int .i64 b, .int .i64 c])] W fun e w' => e = .returned (.bool r) ∧ Below W.heap.size W w') := fun W => by have := spec_vv a b c W; rw [hr] at this; exact this
  clear hr
  cases r with
  | false =>
    go_enter Tryd.func9, Tryd.ntmps9
    go_wp2_with (go_at_call 21; refine (D.out _).mono ?_; rintro e w1 ⟨rfl, hb⟩)
    go_ret2
    exact ⟨vret2 (HS.out HR.out).1.symm (HS.out HR.out).2.symm, (bel_next B0 hb).out⟩
  | true =>
    go_enter Tryd.func9, Tryd.ntmps9
    go_wp2_with (first
      | (go_at_call 21; refine (D.out _).mono ?_; rintro e w1 ⟨rfl, hb⟩; have hc0 := cell_next hb (b := w.heap.size) (o := 0) (v := .int .i64 a) (by go_simp) (by simp); have hc1 := cell_next hb (b := w.heap.size) (o := 1) (v := .int .i64 b) (by go_simp) (by simp); have hc2 := cell_next hb (b := w.heap.size) (o := 2) (v := .int .i64 c) (by go_simp) (by simp))
      | (go_at_call 22; refine (spec_vtext' a b c HR.out _).mono ?_; rintro e w2 ⟨rfl, hb2⟩))
    go_ret2
    exact ⟨vret2 rfl (HY.out HR.out).symm, (bel_next (bel_next B0 hb) hb2).out⟩

set_option maxHeartbeats 1000000 in
theorem impl_vfull (a b c : Int) (w : World) (ht : Hid (TB w)) :
    Calls Tryd.prog 11 #[(.agg #[.int .i64 a, .int .i64 b, .int .i64 c])] w fun e w' => e = .returned (.tuple #[.string (vtS a b c), .int .i64 (vtC a b c)]) ∧ Below w.heap.size w w' := by
  have B0 : Hid (Below w.heap.size w (w.alloc (.cells #[.int .i64 a, .int .i64 b, .int .i64 c] 31))) := bel_alloc _ _
  have HS : Hid (vvB a b c = false → vtS a b c = ⟨#[]⟩ ∧ vtC a b c = 1) := fun h => ⟨if_neg (by simp [h]), if_neg (by simp [h])⟩
  have HY : Hid (vvB a b c = true → vtC a b c = 0) := fun h => if_pos h
  obtain ⟨r, hr⟩ : ∃ r, vvB a b c = r := ⟨_, rfl⟩
  have HR : Hid (vvB a b c = r) := hr
  have D : Hid (∀ W, Calls Tryd.prog 23 #[(.agg #[.int .i64 a, .int .i64 b, .int .i64 c])] W fun e w' => e = .returned (.bool r) ∧ Below W.heap.size W w') := fun W => by have := impl_vv a b c W; rw [hr] at this; exact this
  clear hr
  cases r with
  | false =>
    go_enter Tryd.func11, Tryd.ntmps11
    go_wp2_with (go_at_call 23; refine (D.out _).mono ?_; rintro e w1 ⟨rfl, hb⟩)
    go_ret2
    exact ⟨vret2 (HS.out HR.out).1.symm (HS.out HR.out).2.symm, (bel_next B0 hb).out⟩
  | true =>
    go_enter Tryd.func11, Tryd.ntmps11
    go_wp2_with (first
      | (go_at_call 23; refine (D.out _).mono ?_; rintro e w1 ⟨rfl, hb⟩; have hc0 := cell_next hb (b := w.heap.size) (o := 0) (v := .int .i64 a) (by go_simp) (by simp); have hc1 := cell_next hb (b := w.heap.size) (o := 1) (v := .int .i64 b) (by go_simp) (by simp); have hc2 := cell_next hb (b := w.heap.size) (o := 2) (v := .int .i64 c) (by go_simp) (by simp))
      | (go_at_call 24; refine (impl_vtext' a b c HR.out _ ((show TB w from ht.out).next (bel_next (B0 : Hid _) hb).out)).mono ?_; rintro e w2 ⟨rfl, hb2⟩))
    go_ret2
    exact ⟨vret2 rfl (HY.out HR.out).symm, (bel_next (bel_next B0 hb) hb2).out⟩

set_option maxHeartbeats 1000000 in
theorem vvText_law (a b c : Int) (_wa : (Lit.int .i64 a).wf = true) (_wb : (Lit.int .i64 b).wf = true) (_wc : (Lit.int .i64 c).wf = true) (w : World) (hc : TB w) :
    Calls Tryd.prog 4 #[(.agg #[.int .i64 a, .int .i64 b, .int .i64 c])] w fun e w' => e = .returned (.bool true) ∧ Below w.heap.size w w' := by
  clear _wa _wb _wc
  have ht : Hid (TB w) := hc
  clear hc
  have B0 : Hid (Below w.heap.size w (w.alloc (.cells #[.int .i64 a, .int .i64 b, .int .i64 c] 29))) := bel_alloc _ _
  go_enter Tryd.func4, Tryd.ntmps4
  go_wp2_with fail
  refine (toVv_any a b c _).mono ?_
  rintro e w1 ⟨rfl, hb⟩
  have k0 := cell_next hb (b := w.heap.size) (o := 0) (v := .int .i64 a) (by go_simp) (by simp)
  have k1 := cell_next hb (b := w.heap.size) (o := 1) (v := .int .i64 b) (by go_simp) (by simp)
  have k2 := cell_next hb (b := w.heap.size) (o := 2) (v := .int .i64 c) (by go_simp) (by simp)
  replace B0 := bel_next B0 hb
  have hz : w.heap.size < w1.heap.size := Nat.lt_of_lt_of_le (by simp) hb.size
  clear hb
  go_wp2_with fail
  refine (spec_vfull a b c _).mono ?_
  rintro e w2 ⟨rfl, hb⟩
  replace k0 := cell_next hb k0 hz
  replace k1 := cell_next hb k1 hz
  replace k2 := cell_next hb k2 hz
  replace B0 := bel_next B0 hb
  replace hz : w.heap.size < w2.heap.size := Nat.lt_of_lt_of_le hz hb.size
  clear hb
  go_wp2_with fail
  refine (toVv_any a b c _).mono ?_
  rintro e w3 ⟨rfl, hb⟩
  replace B0 := bel_next B0 hb
  clear hb
  go_wp2_with fail
  refine (impl_vfull a b c _ ((show TB w from ht.out).next B0.out)).mono ?_
  rintro e w4 ⟨rfl, hb⟩
  replace B0 := bel_next B0 hb
  clear hb
  go_wp2
  go_ret
  exact ⟨rfl, B0.out⟩
end Go.Proofs.YtmkdmedekgndkaaDoor
