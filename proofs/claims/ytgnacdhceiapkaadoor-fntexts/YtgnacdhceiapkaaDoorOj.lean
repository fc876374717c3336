/- The texts of objects, of the specification. -/
import Derived.Test.YtgnacdhceiapkaaDoorRows
import Derived.WalkKit
import Derived.WalkSpells
import Derived.WalkLawsBesides
import Derived.Deep.QuietTactic
import Derived.BigQuiet
import Derived.Deep.RegionHeld3
import Derived.Test.YtgnacdhceiapkaaDoorOs
import Derived.Test.YtgnacdhceiapkaaDoorIo
import Derived.LoopN
namespace Go.Proofs.YtgnacdhceiapkaaDoor
open Go.RowKit
set_option linter.unusedSimpArgs false
set_option linter.unusedVariables false

/-- The text of an object, of what is known and of its siblings. -/
def objT (X : List UInt8) (l : List Sib) : List UInt8 := X ++ l.flatMap fun s => 124 :: sibT s

theorem objT_succ {X : List UInt8} {l : List Sib} {i : Nat} (h : i < l.length) : objT X (l.take (i + 1)) = objT X (l.take i) ++ 124 :: sibT l[i] := by
  unfold objT
  rw [List.take_succ_eq_append_getElem h, List.flatMap_append, List.append_assoc]
  simp
theorem objT_len {X : List UInt8} : ∀ {l : List Sib}, (∀ s ∈ l, sibOK s.p s.n s.v s.d = true) → (objT X l).length ≤ X.length + l.length * 12001
  | [], _ => by simp [objT]
  | s :: l, h => by
    have h1 := objT_len (X := X) (l := l) (fun t ht => h t (List.mem_cons_of_mem _ ht))
    have h2 := sibT_len (h s (by simp))
    unfold objT at *
    simp at *
    omega
set_option maxHeartbeats 4000000 in
theorem l03obj_any (cap : Nat) (ao : Option Addr) (l : List Sib) (a b c : Int) (X : List UInt8) (w : World) (hX : X.length ≤ 100000) (hl : l.length ≤ 100) (hk0 : ∀ s ∈ l, sibOK s.p s.n s.v s.d = true) (hr0 : SibRow w ao l)
    (CV : Hid (∀ W, Calls Tryd.prog 54 #[.agg #[.int .i64 a, .int .i64 b, .int .i64 c]] W fun e w' => e = .returned (.string ⟨X.toArray⟩) ∧ Below W.heap.size W w')) :
    Calls Tryd.prog 33 #[.agg #[.slice ao l.length cap, .int .i64 a, .int .i64 b, .int .i64 c]] w fun e w' => e = .returned (.string ⟨(objT X l).toArray⟩) ∧ Below w.heap.size w w' := by
  have RA : Hid (SibRow w ao l) := hr0
  have HK : Hid (∀ s ∈ l, sibOK s.p s.n s.v s.d = true) := hk0
  have HL : Hid (l.length ≤ 100 ∧ X.length ≤ 100000) := ⟨hl, hX⟩
  have B0 : Hid (Below w.heap.size w (w.alloc (.cells #[.slice ao l.length cap, .int .i64 a, .int .i64 b, .int .i64 c] 31))) := bel_alloc _ _
  clear hr0 hk0 hX
  go_enter Tryd.func33, Tryd.ntmps33
  go_wp2_with fail
  refine Calls.mono (CV.out _) ?_
  rintro e w1 ⟨rfl, hb⟩
  have c0 := cell_next hb (b := w.heap.size) (o := 0) (v := .slice ao l.length cap) (by go_simp) (by simp)
  replace B0 := bel_next B0 hb
  have hz : w.heap.size < w1.heap.size := Nat.lt_of_lt_of_le (by simp) hb.size
  clear hb CV
  go_wp2
  go_loopw [3, 4] (fun s3 s4 wr => ∃ (i : Nat) (out : ByteArray), i ≤ l.length ∧ s4 = .int .i64 i ∧ s3 = .string out ∧ out = ⟨(objT X (l.take i)).toArray⟩ ∧ Below w.heap.size w wr ∧ w.heap.size < wr.heap.size ∧ wr.cell? ⟨w.heap.size, 0, none⟩ = some (.slice ao l.length cap)) (fun _ s4 _ => l.length - (intOf s4).toNat)
  case atStart => exact ⟨0, _, by omega, rfl, rfl, by simp [objT], B0.out, hz, c0⟩
  case round =>
    clear c0 hz B0
    obtain ⟨i, out, hil, rfl, rfl, hO0, hB0, hz, k0⟩ := hrel
    have HO : Hid (out = ⟨(objT X (l.take i)).toArray⟩) := hO0
    have HB : Hid (Below w.heap.size w wr) := hB0
    clear hO0 hB0
    by_cases hkl : i < l.length
    · have hkl' : (i : Int) < (l.length : Int) := by omega
      have kk : (0 : Int) ≤ (i : Int) := by omega
      obtain ⟨s, hs⟩ : ∃ s, s = l[i] := ⟨_, rfl⟩
      have hok : sibOK s.p s.n s.v s.d = true := by rw [hs]; exact HK.out _ (List.getElem_mem _)
      obtain ⟨hp, n0, n1, v0, v1⟩ := sib_bounds hok
      rcases RA.out with h' | ⟨p, off, rfl, h2⟩
      · rw [h'] at hkl; simp at hkl
      obtain ⟨x0, x1, x2, x3⟩ := h2 i hkl
      rw [← hs] at x0 x1 x2 x3
      replace x0 := cell_next HB.out x0 (cell_lt x0)
      replace x1 := cell_next HB.out x1 (cell_lt x1)
      replace x2 := cell_next HB.out x2 (cell_lt x2)
      replace x3 := cell_next HB.out x3 (cell_lt x3)
      have hlen : out.size ≤ 1400000 := by
        rw [HO.out]
        have h1 := objT_len (X := X) (l := l.take i) (fun t ht => HK.out t (List.mem_of_mem_take ht))
        have h3 := HL.out
        have h4 : (l.take i).length ≤ 100 := by simp; omega
        simp [ByteArray.size]
        omega
      obtain ⟨D, hD⟩ : ∃ D, D = dotT s.p s.n := ⟨_, rfl⟩
      have hDl : D.length ≤ 10001 := by rw [hD]; exact dotT_len _ _ n1
      have CD : Hid (∀ W, Calls Tryd.prog 55 #[.agg #[.int .i64 s.p, .int .i64 s.n]] W fun e w' => e = .returned (.string ⟨D.toArray⟩) ∧ Below W.heap.size W w') := fun W => by rw [hD]; exact dotS s.p s.n hp n0 n1 W
      obtain ⟨Y, hY⟩ : ∃ Y, Y = dsN s.v.toNat := ⟨_, rfl⟩
      have hYl : Y.length ≤ 1000 := by rw [hY]; have := dsN_len s.v.toNat; omega
      have CX : Hid (∀ W, Calls Tryd.prog 56 #[.int .i64 s.v] W fun e w' => e = .returned (.string ⟨Y.toArray⟩) ∧ Below W.heap.size W w') := fun W => by
        have h1 := digits_any (s.v.toNat + 1) s.v.toNat (by omega) (by omega) W
        rw [Int.toNat_of_nonneg v0] at h1
        rw [hY]; exact h1
      have HS : Hid (objT X (l.take (i + 1)) = objT X (l.take i) ++ 124 :: (D ++ (if s.d then [33] else 61 :: Y))) := by
        show _ = _
        rw [objT_succ hkl, ← hs, hD, hY]
        rfl
      have HO2 : Hid (∀ bs : List UInt8, (124 :: (D ++ (if s.d then [33] else 61 :: Y))) = bs → out ++ ⟨bs.toArray⟩ = ⟨(objT X (l.take (i + 1))).toArray⟩) := fun bs hbs => by rw [HS.out, HO.out, ba_app, ← hbs]
      have q0 : ¬ 9223372036854775807 < 1 + D.length := by omega
      have q1 : ¬ 9223372036854775807 < out.size + (1 + D.length) := by omega
      have q2 : ¬ 9223372036854775807 < out.size + (1 + D.length) + 1 := by omega
      have q3 : ¬ 9223372036854775807 < 1 + Y.length := by omega
      have q4 : ¬ 9223372036854775807 < out.size + (1 + D.length) + (1 + Y.length) := by omega
      clear hs hok hp n0 n1 v0 v1 h2 hD hY HS HO hlen hDl hYl
      go_wp2_with fail
      refine Calls.mono (CD.out _) ?_
      rintro e w2 ⟨rfl, hb⟩
      replace x0 := cell_next hb x0 (cell_lt x0)
      replace x1 := cell_next hb x1 (cell_lt x1)
      replace x2 := cell_next hb x2 (cell_lt x2)
      replace x3 := cell_next hb x3 (cell_lt x3)
      replace k0 := cell_next hb k0 hz
      replace hz : w.heap.size < w2.heap.size := Nat.lt_of_lt_of_le hz hb.size
      replace HB := bel_next HB hb
      clear hb
      cases hd : s.d
      · rw [hd] at x3 HO2
        go_wp2_with fail
        refine Calls.mono (CX.out _) ?_
        rintro e w3 ⟨rfl, hb⟩
        replace k0 := cell_next hb k0 hz
        replace hz : w.heap.size < w3.heap.size := Nat.lt_of_lt_of_le hz hb.size
        replace HB := bel_next HB hb
        clear hb x0 x1 x2 x3
        have HM : Hid (out ++ (⟨#[124]⟩ ++ ⟨D.toArray⟩) ++ (⟨#[61]⟩ ++ ⟨Y.toArray⟩) = ⟨(objT X (l.take (i + 1))).toArray⟩) := by
          show _ = _
          have e1 : (⟨#[124]⟩ : ByteArray) ++ ⟨D.toArray⟩ = ⟨(124 :: D).toArray⟩ := ba_app [124] D
          have e2 : (⟨#[61]⟩ : ByteArray) ++ ⟨Y.toArray⟩ = ⟨(61 :: Y).toArray⟩ := ba_app [61] Y
          rw [e1, e2, ByteArray.append_assoc, ba_app]
          exact HO2.out _ (by simp)
        clear HO2
        go_wp2
        go_roundw
        case rel => first | exact ⟨i + 1, _, by omega, by go_num, rfl, HM.out, HB.out, hz, k0⟩ | ((repeat apply Exists.intro); exact ⟨⟨i + 1, _, by omega, by go_num, rfl, HM.out, HB.out, hz, k0⟩, rfl⟩)
        case measure => simp [intOf]; omega
      · rw [hd] at x3 HO2
        have HM : Hid (out ++ (⟨#[124]⟩ ++ ⟨D.toArray⟩) ++ ⟨#[33]⟩ = ⟨(objT X (l.take (i + 1))).toArray⟩) := by
          show _ = _
          have e1 : (⟨#[124]⟩ : ByteArray) ++ ⟨D.toArray⟩ = ⟨(124 :: D).toArray⟩ := ba_app [124] D
          have e2 : (⟨(124 :: D).toArray⟩ : ByteArray) ++ ⟨#[33]⟩ = ⟨(124 :: D ++ [33]).toArray⟩ := ba_app (124 :: D) [33]
          rw [e1, ByteArray.append_assoc, e2]
          exact HO2.out _ (by simp)
        clear HO2
        go_wp2
        go_roundw
        case rel => first | exact ⟨i + 1, _, by omega, by go_num, rfl, HM.out, HB.out, hz, k0⟩ | ((repeat apply Exists.intro); exact ⟨⟨i + 1, _, by omega, by go_num, rfl, HM.out, HB.out, hz, k0⟩, rfl⟩)
        case measure => simp [intOf]; omega
    · have hkl' : ¬ (i : Int) < (l.length : Int) := by omega
      have HE : Hid (out = ⟨(objT X l).toArray⟩) := by have := HO.out; rw [List.take_of_length_le (by omega)] at this; exact this
      clear HO
      go_wp2
      go_ret
      exact ⟨by rw [HE.out]; rfl, HB.out⟩
end Go.Proofs.YtgnacdhceiapkaaDoor
