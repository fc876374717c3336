/- Lines are opened: the program's side. -/
import Derived.Test.YthblnifapkfbcaaDoorRows
import Derived.WalkKit
import Derived.WalkSpells
import Derived.WalkLawsBesides
import Derived.Deep.QuietTactic
import Derived.BigQuiet
import Derived.Deep.RegionHeld3
import Derived.Test.YthblnifapkfbcaaDoorOp
import Derived.Test.YthblnifapkfbcaaDoorCut
namespace Go.Proofs.YthblnifapkfbcaaDoor
open Go.RowKit
set_option linter.unusedSimpArgs false
set_option linter.unusedVariables false

/-- The greatest length that is sought at once is some number. -/
def MX (w : World) : Prop := ∃ m, w.cell? ⟨0, 0, none⟩ = some (.int .i64 m)
theorem MX.next {w w' : World} (h : MX w) (hb : Below w.heap.size w w') : MX w' := by
  obtain ⟨m, h⟩ := h
  exact ⟨m, cell_next hb h (cell_lt' h)⟩
def cA (s : ByteArray) : ByteArray := ⟨((aft s.data.toList).getD []).toArray⟩
def cB (s : ByteArray) : Bool := (aft s.data.toList).isSome
theorem below_drewN' (w : World) (n : Nat) : Below w.heap.size w (w.drewN n) := below_drewN (Below.refl _ _) n
theorem cutc_any (s : ByteArray) (w : World) (hs : s.size < 4294967281) (hm : MX w) :
    Calls Tryd.prog 34 #[.string s, .string ⟨#[58]⟩] w fun e w' => (∃ b, e = .returned (.tuple #[.string b, .string (cA s), .bool (cB s)])) ∧ Below w.heap.size w w' := by
  obtain ⟨m, hm⟩ := hm
  refine (Any.strings_Cut { Tryd.laysM145 with } s ⟨#[58]⟩ m w hs hm).mono ?_
  rintro e w' ⟨rfl, n, rfl⟩
  refine ⟨⟨⟨(Lib.cut s.data.toList [58]).1.toArray⟩, ?_⟩, below_drewN' w n⟩
  have h := aft_cut s.data.toList
  have h1 : (Lib.cut s.data.toList [58]).2.1 = (aft s.data.toList).getD [] := by
    rw [h]; cases aft s.data.toList <;> rfl
  have h2 : (Lib.cut s.data.toList [58]).2.2 = (aft s.data.toList).isSome := by
    rw [h]; cases aft s.data.toList <;> rfl
  show Ending.returned (.tuple #[.string _, .string ⟨(Lib.cut s.data.toList [58]).2.1.toArray⟩, .bool (Lib.cut s.data.toList [58]).2.2]) = _
  rw [h1, h2]
  rfl
theorem open_no {s : ByteArray} (h : cB (cA s) = false) : openO s = none := by
  unfold openO opn
  cases ha : aft s.data.toList with
  | none => rfl
  | some r =>
    have e : aft r = none := by
      have : (cA s).data.toList = r := by simp [cA, ha]
      unfold cB at h
      rw [this] at h
      simpa using h
    show (((some r).bind aft).bind _) = none
    simp [e]
theorem open_yes {s : ByteArray} (h : cB (cA s) = true) : openO s = if sealS (cA (cA s)) = s then some (cA (cA s)) else none := by
  unfold openO opn
  cases ha : aft s.data.toList with
  | none =>
    have : (cA s).data.toList = [] := by simp [cA, ha]
    unfold cB at h
    rw [this] at h
    cases h
  | some r =>
    have e : (cA s).data.toList = r := by simp [cA, ha]
    unfold cB at h
    rw [e] at h
    obtain ⟨t, ht⟩ := Option.isSome_iff_exists.1 h
    have e2 : cA (cA s) = ⟨t.toArray⟩ := by
      unfold cA at e ⊢
      rw [e, ht]
      rfl
    rw [e2]
    show (((some r).bind aft).bind _) = _
    simp [ht]
theorem cA_size (s : ByteArray) : (cA s).size ≤ s.size := by
  have e : (cA s).size = ((aft s.data.toList).getD []).length := by unfold cA; exact ba_size _
  rw [e]
  cases ha : aft s.data.toList with
  | none => simp
  | some r =>
    have := aft_len ha
    have e3 : s.data.toList.length = s.size := by rw [Array.length_toList]; rfl
    rw [e3] at this
    show r.length ≤ s.size
    omega
set_option maxHeartbeats 2000000 in
theorem implOpen_any (s : ByteArray) (w : World) (hs : s.size < 4294967281) (ht0 : TB w) (hm0 : MX w) :
    Calls Tryd.prog 21 #[.string s] w fun e w' => OpP w s e w' := by
  have HT : Hid (TB w) := ht0
  have HM : Hid (MX w) := hm0
  clear ht0 hm0
  have hz1 := cA_size s
  have hz2 := cA_size (cA s)
  obtain ⟨b, hb0⟩ : ∃ b, b = cA s := ⟨_, rfl⟩
  have C1 : Hid (∀ W : World, MX W → Calls Tryd.prog 34 #[.string s, .string ⟨#[58]⟩] W fun e w' => (∃ x, e = .returned (.tuple #[.string x, .string b, .bool (cB s)])) ∧ Below W.heap.size W w') := fun W h => by rw [hb0]; exact cutc_any s W hs h
  obtain ⟨t, ht⟩ : ∃ t, t = cA b := ⟨_, rfl⟩
  obtain ⟨k, hk⟩ : ∃ k, k = cB b := ⟨_, rfl⟩
  have C2 : Hid (∀ W : World, MX W → Calls Tryd.prog 34 #[.string b, .string ⟨#[58]⟩] W fun e w' => (∃ x, e = .returned (.tuple #[.string x, .string t, .bool k])) ∧ Below W.heap.size W w') := fun W h => by rw [ht, hk]; exact cutc_any b W (by rw [hb0]; omega) h
  have HO : Hid ((k = false → openO s = none) ∧ (k = true → openO s = if sealS t = s then some t else none)) := ⟨fun h => open_no (by rw [← hb0, ← hk]; exact h), fun h => by rw [open_yes (by rw [← hb0, ← hk]; exact h), ← hb0, ← ht]⟩
  have SE : Hid (∀ W : World, TB W → Calls Tryd.prog 19 #[.string t] W fun e w' => e = .returned (.string (sealS t)) ∧ Below W.heap.size W w') := fun W h => implSeal_any t W h (by rw [ht, hb0]; omega)
  generalize hq : sealS t = q at *
  clear hb0 ht hk hz1 hz2 hq
  cases k with
  | false =>
    have H1 : Hid (openO s = none) := HO.out.1 rfl
    go_enter Tryd.func21, Tryd.ntmps21
    go_wp2_with fail
    refine Calls.mono (C1.out _ HM.out) ?_
    rintro e w1 ⟨⟨x, rfl⟩, hb⟩
    have HB : Hid (Below w.heap.size w w1) := hb
    clear hb
    go_wp2_with fail
    refine Calls.mono (C2.out _ (MX.next (show MX w from HM.out) HB.out)) ?_
    rintro e w2 ⟨⟨y, rfl⟩, hb⟩
    have HB2 : Hid (Below w.heap.size w w2) := bel_next HB hb
    clear hb HB
    go_wp2
    go_ret2
    refine ⟨⟨#[]⟩, false, ?_, HB2.out, ?_, ?_⟩
    · rfl
    · exact fun _ => H1.out
    · intro h; cases h
  | true =>
    by_cases hqs : q = s
    · have hqe : (s.toList == q.toList) = true := (Lib.bytes_beq_iff s q).2 hqs.symm
      have HQ : Hid (openO s = some t) := by show _ = _; rw [HO.out.2 rfl, if_pos hqs]
      clear hqs
      go_enter Tryd.func21, Tryd.ntmps21
      go_wp2_with fail
      refine Calls.mono (C1.out _ HM.out) ?_
      rintro e w1 ⟨⟨x, rfl⟩, hb⟩
      have HB : Hid (Below w.heap.size w w1) := hb
      clear hb
      go_wp2_with fail
      refine Calls.mono (C2.out _ (MX.next (show MX w from HM.out) HB.out)) ?_
      rintro e w2 ⟨⟨y, rfl⟩, hb⟩
      have HB2 : Hid (Below w.heap.size w w2) := bel_next HB hb
      clear hb HB
      go_wp2_with fail
      refine Calls.mono (SE.out _ (TB.next (show TB w from HT.out) HB2.out)) ?_
      rintro e w3 ⟨rfl, hb⟩
      have HB3 : Hid (Below w.heap.size w w3) := bel_next HB2 hb
      clear hb HB2
      go_wp2
      go_ret2
      refine ⟨t, true, ?_, HB3.out, ?_, ?_⟩
      · rfl
      · intro h; cases h
      · exact fun _ => HQ.out
    · have hqe : (s.toList == q.toList) = false := by
        cases hh : (s.toList == q.toList) with
        | false => rfl
        | true => exact (hqs ((Lib.bytes_beq_iff s q).1 hh).symm).elim
      have HQ : Hid (openO s = none) := by show _ = _; rw [HO.out.2 rfl, if_neg hqs]
      clear hqs
      go_enter Tryd.func21, Tryd.ntmps21
      go_wp2_with fail
      refine Calls.mono (C1.out _ HM.out) ?_
      rintro e w1 ⟨⟨x, rfl⟩, hb⟩
      have HB : Hid (Below w.heap.size w w1) := hb
      clear hb
      go_wp2_with fail
      refine Calls.mono (C2.out _ (MX.next (show MX w from HM.out) HB.out)) ?_
      rintro e w2 ⟨⟨y, rfl⟩, hb⟩
      have HB2 : Hid (Below w.heap.size w w2) := bel_next HB hb
      clear hb HB
      go_wp2_with fail
      refine Calls.mono (SE.out _ (TB.next (show TB w from HT.out) HB2.out)) ?_
      rintro e w3 ⟨rfl, hb⟩
      have HB3 : Hid (Below w.heap.size w w3) := bel_next HB2 hb
      clear hb HB2
      go_wp2
      go_ret2
      refine ⟨⟨#[]⟩, false, ?_, HB3.out, ?_, ?_⟩
      · rfl
      · exact fun _ => HQ.out
      · intro h; cases h
end Go.Proofs.YthblnifapkfbcaaDoor
