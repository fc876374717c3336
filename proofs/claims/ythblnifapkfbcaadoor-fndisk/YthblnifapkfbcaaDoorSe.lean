/- Lines are sealed: both sides, and the law of SealLine. -/
import Derived.Test.YthblnifapkfbcaaDoorRows
import Derived.WalkKit
import Derived.WalkSpells
import Derived.WalkLawsBesides
import Derived.Deep.QuietTactic
import Derived.BigQuiet
import Derived.Deep.RegionHeld3
import Derived.Test.YthblnifapkfbcaaDoorSu
import Derived.LoopN
namespace Go.Proofs.YthblnifapkfbcaaDoor
open Go.RowKit
set_option linter.unusedSimpArgs false
set_option linter.unusedVariables false

theorem dsN_short : ∀ n : Nat, (dsN n).length ≤ n / 10 + 1 := by
  intro n
  induction n using Nat.strongRecOn with
  | _ n ih =>
    rw [dsN]
    by_cases h : n < 10
    · rw [dif_pos h]; simp
    · rw [dif_neg h]
      have := ih (n / 10) (by omega)
      simp
      omega
/-- A sealed line. -/
def sealS (s : ByteArray) : ByteArray := (((⟨(dsN s.size).toArray⟩ ++ ⟨#[58]⟩) ++ ⟨(dsN (sumTo s s.size)).toArray⟩) ++ ⟨#[58]⟩) ++ s
theorem ba_size (l : List UInt8) : (⟨l.toArray⟩ : ByteArray).size = l.length := by simp [ByteArray.size]
theorem sealS_size (s : ByteArray) : (sealS s).size = (dsN s.size).length + 1 + (dsN (sumTo s s.size)).length + 1 + s.size := by
  unfold sealS
  simp only [ByteArray.size_append, ba_size]
  rfl
theorem ret2 {s t : ByteArray} {a b : Int} (h : s = t) (k : a = b) : Ending.returned (.tuple #[.string s, .int .i64 a]) = .returned (.tuple #[.string t, .int .i64 b]) := by rw [h, k]

set_option maxHeartbeats 2000000 in
theorem specSeal_any (s : ByteArray) (w : World) (hs : s.size < 1099511627776) :
    Calls Tryd.prog 36 #[.string s] w fun e w' => e = .returned (.string (sealS s)) ∧ Below w.heap.size w w' := by
  obtain ⟨n, hn⟩ : ∃ n, n = s.size := ⟨_, rfl⟩
  obtain ⟨k, hk⟩ : ∃ k, k = sumTo s s.size := ⟨_, rfl⟩
  have hk9 : k < 9973 := by rw [hk]; exact sumTo_lt _ _
  have HE : Hid (sealS s = (((⟨(dsN n).toArray⟩ ++ ⟨#[58]⟩) ++ ⟨(dsN k).toArray⟩) ++ ⟨#[58]⟩) ++ s) := by show _ = _; unfold sealS; rw [← hk, ← hn]
  have hl1 := dsN_short n
  have hl2 := dsN_short k
  obtain ⟨da, hda⟩ : ∃ da : ByteArray, da = ⟨(dsN n).toArray⟩ := ⟨_, rfl⟩
  obtain ⟨db, hdb⟩ : ∃ db : ByteArray, db = ⟨(dsN k).toArray⟩ := ⟨_, rfl⟩
  have hsa : da.size ≤ 109951162778 := by rw [hda, ba_size]; omega
  have hsb : db.size ≤ 1000 := by rw [hdb, ba_size]; omega
  rw [← hda, ← hdb] at HE
  have C1 : Hid (∀ W : World, Calls Tryd.prog 39 #[.int .i64 (s.size : Int)] W fun e w' => e = .returned (.string da) ∧ Below W.heap.size W w') := fun W => by
    rw [hda, ← hn]
    exact digits_any (n + 1) n (by omega) (by omega) W
  have C2 : Hid (∀ W : World, Calls Tryd.prog 39 #[.int .i64 (k : Int)] W fun e w' => e = .returned (.string db) ∧ Below W.heap.size W w') := fun W => by
    rw [hdb]
    exact digits_any (k + 1) k (by omega) (by omega) W
  have C3 : Hid (∀ W : World, Calls Tryd.prog 40 #[.string s] W fun e w' => e = .returned (.int .i64 (k : Int)) ∧ Below W.heap.size W w') := fun W => by
    rw [hk]
    exact specSum_any s W hs
  have z1 : (⟨#[58]⟩ : ByteArray).size = 1 := rfl
  have o1 : ¬ 9223372036854775807 < da.size + 1 := by omega
  have o2 : ¬ 9223372036854775807 < da.size + 1 + db.size := by omega
  have o3 : ¬ 9223372036854775807 < da.size + 1 + db.size + 1 := by omega
  have o4 : ¬ 9223372036854775807 < da.size + 1 + db.size + 1 + s.size := by omega
  clear hn hk hda hdb hl1 hl2
  go_enter Tryd.func36, Tryd.ntmps36
  go_wp2_with fail
  refine Calls.mono (C1.out _) ?_
  rintro e w1 ⟨rfl, hb⟩
  have HB1 : Hid (Below w.heap.size w w1) := hb
  clear hb
  go_wp2_with fail
  refine Calls.mono (C3.out _) ?_
  rintro e w2 ⟨rfl, hb⟩
  have HB2 : Hid (Below w.heap.size w w2) := bel_next HB1 hb
  clear hb HB1
  go_wp2_with fail
  refine Calls.mono (C2.out _) ?_
  rintro e w3 ⟨rfl, hb⟩
  have HB3 : Hid (Below w.heap.size w w3) := bel_next HB2 hb
  clear hb HB2
  go_wp2
  go_ret
  exact ⟨by rw [HE.out]; rfl, HB3.out⟩

set_option maxHeartbeats 2000000 in
theorem implSeal_any (s : ByteArray) (w : World) (ht : Hid (TB w)) (hs : s.size < 1099511627776) :
    Calls Tryd.prog 19 #[.string s] w fun e w' => e = .returned (.string (sealS s)) ∧ Below w.heap.size w w' := by
  obtain ⟨n, hn⟩ : ∃ n, n = s.size := ⟨_, rfl⟩
  obtain ⟨k, hk⟩ : ∃ k, k = sumTo s s.size := ⟨_, rfl⟩
  have hk9 : k < 9973 := by rw [hk]; exact sumTo_lt _ _
  have HE : Hid (sealS s = (((⟨(dsN n).toArray⟩ ++ ⟨#[58]⟩) ++ ⟨(dsN k).toArray⟩) ++ ⟨#[58]⟩) ++ s) := by show _ = _; unfold sealS; rw [← hk, ← hn]
  have hl1 := dsN_short n
  have hl2 := dsN_short k
  obtain ⟨da, hda⟩ : ∃ da : ByteArray, da = ⟨(dsN n).toArray⟩ := ⟨_, rfl⟩
  obtain ⟨db, hdb⟩ : ∃ db : ByteArray, db = ⟨(dsN k).toArray⟩ := ⟨_, rfl⟩
  have hsa : da.size ≤ 109951162778 := by rw [hda, ba_size]; omega
  have hsb : db.size ≤ 1000 := by rw [hdb, ba_size]; omega
  rw [← hda, ← hdb] at HE
  have C1 : Hid (∀ W : World, TB W → Calls Tryd.prog 32 #[.int .i64 (s.size : Int)] W fun e w' => e = .returned (.string da) ∧ Below W.heap.size W w') := fun W hT => by
    rw [hda, ← hn]
    exact itoa_any n (by omega) W hT
  have C2 : Hid (∀ W : World, TB W → Calls Tryd.prog 32 #[.int .i64 (k : Int)] W fun e w' => e = .returned (.string db) ∧ Below W.heap.size W w') := fun W hT => by
    rw [hdb]
    exact itoa_any k (by omega) W hT
  have C3 : Hid (∀ W : World, Calls Tryd.prog 33 #[.string s] W fun e w' => e = .returned (.int .i64 (k : Int)) ∧ Below W.heap.size W w') := fun W => by
    rw [hk]
    exact implSum_any s W hs
  have z1 : (⟨#[58]⟩ : ByteArray).size = 1 := rfl
  have o1 : ¬ 9223372036854775807 < da.size + 1 := by omega
  have o2 : ¬ 9223372036854775807 < da.size + 1 + db.size := by omega
  have o3 : ¬ 9223372036854775807 < da.size + 1 + db.size + 1 := by omega
  have o4 : ¬ 9223372036854775807 < da.size + 1 + db.size + 1 + s.size := by omega
  clear hn hk hda hdb hl1 hl2
  go_enter Tryd.func19, Tryd.ntmps19
  go_wp2_with fail
  refine Calls.mono (C1.out _ ht.out) ?_
  rintro e w1 ⟨rfl, hb⟩
  have HB1 : Hid (Below w.heap.size w w1) := hb
  clear hb
  go_wp2_with fail
  refine Calls.mono (C3.out _) ?_
  rintro e w2 ⟨rfl, hb⟩
  have HB2 : Hid (Below w.heap.size w w2) := bel_next HB1 hb
  clear hb HB1
  go_wp2_with fail
  refine Calls.mono (C2.out _ (TB.next (show TB w from ht.out) HB2.out)) ?_
  rintro e w3 ⟨rfl, hb⟩
  have HB3 : Hid (Below w.heap.size w w3) := bel_next HB2 hb
  clear hb HB2
  go_wp2
  go_ret
  exact ⟨by rw [HE.out]; rfl, HB3.out⟩
end Go.Proofs.YthblnifapkfbcaaDoor
