/- Disks: their size, copies, that alike ones are told so; which are right. -/
import Derived.Test.YthblnifapkfbcaaDoorRows
import Derived.WalkKit
import Derived.WalkSpells
import Derived.WalkLawsBesides
import Derived.Deep.QuietTactic
import Derived.BigQuiet
import Derived.Deep.RegionHeld3
import Derived.Test.YthblnifapkfbcaaDoorTx
import Derived.ProofKit
import Derived.OpenShut
import Derived.Lib.SmallJoins
import Derived.Deep.Strs
import Derived.SliceStrings
namespace Go.Proofs.YthblnifapkfbcaaDoor
open Go.RowKit
set_option linter.unusedSimpArgs false
set_option linter.unusedVariables false

def szD (ss us : List ByteArray) (left : Int) : Int := if szR ss left < 0 then -1 else szR us (szR ss left)
theorem szR_le (ss : List ByteArray) (left : Int) (h : 0 ≤ left) : szR ss left ≤ left ∧ (¬ szR ss left < 0 → (ss.length : Int) + tot ss ≤ left) ∧ (szR ss left < 0 → szR ss left = -1) := by
  unfold szR
  split
  · exact ⟨by omega, fun _ => by omega, fun _ => by omega⟩
  · exact ⟨by omega, fun h => by omega, fun _ => rfl⟩
theorem szD_ok {ss us : List ByteArray} (h : ¬ szD ss us 1048576 < 0) : ss.length + tot ss + us.length + tot us ≤ 1048576 := by
  unfold szD at h
  split at h
  · omega
  · rename_i h0
    have h1 := szR_le ss 1048576 (by omega)
    have h2 := h1.2.1 h0
    have h3 := (szR_le us _ (by omega)).2.1 h
    unfold szR at h3 h0
    split at h3
    · omega
    · rename_i h4; rw [if_neg h4] at h0; omega
/-- Two rows of one's own, in memory that is new. -/
structure Own2 (W : World) (v0 v1 : Value) (rs ru : List ByteArray) (lo hi : Nat) : Prop where
  r0 : W.ownsRow 0 9 1 v0 rs.length (V rs)
  r1 : W.ownsRow 0 9 1 v1 ru.length (V ru)
  b0 : ∀ k, v0.ownBlock = some k → lo ≤ k ∧ k < hi
  b1 : ∀ k, v1.ownBlock = some k → lo ≤ k ∧ k < hi
  ne : ∀ k, v0.ownBlock = some k → v1.ownBlock ≠ some k
theorem Own2.next {W W' : World} {v0 v1 : Value} {rs ru : List ByteArray} {lo hi : Nat} (h : Own2 W v0 v1 rs ru lo hi) (hb : Below W.heap.size W W') : Own2 W' v0 v1 rs ru lo hi := ⟨own_next h.r0 hb, own_next h.r1 hb, h.b0, h.b1, h.ne⟩
theorem Own2.weak {W : World} {v0 v1 : Value} {rs ru : List ByteArray} {lo hi lo' hi' : Nat} (h : Own2 W v0 v1 rs ru lo hi) (h1 : lo' ≤ lo) (h2 : hi ≤ hi') : Own2 W v0 v1 rs ru lo' hi' :=
  ⟨h.r0, h.r1, fun k e => by have := h.b0 k e; omega, fun k e => by have := h.b1 k e; omega, h.ne⟩
theorem own_set {W : World} {e : TypeId} {g o n size : Nat} {v u : Value} {xs : List Value} (h : W.ownsRow 0 e size v n xs) (hne : v.ownBlock ≠ some g) : (W.setCell ⟨g, o, none⟩ u).ownsRow 0 e size v n xs := ownsRow_setCell_other h hne _
theorem Own2.set {W : World} {v0 v1 : Value} {rs ru : List ByteArray} {lo hi : Nat} (h : Own2 W v0 v1 rs ru lo hi) {g o : Nat} {u : Value} (hg : g < lo ∨ hi ≤ g) : Own2 (W.setCell ⟨g, o, none⟩ u) v0 v1 rs ru lo hi :=
  ⟨own_set h.r0 (fun e => by have := h.b0 g e; omega), own_set h.r1 (fun e => by have := h.b1 g e; omega), h.b0, h.b1, h.ne⟩
theorem bel_set {w W : World} {g o : Nat} {u : Value} (h : Below w.heap.size w W) (hg : w.heap.size ≤ g) : Below w.heap.size w (W.setCell ⟨g, o, none⟩ u) := h.setCell (by simpa using hg) _
theorem specOK_any (v0 v1 : Value) (ss us : List ByteArray) (w : World) (hn : ss.length ≤ 1048576) (hn' : us.length ≤ 1048576) (hr0 : RowV w v0 ss) (hs0 : RowV w v1 us) :
    Calls Tryd.prog 24 #[.agg #[v0, v1]] w fun e w' => e = .returned (.bool (decide (ss.length + us.length ≤ 300))) ∧ Below w.heap.size w w' := by
  obtain ⟨ao, c0, rfl, _, _⟩ := hr0
  obtain ⟨bo, c1, rfl, _, _⟩ := hs0
  obtain ⟨n, hn0⟩ : ∃ n, n = ss.length := ⟨_, rfl⟩
  obtain ⟨m, hm0⟩ : ∃ m, m = us.length := ⟨_, rfl⟩
  rw [← hn0, ← hm0]
  rw [← hn0] at hn
  rw [← hm0] at hn'
  clear hn0 hm0
  have q : IntKind.i64.wrap ((n : Int) + (m : Int)) = (n : Int) + (m : Int) := by rw [IntKind.wrap_i64]; omega
  go_enter Tryd.func24, Tryd.ntmps24
  go_wp2
  go_ret
  exact ⟨ret_bool (by by_cases h : n + m ≤ 300 <;> simp [h] <;> omega), bel_alloc _ _⟩

theorem implOK_any (v0 v1 : Value) (ss us : List ByteArray) (w : World) (hn : ss.length ≤ 1048576) (hn' : us.length ≤ 1048576) (hr0 : RowV w v0 ss) (hs0 : RowV w v1 us) :
    Calls Tryd.prog 13 #[.agg #[v0, v1]] w fun e w' => e = .returned (.bool (decide (ss.length + us.length ≤ 300))) ∧ Below w.heap.size w w' := by
  obtain ⟨ao, c0, rfl, _, _⟩ := hr0
  obtain ⟨bo, c1, rfl, _, _⟩ := hs0
  obtain ⟨n, hn0⟩ : ∃ n, n = ss.length := ⟨_, rfl⟩
  obtain ⟨m, hm0⟩ : ∃ m, m = us.length := ⟨_, rfl⟩
  rw [← hn0, ← hm0]
  rw [← hn0] at hn
  rw [← hm0] at hn'
  clear hn0 hm0
  have q : IntKind.i64.wrap ((n : Int) + (m : Int)) = (n : Int) + (m : Int) := by rw [IntKind.wrap_i64]; omega
  go_enter Tryd.func13, Tryd.ntmps13
  go_wp2
  go_ret
  exact ⟨ret_bool (by by_cases h : n + m ≤ 300 <;> simp [h] <;> omega), bel_alloc _ _⟩

end Go.Proofs.YthblnifapkfbcaaDoor
