/- Disks: their size, copies, that alike ones are told so; which are right. -/
import Derived.Test.YtmogmamijnkpdaaRows
import Derived.WalkKit
import Derived.WalkSpells
import Derived.WalkLawsBesides
import Derived.Deep.QuietTactic
import Derived.BigQuiet
import Derived.Deep.RegionHeld3
import Derived.Test.YtmogmamijnkpdaaTx
import Derived.ProofKit
import Derived.OpenShut
import Derived.Lib.SmallJoins
import Derived.Deep.Strs
import Derived.SliceStrings
namespace Go.Proofs.Ytmogmamijnkpdaa
open Go.RowKit
set_option linter.unusedSimpArgs false
set_option linter.unusedVariables false

def szD (ss us : List ByteArray) (left : Int) : Int := if szR ss left < 0 then -1 else szR us (szR ss left)
theorem szR_le (ss : List ByteArray) (left : Int) (h : 0 ≤ left) : szR ss left ≤ left ∧ (¬ szR ss left < 0 → (ss.length : Int) + tot ss ≤ left) ∧ (szR ss left < 0 → szR ss left = -1) := by
  unfold szR
  split
  · exact ⟨by omega, fun _ => by omega, fun _ => by omega⟩
  · exact ⟨by omega, fun h => by omega, fun _ => rfl⟩
theorem szD_ok {ss us : List ByteArray} (h : ¬ szD ss us 1048576 < 0) : ss.length + tot ss + us.length + tot us ≤ 1048576 := by
  unfold szD at h
  split at h
  · omega
  · rename_i h0
    have h1 := szR_le ss 1048576 (by omega)
    have h2 := h1.2.1 h0
    have h3 := (szR_le us _ (by omega)).2.1 h
    unfold szR at h3 h0
    split at h3
    · omega
    · rename_i h4; rw [if_neg h4] at h0; omega
set_option maxHeartbeats 1000000 in
theorem szDisk_any (v0 v1 : Value) (ss us : List ByteArray) (left : Int) (w : World) (hl0 : 0 ≤ left) (hl1 : left ≤ 1048576) (hn : ss.length ≤ maxLen) (hn' : us.length ≤ maxLen) (hw : ∀ s ∈ ss, s.size ≤ maxLen) (hw' : ∀ s ∈ us, s.size ≤ maxLen) (hr0 : RowV w v0 ss) (hs0 : RowV w v1 us) :
    Calls Try.prog 4 #[.agg #[v0, v1], .int .i64 left] w fun e w' => e = .returned (.int .i64 (szD ss us left)) ∧ Below w.heap.size w w' := by
  obtain ⟨ao, c0, rfl, _, hr0⟩ := hr0
  obtain ⟨bo, c1, rfl, _, hs0⟩ := hs0
  have hr : Hid (TRow w ao ss) := hr0
  have hs : Hid (TRow w bo us) := hs0
  have HW : Hid (∀ s ∈ ss, s.size ≤ maxLen) := hw
  have HW' : Hid (∀ s ∈ us, s.size ≤ maxLen) := hw'
  clear hr0 hs0 hw hw'
  obtain ⟨r, hr1⟩ : ∃ r, r = szR ss left := ⟨_, rfl⟩
  have HR : Hid (r = szR ss left) := hr1
  have hrl := szR_le ss left hl0
  rw [← hr1] at hrl
  obtain ⟨hrl, _, hrn⟩ := hrl
  clear hr1
  by_cases h0 : r < 0
  · have HD : Hid (szD ss us left = -1) := by show _ = _; unfold szD; rw [if_pos (by rw [← HR.out]; exact h0)]
    go_enter Try.func4, Try.ntmps4
    go_wp2_with fail
    refine (szTexts_any ao c0 ss left _ hl0 hl1 hn HW.out (hr.out.next (bel_alloc _ _))).mono ?_
    rintro e w1 ⟨rfl, hb⟩
    rw [← HR.out]
    have HB : Hid (Below w.heap.size w w1) := (bel_alloc _ _).trans (hb.mono (by simp))
    clear hb
    go_wp2
    go_ret
    exact ⟨ret_int HD.out.symm, HB.out⟩
  · obtain ⟨q, hq⟩ : ∃ q, q = szR us r := ⟨_, rfl⟩
    have HQ : Hid (q = szR us r) := hq
    have hqn := (szR_le us r (by omega)).2.2
    rw [← hq] at hqn
    clear hq
    have HD : Hid (szD ss us left = q) := by show _ = _; unfold szD; rw [if_neg (by rw [← HR.out]; exact h0), ← HR.out, HQ.out]
    go_enter Try.func4, Try.ntmps4
    go_wp2_with fail
    refine (szTexts_any ao c0 ss left _ hl0 hl1 hn HW.out (hr.out.next (bel_alloc _ _))).mono ?_
    rintro e w1 ⟨rfl, hb⟩
    rw [← HR.out]
    have HB : Hid (Below w.heap.size w w1) := (bel_alloc _ _).trans (hb.mono (by simp))
    have x1 : w1.cell? ⟨w.heap.size, 1, none⟩ = some (.slice bo us.length c1) := cell_next hb (by go_simp) (by simp)
    clear hb
    go_wp2_with fail
    refine (szTexts_any bo c1 us r _ (by omega) (by omega) hn' HW'.out (hs.out.next HB.out)).mono ?_
    rintro e w2 ⟨rfl, hb⟩
    rw [← HQ.out]
    have HB2 : Hid (Below w.heap.size w w2) := HB.out.trans (hb.mono HB.out.size)
    clear hb HB
    by_cases h1 : q < 0
    · go_wp2
      go_ret
      exact ⟨ret_int (by rw [HD.out, hqn h1]), HB2.out⟩
    · go_wp2
      go_ret
      exact ⟨ret_int HD.out.symm, HB2.out⟩
/-- Two rows of one's own, in memory that is new. -/
structure Own2 (W : World) (v0 v1 : Value) (rs ru : List ByteArray) (lo hi : Nat) : Prop where
  r0 : W.ownsRow 0 9 1 v0 rs.length (V rs)
  r1 : W.ownsRow 0 9 1 v1 ru.length (V ru)
  b0 : ∀ k, v0.ownBlock = some k → lo ≤ k ∧ k < hi
  b1 : ∀ k, v1.ownBlock = some k → lo ≤ k ∧ k < hi
  ne : ∀ k, v0.ownBlock = some k → v1.ownBlock ≠ some k
theorem Own2.next {W W' : World} {v0 v1 : Value} {rs ru : List ByteArray} {lo hi : Nat} (h : Own2 W v0 v1 rs ru lo hi) (hb : Below W.heap.size W W') : Own2 W' v0 v1 rs ru lo hi := ⟨own_next h.r0 hb, own_next h.r1 hb, h.b0, h.b1, h.ne⟩
theorem Own2.weak {W : World} {v0 v1 : Value} {rs ru : List ByteArray} {lo hi lo' hi' : Nat} (h : Own2 W v0 v1 rs ru lo hi) (h1 : lo' ≤ lo) (h2 : hi ≤ hi') : Own2 W v0 v1 rs ru lo' hi' :=
  ⟨h.r0, h.r1, fun k e => by have := h.b0 k e; omega, fun k e => by have := h.b1 k e; omega, h.ne⟩
theorem own_set {W : World} {e : TypeId} {g o n size : Nat} {v u : Value} {xs : List Value} (h : W.ownsRow 0 e size v n xs) (hne : v.ownBlock ≠ some g) : (W.setCell ⟨g, o, none⟩ u).ownsRow 0 e size v n xs := ownsRow_setCell_other h hne _
theorem Own2.set {W : World} {v0 v1 : Value} {rs ru : List ByteArray} {lo hi : Nat} (h : Own2 W v0 v1 rs ru lo hi) {g o : Nat} {u : Value} (hg : g < lo ∨ hi ≤ g) : Own2 (W.setCell ⟨g, o, none⟩ u) v0 v1 rs ru lo hi :=
  ⟨own_set h.r0 (fun e => by have := h.b0 g e; omega), own_set h.r1 (fun e => by have := h.b1 g e; omega), h.b0, h.b1, h.ne⟩
theorem bel_set {w W : World} {g o : Nat} {u : Value} (h : Below w.heap.size w W) (hg : w.heap.size ≤ g) : Below w.heap.size w (W.setCell ⟨g, o, none⟩ u) := h.setCell (by simpa using hg) _
set_option maxHeartbeats 1000000 in
theorem toDisk_any (v0 v1 : Value) (ss us : List ByteArray) (w : World) (hn : ss.length ≤ 1048576) (hn' : us.length ≤ 1048576) (hr0 : RowV w v0 ss) (hs0 : RowV w v1 us) :
    Calls Try.prog 6 #[.agg #[v0, v1]] w fun e w' => ∃ x0 x1, e = .returned (.agg #[x0, x1]) ∧ Below w.heap.size w w' ∧ Own2 w' x0 x1 ss us w.heap.size w'.heap.size := by
  obtain ⟨ao, c0, rfl, _, hr0⟩ := hr0
  obtain ⟨bo, c1, rfl, _, hs0⟩ := hs0
  have hr : Hid (TRow w ao ss) := hr0
  have hs : Hid (TRow w bo us) := hs0
  clear hr0 hs0
  obtain ⟨n, hn0⟩ : ∃ n, n = ss.length := ⟨_, rfl⟩
  obtain ⟨m, hm0⟩ : ∃ m, m = us.length := ⟨_, rfl⟩
  have CT : Hid (∀ W, TRow W ao ss → Calls Try.prog 15 #[.slice ao n c0] W fun e w' => ∃ g, e = .returned (.slice (some ⟨g, 0, none⟩) n n) ∧ Below W.heap.size W w' ∧ W.heap.size ≤ g ∧ g < w'.heap.size ∧ w'.ownsRow 0 9 1 (.slice (some ⟨g, 0, none⟩) n n) n (V ss)) := fun W h => by rw [hn0]; exact toTexts_any ao c0 ss W hn h
  have CU : Hid (∀ W, TRow W bo us → Calls Try.prog 15 #[.slice bo m c1] W fun e w' => ∃ g, e = .returned (.slice (some ⟨g, 0, none⟩) m m) ∧ Below W.heap.size W w' ∧ W.heap.size ≤ g ∧ g < w'.heap.size ∧ w'.ownsRow 0 9 1 (.slice (some ⟨g, 0, none⟩) m m) m (V us)) := fun W h => by rw [hm0]; exact toTexts_any bo c1 us W hn' h
  have HN : Hid (n = ss.length) := hn0
  have HM : Hid (m = us.length) := hm0
  rw [← hn0, ← hm0]
  clear hn0 hm0 hn hn'
  go_enter Try.func6, Try.ntmps6
  go_wp2_with fail
  have B0 : Hid (Below w.heap.size w (((w.alloc (.cells #[.slice ao n c0, .slice bo m c1] 24)).alloc (.cells #[.slice none 0 0, .slice none 0 0] 26)).alloc (.cells #[.slice none 0 0, .slice none 0 0] 26))) := (((Below.refl _ _).alloc (Nat.le_refl _) _).alloc (by simp) _).alloc (by simp; omega) _
  refine Calls.mono (CT.out _ (hr.out.next B0.out)) ?_
  rintro e w1 ⟨g, rfl, hb, hg, hG, hO⟩
  have HB : Hid (Below w.heap.size w w1) := B0.out.trans (hb.mono B0.out.size)
  have hz := hb.size
  simp at hz hg
  have HZ : Hid (w.heap.size + 3 ≤ w1.heap.size ∧ w.heap.size + 3 ≤ g ∧ g < w1.heap.size) := ⟨by omega, by omega, hG⟩
  have x1 : w1.cell? ⟨w.heap.size, 1, none⟩ = some (.slice bo m c1) := cell_next hb (by go_simp) (by simp; omega)
  have y0 : w1.cell? ⟨w.heap.size + 1 + 1, 0, none⟩ = some (.slice none 0 0) := cell_next hb (by go_simp) (by simp)
  have y1 : w1.cell? ⟨w.heap.size + 1 + 1, 1, none⟩ = some (.slice none 0 0) := cell_next hb (by go_simp) (by simp)
  have z0 : w1.frozen? ⟨w.heap.size + 1 + 1, 0, none⟩ = false := frozen_next hb (by go_simp) (by simp)
  have z1 : w1.frozen? ⟨w.heap.size + 1 + 1, 1, none⟩ = false := frozen_next hb (by go_simp) (by simp)
  have p0 : w1.cell? ⟨w.heap.size + 1, 0, none⟩ = some (.slice none 0 0) := cell_next hb (by go_simp) (by simp)
  have p1 : w1.cell? ⟨w.heap.size + 1, 1, none⟩ = some (.slice none 0 0) := cell_next hb (by go_simp) (by simp)
  have q0 : w1.frozen? ⟨w.heap.size + 1, 0, none⟩ = false := frozen_next hb (by go_simp) (by simp)
  have q1 : w1.frozen? ⟨w.heap.size + 1, 1, none⟩ = false := frozen_next hb (by go_simp) (by simp)
  have HO : Hid (w1.ownsRow 0 9 1 (.slice (some ⟨g, 0, none⟩) n n) n (V ss)) := hO
  clear hb B0 hz hg hG hO
  go_wp2_with fail
  have B1 : Hid (Below w.heap.size w (w1.setCell ⟨w.heap.size + 1 + 1, 0, none⟩ (.slice (some ⟨g, 0, none⟩) n n))) := bel_set HB.out (by omega)
  refine Calls.mono (CU.out _ (hs.out.next B1.out)) ?_
  rintro e w2 ⟨g', rfl, hb, hg, hG, hO⟩
  have HB2 : Hid (Below w.heap.size w w2) := B1.out.trans (hb.mono B1.out.size)
  have hz := hb.size
  simp at hz hg
  have HZ2 : Hid (w1.heap.size ≤ w2.heap.size ∧ w1.heap.size ≤ g' ∧ g' < w2.heap.size) := ⟨by omega, by omega, hG⟩
  have l2 : w.heap.size + 3 ≤ (w1.setCell ⟨w.heap.size + 1 + 1, 0, none⟩ (.slice (some ⟨g, 0, none⟩) n n)).heap.size := by have := HZ.out.1; simp; omega
  have y0' : w2.cell? ⟨w.heap.size + 1 + 1, 0, none⟩ = some (.slice (some ⟨g, 0, none⟩) n n) := cell_next hb (World.cell?_setCell_same w1 _ _ y0) (by omega)
  have y1' : w2.cell? ⟨w.heap.size + 1 + 1, 1, none⟩ = some (.slice none 0 0) := cell_next hb (by rw [World.cell?_setCell_other _ _ _ _ (fun e => by cases e)]; exact y1) (by omega)
  have z1' : w2.frozen? ⟨w.heap.size + 1 + 1, 1, none⟩ = false := frozen_next hb (by simpa using z1) (by omega)
  have p0' : w2.cell? ⟨w.heap.size + 1, 0, none⟩ = some (.slice none 0 0) := cell_next hb (cell_set p0 (by omega)) (by omega)
  have p1' : w2.cell? ⟨w.heap.size + 1, 1, none⟩ = some (.slice none 0 0) := cell_next hb (cell_set p1 (by omega)) (by omega)
  have q0' : w2.frozen? ⟨w.heap.size + 1, 0, none⟩ = false := frozen_next hb (by simpa using q0) (by omega)
  have q1' : w2.frozen? ⟨w.heap.size + 1, 1, none⟩ = false := frozen_next hb (by simpa using q1) (by omega)
  have HO2 : Hid (w2.ownsRow 0 9 1 (.slice (some ⟨g, 0, none⟩) n n) n (V ss)) := own_next (own_set HO.out (fun e => by have := HZ.out; simp [Value.ownBlock] at e; omega)) hb
  have HU2 : Hid (w2.ownsRow 0 9 1 (.slice (some ⟨g', 0, none⟩) m m) m (V us)) := hO
  clear hb B1 hz hg hG hO l2 y0 y1 z0 z1 p0 p1 q0 q1 x1 HO HB
  go_wp2_with fail
  refine bodyPost_ret (v := .agg #[.slice (some ⟨g, 0, none⟩) n n, .slice (some ⟨g', 0, none⟩) m m]) (by simp [results, Try.results6, go_sem, *]) rfl ?_
  have hz1 := HZ.out
  have hz2 := HZ2.out
  refine ⟨_, _, rfl, bel_set (bel_set (bel_set HB2.out (by omega)) (by omega)) (by omega), ?_⟩
  have O3 : Own2 w2 (.slice (some ⟨g, 0, none⟩) n n) (.slice (some ⟨g', 0, none⟩) m m) ss us (w.heap.size + 3) w2.heap.size :=
    ⟨by rw [← HN.out]; exact HO2.out, by rw [← HM.out]; exact HU2.out, fun k e => by simp [Value.ownBlock] at e; omega, fun k e => by simp [Value.ownBlock] at e; omega, fun k e e' => by simp [Value.ownBlock] at e e'; omega⟩
  exact Own2.weak (Own2.set (Own2.set (Own2.set O3 (Or.inl (by omega))) (Or.inl (by omega))) (Or.inl (by omega))) (by omega) (by simp)
set_option maxHeartbeats 1000000 in
theorem eqDisk_same (v0 v1 u0 u1 : Value) (ss us : List ByteArray) (w : World) (hn : ss.length ≤ 1048576) (hn' : us.length ≤ 1048576) (hr0 : RowV w v0 ss) (hs0 : RowV w v1 us) (hr1 : RowV w u0 ss) (hs1 : RowV w u1 us) :
    Calls Try.prog 8 #[.agg #[v0, v1], .agg #[u0, u1]] w fun e w' => e = .returned (.bool true) ∧ Below w.heap.size w w' := by
  obtain ⟨ao, c0, rfl, _, hr0⟩ := hr0
  obtain ⟨bo, c1, rfl, _, hs0⟩ := hs0
  obtain ⟨co, c2, rfl, _, hr1⟩ := hr1
  obtain ⟨po, c3, rfl, _, hs1⟩ := hs1
  have R0 : Hid (TRow w ao ss) := hr0
  have R1 : Hid (TRow w bo us) := hs0
  have R2 : Hid (TRow w co ss) := hr1
  have R3 : Hid (TRow w po us) := hs1
  clear hr0 hs0 hr1 hs1
  go_enter Try.func8, Try.ntmps8
  go_wp2_with fail
  have B0 : Hid (∀ o o', Below w.heap.size w ((w.alloc o).alloc o')) := fun o o' => ((Below.refl _ _).alloc (Nat.le_refl _) _).alloc (by simp) _
  refine (eqTexts_same c0 c2 ao co ss _ hn (R0.out.next (B0.out _ _)) (R2.out.next (B0.out _ _))).mono ?_
  rintro e w1 ⟨rfl, hb⟩
  have HB : Hid (Below w.heap.size w w1) := (B0.out _ _).trans (hb.mono (B0.out _ _).size)
  have x1 : w1.cell? ⟨w.heap.size, 1, none⟩ = some (.slice bo us.length c1) := cell_next hb (by go_simp) (by simp; omega)
  have y1 : w1.cell? ⟨w.heap.size + 1, 1, none⟩ = some (.slice po us.length c3) := cell_next hb (by go_simp) (by simp)
  clear hb B0
  go_wp2_with fail
  refine (eqTexts_same c1 c3 bo po us _ hn' (R1.out.next HB.out) (R3.out.next HB.out)).mono ?_
  rintro e w2 ⟨rfl, hb⟩
  have HB2 : Hid (Below w.heap.size w w2) := HB.out.trans (hb.mono HB.out.size)
  clear hb HB
  go_wp2
  go_ret
  exact ⟨rfl, HB2.out⟩

theorem specOK_any (v0 v1 : Value) (ss us : List ByteArray) (w : World) (hn : ss.length ≤ 1048576) (hn' : us.length ≤ 1048576) (hr0 : RowV w v0 ss) (hs0 : RowV w v1 us) :
    Calls Try.prog 12 #[.agg #[v0, v1]] w fun e w' => e = .returned (.bool (decide (ss.length + us.length ≤ 300))) ∧ Below w.heap.size w w' := by
  obtain ⟨ao, c0, rfl, _, _⟩ := hr0
  obtain ⟨bo, c1, rfl, _, _⟩ := hs0
  obtain ⟨n, hn0⟩ : ∃ n, n = ss.length := ⟨_, rfl⟩
  obtain ⟨m, hm0⟩ : ∃ m, m = us.length := ⟨_, rfl⟩
  rw [← hn0, ← hm0]
  rw [← hn0] at hn
  rw [← hm0] at hn'
  clear hn0 hm0
  have q : IntKind.i64.wrap ((n : Int) + (m : Int)) = (n : Int) + (m : Int) := by rw [IntKind.wrap_i64]; omega
  go_enter Try.func12, Try.ntmps12
  go_wp2
  go_ret
  exact ⟨ret_bool (by by_cases h : n + m ≤ 300 <;> simp [h] <;> omega), bel_alloc _ _⟩

theorem implOK_any (v0 v1 : Value) (ss us : List ByteArray) (w : World) (hn : ss.length ≤ 1048576) (hn' : us.length ≤ 1048576) (hr0 : RowV w v0 ss) (hs0 : RowV w v1 us) :
    Calls Try.prog 16 #[.agg #[v0, v1]] w fun e w' => e = .returned (.bool (decide (ss.length + us.length ≤ 300))) ∧ Below w.heap.size w w' := by
  obtain ⟨ao, c0, rfl, _, _⟩ := hr0
  obtain ⟨bo, c1, rfl, _, _⟩ := hs0
  obtain ⟨n, hn0⟩ : ∃ n, n = ss.length := ⟨_, rfl⟩
  obtain ⟨m, hm0⟩ : ∃ m, m = us.length := ⟨_, rfl⟩
  rw [← hn0, ← hm0]
  rw [← hn0] at hn
  rw [← hm0] at hn'
  clear hn0 hm0
  have q : IntKind.i64.wrap ((n : Int) + (m : Int)) = (n : Int) + (m : Int) := by rw [IntKind.wrap_i64]; omega
  go_enter Try.func16, Try.ntmps16
  go_wp2
  go_ret
  exact ⟨ret_bool (by by_cases h : n + m ≤ 300 <;> simp [h] <;> omega), bel_alloc _ _⟩

end Go.Proofs.Ytmogmamijnkpdaa
