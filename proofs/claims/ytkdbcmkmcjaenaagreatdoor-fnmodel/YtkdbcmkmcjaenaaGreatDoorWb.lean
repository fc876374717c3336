/- The program's objects: right ones, writes, sameness (texts of the seat of objects). -/
import Derived.WalkKit
import Derived.WalkSpells
import Derived.WalkLawsBesides
import Derived.Deep.QuietTactic
import Derived.BigQuiet
import Derived.Deep.RegionHeld3
import Derived.LoopN
import Derived.OwnWalk
import Derived.Laws.StructEq
import Derived.Laws.OwnMore
import Derived.RegionTactic
import Derived.BigRegion
import Derived.Deep.RegionWith
import Derived.WalkMore
import Derived.Deep.LoopGhost
import Derived.Deep.Upon
import Derived.Deep.Cut
import Derived.Shelf.RegionOpenPlain
import Derived.Shelf.Spec.SlicesInsertGrow
import Derived.Maps.AppendAt
import Derived.Deep.AppendLies
import Derived.OpenShut
import Derived.Test.YtkdbcmkmcjaenaaGreatDoorRows
import Derived.Test.YtkdbcmkmcjaenaaGreatDoorWa
namespace Go.Proofs.YtkdbcmkmcjaenaaGreatDoor
namespace W
open Go.RowKit
set_option linter.unusedSimpArgs false
set_option linter.unusedVariables false
set_option maxRecDepth 100000
section
variable {P : Program}
open Go.Shelf Go.Lib
theorem run_copy_rowK (w : World) (dT sT ty elem : TypeId) (k : Nat) (g o dLen dCap : Nat) (a : Addr) (sLen sCap : Nat) (cur : Array Value) (t : TypeId) (cs : List Value)
    (hu : P.underlying dT = some (.slice elem)) (hs : (P.info? elem).map (·.size) = some k)
    (hg : w.heap[g]? = some (.cells cur t (0, 0))) (hn : cs.length = Nat.min sLen dLen * k)
    (hsrc : ∀ j v, cs[j]? = some v → w.cell? (a.add j) = some v) (hfit : o + cs.length ≤ cur.size) (h1 : ∀ v ∈ cs, v.oneCell' = true) :
    (Builtin.copy_ #[dT, sT] ty #[.slice (some ⟨g, o, none⟩) dLen dCap, .slice (some a) sLen sCap]).run P w =
      .ok (goInt (Nat.min sLen dLen)) (w.setRow g (cur.toList.take o ++ cs ++ cur.toList.drop (o + cs.length)).toArray) := by
  have hl := run_loadCells_list (P := P) w a cs hsrc
  have hst := run_storeCells_at P g o t cs 0 cur w hg (by simpa using hfit) h1
  cases hq : P.info? elem with
  | none => simp [hq] at hs
  | some i =>
    have hi : i.size = k := by simpa [hq] using hs
    simp [Builtin.copy_, run_underlying hu, Builtin.lenOf, Builtin.firstCells, sizeOf, typeInfo, hq, hi, ← hn, hl, hst]
end
theorem shift_list {α : Type} (cur c A1 A2 : List α) (k n : Nat) (hc : c.length = 4) (hk : k < n) (hn : (n + 1) * 4 ≤ cur.length)
    (h1 : A1 = (cur.take ((k + 1) * 4) ++ (cur.drop (k * 4)).take ((n - k) * 4) ++ cur.drop ((k + 1) * 4 + (n - k) * 4))) (h2 : A2 = (A1.take (k * 4) ++ c ++ A1.drop (k * 4 + 4))) :
    A2.take ((n + 1) * 4) = (cur.take (n * 4)).take (k * 4) ++ c ++ (cur.take (n * 4)).drop (k * 4) ∧ A2.length = cur.length := by
  have e1 : A1.take (k * 4) = cur.take (k * 4) := by
    rw [h1, List.append_assoc, List.take_append_of_le_length (by simp; omega), List.take_take]
    congr 1
    omega
  have e2 : A1.drop (k * 4 + 4) = (cur.drop (k * 4)).take ((n - k) * 4) ++ cur.drop ((k + 1) * 4 + (n - k) * 4) := by
    rw [h1, List.append_assoc]
    exact List.drop_left' (by simp; omega)
  have e3 : (cur.take (n * 4)).drop (k * 4) = (cur.drop (k * 4)).take ((n - k) * 4) := by
    rw [List.drop_take]
    congr 1
    omega
  have e4 : (cur.take (n * 4)).take (k * 4) = cur.take (k * 4) := by
    rw [List.take_take]; congr 1; omega
  rw [h2, e1, e2, e3, e4]
  refine ⟨?_, by simp; omega⟩
  rw [← List.append_assoc]
  exact List.take_left' (by simp; omega)
theorem grow_list {α : Type} (cur c z A1 A2 : List α) (k n : Nat) (hc : c.length = 4) (hk : k < n) (hn : n * 4 ≤ cur.length) (hz : (n + 1 - k) * 4 ≤ z.length)
    (h1 : A1 = ((cur.take (k * 4) ++ z).take (k * 4) ++ c ++ (cur.take (k * 4) ++ z).drop (k * 4 + 4))) (h2 : A2 = (A1.take ((k + 1) * 4) ++ (cur.drop (k * 4)).take ((n - k) * 4) ++ A1.drop ((k + 1) * 4 + (n - k) * 4))) :
    A2.take ((n + 1) * 4) = (cur.take (n * 4)).take (k * 4) ++ c ++ (cur.take (n * 4)).drop (k * 4) ∧ A2.length = k * 4 + z.length := by
  have e0 : (cur.take (k * 4) ++ z).take (k * 4) = cur.take (k * 4) := List.take_left' (by simp; omega)
  have l1 : A1.length = k * 4 + z.length := by rw [h1]; simp; omega
  have e1 : A1.take ((k + 1) * 4) = cur.take (k * 4) ++ c := by
    rw [h1, e0]
    exact List.take_left' (by simp; omega)
  have e3 : (cur.take (n * 4)).drop (k * 4) = (cur.drop (k * 4)).take ((n - k) * 4) := by
    rw [List.drop_take]
    congr 1
    omega
  have e4 : (cur.take (n * 4)).take (k * 4) = cur.take (k * 4) := by
    rw [List.take_take]; congr 1; omega
  rw [h2, e1, e3, e4]
  refine ⟨List.take_left' (by simp; omega), by simp [l1]; omega⟩
/-- A sibling's cells. -/
def cel (x : Sib) : List Value := [.int .i64 x.p, .int .i64 x.n, .int .i64 x.v, .bool x.d]
theorem cel_one (x : Sib) : ∀ v ∈ cel x, v.oneCell' = true := by intro v hv; simp [cel] at hv; rcases hv with rfl | rfl | rfl | rfl <;> rfl
theorem cell_of_heap {w : World} {g o : Nat} {cur : Array Value} {t : TypeId} {z : Nat × Nat} {v : Value} (h : w.heap[g]? = some (.cells cur t z)) (hv : cur[o]? = some v) : w.cell? ⟨g, o, none⟩ = some v := by
  simp [World.cell?, h, hv]
open Go.Shelf Go.Lib in
set_option maxHeartbeats 4000000 in
set_option maxRecDepth 100000 in
theorem ins_shift (g n cap k vb vc : Nat) (cur : Array Value) (x : Sib) (w : World) (hk : k < n) (hroom : n + 1 ≤ cap) (hcm : cap ≤ maxLen) (hvb : vb ≠ g) (hg : w.heap[g]? = some (.cells cur 46 (0, 0))) (hcs : cur.size = cap * 4) (hv : w.heap[vb]? = some (.cells (cel x).toArray 46 (0, 0))) (hone : ∀ v ∈ cur.toList.take (n * 4), v.oneCell' = true) :
    Calls Tryz.prog 68 #[.slice (some ⟨g, 0, none⟩) n cap, .int .i64 k, .slice (some ⟨vb, 0, none⟩) 1 vc] w fun e w' => e = .returned (.slice (some ⟨g, 0, none⟩) (n + 1) cap) ∧ ∃ w1 w2 A1 A2, A1 = (cur.toList.take ((k + 1) * 4) ++ (cur.toList.drop (k * 4)).take ((n - k) * 4) ++ cur.toList.drop ((k + 1) * 4 + (n - k) * 4)) ∧ A2 = (A1.take (k * 4) ++ cel x ++ A1.drop (k * 4 + 4)) ∧ w1 = w.drew.setRow g A1.toArray ∧ w2 = w1.setRow g A2.toArray ∧ w' = w2 := by
  unfold maxLen at hcm
  obtain ⟨i0, hi, hz0, hz1, hz2⟩ := info_parts info_sib
  have hsz : (Tryz.prog.info? 46).map (·.size) = some 4 := by rw [hi]; simp [hz1]
  have hzo : ∀ w, (Go.sizeOf 46).run Tryz.prog w = .ok 4 w := fun w => by simp [Go.sizeOf, typeInfo, hi, hz1]
  have hov : ∀ off lb cb, (callFunc 97 #[.slice (some ⟨vb, 0, none⟩) 1 vc, .slice (some ⟨g, off, none⟩) lb cb]).run Tryz.prog w = .ok (.value (.bool false)) w := fun off lb cb => by
    rw [run_callFunc_extern Tryz.func97 (by kernel_rfl) (by kernel_rfl) (by kernel_rfl) (e := Extern.SlicesOverlaps.overlaps #[30, 30] #[4]) (by kernel_rfl),
      Lib.run_overlaps_apart w 30 4 46 Tryz.underlying30 4 hzo ⟨vb, 0, none⟩ ⟨g, off, none⟩ 1 vc lb cb hvb 46 46 4 cur.size (by simp [World.shape?, hv, cel]) (by simp [World.shape?, hg]) (by omega) (by simp [World.frozen?, hv]) (by simp [World.frozen?, hv])]
    rfl
  have hmn : Nat.min (n + 1 - k) (n - k) = n - k := by simp only [Nat.min_def]; split <;> omega
  have hmn2 : Nat.min 1 (n + 1 - k) = 1 := by simp only [Nat.min_def]; split <;> omega
  obtain ⟨A1, hA1⟩ : ∃ A1, A1 = (cur.toList.take ((k + 1) * 4) ++ (cur.toList.drop (k * 4)).take ((n - k) * 4) ++ cur.toList.drop ((k + 1) * 4 + (n - k) * 4)) := ⟨_, rfl⟩
  have hl1 : ((cur.toList.drop (k * 4)).take ((n - k) * 4)).length = (n - k) * 4 := by simp; omega
  have hcp1 : ∀ ty dc sc, (Builtin.copy_ #[30, 30] ty #[.slice (some ⟨g, (k + 1) * 4, none⟩) (n - k) dc, .slice (some ⟨g, k * 4, none⟩) (n + 1 - k) sc]).run Tryz.prog w.drew = .ok (goInt (n - k : Nat)) (w.drew.setRow g A1.toArray) := fun ty dc sc => by
    have h := run_copy_rowK (P := Tryz.prog) w.drew 30 30 ty 46 4 g ((k + 1) * 4) (n - k) dc ⟨g, k * 4, none⟩ (n + 1 - k) sc cur 46 ((cur.toList.drop (k * 4)).take ((n - k) * 4)) Tryz.underlying30 hsz hg (by rw [hmn]; exact hl1)
      (fun j v hj => by
        rw [addr_add]
        refine cell_of_heap (w := w.drew) hg ?_
        rw [List.getElem?_take] at hj
        split at hj
        · rw [List.getElem?_drop] at hj; simpa using hj
        · cases hj) (by rw [hl1]; omega) (fun v hv => hone v (by
          have h1 := List.mem_of_mem_take hv
          obtain ⟨j, hj, e⟩ := List.getElem_of_mem hv
          rw [← e]
          simp only [List.getElem_take, List.getElem_drop]
          rw [List.mem_iff_getElem]
          simp at hj
          exact ⟨k * 4 + j, by simp; omega, by simp⟩))
    rw [hmn, hl1, ← hA1] at h
    exact h
  have hA1s : A1.length = cap * 4 := by rw [hA1]; simp; omega
  have hg1 : (w.drew.setRow g A1.toArray).heap[g]? = some (.cells A1.toArray 46 (0, 0)) := setRow_heap w.drew g cur _ 46 _ hg
  have hv1 : (w.drew.setRow g A1.toArray).heap[vb]? = some (.cells (cel x).toArray 46 (0, 0)) := by
    rw [setRow_other _ _ _ _ hvb]; exact hv
  obtain ⟨W1, hW1⟩ : ∃ W1, W1 = w.drew.setRow g A1.toArray := ⟨_, rfl⟩
  obtain ⟨A2, hA2⟩ : ∃ A2, A2 = (A1.take (k * 4) ++ cel x ++ A1.drop (k * 4 + 4)) := ⟨_, rfl⟩
  have hcp2 : ∀ ty dc, (Builtin.copy_ #[30, 30] ty #[.slice (some ⟨g, k * 4, none⟩) (n + 1 - k) dc, .slice (some ⟨vb, 0, none⟩) 1 vc]).run Tryz.prog W1 = .ok (goInt 1) (W1.setRow g A2.toArray) := fun ty dc => by
    rw [hW1]
    have h := run_copy_rowK (P := Tryz.prog) (w.drew.setRow g A1.toArray) 30 30 ty 46 4 g (k * 4) (n + 1 - k) dc ⟨vb, 0, none⟩ 1 vc A1.toArray 46 (cel x) Tryz.underlying30 hsz hg1 (by rw [hmn2]; rfl)
      (fun j v hj => by rw [addr_add]; exact cell_of_heap hv1 (by simpa using hj)) (by simp [cel]; omega) (cel_one x)
    rw [hmn2] at h
    simpa [cel, hA2] using h
  rw [← hW1] at hcp1
  have HW1 : Hid (W1 = w.drew.setRow g A1.toArray) := hW1
  have HA1 : Hid _ := hA1
  have HA2 : Hid _ := hA2
  clear hW1 hA1 hA2 hg1 hv1 hl1 hA1s hmn hmn2
  have hw1 : IntKind.i64.wrap ((k : Int) + 1) = (k : Int) + 1 := by rw [IntKind.wrap_i64]; omega
  have hw2 : IntKind.i64.wrap ((n : Int) + 1) = (n : Int) + 1 := by rw [IntKind.wrap_i64]; omega
  have hb1 : (0 : Int) ≤ (k : Int) + 1 := by omega
  have hz2 : ¬ ((k : Int) = (n : Int)) := by omega
  have hin : k ≤ n := by omega
  have htn : ((k : Int) + 1).toNat = k + 1 := by omega
  have hb2 : ¬ (cap = k + 1) := by omega
  have hb3 : (k : Int) ≤ (n : Int) + 1 := by omega
  have hb4 : ¬ (cap = k) := by omega
  have mixed : Tryz.prog.follows Departure.mixedOrders = true := by kernel_rfl
  go_enter Tryz.func68, Tryz.ntmps68
  go_wp2_with (simp only [hov])
  go_region_law_o (refine step_copy_runI rfl _ _ 30 30 rfl _ _ (by simp [Act.eval, Act.put]) (by simp [Act.eval, Act.put]) (hcp1 _ _ _) ?_)
  go_wp2_with (simp only [hcp2])
  go_ret
  exact ⟨rfl, W1, _, A1, A2, HA1.out, HA2.out, HW1.out, rfl, rfl⟩
open Go.Shelf Go.Lib in
set_option maxHeartbeats 4000000 in
set_option maxRecDepth 100000 in
theorem ins_grow (g n cap k vb vc : Nat) (cur : Array Value) (x : Sib) (w : World) (hk : k < n) (hnc : n ≤ cap) (hroom : cap < n + 1) (hn1 : n ≤ 2097152) (hg : w.heap[g]? = some (.cells cur 46 (0, 0))) (hcs : cur.size = cap * 4) (hv : w.heap[vb]? = some (.cells (cel x).toArray 46 (0, 0))) (hone : ∀ v ∈ cur.toList.take (n * 4), v.oneCell' = true) :
    Calls Tryz.prog 68 #[.slice (some ⟨g, 0, none⟩) n cap, .int .i64 k, .slice (some ⟨vb, 0, none⟩) 1 vc] w fun e w' => ∃ G W1 W2 Z A1 A2, e = .returned (.slice (some ⟨w.heap.size, 0, none⟩) (n + 1) G) ∧ n + 1 ≤ G ∧ G ≤ maxLen ∧ Z.length = (G - k) * 4 ∧ A1 = ((cur.toList.take (k * 4) ++ Z).take (k * 4) ++ cel x ++ (cur.toList.take (k * 4) ++ Z).drop (k * 4 + 4)) ∧ A2 = (A1.take ((k + 1) * 4) ++ (cur.toList.drop (k * 4)).take ((n - k) * 4) ++ A1.drop ((k + 1) * 4 + (n - k) * 4)) ∧ W1 = w.drew.alloc (.cells (cur.toList.take (k * 4) ++ Z).toArray 46) ∧ W2 = W1.setRow w.heap.size A1.toArray ∧ w' = W2.drew.setRow w.heap.size A2.toArray := by
  obtain ⟨i0, hi, hz0, hz1, hz2⟩ := info_parts info_sib
  have hsz : (Tryz.prog.info? 46).map (·.size) = some 4 := by rw [hi]; simp [hz1]
  have hkk : (n : Int) + 1 - (k : Int) = ((n + 1 - k : Nat) : Int) := by omega
  have hik : k + (n + 1 - k) = n + 1 := by omega
  have hgl : g < w.heap.size := by
    rcases Nat.lt_or_ge g w.heap.size with h' | h'
    · exact h'
    · rw [Array.getElem?_eq_none h'] at hg; cases hg
  have hvl : vb < w.heap.size := by
    rcases Nat.lt_or_ge vb w.heap.size with h' | h'
    · exact h'
    · rw [Array.getElem?_eq_none h'] at hv; cases hv
  have hold : (Builtin.firstCells i0.size k (.slice (some ⟨g, 0, none⟩) k cap)).run Tryz.prog w.drew = .ok (cur.toList.take (k * 4)).toArray w.drew := by
    rw [hz1]
    exact run_firstCells_some w.drew 4 k ⟨g, 0, none⟩ k cap (cur.toList.take (k * 4)) (by simp; omega) (fun j v hj => by
      rw [addr_add]
      refine cell_of_heap (w := w.drew) hg ?_
      rw [List.getElem?_take] at hj
      split at hj
      · simpa using hj
      · cases hj)
  obtain ⟨G, hG⟩ : ∃ G, G = grownCap w (n + 1) cap 46 := ⟨_, rfl⟩
  have hGn : n + 1 ≤ G := by rw [hG]; exact grownCap_ge w _ _ _
  have hGm : G ≤ maxLen := by
    rw [hG]; exact grownCap_le_maxLen w (n + 1) cap 46 (by unfold maxLen; omega)
  obtain ⟨Z, hZ⟩ : ∃ Z : List Value, Z = (Builtin.zeroCells (Value.agg #[.int .i64 0, .int .i64 0, .int .i64 0, .bool false]).cells (n + 1 - k)).toList ++ (Builtin.zeroCells (Value.agg #[.int .i64 0, .int .i64 0, .int .i64 0, .bool false]).cells (G - (n + 1))).toList := ⟨_, rfl⟩
  have hZl : Z.length = (G - k) * 4 := by
    rw [hZ]
    simp [Builtin.zeroCells, Value.cells]
    omega
  obtain ⟨W1, hW1⟩ : ∃ W1, W1 = w.drew.alloc (.cells (cur.toList.take (k * 4) ++ Z).toArray 46) := ⟨_, rfl⟩
  have hrz : ∀ ty, (Builtin.append_ #[30, 3] ty #[.slice (some ⟨g, 0, none⟩) k cap, .int .i64 ((n : Int) + 1 - (k : Int))]).run Tryz.prog w = .ok (.slice (some ⟨w.heap.size, 0, none⟩) (n + 1) G) W1 := fun ty => by
    have h := Lib.run_append_grow_zeros (P := Tryz.prog) w 30 3 ty 46 i0 _ .i64 .i64 Tryz.underlying30 Tryz.underlying3 hi hz0 (some ⟨g, 0, none⟩) k cap (cur.toList.take (k * 4)) hold (n + 1 - k) (by omega) (by omega) (by omega) (by omega) (by rw [hz2]; omega) (by rw [hz2, hik]; exact growslice_fits hroom (by omega))
    rw [hik, ← hG] at h
    rw [hkk, h, hW1]
    congr 3
    rw [hZ]
    simp
  have hg1 : W1.heap[w.heap.size]? = some (.cells (cur.toList.take (k * 4) ++ Z).toArray 46 (0, 0)) := by rw [hW1]; exact heap_alloc_new w.drew _
  have hold1 : ∀ b, b < w.heap.size → W1.heap[b]? = w.heap[b]? := fun b hb => by rw [hW1]; exact heap_alloc_old w.drew _ hb
  have hmn1 : Nat.min 1 (n + 1 - k) = 1 := by simp only [Nat.min_def]; split <;> omega
  have hmn2 : Nat.min (n - k) (n - k) = n - k := Nat.min_self _
  obtain ⟨A1, hA1⟩ : ∃ A1, A1 = ((cur.toList.take (k * 4) ++ Z).take (k * 4) ++ cel x ++ (cur.toList.take (k * 4) ++ Z).drop (k * 4 + 4)) := ⟨_, rfl⟩
  obtain ⟨W2, hW2⟩ : ∃ W2, W2 = W1.setRow w.heap.size A1.toArray := ⟨_, rfl⟩
  have hcpA : ∀ ty dc, (Builtin.copy_ #[30, 30] ty #[.slice (some ⟨w.heap.size, k * 4, none⟩) (n + 1 - k) dc, .slice (some ⟨vb, 0, none⟩) 1 vc]).run Tryz.prog W1 = .ok (goInt 1) W2 := fun ty dc => by
    have h := run_copy_rowK (P := Tryz.prog) W1 30 30 ty 46 4 w.heap.size (k * 4) (n + 1 - k) dc ⟨vb, 0, none⟩ 1 vc _ 46 (cel x) Tryz.underlying30 hsz hg1 (by rw [hmn1]; rfl)
      (fun j v hj => by rw [addr_add]; exact cell_of_heap ((hold1 vb hvl).trans hv) (by simpa using hj)) (by simp [cel, hZl]; omega) (cel_one x)
    rw [hmn1] at h
    rw [h, hW2, hA1]
    simp [cel]
  have hA1l : A1.length = k * 4 + Z.length := by rw [hA1]; simp [cel]; omega
  have hg2 : W2.heap[w.heap.size]? = some (.cells A1.toArray 46 (0, 0)) := by rw [hW2]; exact setRow_heap W1 _ _ _ 46 _ hg1
  have hgg2 : W2.heap[g]? = some (.cells cur 46 (0, 0)) := by rw [hW2, setRow_other _ _ _ _ (by omega)]; exact (hold1 g hgl).trans hg
  have hl1 : ((cur.toList.drop (k * 4)).take ((n - k) * 4)).length = (n - k) * 4 := by simp; omega
  obtain ⟨A2, hA2⟩ : ∃ A2, A2 = (A1.take ((k + 1) * 4) ++ (cur.toList.drop (k * 4)).take ((n - k) * 4) ++ A1.drop ((k + 1) * 4 + (n - k) * 4)) := ⟨_, rfl⟩
  obtain ⟨W3, hW3⟩ : ∃ W3, W3 = W2.drew.setRow w.heap.size A2.toArray := ⟨_, rfl⟩
  have hcpB : ∀ ty dc sc, (Builtin.copy_ #[30, 30] ty #[.slice (some ⟨w.heap.size, (k + 1) * 4, none⟩) (n - k) dc, .slice (some ⟨g, k * 4, none⟩) (n - k) sc]).run Tryz.prog W2.drew = .ok (goInt (n - k : Nat)) W3 := fun ty dc sc => by
    have h := run_copy_rowK (P := Tryz.prog) W2.drew 30 30 ty 46 4 w.heap.size ((k + 1) * 4) (n - k) dc ⟨g, k * 4, none⟩ (n - k) sc A1.toArray 46 ((cur.toList.drop (k * 4)).take ((n - k) * 4)) Tryz.underlying30 hsz hg2 (by rw [hmn2]; exact hl1)
      (fun j v hj => by
        rw [addr_add]
        refine cell_of_heap (w := W2.drew) hgg2 ?_
        rw [List.getElem?_take] at hj
        split at hj
        · rw [List.getElem?_drop] at hj; simpa using hj
        · cases hj) (by rw [hl1]; simp [hA1l, hZl]; omega) (fun v hv => hone v (by
          obtain ⟨j, hj, e⟩ := List.getElem_of_mem hv
          rw [← e]
          simp only [List.getElem_take, List.getElem_drop]
          rw [List.mem_iff_getElem]
          simp at hj
          exact ⟨k * 4 + j, by simp; omega, by simp⟩))
    rw [hmn2, hl1] at h
    rw [h, hW3, hA2]
  have hw1 : IntKind.i64.wrap ((k : Int) + 1) = (k : Int) + 1 := by rw [IntKind.wrap_i64]; omega
  have hw2 : IntKind.i64.wrap ((n : Int) + 1) = (n : Int) + 1 := by rw [IntKind.wrap_i64]; omega
  have hw3 : IntKind.i64.wrap ((n : Int) + 1 - (k : Int)) = (n : Int) + 1 - (k : Int) := by rw [IntKind.wrap_i64]; omega
  have hb1 : (0 : Int) ≤ (k : Int) + 1 := by omega
  have hz2 : ¬ ((k : Int) = (n : Int)) := by omega
  have hz3 : (cap : Int) < (n : Int) + 1 := by omega
  have hin : k ≤ n := by omega
  have htn : ((k : Int) + 1).toNat = k + 1 := by omega
  have hGi : ¬ (G = k) := by omega
  have hGim : ¬ (G = k + 1) := by omega
  have hci : ¬ (cap = k) := by omega
  have hb3 : (k : Int) ≤ (n : Int) := by omega
  have hGM : G ≤ 9223372036854775807 := by unfold maxLen at hGm; omega
  have mixed : Tryz.prog.follows Departure.mixedOrders = true := by kernel_rfl
  have FIN : Hid (G ≤ maxLen ∧ Z.length = (G - k) * 4 ∧ A1 = ((cur.toList.take (k * 4) ++ Z).take (k * 4) ++ cel x ++ (cur.toList.take (k * 4) ++ Z).drop (k * 4 + 4)) ∧ A2 = (A1.take ((k + 1) * 4) ++ (cur.toList.drop (k * 4)).take ((n - k) * 4) ++ A1.drop ((k + 1) * 4 + (n - k) * 4)) ∧ W1 = w.drew.alloc (.cells (cur.toList.take (k * 4) ++ Z).toArray 46) ∧ W2 = W1.setRow w.heap.size A1.toArray ∧ W3 = W2.drew.setRow w.heap.size A2.toArray) := ⟨hGm, hZl, hA1, hA2, hW1, hW2, hW3⟩
  clear hkk hik hold hG hZ hZl hW1 hg1 hold1 hmn1 hmn2 hA1 hW2 hA1l hg2 hgg2 hl1 hA2 hW3 hGm hcs hone hsz hz0 hz1 hi hgl hvl
  go_enter Tryz.func68, Tryz.ntmps68
  go_wp2_with (first
    | (at_builtin; refine Lib.wpList_append_run _ rfl _ _ _ _ rfl _ _ rfl rfl _ _ (hrz _) ?_)
    | simp only [hcpA])
  go_region_law_o (refine step_copy_runI rfl _ _ 30 30 rfl _ _ (by simp [Act.eval, Act.put]) (by simp [Act.eval, Act.put]) (hcpB _ _ _) ?_)
  go_wp2
  go_ret
  exact ⟨G, W1, W2, Z, A1, A2, rfl, hGn, FIN.out.1, FIN.out.2.1, FIN.out.2.2.1, FIN.out.2.2.2.1, FIN.out.2.2.2.2.1, FIN.out.2.2.2.2.2.1, FIN.out.2.2.2.2.2.2⟩
theorem flat_td (m : List Sib) (x : Sib) (k : Nat) (hk : k ≤ m.length) : flat (m.take k ++ x :: m.drop k) = (flat m).take (k * 4) ++ cel x ++ (flat m).drop (k * 4) := by
  have h0 : flat m = flat (m.take k) ++ flat (m.drop k) := by rw [← flat_append, List.take_append_drop]
  have hl : (flat (m.take k)).length = k * 4 := by rw [flat_length]; simp; omega
  have h1 : (flat m).take (k * 4) = flat (m.take k) := by rw [h0]; exact List.take_left' hl
  have h2 : (flat m).drop (k * 4) = flat (m.drop k) := by rw [h0]; exact List.drop_left' hl
  rw [h1, h2, flat_append]
  simp [flat, cel]
theorem cel_at {w : World} {vb : Nat} {x : Sib} {t : TypeId} {z : Nat × Nat} (h : w.heap[vb]? = some (.cells (cel x).toArray t z)) : SibAt w vb 0 x :=
  ⟨cell_of_heap h rfl, cell_of_heap h rfl, cell_of_heap h rfl, cell_of_heap h rfl⟩
set_option maxHeartbeats 4000000 in
theorem ins_end (v : Value) (m : List Sib) (x : Sib) (vb vc : Nat) (w : World) (hm : m.length ≤ 1048576) (hO0 : w.ownsRow 0 46 4 v m.length (flat m)) (hv : SibAt w vb 0 x) :
    Calls Tryz.prog 68 #[v, .int .i64 m.length, .slice (some ⟨vb, 0, none⟩) 1 vc] w fun e w' => ∃ v', e = .returned v' ∧ w'.ownsRow 0 46 4 v' (m.length + 1) (flat m ++ flat [x]) ∧ Gro w w' v v' := by
  have hO : Hid (w.ownsRow 0 46 4 v m.length (flat m)) := hO0
  have hX : Hid (SibAt w vb 0 x) := hv
  obtain ⟨i0, hi, hz0, hz1, hz2⟩ := info_parts info_sib
  have HI : Hid (Tryz.prog.info? 46 = some i0 ∧ i0.zero = some (.agg #[.int .i64 0, .int .i64 0, .int .i64 0, .bool false]) ∧ i0.size = 4 ∧ i0.bytes = 32) := ⟨hi, hz0, hz1, hz2⟩
  clear hi hz0 hz1 hz2 hv
  have hML : Hid (m.length ≤ 1048576) := hm
  generalize hn : m.length = n at *
  clear hn
  have key : (v = .slice none 0 0 ∧ n = 0) ∨ ∃ g cap, v = .slice (some ⟨g, 0, none⟩) n cap ∧ n ≤ cap ∧ cap ≤ maxLen := by
    rcases hO0.2 with h | ⟨g, cap, cur, h, _, _, h1, h2, _⟩
    · exact .inl h
    · exact .inr ⟨g, cap, h, h1, h2⟩
  clear hO0
  rcases key with ⟨rfl, rfl⟩ | ⟨g, cap, rfl, hnc, hcm⟩
  · go_enter Tryz.func68, Tryz.ntmps68
    go_wp2_with (at_builtin; refine wpList_append2 rfl (.tmp 23) (.tmp 24) 30 rfl 46 i0 (.agg #[.int .i64 0, .int .i64 0, .int .i64 0, .bool false]) 4 32 Tryz.underlying30 HI.out.1 HI.out.2.1 HI.out.2.2.1 HI.out.2.2.2 rfl (by decide) _ _ _ rfl hO.out ⟨vb, 0, none⟩ 1 _ (flat [x]) rfl rfl (one_cells hX.out) (flat_one _) (by unfold maxLen; omega) (by omega) ?_; intro v' w' ho hg; have HO2 : Hid _ := ho; have HG2 : Hid _ := hg; clear ho hg)
    go_ret
    exact ⟨_, rfl, HO2.out, HG2.out⟩
  · unfold maxLen at hcm
    have hm' := hML.out
    by_cases hcn : cap = n
    · subst hcn
      go_enter Tryz.func68, Tryz.ntmps68
      go_wp2_with (at_builtin; refine wpList_append2 rfl (.tmp 23) (.tmp 24) 30 rfl 46 i0 (.agg #[.int .i64 0, .int .i64 0, .int .i64 0, .bool false]) 4 32 Tryz.underlying30 HI.out.1 HI.out.2.1 HI.out.2.2.1 HI.out.2.2.2 rfl (by decide) (.slice (some ⟨g, 0, none⟩) cap cap) _ _ rfl hO.out ⟨vb, 0, none⟩ 1 _ (flat [x]) rfl rfl (one_cells hX.out) (flat_one _) (by unfold maxLen; omega) (by omega) ?_; intro v' w' ho hg; have HO2 : Hid _ := ho; have HG2 : Hid _ := hg; clear ho hg)
      go_ret
      exact ⟨_, rfl, HO2.out, HG2.out⟩
    · go_enter Tryz.func68, Tryz.ntmps68
      go_wp2_with (at_builtin; refine wpList_append2 rfl (.tmp 23) (.tmp 24) 30 rfl 46 i0 (.agg #[.int .i64 0, .int .i64 0, .int .i64 0, .bool false]) 4 32 Tryz.underlying30 HI.out.1 HI.out.2.1 HI.out.2.2.1 HI.out.2.2.2 rfl (by decide) (.slice (some ⟨g, 0, none⟩) n cap) _ _ rfl hO.out ⟨vb, 0, none⟩ 1 _ (flat [x]) rfl rfl (one_cells hX.out) (flat_one _) (by unfold maxLen; omega) (by omega) ?_; intro v' w' ho hg; have HO2 : Hid _ := ho; have HG2 : Hid _ := hg; clear ho hg)
      go_ret
      exact ⟨_, rfl, HO2.out, HG2.out⟩
theorem ins_any (v : Value) (m : List Sib) (k : Nat) (x : Sib) (vb vc : Nat) (w : World) (hk : k ≤ m.length) (hm : m.length ≤ 1048576) (hO : w.ownsRow 0 46 4 v m.length (flat m)) (hv : w.heap[vb]? = some (.cells (cel x).toArray 46 (0, 0))) (hne : v.ownBlock ≠ some vb) :
    Calls Tryz.prog 68 #[v, .int .i64 k, .slice (some ⟨vb, 0, none⟩) 1 vc] w fun e w' => ∃ v', e = .returned v' ∧ w'.ownsRow 0 46 4 v' (m.length + 1) (flat (m.take k ++ x :: m.drop k)) ∧ Gro w w' v v' := by
  rcases Nat.lt_or_ge k m.length with hkl | hkl
  · rcases hO.2 with ⟨_, h⟩ | ⟨g, cap, cur, rfl, _, hg, hnc, hcm, hcs, htk⟩
    · omega
    · have hone : ∀ u ∈ cur.toList.take (m.length * 4), u.oneCell' = true := by rw [htk]; exact flat_one m
      have hvg : vb ≠ g := fun h => hne (by simp [Value.ownBlock, h])
      rw [flat_td m x k hk, ← htk]
      have hgl : g < w.heap.size := by
        rcases Nat.lt_or_ge g w.heap.size with h' | h'
        · exact h'
        · rw [Array.getElem?_eq_none h'] at hg; cases hg
      by_cases hroom : m.length + 1 ≤ cap
      · refine (ins_shift g m.length cap k vb vc cur x w hkl hroom hcm hvg hg hcs hv hone).mono ?_
        rintro e w' ⟨rfl, w1, w2, A1, A2, h1, h2, h3, h4, rfl⟩
        have hl := shift_list cur.toList (cel x) A1 A2 k m.length rfl hkl (by simp; omega) h1 h2
        refine ⟨_, rfl, ?_, ⟨⟨?_, ?_, ?_, ?_, ?_⟩, fun b hb => .inl hb⟩⟩
        · refine ⟨?_, .inr ⟨g, cap, A2.toArray, rfl, Nat.zero_le _, ?_, hroom, hcm, ?_, ?_⟩⟩
          · rw [← hl.1]; simp; rw [hl.2]; simp; omega
          · rw [h4]; exact setRow_heap w1 g A1.toArray _ 46 _ (by rw [h3]; exact setRow_heap w.drew g cur _ 46 _ hg)
          · simp [hl.2, hcs]
          · simpa using hl.1
        · rw [h4, h3]; rfl
        · rw [h4, h3]; rfl
        · rw [h4, h3]; rfl
        · rw [h4, h3]; simp
        · intro b hb hbn
          have : b ≠ g := fun h => hbn (by simp [Value.ownBlock, h])
          rw [h4, setRow_other _ _ _ _ this, h3, setRow_other _ _ _ _ this]
          rfl
      · refine (ins_grow g m.length cap k vb vc cur x w hkl hnc (by omega) (by omega) hg hcs hv hone).mono ?_
        rintro e w' ⟨G, W1, W2, Z, A1, A2, rfl, hG1, hG2, hZ, h1, h2, h3, h4, rfl⟩
        have hl := grow_list cur.toList (cel x) Z A1 A2 k m.length rfl hkl (by simp; omega) (by rw [hZ]; omega) h1 h2
        have hn1 : W1.heap[w.heap.size]? = some (.cells (cur.toList.take (k * 4) ++ Z).toArray 46 (0, 0)) := by rw [h3]; exact heap_alloc_new w.drew _
        have hn2 : W2.heap[w.heap.size]? = some (.cells A1.toArray 46 (0, 0)) := by rw [h4]; exact setRow_heap W1 _ _ _ 46 _ hn1
        refine ⟨_, rfl, ?_, ⟨⟨?_, ?_, ?_, ?_, ?_⟩, fun b hb => .inr (by simp [Value.ownBlock] at hb; omega)⟩⟩
        · refine ⟨?_, .inr ⟨w.heap.size, G, A2.toArray, rfl, Nat.zero_le _, ?_, hG1, hG2, ?_, ?_⟩⟩
          · rw [← hl.1]; simp; rw [hl.2, hZ]; omega
          · exact setRow_heap W2.drew _ _ _ 46 _ hn2
          · simp [hl.2, hZ]; omega
          · simpa using hl.1
        · rw [h4, h3]; rfl
        · rw [h4, h3]; rfl
        · rw [h4, h3]; rfl
        · rw [h4, h3]; simp
        · intro b hb hbn
          have : b ≠ w.heap.size := by omega
          rw [setRow_other _ _ _ _ this]
          show W2.heap[b]? = _
          rw [h4, setRow_other _ _ _ _ this, h3]
          exact heap_alloc_old w.drew _ hb
  · have : k = m.length := by omega
    subst this
    refine (ins_end v m x vb vc w hm hO (cel_at hv)).mono ?_
    rintro e w' ⟨v', rfl, ho, hg⟩
    refine ⟨v', rfl, ?_, hg⟩
    rw [List.take_length, List.drop_length, flat_append]
    exact ho
set_option maxHeartbeats 1000000 in
theorem place1_any (x : Sib) (p q : Int) (w : World) :
    Calls Tryz.prog 67 #[.agg #[.int .i64 x.p, .int .i64 x.n, .int .i64 x.v, .bool x.d], .agg #[.int .i64 p, .int .i64 q]] w fun e w' => e = .returned (.int .i64 (dotsI x.p x.n p q)) ∧ Below w.heap.size w w' := by
  obtain ⟨r, hr⟩ : ∃ r, r = dotsI x.p x.n p q := ⟨_, rfl⟩
  have C : Hid (∀ W, Calls Tryz.prog 34 #[.agg #[.int .i64 x.p, .int .i64 x.n], .agg #[.int .i64 p, .int .i64 q]] W fun e w' => e = .returned (.int .i64 r) ∧ Below W.heap.size W w') := fun W => by rw [hr]; exact cmpDots_any _ _ _ _ W
  rw [← hr]
  clear hr
  go_enter Tryz.func67, Tryz.ntmps67
  go_wp2_with fail
  refine Calls.mono (C.out _) ?_
  rintro e w1 ⟨rfl, hb⟩
  have HB : Hid (Below w.heap.size w w1) := (((Below.refl _ _).alloc (Nat.le_refl _) _).alloc (by simp) _).trans (hb.mono (by simp; omega))
  clear hb
  go_wp2
  go_ret
  exact ⟨rfl, HB.out⟩
/-- Where an event's place is among siblings that rise. -/
def BsP (l : List Sib) (p q : Int) (w : World) (e : Ending) (w' : World) : Prop := ∃ (k : Nat) (b : Bool), e = .returned (.tuple #[.int .i64 k, .bool b]) ∧ k ≤ l.length ∧ (∀ i (h : i < l.length), i < k → dotsI l[i].p l[i].n p q < 0) ∧ (∀ h : k < l.length, ¬ dotsI l[k].p l[k].n p q < 0) ∧ Below w.heap.size w w'
set_option maxHeartbeats 4000000 in
theorem bs_any (cap : Nat) (ao : Option Addr) (l : List Sib) (p q : Int) (w : World) (hm : l.length ≤ 1048576) (hr0 : SibRow w ao l) (hs0 : ∀ i j (hi : i < l.length) (hj : j < l.length), i ≤ j → dotsI l[j].p l[j].n p q < 0 → dotsI l[i].p l[i].n p q < 0) :
    Calls Tryz.prog 66 #[.slice ao l.length cap, .agg #[.int .i64 p, .int .i64 q], .func (Fn.func 67) #[] #[]] w (BsP l p q w) := by
  have hr : Hid (SibRow w ao l) := hr0
  have hS : Hid (∀ i j (hi : i < l.length) (hj : j < l.length), i ≤ j → dotsI l[j].p l[j].n p q < 0 → dotsI l[i].p l[i].n p q < 0) := hs0
  clear hr0 hs0
  have mixed : Tryz.prog.follows Departure.mixedOrders = true := by kernel_rfl
  obtain ⟨n, hn0⟩ : ∃ n, n = l.length := ⟨_, rfl⟩
  have hn : Hid (n = l.length) := hn0
  rw [← hn0] at hm
  have e0 : (.slice ao l.length cap : Value) = .slice ao n cap := by rw [hn0]
  rw [e0]
  clear e0 hn0
  go_enter Tryz.func66, Tryz.ntmps66
  go_wp2
  go_loopw [9, 10] (fun s9 s10 wr => ∃ i j : Nat, s9 = .int .i64 i ∧ s10 = .int .i64 j ∧ i ≤ j ∧ j ≤ n ∧ Hid ((∀ t (h : t < l.length), t < i → dotsI l[t].p l[t].n p q < 0) ∧ (∀ t (h : t < l.length), j ≤ t → 0 ≤ dotsI l[t].p l[t].n p q)) ∧ Hid (Below w.heap.size w wr) ∧ w.heap.size < wr.heap.size ∧ wr.cell? ⟨w.heap.size, 0, none⟩ = some (.int .i64 p) ∧ wr.cell? ⟨w.heap.size, 1, none⟩ = some (.int .i64 q)) (fun s9 s10 _ => (intOf s10).toNat - (intOf s9).toNat)
  case atStart => exact ⟨0, n, rfl, rfl, by omega, by omega, ⟨fun t h h' => by omega, fun t h h' => by have := hn.out; omega⟩, (Below.refl _ _).alloc (Nat.le_refl _) _, by simp, by go_simp, by go_simp⟩
  case round =>
    obtain ⟨i, j, rfl, rfl, hij, hjn, HI, HB, hz, C0, C1⟩ := hrel
    have HZ : Hid (w.heap.size < wr.heap.size) := hz
    clear hz
    by_cases hlt : i < j
    · obtain ⟨md, hh⟩ : ∃ md : Nat, md = (i + j) / 2 := ⟨_, rfl⟩
      have hi1 : i ≤ md := by omega
      have hi2 : md < j := by omega
      have hlt' : (i : Int) < (j : Int) := by omega
      have hkl : md < l.length := by have := hn.out; omega
      obtain ⟨x, hx⟩ : ∃ x, x = l[md] := ⟨_, rfl⟩
      have HX : Hid (x = l[md]) := hx
      rcases hr.out with h' | ⟨b, off, rfl, h2⟩
      · rw [h'] at hkl; simp at hkl
      have h3 := h2 md hkl
      rw [← hx] at h3
      have x0 := cell_next HB.out h3.1 (cell_lt (x := ⟨b, _, none⟩) h3.1)
      have x1 := cell_next HB.out h3.2.1 (cell_lt (x := ⟨b, _, none⟩) h3.2.1)
      have x2 := cell_next HB.out h3.2.2.1 (cell_lt (x := ⟨b, _, none⟩) h3.2.2.1)
      have x3 := cell_next HB.out h3.2.2.2 (cell_lt (x := ⟨b, _, none⟩) h3.2.2.2)
      clear h3 h2 hx
      have hhi : ((i : Int) + (j : Int)) / 2 = (md : Int) := by omega
      have hw0 : IntKind.i64.wrap ((i : Int) + (j : Int)) = (i : Int) + (j : Int) := by rw [IntKind.wrap_i64]; omega
      have hw3 : IntKind.i64.wrap ((md : Int) + 1) = (md : Int) + 1 := by rw [IntKind.wrap_i64]; omega
      have hk0 : (0 : Int) ≤ (md : Int) := by omega
      have hkn : (md : Int) < (n : Int) := by omega
      clear hh
      obtain ⟨r, hr1⟩ : ∃ r, r = dotsI x.p x.n p q := ⟨_, rfl⟩
      have C : Hid (∀ W, Calls Tryz.prog 67 #[.agg #[.int .i64 x.p, .int .i64 x.n, .int .i64 x.v, .bool x.d], .agg #[.int .i64 p, .int .i64 q]] W fun e w' => e = .returned (.int .i64 r) ∧ Below W.heap.size W w') := fun W => by rw [hr1]; exact place1_any x p q W
      have HR : Hid (r = dotsI l[md].p l[md].n p q) := by show _ = _; rw [hr1, HX.out]
      clear hr1
      by_cases hneg : r < 0
      · go_wp2_with fail
        refine wp_region_held_drew (S := (fun w' => w'.cell? ⟨b, off + md * 4, none⟩ = some (.int .i64 x.p) ∧ w'.cell? ⟨b, off + md * 4 + 1, none⟩ = some (.int .i64 x.n) ∧ w'.cell? ⟨b, off + md * 4 + 2, none⟩ = some (.int .i64 x.v) ∧ w'.cell? ⟨b, off + md * 4 + 3, none⟩ = some (.bool x.d) ∧ w'.cell? ⟨w.heap.size, 0, none⟩ = some (.int .i64 p) ∧ w'.cell? ⟨w.heap.size, 1, none⟩ = some (.int .i64 q) ∧ Below wr.heap.size wr w')) (by kernel_rfl) ?_ (fun hHeld => ?_)
        · (try dsimp only)
          exact ⟨x0, x1, x2, x3, C0, C1, bel_drew _⟩
        refine wpAnyH_take (i := 0) (v := ?_) rfl (by kernel_rfl) (by kernel_rfl) (by kernel_rfl) (fun _ _ _ h => h) (Or.inl ⟨by rfl, ?_⟩) (by assumption) ?_
        rotate_left
        · intro w' hSw
          (try dsimp only at hSw)
          go_simp
          all_goals (try with_reducible rfl)
        (try simp only [Act.put, List.getElem_toArray, List.getElem_cons_zero, List.getElem_cons_succ, List.setIfInBounds_toArray, List.set_cons_zero, List.set_cons_succ])
        refine wpAnyH_take (i := 1) (v := ?_) rfl (by kernel_rfl) (by kernel_rfl) (by kernel_rfl) (fun _ _ _ h => h) (Or.inl ⟨by rfl, ?_⟩) (by assumption) ?_
        rotate_left
        · intro w' hSw
          (try dsimp only at hSw)
          go_simp
          all_goals (try with_reducible rfl)
        (try simp only [Act.put, List.getElem_toArray, List.getElem_cons_zero, List.getElem_cons_succ, List.setIfInBounds_toArray, List.set_cons_zero, List.set_cons_succ])
        refine wpAnyH_take (i := 2) (v := ?_) rfl (by kernel_rfl) (by kernel_rfl) (by kernel_rfl) (fun _ _ _ h => h) (Or.inl ⟨by rfl, ?_⟩) (by assumption) ?_
        rotate_left
        · intro w' hSw
          (try dsimp only at hSw)
          go_simp
          all_goals (try with_reducible rfl)
        (try simp only [Act.put, List.getElem_toArray, List.getElem_cons_zero, List.getElem_cons_succ, List.setIfInBounds_toArray, List.set_cons_zero, List.set_cons_succ])
        refine wpAnyH_take (i := 3) (v := ?_) rfl (by kernel_rfl) (by kernel_rfl) (by kernel_rfl) (fun _ _ _ h => h) (Or.inl ⟨by rfl, ?_⟩) (by assumption) ?_
        rotate_left
        · intro w' hSw
          (try dsimp only at hSw)
          go_simp
          all_goals (try with_reducible rfl)
        (try simp only [Act.put, List.getElem_toArray, List.getElem_cons_zero, List.getElem_cons_succ, List.setIfInBounds_toArray, List.set_cons_zero, List.set_cons_succ])
        refine wpAnyH_take (i := 4) (v := ?_) rfl (by kernel_rfl) (by kernel_rfl) (by kernel_rfl) (fun _ _ _ h => h) (Or.inl ⟨by rfl, ?_⟩) (by assumption) ?_
        rotate_left
        · intro w' hSw
          (try dsimp only at hSw)
          go_simp
          all_goals (try with_reducible rfl)
        (try simp only [Act.put, List.getElem_toArray, List.getElem_cons_zero, List.getElem_cons_succ, List.setIfInBounds_toArray, List.set_cons_zero, List.set_cons_succ])
        refine wpAnyH_take (i := 5) (v := ?_) rfl (by kernel_rfl) (by kernel_rfl) (by kernel_rfl) (fun _ _ _ h => h) (Or.inl ⟨by rfl, ?_⟩) (by assumption) ?_
        rotate_left
        · intro w' hSw
          (try dsimp only at hSw)
          go_simp
          all_goals (try with_reducible rfl)
        (try simp only [Act.put, List.getElem_toArray, List.getElem_cons_zero, List.getElem_cons_succ, List.setIfInBounds_toArray, List.set_cons_zero, List.set_cons_succ])
        refine wpAnyH_ready (rs := [6]) (by kernel_rfl) (by simp) ?_
        refine AllReadyH.cons rfl (fun K hK => ?_) AllReadyH.nil
        (try simp only [Act.put, List.getElem_toArray, List.getElem_cons_zero, List.getElem_cons_succ, List.setIfInBounds_toArray, List.set_cons_zero, List.set_cons_succ])
        go_simp
        (refine Calls.mono (C.out _) ?_; rintro e w2 ⟨rfl, hb⟩)
        (try simp only [])
        refine hK.out _ _ ?_ (fun hHeld' => ?_)
        · (try dsimp only)
          exact ⟨cell_next hb hHeld.1 (cell_lt hHeld.1), cell_next hb hHeld.2.1 (cell_lt hHeld.2.1), cell_next hb hHeld.2.2.1 (cell_lt hHeld.2.2.1), cell_next hb hHeld.2.2.2.1 (cell_lt hHeld.2.2.2.1), cell_next hb hHeld.2.2.2.2.1 (cell_lt hHeld.2.2.2.2.1), cell_next hb hHeld.2.2.2.2.2.1 (cell_lt hHeld.2.2.2.2.2.1), (bel_next' hHeld.2.2.2.2.2.2 hb).out⟩
        clear hK K
        clear hHeld
        have hHeld := hHeld'
        clear hHeld'
        clear hb
        (try simp only [Act.put, List.getElem_toArray, List.getElem_cons_zero, List.getElem_cons_succ, List.setIfInBounds_toArray, List.set_cons_zero, List.set_cons_succ])
        refine wpAnyH_take (i := 7) (v := ?_) rfl (by kernel_rfl) (by kernel_rfl) (by kernel_rfl) (fun _ _ _ h => h) (Or.inl ⟨by rfl, ?_⟩) (by assumption) ?_
        rotate_left
        · intro w' hSw
          (try dsimp only at hSw)
          go_simp
          all_goals (try with_reducible rfl)
        (try simp only [Act.put, List.getElem_toArray, List.getElem_cons_zero, List.getElem_cons_succ, List.setIfInBounds_toArray, List.set_cons_zero, List.set_cons_succ])
        refine wpAnyH_done (by kernel_rfl) ?_ _
        have HB2 : Hid (Below w.heap.size w _) := bel_next' HB hHeld.2.2.2.2.2.2
        have hz2 := hHeld.2.2.2.2.2.2.size
        have c0' := hHeld.2.2.2.2.1
        have c1' := hHeld.2.2.2.2.2.1
        clear hHeld x0 x1 x2 x3 C0 C1
        go_wp2
        go_roundw
        case rel =>
          have I2 : Hid ((∀ t (h : t < l.length), t < md + 1 → dotsI l[t].p l[t].n p q < 0) ∧ (∀ t (h : t < l.length), j ≤ t → 0 ≤ dotsI l[t].p l[t].n p q)) := ⟨fun t ht htl => hS.out t md ht hkl (by omega) (by rw [← HR.out]; exact hneg), HI.out.2⟩
          exact ⟨md + 1, j, by go_num, rfl, by omega, hjn, I2, HB2, by have := HZ.out; omega, c0', c1'⟩
        case measure => simp [intOf]; omega
      · go_wp2_with fail
        refine wp_region_held_drew (S := (fun w' => w'.cell? ⟨b, off + md * 4, none⟩ = some (.int .i64 x.p) ∧ w'.cell? ⟨b, off + md * 4 + 1, none⟩ = some (.int .i64 x.n) ∧ w'.cell? ⟨b, off + md * 4 + 2, none⟩ = some (.int .i64 x.v) ∧ w'.cell? ⟨b, off + md * 4 + 3, none⟩ = some (.bool x.d) ∧ w'.cell? ⟨w.heap.size, 0, none⟩ = some (.int .i64 p) ∧ w'.cell? ⟨w.heap.size, 1, none⟩ = some (.int .i64 q) ∧ Below wr.heap.size wr w')) (by kernel_rfl) ?_ (fun hHeld => ?_)
        · (try dsimp only)
          exact ⟨x0, x1, x2, x3, C0, C1, bel_drew _⟩
        refine wpAnyH_take (i := 0) (v := ?_) rfl (by kernel_rfl) (by kernel_rfl) (by kernel_rfl) (fun _ _ _ h => h) (Or.inl ⟨by rfl, ?_⟩) (by assumption) ?_
        rotate_left
        · intro w' hSw
          (try dsimp only at hSw)
          go_simp
          all_goals (try with_reducible rfl)
        (try simp only [Act.put, List.getElem_toArray, List.getElem_cons_zero, List.getElem_cons_succ, List.setIfInBounds_toArray, List.set_cons_zero, List.set_cons_succ])
        refine wpAnyH_take (i := 1) (v := ?_) rfl (by kernel_rfl) (by kernel_rfl) (by kernel_rfl) (fun _ _ _ h => h) (Or.inl ⟨by rfl, ?_⟩) (by assumption) ?_
        rotate_left
        · intro w' hSw
          (try dsimp only at hSw)
          go_simp
          all_goals (try with_reducible rfl)
        (try simp only [Act.put, List.getElem_toArray, List.getElem_cons_zero, List.getElem_cons_succ, List.setIfInBounds_toArray, List.set_cons_zero, List.set_cons_succ])
        refine wpAnyH_take (i := 2) (v := ?_) rfl (by kernel_rfl) (by kernel_rfl) (by kernel_rfl) (fun _ _ _ h => h) (Or.inl ⟨by rfl, ?_⟩) (by assumption) ?_
        rotate_left
        · intro w' hSw
          (try dsimp only at hSw)
          go_simp
          all_goals (try with_reducible rfl)
        (try simp only [Act.put, List.getElem_toArray, List.getElem_cons_zero, List.getElem_cons_succ, List.setIfInBounds_toArray, List.set_cons_zero, List.set_cons_succ])
        refine wpAnyH_take (i := 3) (v := ?_) rfl (by kernel_rfl) (by kernel_rfl) (by kernel_rfl) (fun _ _ _ h => h) (Or.inl ⟨by rfl, ?_⟩) (by assumption) ?_
        rotate_left
        · intro w' hSw
          (try dsimp only at hSw)
          go_simp
          all_goals (try with_reducible rfl)
        (try simp only [Act.put, List.getElem_toArray, List.getElem_cons_zero, List.getElem_cons_succ, List.setIfInBounds_toArray, List.set_cons_zero, List.set_cons_succ])
        refine wpAnyH_take (i := 4) (v := ?_) rfl (by kernel_rfl) (by kernel_rfl) (by kernel_rfl) (fun _ _ _ h => h) (Or.inl ⟨by rfl, ?_⟩) (by assumption) ?_
        rotate_left
        · intro w' hSw
          (try dsimp only at hSw)
          go_simp
          all_goals (try with_reducible rfl)
        (try simp only [Act.put, List.getElem_toArray, List.getElem_cons_zero, List.getElem_cons_succ, List.setIfInBounds_toArray, List.set_cons_zero, List.set_cons_succ])
        refine wpAnyH_take (i := 5) (v := ?_) rfl (by kernel_rfl) (by kernel_rfl) (by kernel_rfl) (fun _ _ _ h => h) (Or.inl ⟨by rfl, ?_⟩) (by assumption) ?_
        rotate_left
        · intro w' hSw
          (try dsimp only at hSw)
          go_simp
          all_goals (try with_reducible rfl)
        (try simp only [Act.put, List.getElem_toArray, List.getElem_cons_zero, List.getElem_cons_succ, List.setIfInBounds_toArray, List.set_cons_zero, List.set_cons_succ])
        refine wpAnyH_ready (rs := [6]) (by kernel_rfl) (by simp) ?_
        refine AllReadyH.cons rfl (fun K hK => ?_) AllReadyH.nil
        (try simp only [Act.put, List.getElem_toArray, List.getElem_cons_zero, List.getElem_cons_succ, List.setIfInBounds_toArray, List.set_cons_zero, List.set_cons_succ])
        go_simp
        (refine Calls.mono (C.out _) ?_; rintro e w2 ⟨rfl, hb⟩)
        (try simp only [])
        refine hK.out _ _ ?_ (fun hHeld' => ?_)
        · (try dsimp only)
          exact ⟨cell_next hb hHeld.1 (cell_lt hHeld.1), cell_next hb hHeld.2.1 (cell_lt hHeld.2.1), cell_next hb hHeld.2.2.1 (cell_lt hHeld.2.2.1), cell_next hb hHeld.2.2.2.1 (cell_lt hHeld.2.2.2.1), cell_next hb hHeld.2.2.2.2.1 (cell_lt hHeld.2.2.2.2.1), cell_next hb hHeld.2.2.2.2.2.1 (cell_lt hHeld.2.2.2.2.2.1), (bel_next' hHeld.2.2.2.2.2.2 hb).out⟩
        clear hK K
        clear hHeld
        have hHeld := hHeld'
        clear hHeld'
        clear hb
        (try simp only [Act.put, List.getElem_toArray, List.getElem_cons_zero, List.getElem_cons_succ, List.setIfInBounds_toArray, List.set_cons_zero, List.set_cons_succ])
        refine wpAnyH_take (i := 7) (v := ?_) rfl (by kernel_rfl) (by kernel_rfl) (by kernel_rfl) (fun _ _ _ h => h) (Or.inl ⟨by rfl, ?_⟩) (by assumption) ?_
        rotate_left
        · intro w' hSw
          (try dsimp only at hSw)
          go_simp
          all_goals (try with_reducible rfl)
        (try simp only [Act.put, List.getElem_toArray, List.getElem_cons_zero, List.getElem_cons_succ, List.setIfInBounds_toArray, List.set_cons_zero, List.set_cons_succ])
        refine wpAnyH_done (by kernel_rfl) ?_ _
        have HB2 : Hid (Below w.heap.size w _) := bel_next' HB hHeld.2.2.2.2.2.2
        have hz2 := hHeld.2.2.2.2.2.2.size
        have c0' := hHeld.2.2.2.2.1
        have c1' := hHeld.2.2.2.2.2.1
        clear hHeld x0 x1 x2 x3 C0 C1
        go_wp2
        go_roundw
        case rel =>
          have I2 : Hid ((∀ t (h : t < l.length), t < i → dotsI l[t].p l[t].n p q < 0) ∧ (∀ t (h : t < l.length), md ≤ t → 0 ≤ dotsI l[t].p l[t].n p q)) := ⟨HI.out.1, fun t ht htl => Int.not_lt.1 fun hc => by have h5 := hS.out md t hkl ht htl hc; rw [← HR.out] at h5; omega⟩
          exact ⟨i, md, rfl, rfl, by omega, by omega, I2, HB2, by have := HZ.out; omega, c0', c1'⟩
        case measure => simp [intOf]; omega
    · have hij' : i = j := by omega
      subst hij'
      by_cases hin : i < n
      · have hkl : i < l.length := by have := hn.out; omega
        obtain ⟨x, hx⟩ : ∃ x, x = l[i] := ⟨_, rfl⟩
        rcases hr.out with h' | ⟨b, off, rfl, h2⟩
        · rw [h'] at hkl; simp at hkl
        have h3 := h2 i hkl
        rw [← hx] at h3
        have x0 := cell_next HB.out h3.1 (cell_lt (x := ⟨b, _, none⟩) h3.1)
        have x1 := cell_next HB.out h3.2.1 (cell_lt (x := ⟨b, _, none⟩) h3.2.1)
        have x2 := cell_next HB.out h3.2.2.1 (cell_lt (x := ⟨b, _, none⟩) h3.2.2.1)
        have x3 := cell_next HB.out h3.2.2.2 (cell_lt (x := ⟨b, _, none⟩) h3.2.2.2)
        clear h3 h2
        have hk0 : (0 : Int) ≤ (i : Int) := by omega
        have hkn : (i : Int) < (n : Int) := by omega
        have hii : ¬ (i : Int) < (i : Int) := by omega
        obtain ⟨r, hr1⟩ : ∃ r, r = dotsI x.p x.n p q := ⟨_, rfl⟩
        have C : Hid (∀ W, Calls Tryz.prog 67 #[.agg #[.int .i64 x.p, .int .i64 x.n, .int .i64 x.v, .bool x.d], .agg #[.int .i64 p, .int .i64 q]] W fun e w' => e = .returned (.int .i64 r) ∧ Below W.heap.size W w') := fun W => by rw [hr1]; exact place1_any x p q W
        have hnl := hn.out
        have HN : Hid (∀ h : i < l.length, 0 ≤ dotsI l[i].p l[i].n p q) := fun h => HI.out.2 i h (Nat.le_refl _)
        have HF : Hid (∀ t (h : t < l.length), t < i → dotsI l[t].p l[t].n p q < 0) := HI.out.1
        have HL : Hid (i ≤ l.length) := by show _ ≤ _; omega
        clear hr1 hx HI hnl
        go_wp2_with fail
        refine wp_region_held_drew (S := (fun w' => w'.cell? ⟨b, off + i * 4, none⟩ = some (.int .i64 x.p) ∧ w'.cell? ⟨b, off + i * 4 + 1, none⟩ = some (.int .i64 x.n) ∧ w'.cell? ⟨b, off + i * 4 + 2, none⟩ = some (.int .i64 x.v) ∧ w'.cell? ⟨b, off + i * 4 + 3, none⟩ = some (.bool x.d) ∧ w'.cell? ⟨w.heap.size, 0, none⟩ = some (.int .i64 p) ∧ w'.cell? ⟨w.heap.size, 1, none⟩ = some (.int .i64 q) ∧ Below wr.heap.size wr w')) (by kernel_rfl) ?_ (fun hHeld => ?_)
        · (try dsimp only)
          exact ⟨x0, x1, x2, x3, C0, C1, bel_drew _⟩
        refine wpAnyH_take (i := 0) (v := ?_) rfl (by kernel_rfl) (by kernel_rfl) (by kernel_rfl) (fun _ _ _ h => h) (Or.inl ⟨by rfl, ?_⟩) (by assumption) ?_
        rotate_left
        · intro w' hSw
          (try dsimp only at hSw)
          go_simp
          all_goals (try with_reducible rfl)
        (try simp only [Act.put, List.getElem_toArray, List.getElem_cons_zero, List.getElem_cons_succ, List.setIfInBounds_toArray, List.set_cons_zero, List.set_cons_succ])
        refine wpAnyH_take (i := 1) (v := ?_) rfl (by kernel_rfl) (by kernel_rfl) (by kernel_rfl) (fun _ _ _ h => h) (Or.inl ⟨by rfl, ?_⟩) (by assumption) ?_
        rotate_left
        · intro w' hSw
          (try dsimp only at hSw)
          go_simp
          all_goals (try with_reducible rfl)
        (try simp only [Act.put, List.getElem_toArray, List.getElem_cons_zero, List.getElem_cons_succ, List.setIfInBounds_toArray, List.set_cons_zero, List.set_cons_succ])
        refine wpAnyH_take (i := 2) (v := ?_) rfl (by kernel_rfl) (by kernel_rfl) (by kernel_rfl) (fun _ _ _ h => h) (Or.inl ⟨by rfl, ?_⟩) (by assumption) ?_
        rotate_left
        · intro w' hSw
          (try dsimp only at hSw)
          go_simp
          all_goals (try with_reducible rfl)
        (try simp only [Act.put, List.getElem_toArray, List.getElem_cons_zero, List.getElem_cons_succ, List.setIfInBounds_toArray, List.set_cons_zero, List.set_cons_succ])
        refine wpAnyH_take (i := 3) (v := ?_) rfl (by kernel_rfl) (by kernel_rfl) (by kernel_rfl) (fun _ _ _ h => h) (Or.inl ⟨by rfl, ?_⟩) (by assumption) ?_
        rotate_left
        · intro w' hSw
          (try dsimp only at hSw)
          go_simp
          all_goals (try with_reducible rfl)
        (try simp only [Act.put, List.getElem_toArray, List.getElem_cons_zero, List.getElem_cons_succ, List.setIfInBounds_toArray, List.set_cons_zero, List.set_cons_succ])
        refine wpAnyH_take (i := 4) (v := ?_) rfl (by kernel_rfl) (by kernel_rfl) (by kernel_rfl) (fun _ _ _ h => h) (Or.inl ⟨by rfl, ?_⟩) (by assumption) ?_
        rotate_left
        · intro w' hSw
          (try dsimp only at hSw)
          go_simp
          all_goals (try with_reducible rfl)
        (try simp only [Act.put, List.getElem_toArray, List.getElem_cons_zero, List.getElem_cons_succ, List.setIfInBounds_toArray, List.set_cons_zero, List.set_cons_succ])
        refine wpAnyH_take (i := 5) (v := ?_) rfl (by kernel_rfl) (by kernel_rfl) (by kernel_rfl) (fun _ _ _ h => h) (Or.inl ⟨by rfl, ?_⟩) (by assumption) ?_
        rotate_left
        · intro w' hSw
          (try dsimp only at hSw)
          go_simp
          all_goals (try with_reducible rfl)
        (try simp only [Act.put, List.getElem_toArray, List.getElem_cons_zero, List.getElem_cons_succ, List.setIfInBounds_toArray, List.set_cons_zero, List.set_cons_succ])
        refine wpAnyH_take (i := 6) (v := ?_) rfl (by kernel_rfl) (by kernel_rfl) (by kernel_rfl) (fun _ _ _ h => h) (Or.inl ⟨by rfl, ?_⟩) (by assumption) ?_
        rotate_left
        · intro w' hSw
          (try dsimp only at hSw)
          go_simp
          all_goals (try with_reducible rfl)
        (try simp only [Act.put, List.getElem_toArray, List.getElem_cons_zero, List.getElem_cons_succ, List.setIfInBounds_toArray, List.set_cons_zero, List.set_cons_succ])
        refine wpAnyH_take (i := 7) (v := ?_) rfl (by kernel_rfl) (by kernel_rfl) (by kernel_rfl) (fun _ _ _ h => h) (Or.inl ⟨by rfl, ?_⟩) (by assumption) ?_
        rotate_left
        · intro w' hSw
          (try dsimp only at hSw)
          go_simp
          all_goals (try with_reducible rfl)
        (try simp only [Act.put, List.getElem_toArray, List.getElem_cons_zero, List.getElem_cons_succ, List.setIfInBounds_toArray, List.set_cons_zero, List.set_cons_succ])
        refine wpAnyH_take (i := 8) (v := ?_) rfl (by kernel_rfl) (by kernel_rfl) (by kernel_rfl) (fun _ _ _ h => h) (Or.inl ⟨by rfl, ?_⟩) (by assumption) ?_
        rotate_left
        · intro w' hSw
          (try dsimp only at hSw)
          go_simp
          all_goals (try with_reducible rfl)
        (try simp only [Act.put, List.getElem_toArray, List.getElem_cons_zero, List.getElem_cons_succ, List.setIfInBounds_toArray, List.set_cons_zero, List.set_cons_succ])
        refine wpAnyH_take (i := 9) (v := ?_) rfl (by kernel_rfl) (by kernel_rfl) (by kernel_rfl) (fun _ _ _ h => h) (Or.inl ⟨by rfl, ?_⟩) (by assumption) ?_
        rotate_left
        · intro w' hSw
          (try dsimp only at hSw)
          go_simp
          all_goals (try with_reducible rfl)
        (try simp only [Act.put, List.getElem_toArray, List.getElem_cons_zero, List.getElem_cons_succ, List.setIfInBounds_toArray, List.set_cons_zero, List.set_cons_succ])
        refine wpAnyH_take (i := 10) (v := ?_) rfl (by kernel_rfl) (by kernel_rfl) (by kernel_rfl) (fun _ _ _ h => h) (Or.inl ⟨by rfl, ?_⟩) (by assumption) ?_
        rotate_left
        · intro w' hSw
          (try dsimp only at hSw)
          go_simp
          all_goals (try with_reducible rfl)
        (try simp only [Act.put, List.getElem_toArray, List.getElem_cons_zero, List.getElem_cons_succ, List.setIfInBounds_toArray, List.set_cons_zero, List.set_cons_succ])
        refine wpAnyH_ready (rs := [11]) (by kernel_rfl) (by simp) ?_
        refine AllReadyH.cons rfl (fun K hK => ?_) AllReadyH.nil
        (try simp only [Act.put, List.getElem_toArray, List.getElem_cons_zero, List.getElem_cons_succ, List.setIfInBounds_toArray, List.set_cons_zero, List.set_cons_succ])
        go_simp
        (refine Calls.mono (C.out _) ?_; rintro e w2 ⟨rfl, hb⟩)
        (try simp only [])
        refine hK.out _ _ ?_ (fun hHeld' => ?_)
        · (try dsimp only)
          exact ⟨cell_next hb hHeld.1 (cell_lt hHeld.1), cell_next hb hHeld.2.1 (cell_lt hHeld.2.1), cell_next hb hHeld.2.2.1 (cell_lt hHeld.2.2.1), cell_next hb hHeld.2.2.2.1 (cell_lt hHeld.2.2.2.1), cell_next hb hHeld.2.2.2.2.1 (cell_lt hHeld.2.2.2.2.1), cell_next hb hHeld.2.2.2.2.2.1 (cell_lt hHeld.2.2.2.2.2.1), (bel_next' hHeld.2.2.2.2.2.2 hb).out⟩
        clear hK K
        clear hHeld
        have hHeld := hHeld'
        clear hHeld'
        clear hb
        (try simp only [Act.put, List.getElem_toArray, List.getElem_cons_zero, List.getElem_cons_succ, List.setIfInBounds_toArray, List.set_cons_zero, List.set_cons_succ])
        refine wpAnyH_take (i := 12) (v := ?_) rfl (by kernel_rfl) (by kernel_rfl) (by kernel_rfl) (fun _ _ _ h => h) (Or.inl ⟨by rfl, ?_⟩) (by assumption) ?_
        rotate_left
        · intro w' hSw
          (try dsimp only at hSw)
          go_simp
          all_goals (try with_reducible rfl)
        (try simp only [Act.put, List.getElem_toArray, List.getElem_cons_zero, List.getElem_cons_succ, List.setIfInBounds_toArray, List.set_cons_zero, List.set_cons_succ])
        refine wpAnyH_take (i := 13) (v := ?_) rfl (by kernel_rfl) (by kernel_rfl) (by kernel_rfl) (fun _ _ _ h => h) (Or.inl ⟨by rfl, ?_⟩) (by assumption) ?_
        rotate_left
        · intro w' hSw
          (try dsimp only at hSw)
          go_simp
          all_goals (try with_reducible rfl)
        (try simp only [Act.put, List.getElem_toArray, List.getElem_cons_zero, List.getElem_cons_succ, List.setIfInBounds_toArray, List.set_cons_zero, List.set_cons_succ])
        refine wpAnyH_take (i := 14) (v := ?_) rfl (by kernel_rfl) (by kernel_rfl) (by kernel_rfl) (fun _ _ _ h => h) (Or.inl ⟨by rfl, ?_⟩) (by assumption) ?_
        rotate_left
        · intro w' hSw
          (try dsimp only at hSw)
          go_simp
          all_goals (try with_reducible rfl)
        (try simp only [Act.put, List.getElem_toArray, List.getElem_cons_zero, List.getElem_cons_succ, List.setIfInBounds_toArray, List.set_cons_zero, List.set_cons_succ])
        refine wpAnyH_take (i := 15) (v := ?_) rfl (by kernel_rfl) (by kernel_rfl) (by kernel_rfl) (fun _ _ _ h => h) (Or.inl ⟨by rfl, ?_⟩) (by assumption) ?_
        rotate_left
        · intro w' hSw
          (try dsimp only at hSw)
          go_simp
          all_goals (try with_reducible rfl)
        (try simp only [Act.put, List.getElem_toArray, List.getElem_cons_zero, List.getElem_cons_succ, List.setIfInBounds_toArray, List.set_cons_zero, List.set_cons_succ])
        refine wpAnyH_done (by kernel_rfl) ?_ _
        have HB2 : Hid (Below w.heap.size w _) := bel_next' HB hHeld.2.2.2.2.2.2
        clear hHeld x0 x1 x2 x3 C0 C1
        go_wp2
        go_ret2
        exact ⟨i, _, rfl, HL.out, HF.out, fun h => Int.not_lt.2 (HN.out h), HB2.out⟩
      · have hkn : ¬ (i : Int) < (n : Int) := by omega
        have hii : ¬ (i : Int) < (i : Int) := by omega
        have hnl := hn.out
        have HN : Hid (∀ h : i < l.length, 0 ≤ dotsI l[i].p l[i].n p q) := fun h => by omega
        have HF : Hid (∀ t (h : t < l.length), t < i → dotsI l[t].p l[t].n p q < 0) := HI.out.1
        have HL : Hid (i ≤ l.length) := by show _ ≤ _; omega
        clear HI hnl
        go_wp2_with fail
        refine wp_region_held_drew (S := (fun w' => Below wr.heap.size wr w')) (by kernel_rfl) ?_ (fun hHeld => ?_)
        · (try dsimp only)
          exact bel_drew _
        refine wpAnyH_take (i := 0) (v := ?_) rfl (by kernel_rfl) (by kernel_rfl) (by kernel_rfl) (fun _ _ _ h => h) (Or.inl ⟨by rfl, ?_⟩) (by assumption) ?_
        rotate_left
        · intro w' hSw
          (try dsimp only at hSw)
          go_simp
          all_goals (try with_reducible rfl)
        (try simp only [Act.put, List.getElem_toArray, List.getElem_cons_zero, List.getElem_cons_succ, List.setIfInBounds_toArray, List.set_cons_zero, List.set_cons_succ])
        refine wpAnyH_take (i := 1) (v := ?_) rfl (by kernel_rfl) (by kernel_rfl) (by kernel_rfl) (fun _ _ _ h => h) (Or.inl ⟨by rfl, ?_⟩) (by assumption) ?_
        rotate_left
        · intro w' hSw
          (try dsimp only at hSw)
          go_simp
          all_goals (try with_reducible rfl)
        (try simp only [Act.put, List.getElem_toArray, List.getElem_cons_zero, List.getElem_cons_succ, List.setIfInBounds_toArray, List.set_cons_zero, List.set_cons_succ])
        refine wpAnyH_take (i := 2) (v := ?_) rfl (by kernel_rfl) (by kernel_rfl) (by kernel_rfl) (fun _ _ _ h => h) (Or.inl ⟨by rfl, ?_⟩) (by assumption) ?_
        rotate_left
        · intro w' hSw
          (try dsimp only at hSw)
          go_simp
          all_goals (try with_reducible rfl)
        (try simp only [Act.put, List.getElem_toArray, List.getElem_cons_zero, List.getElem_cons_succ, List.setIfInBounds_toArray, List.set_cons_zero, List.set_cons_succ])
        refine wpAnyH_take (i := 3) (v := ?_) rfl (by kernel_rfl) (by kernel_rfl) (by kernel_rfl) (fun _ _ _ h => h) (Or.inl ⟨by rfl, ?_⟩) (by assumption) ?_
        rotate_left
        · intro w' hSw
          (try dsimp only at hSw)
          go_simp
          all_goals (try with_reducible rfl)
        (try simp only [Act.put, List.getElem_toArray, List.getElem_cons_zero, List.getElem_cons_succ, List.setIfInBounds_toArray, List.set_cons_zero, List.set_cons_succ])
        refine wpAnyH_take (i := 4) (v := ?_) rfl (by kernel_rfl) (by kernel_rfl) (by kernel_rfl) (fun _ _ _ h => h) (Or.inl ⟨by rfl, ?_⟩) (by assumption) ?_
        rotate_left
        · intro w' hSw
          (try dsimp only at hSw)
          go_simp
          all_goals (try with_reducible rfl)
        (try simp only [Act.put, List.getElem_toArray, List.getElem_cons_zero, List.getElem_cons_succ, List.setIfInBounds_toArray, List.set_cons_zero, List.set_cons_succ])
        refine wpAnyH_take (i := 5) (v := undef) rfl (by kernel_rfl) (by kernel_rfl) (by kernel_rfl) (fun _ _ _ h => h) (Or.inr ⟨by rfl, rfl⟩) (by assumption) ?_
        (try simp only [Act.put, List.getElem_toArray, List.getElem_cons_zero, List.getElem_cons_succ, List.setIfInBounds_toArray, List.set_cons_zero, List.set_cons_succ])
        refine wpAnyH_take (i := 6) (v := undef) rfl (by kernel_rfl) (by kernel_rfl) (by kernel_rfl) (fun _ _ _ h => h) (Or.inr ⟨by rfl, rfl⟩) (by assumption) ?_
        (try simp only [Act.put, List.getElem_toArray, List.getElem_cons_zero, List.getElem_cons_succ, List.setIfInBounds_toArray, List.set_cons_zero, List.set_cons_succ])
        refine wpAnyH_take (i := 7) (v := undef) rfl (by kernel_rfl) (by kernel_rfl) (by kernel_rfl) (fun _ _ _ h => h) (Or.inr ⟨by rfl, rfl⟩) (by assumption) ?_
        (try simp only [Act.put, List.getElem_toArray, List.getElem_cons_zero, List.getElem_cons_succ, List.setIfInBounds_toArray, List.set_cons_zero, List.set_cons_succ])
        refine wpAnyH_take (i := 8) (v := undef) rfl (by kernel_rfl) (by kernel_rfl) (by kernel_rfl) (fun _ _ _ h => h) (Or.inr ⟨by rfl, rfl⟩) (by assumption) ?_
        (try simp only [Act.put, List.getElem_toArray, List.getElem_cons_zero, List.getElem_cons_succ, List.setIfInBounds_toArray, List.set_cons_zero, List.set_cons_succ])
        refine wpAnyH_take (i := 9) (v := undef) rfl (by kernel_rfl) (by kernel_rfl) (by kernel_rfl) (fun _ _ _ h => h) (Or.inr ⟨by rfl, rfl⟩) (by assumption) ?_
        (try simp only [Act.put, List.getElem_toArray, List.getElem_cons_zero, List.getElem_cons_succ, List.setIfInBounds_toArray, List.set_cons_zero, List.set_cons_succ])
        refine wpAnyH_take (i := 10) (v := undef) rfl (by kernel_rfl) (by kernel_rfl) (by kernel_rfl) (fun _ _ _ h => h) (Or.inr ⟨by rfl, rfl⟩) (by assumption) ?_
        (try simp only [Act.put, List.getElem_toArray, List.getElem_cons_zero, List.getElem_cons_succ, List.setIfInBounds_toArray, List.set_cons_zero, List.set_cons_succ])
        refine wpAnyH_take (i := 11) (v := undef) rfl (by kernel_rfl) (by kernel_rfl) (by kernel_rfl) (fun _ _ _ h => h) (Or.inr ⟨by rfl, rfl⟩) (by assumption) ?_
        (try simp only [Act.put, List.getElem_toArray, List.getElem_cons_zero, List.getElem_cons_succ, List.setIfInBounds_toArray, List.set_cons_zero, List.set_cons_succ])
        refine wpAnyH_take (i := 12) (v := undef) rfl (by kernel_rfl) (by kernel_rfl) (by kernel_rfl) (fun _ _ _ h => h) (Or.inr ⟨by rfl, rfl⟩) (by assumption) ?_
        (try simp only [Act.put, List.getElem_toArray, List.getElem_cons_zero, List.getElem_cons_succ, List.setIfInBounds_toArray, List.set_cons_zero, List.set_cons_succ])
        refine wpAnyH_take (i := 13) (v := ?_) rfl (by kernel_rfl) (by kernel_rfl) (by kernel_rfl) (fun _ _ _ h => h) (Or.inl ⟨by rfl, ?_⟩) (by assumption) ?_
        rotate_left
        · intro w' hSw
          (try dsimp only at hSw)
          go_simp
          all_goals (try with_reducible rfl)
        (try simp only [Act.put, List.getElem_toArray, List.getElem_cons_zero, List.getElem_cons_succ, List.setIfInBounds_toArray, List.set_cons_zero, List.set_cons_succ])
        refine wpAnyH_take (i := 14) (v := ?_) rfl (by kernel_rfl) (by kernel_rfl) (by kernel_rfl) (fun _ _ _ h => h) (Or.inl ⟨by rfl, ?_⟩) (by assumption) ?_
        rotate_left
        · intro w' hSw
          (try dsimp only at hSw)
          go_simp
          all_goals (try with_reducible rfl)
        (try simp only [Act.put, List.getElem_toArray, List.getElem_cons_zero, List.getElem_cons_succ, List.setIfInBounds_toArray, List.set_cons_zero, List.set_cons_succ])
        refine wpAnyH_take (i := 15) (v := ?_) rfl (by kernel_rfl) (by kernel_rfl) (by kernel_rfl) (fun _ _ _ h => h) (Or.inl ⟨by rfl, ?_⟩) (by assumption) ?_
        rotate_left
        · intro w' hSw
          (try dsimp only at hSw)
          go_simp
          all_goals (try with_reducible rfl)
        (try simp only [Act.put, List.getElem_toArray, List.getElem_cons_zero, List.getElem_cons_succ, List.setIfInBounds_toArray, List.set_cons_zero, List.set_cons_succ])
        refine wpAnyH_done (by kernel_rfl) ?_ _
        have HB2 : Hid (Below w.heap.size w _) := bel_next' HB hHeld
        clear hHeld
        go_wp2
        go_ret2
        exact ⟨i, _, rfl, HL.out, HF.out, fun h => Int.not_lt.2 (HN.out h), HB2.out⟩
theorem rise_mono {l : List Sib} (h : Rise l) (x : Sib) : ∀ i j (hi : i < l.length) (hj : j < l.length), i ≤ j → dotsI l[j].p l[j].n x.p x.n < 0 → dotsI l[i].p l[i].n x.p x.n < 0 := by
  intro i j hi hj hij hd
  rcases Nat.lt_or_ge i j with h' | h'
  · have h1 : Bef l[i] l[j] := List.pairwise_iff_getElem.1 h i j hi hj h'
    exact dots_neg.2 (h1.trans (dots_neg.1 hd))
  · have : i = j := by omega
    subst this
    exact hd
set_option maxHeartbeats 2000000 in
theorem place_any (v : Value) (m : List Sib) (x : Sib) (w : World) (hm : m.length ≤ 1048576) (hO0 : w.ownsRow 0 46 4 v m.length (flat m)) (hR0 : Rise m) :
    Calls Tryz.prog 38 #[v, .agg #[.int .i64 x.p, .int .i64 x.n, .int .i64 x.v, .bool x.d]] w fun e w' => ∃ v', e = .returned v' ∧ w'.ownsRow 0 46 4 v' (pt x m).length (flat (pt x m)) ∧ Gro w w' v v' := by
  obtain ⟨ao, cap, rfl, hrow, hlt⟩ := owned_row hO0
  have HO : Hid (w.ownsRow 0 46 4 (.slice ao m.length cap) m.length (flat m)) := hO0
  have HRow : Hid (SibRow w ao m) := hrow
  have HRi : Hid (Rise m) := hR0
  have HM : Hid (m.length ≤ 1048576) := hm
  clear hO0 hrow hR0 hm hlt
  obtain ⟨n, hn0⟩ : ∃ n, n = m.length := ⟨_, rfl⟩
  have HN : Hid (n = m.length) := hn0
  have CB : Hid (∀ W, SibRow W ao m → Calls Tryz.prog 66 #[.slice ao n cap, .agg #[.int .i64 x.p, .int .i64 x.n], .func (Fn.func 67) #[] #[]] W (BsP m x.p x.n W)) := fun W h => by rw [hn0]; exact bs_any cap ao m x.p x.n W HM.out h (rise_mono HRi.out x)
  have CI : Hid (∀ W (k vb : Nat), k ≤ m.length → W.ownsRow 0 46 4 (.slice ao m.length cap) m.length (flat m) → W.heap[vb]? = some (.cells (cel x).toArray 46 (0, 0)) → (Value.slice ao m.length cap).ownBlock ≠ some vb → Calls Tryz.prog 68 #[.slice ao n cap, .int .i64 k, .slice (some ⟨vb, 0, none⟩) 1 1] W fun e w' => ∃ v', e = .returned v' ∧ w'.ownsRow 0 46 4 v' (m.length + 1) (flat (m.take k ++ x :: m.drop k)) ∧ Gro W w' (.slice ao m.length cap) v') := fun W k vb hk h1 h2 h3 => by rw [hn0]; exact ins_any _ m k x vb 1 W hk HM.out h1 h2 h3
  have e0 : (.slice ao m.length cap : Value) = .slice ao n cap := by rw [hn0]
  have GOAL : Hid (∀ e w' v', e = Ending.returned v' → w'.ownsRow 0 46 4 v' (pt x m).length (flat (pt x m)) → Gro w w' (.slice ao m.length cap) v' → ∃ v', e = Ending.returned v' ∧ w'.ownsRow 0 46 4 v' (pt x m).length (flat (pt x m)) ∧ Gro w w' (.slice ao m.length cap) v') := fun e w' v' h1 h2 h3 => ⟨v', h1, h2, h3⟩
  rw [e0] at GOAL ⊢
  have E0 : Hid ((.slice ao m.length cap : Value) = .slice ao n cap) := e0
  clear e0 hn0
  go_enter Tryz.func38, Tryz.ntmps38
  go_wp2_with fail
  refine Calls.mono (CB.out _ (HRow.out.next (bel_alloc _ _))) ?_
  rintro e w1 ⟨k, b, rfl, hk, h1, h2, hb⟩
  have HB : Hid (Below w.heap.size w w1) := (bel_alloc _ _).trans (hb.mono (by simp))
  have HK : Hid (k ≤ m.length ∧ m.take k ++ x :: m.drop k = pt x m) := ⟨hk, pt_at x m k hk h1 h2⟩
  have HS : Hid (w.heap.size < w1.heap.size) := by have := hb.size; simp at this; show _ < _; omega
  have x0 : w1.cell? ⟨w.heap.size, 0, none⟩ = some (.int .i64 x.p) := cell_next hb (by go_simp) (by simp)
  have x1 : w1.cell? ⟨w.heap.size, 1, none⟩ = some (.int .i64 x.n) := cell_next hb (by go_simp) (by simp)
  have x2 : w1.cell? ⟨w.heap.size, 2, none⟩ = some (.int .i64 x.v) := cell_next hb (by go_simp) (by simp)
  have x3 : w1.cell? ⟨w.heap.size, 3, none⟩ = some (.bool x.d) := cell_next hb (by go_simp) (by simp)
  clear hb hk h1 h2
  go_wp2_with fail
  have O1 : Hid (w1.ownsRow 0 46 4 (.slice ao m.length cap) m.length (flat m)) := own_next HO.out HB.out
  refine Calls.mono (CI.out _ k w1.heap.size HK.out.1 (own_next O1.out (bel_alloc _ _)) (heap_alloc_new w1 _) (fun e => by have := (O1.out.lt _ e).2; omega)) ?_
  rintro e w2 ⟨v', rfl, ho, hg⟩
  have HO2 : Hid (w2.ownsRow 0 46 4 v' (pt x m).length (flat (pt x m))) := by
    rw [HK.out.2] at ho
    exact own_cast ho (by rw [← HK.out.2]; simp; have := HK.out.1; omega) rfl
  have HG2 : Hid (Gro w w2 (.slice ao m.length cap) v') := (Gro.of_below HB.out).trans ((Gro.of_below (bel_alloc _ _)).trans hg)
  clear ho hg x0 x1 x2 x3
  go_wp2
  go_ret
  rw [E0.out] at HG2
  exact ⟨v', rfl, HO2.out, HG2.out⟩
end W
end Go.Proofs.YtkdbcmkmcjaenaaGreatDoor
