/- Sync: what is told. -/
import Derived.Test.YthblnifapkfbcaaDoorRows
import Derived.WalkKit
import Derived.WalkSpells
import Derived.WalkLawsBesides
import Derived.Deep.QuietTactic
import Derived.BigQuiet
import Derived.Deep.RegionHeld3
import Derived.Test.YthblnifapkfbcaaDoorSy
import Derived.LoopN
namespace Go.Proofs.YthblnifapkfbcaaDoor
open Go.RowKit
set_option linter.unusedSimpArgs false
set_option linter.unusedVariables false

set_option maxHeartbeats 2000000 in
theorem implSync_any (v0 v1 : Value) (ss us : List ByteArray) (w : World) (hn : ss.length ≤ 1048576) (hn' : us.length ≤ 1048576) (hr0 : RowV w v0 ss) (hs0 : RowV w v1 us) :
    Calls Tryd.prog 7 #[.agg #[v0, v1]] w (DP w (if ss.length + us.length ≤ 300 then 0 else 1) (if ss.length + us.length ≤ 300 then ss ++ us else []) []) := by
  have RA : Hid (RowV w v0 ss) := hr0
  have RU : Hid (RowV w v1 us) := hs0
  clear hr0 hs0
  have B0 : Hid (Below w.heap.size w ((w.alloc (.cells #[v0, v1] 25)).alloc (.cells #[.slice none 0 0, .slice none 0 0] 25))) := ((Below.refl _ _).alloc (Nat.le_refl _) _).alloc (by simp) _
  by_cases hok : ss.length + us.length ≤ 300
  · rw [if_pos hok, if_pos hok]
    have hd : decide (ss.length + us.length ≤ 300) = true := decide_eq_true hok
    go_enter Tryd.func7, Tryd.ntmps7
    go_wp2_with fail
    refine (implOK_any v0 v1 ss us _ hn hn' (RA.out.next B0.out) (RU.out.next B0.out)).mono ?_
    rintro e w1 ⟨rfl, hb⟩
    have HB : Hid (Below w.heap.size w w1) := bel_next B0 hb
    have hz := hb.size
    simp at hz
    have HZ : Hid (w.heap.size + 2 ≤ w1.heap.size) := hz
    have x0 : w1.cell? ⟨w.heap.size, 0, none⟩ = some v0 := cell_next hb (by go_simp) (by simp; omega)
    have x1 : w1.cell? ⟨w.heap.size, 1, none⟩ = some v1 := cell_next hb (by go_simp) (by simp; omega)
    have p0 : w1.cell? ⟨w.heap.size + 1, 0, none⟩ = some (.slice none 0 0) := cell_next hb (by go_simp) (by simp)
    have p1 : w1.cell? ⟨w.heap.size + 1, 1, none⟩ = some (.slice none 0 0) := cell_next hb (by go_simp) (by simp)
    have q0 : w1.frozen? ⟨w.heap.size + 1, 0, none⟩ = false := frozen_next hb (by go_simp) (by simp)
    have q1 : w1.frozen? ⟨w.heap.size + 1, 1, none⟩ = false := frozen_next hb (by go_simp) (by simp)
    have TH : Hid (Th2 w1 (w.heap.size + 1)) := ⟨⟨⟨_, p0⟩, ⟨_, p1⟩⟩, q0, q1⟩
    clear hb hz B0
    rw [hd]
    obtain ⟨ao, d0, rfl, _, hta⟩ := RA.out
    obtain ⟨bo, d1, rfl, _, htb⟩ := RU.out
    go_wp2_with fail
    refine (copyLines_any ao bo d0 d1 ss us _ hn hn' (hta.next HB.out) (htb.next HB.out)).mono ?_
    rintro e w2 ⟨g, rfl, hb, hg, hG, hO⟩
    have HB2 : Hid (Below w.heap.size w w2) := bel_next HB hb
    have H12 : Hid (Below w1.heap.size w1 w2) := hb
    have HZ2 : Hid (w1.heap.size ≤ w2.heap.size) := hb.size
    rw [← List.length_append] at hO
    rw [← List.length_append]
    obtain ⟨pa, hpa⟩ : ∃ pa, pa = some (⟨g, 0, none⟩ : Addr) := ⟨_, rfl⟩
    obtain ⟨ca, hca⟩ : ∃ ca, ca = (ss ++ us).length := ⟨_, rfl⟩
    obtain ⟨pb, hpb⟩ : ∃ pb : Option Addr, pb = none := ⟨_, rfl⟩
    obtain ⟨cb, hcb⟩ : ∃ cb : Nat, cb = 0 := ⟨_, rfl⟩
    have OX : Hid (Own2 w2 (.slice pa (ss ++ us).length ca) (.slice pb 0 cb) (ss ++ us) [] w1.heap.size w2.heap.size) := by
      rw [hpa, hca, hpb, hcb]
      exact ⟨hO, World.ownsRow_nil _ _ _ _, fun k hk => by simp [Value.ownBlock] at hk; omega, fun k hk => absurd hk Gro.none_ne, fun k _ hk => absurd hk Gro.none_ne⟩
    rw [← hpa]
    clear hb hO HB hg hG
    have hz := HZ2.out
    have B2 := HB2.out
    have y0 : w2.cell? ⟨w.heap.size + 1, 0, none⟩ = some (.slice none 0 0) := cell_next H12.out p0 (by have := HZ.out; omega)
    have y1 : w2.cell? ⟨w.heap.size + 1, 1, none⟩ = some (.slice none 0 0) := cell_next H12.out p1 (by have := HZ.out; omega)
    have z0 : w2.frozen? ⟨w.heap.size + 1, 0, none⟩ = false := frozen_next H12.out q0 (by have := HZ.out; omega)
    have z1 : w2.frozen? ⟨w.heap.size + 1, 1, none⟩ = false := frozen_next H12.out q1 (by have := HZ.out; omega)
    have TH2 : Th2 w2 (w.heap.size + 1) := TH.out.next H12.out
    clear x0 x1 p0 p1 q0 q1 TH H12 B2
    go_wp2_with fail
    refine bodyPost_ret (v := .tuple #[.agg #[.slice pa (ss ++ us).length ca, .slice pb 0 cb], .int .i64 0]) (by simp [results, Tryd.results7, go_sem, set2_cells TH2, *]) rfl ?_
    refine ⟨pa, ca, pb, cb, rfl, bel_set (bel_set HB2.out (by omega)) (by omega), ?_⟩
    exact Own2.weak (Own2.set (Own2.set OX.out (Or.inl (by have := HZ.out; omega))) (Or.inl (by have := HZ.out; omega))) (by have := HZ.out; omega) (by simp)
  · rw [if_neg hok, if_neg hok]
    have hd : decide (ss.length + us.length ≤ 300) = false := decide_eq_false hok
    go_enter Tryd.func7, Tryd.ntmps7
    go_wp2_with fail
    refine (implOK_any v0 v1 ss us _ hn hn' (RA.out.next B0.out) (RU.out.next B0.out)).mono ?_
    rintro e w1 ⟨rfl, hb⟩
    have HB : Hid (Below w.heap.size w w1) := bel_next B0 hb
    have hz := hb.size
    simp at hz
    have HZ : Hid (w.heap.size + 2 ≤ w1.heap.size) := hz
    have x0 : w1.cell? ⟨w.heap.size, 0, none⟩ = some v0 := cell_next hb (by go_simp) (by simp; omega)
    have x1 : w1.cell? ⟨w.heap.size, 1, none⟩ = some v1 := cell_next hb (by go_simp) (by simp; omega)
    have p0 : w1.cell? ⟨w.heap.size + 1, 0, none⟩ = some (.slice none 0 0) := cell_next hb (by go_simp) (by simp)
    have p1 : w1.cell? ⟨w.heap.size + 1, 1, none⟩ = some (.slice none 0 0) := cell_next hb (by go_simp) (by simp)
    have q0 : w1.frozen? ⟨w.heap.size + 1, 0, none⟩ = false := frozen_next hb (by go_simp) (by simp)
    have q1 : w1.frozen? ⟨w.heap.size + 1, 1, none⟩ = false := frozen_next hb (by go_simp) (by simp)
    have TH : Hid (Th2 w1 (w.heap.size + 1)) := ⟨⟨⟨_, p0⟩, ⟨_, p1⟩⟩, q0, q1⟩
    clear hb hz B0
    rw [hd]
    go_wp2_with fail
    refine bodyPost_ret (v := .tuple #[.agg #[.slice none 0 0, .slice none 0 0], .int .i64 1]) (by simp [results, Tryd.results7, go_sem, set2_cells TH.out, *]) rfl ?_
    exact ⟨none, 0, none, 0, rfl, bel_set (bel_set HB.out (by omega)) (by omega), own2_nil _ _ _⟩
end Go.Proofs.YthblnifapkfbcaaDoor
