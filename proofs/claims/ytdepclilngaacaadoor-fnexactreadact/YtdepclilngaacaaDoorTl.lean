/- What the listed table holds when the call begins: fifteen words, place by place. -/
import Derived.Test.YtdepclilngaacaaDoorRows
import Derived.ProofKit
import Derived.LaidMore
import Derived.OpenShut
import Derived.Stop.Joined
import Derived.WalkKit
import Derived.WalkSmall
import Derived.Test.YtdepclilngaacaaDoorKd
import Derived.Test.YtdepclilngaacaaDoorLw
namespace Go.Proofs.YtdepclilngaacaaDoor
open Go.ChangeShapes Go.WideShapes Go.ChangeAt Go.RowKit
set_option linter.unusedSimpArgs false
set_option linter.unusedVariables false

theorem own : ownKnob Tryd.prog.godebug = none := by kernel_rfl
theorem laidOut : laidOutB Tryd.prog = true := by kernel_rfl
def laidW : List (String × DataW Unit) := Rows.fnExactReadActRow.laid
theorem tW : (Tryd.prog.globals[0]?).map (·.type) = some 48 := by kernel_rfl

theorem door_met (os : Os) (args : Array Value) : laidMetH Tryd.prog laidW ((World.doorLaid Tryd.prog 400 os).forCall (fun _ _ => 0) ⟨#[], args, []⟩).memory :=
  laidMetH_of_parts3 (fuel := 8) (laidMet_of_run' 8 (by kernel_rfl) (by kernel_rfl)) (by kernel_rfl) (by kernel_rfl)

theorem of_laid {W : World} (h : laidMetH Tryd.prog laidW W) : ∀ i, i < 15 → W.cell? ⟨0, i, none⟩ = some (.string ⟨(wl.getD i []).toArray⟩) := by
  rw [MakeChecks.laidMetH_plain _ _ _ (by kernel_rfl)] at h
  obtain ⟨ps, ⟨g0, t0, cs0, f0, p0, q0, hg0, ht0, hv0, hd0, _, _⟩, _, _⟩ := h
  obtain rfl : g0 = 0 := Option.some.inj (hg0.symm.trans (by kernel_rfl))
  obtain rfl := Option.some.inj (tW.symm.trans ht0)
  obtain ⟨xs, m1, rfl, hx1, hlen, hn, hel⟩ := DataW.trod_array Tryd.underlying48 hd0
  have c9 : Tryd.prog.cellsOf 9 = 1 := by kernel_rfl
  simp only [Prod.mk.injEq] at hx1
  have hx2 : wl.map (fun b => (DataW.lit (.string b) : DataW Unit)) = xs.map (·.1) := by
    have := hx1.1
    simp only [Rows.laid_loop_example_g00535_impl_actWords, DataW.agg.injEq] at this
    exact this
  intro i hi
  have h1 := hel i hi
  rw [c9, Nat.mul_one] at h1
  have hxi : xs[i]? = some (xs[i]'(by omega)) := List.getElem?_eq_getElem (by omega)
  rw [hxi] at h1
  obtain ⟨s, e1, e2, _⟩ := DataW.trod_string Tryd.underlying9 h1
  have hw : (wl.map (fun b => (DataW.lit (.string b) : DataW Unit)))[i]? = (xs.map (·.1))[i]? := by rw [hx2]
  rw [List.getElem?_map, List.getElem?_map, hxi, e2] at hw
  have hwl : wl[i]? = some (wl.getD i []) := by
    rw [List.getD_eq_getElem?_getD]
    have : i < wl.length := by simpa [wl] using hi
    rw [List.getElem?_eq_getElem this]; rfl
  rw [hwl] at hw
  simp at hw
  have hs : s = ⟨(wl.getD i []).toArray⟩ := by
    rw [List.getD_eq_getElem?_getD, hw]
  have hcell := World.var?_cell hg0 hv0 i
  have hci : cs0[i]? = some (.string s) := by
    have : (cs0.toList.drop i)[0]? = some (.string s) := by
      have h2 : (List.take 1 (cs0.toList.drop i))[0]? = some (.string s) := by rw [e1]; rfl
      simpa using h2
    simpa using this
  rw [← hs, hcell, hci]
def Holds (W : World) : Prop := ∀ i, i < 15 → W.cell? ⟨0, i, none⟩ = some (.string ⟨(wl.getD i []).toArray⟩)
theorem arr_at (i : Nat) (hi : i < 15) : arr[i]? = some (.string (wd i)) := by
  have hc : i = 0 ∨ i = 1 ∨ i = 2 ∨ i = 3 ∨ i = 4 ∨ i = 5 ∨ i = 6 ∨ i = 7 ∨ i = 8 ∨ i = 9 ∨ i = 10 ∨ i = 11 ∨ i = 12 ∨ i = 13 ∨ i = 14 := by omega
  rcases hc with rfl | rfl | rfl | rfl | rfl | rfl | rfl | rfl | rfl | rfl | rfl | rfl | rfl | rfl | rfl <;> rfl
theorem of_laidB {W : World} (h : laidMetH Tryd.prog laidW W) : HoldsB W := by
  have hcs := of_laid h
  rw [MakeChecks.laidMetH_plain _ _ _ (by kernel_rfl)] at h
  obtain ⟨ps, ⟨g0, t0, cs0, f0, p0, q0, hg0, ht0, hv0, hd0, _, _⟩, _, _⟩ := h
  obtain rfl : g0 = 0 := Option.some.inj (hg0.symm.trans (by kernel_rfl))
  obtain rfl := Option.some.inj (tW.symm.trans ht0)
  obtain ⟨xs, m1, rfl, hx1, hlen, hn, hel⟩ := DataW.trod_array Tryd.underlying48 hd0
  have c48 : Tryd.prog.cellsOf 48 = 15 := by kernel_rfl
  rw [c48] at hlen
  have hsz : cs0.size = 15 := by simpa using hlen
  have hcell : ∀ i, i < 15 → cs0[i]? = some (.string (wd i)) := fun i hi => by
    rw [← World.var?_cell hg0 hv0 i]; exact hcs i hi
  have he : cs0 = arr := by
    apply Array.ext_getElem?
    intro i
    rcases Nat.lt_or_ge i 15 with q | q
    · rw [hcell i q, arr_at i q]
    · rw [Array.getElem?_eq_none (by omega), Array.getElem?_eq_none (by show 15 ≤ i; exact q)]
  unfold World.var? at hv0
  simp only [hg0, Option.bind_some] at hv0
  rw [he] at hv0
  split at hv0
  · rename_i cs t fr hq
    exact ⟨t, fr, by rw [hq]; simp_all⟩
  · cases hv0

end Go.Proofs.YtdepclilngaacaaDoor

