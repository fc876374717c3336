/- What the listed table holds when the call begins: twenty words, place by place. -/
import Derived.Test.YtcappnoghakdbagDoorRows
import Derived.ProofKit
import Derived.LaidMore
import Derived.OpenShut
import Derived.Stop.Joined
import Derived.WalkKit
import Derived.WalkSmall
namespace Go.Proofs.YtcappnoghakdbagDoor
open Go.ChangeShapes Go.WideShapes Go.ChangeAt Go.RowKit
set_option linter.unusedSimpArgs false
set_option linter.unusedVariables false

theorem own : ownKnob Tryd.prog.godebug = none := by kernel_rfl
theorem laidOut : laidOutB Tryd.prog = true := by kernel_rfl
def wl : List (List UInt8) := [[111, 107], [98, 97, 100], [108, 111, 110, 103], [102, 111, 114, 109], [114, 97, 110, 103, 101], [110, 111, 110, 101], [109, 97, 110, 121], [102, 117, 108, 108], [107, 101, 121], [111, 119, 110, 101, 114], [100, 111, 119, 110], [117, 112], [102, 101, 110, 99, 101, 100], [113, 117, 111, 114, 117, 109], [115, 117, 109], [116, 111, 114, 110], [99, 117, 116], [111, 114, 100, 101, 114], [110, 97, 109, 101], [99, 108, 111, 115, 101, 100]]
def laidW : List (String × DataW Unit) := Rows.fnExactCodeWordRow.laid
theorem tW : (Tryd.prog.globals[0]?).map (·.type) = some 27 := by kernel_rfl

theorem door_met (os : Os) (args : Array Value) : laidMetH Tryd.prog laidW ((World.doorLaid Tryd.prog 400 os).forCall (fun _ _ => 0) ⟨#[], args, []⟩).memory :=
  laidMetH_of_parts3 (fuel := 8) (laidMet_of_run' 8 (by kernel_rfl) (by kernel_rfl)) (by kernel_rfl) (by kernel_rfl)

theorem of_laid {W : World} (h : laidMetH Tryd.prog laidW W) : ∀ i, i < 20 → W.cell? ⟨0, i, none⟩ = some (.string ⟨(wl.getD i []).toArray⟩) := by
  rw [MakeChecks.laidMetH_plain _ _ _ (by kernel_rfl)] at h
  obtain ⟨ps, ⟨g0, t0, cs0, f0, p0, q0, hg0, ht0, hv0, hd0, _, _⟩, _, _⟩ := h
  obtain rfl : g0 = 0 := Option.some.inj (hg0.symm.trans (by kernel_rfl))
  obtain rfl := Option.some.inj (tW.symm.trans ht0)
  obtain ⟨xs, m1, rfl, hx1, hlen, hn, hel⟩ := DataW.trod_array Tryd.underlying27 hd0
  have c9 : Tryd.prog.cellsOf 9 = 1 := by kernel_rfl
  simp only [Prod.mk.injEq] at hx1
  have hx2 : wl.map (fun b => (DataW.lit (.string b) : DataW Unit)) = xs.map (·.1) := by
    have := hx1.1
    simp only [Rows.laid_loop_example_g00535_impl_codeWords, DataW.agg.injEq] at this
    exact this
  intro i hi
  have h1 := hel i hi
  rw [c9, Nat.mul_one] at h1
  have hxi : xs[i]? = some (xs[i]'(by omega)) := List.getElem?_eq_getElem (by omega)
  rw [hxi] at h1
  obtain ⟨s, e1, e2, _⟩ := DataW.trod_string Tryd.underlying9 h1
  have hw : (wl.map (fun b => (DataW.lit (.string b) : DataW Unit)))[i]? = (xs.map (·.1))[i]? := by rw [hx2]
  rw [List.getElem?_map, List.getElem?_map, hxi, e2] at hw
  have hwl : wl[i]? = some (wl.getD i []) := by
    rw [List.getD_eq_getElem?_getD]
    have : i < wl.length := by simpa [wl] using hi
    rw [List.getElem?_eq_getElem this]; rfl
  rw [hwl] at hw
  simp at hw
  have hs : s = ⟨(wl.getD i []).toArray⟩ := by
    rw [List.getD_eq_getElem?_getD, hw]
  have hcell := World.var?_cell hg0 hv0 i
  have hci : cs0[i]? = some (.string s) := by
    have : (cs0.toList.drop i)[0]? = some (.string s) := by
      have h2 : (List.take 1 (cs0.toList.drop i))[0]? = some (.string s) := by rw [e1]; rfl
      simpa using h2
    simpa using this
  rw [← hs, hcell, hci]
end Go.Proofs.YtcappnoghakdbagDoor

