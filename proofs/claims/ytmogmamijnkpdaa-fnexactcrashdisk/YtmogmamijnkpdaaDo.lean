/- What a disk looks like when the call begins: two rows of texts in memory. -/
import Derived.Test.YtmogmamijnkpdaaDk
import Derived.ProofKit
import Derived.OpenShut
import Derived.Lib.SmallJoins
import Derived.SliceStrings
namespace Go.Proofs.Ytmogmamijnkpdaa
open Go.ChangeShapes Go.WideShapes Go.ChangeAt Go.RowKit Go.Joins Go.Deep
set_option linter.unusedSimpArgs false
set_option linter.unusedVariables false
theorem ad_none (b u k : Nat) : ((⟨b, u, none⟩ : Addr).add k) = ⟨b, u + k, none⟩ := by
  unfold Addr.add
  by_cases hk : k = 0 <;> simp [hk]
theorem texts_of {H : Type} {enc : TypeId × Value → H} {P : Program} {w : World} {base : Nat} {spare : Nat → Bool} {held : Bool} {t e : TypeId} {n : Nat} {v : Value} {x : DataW H × List MemPlace}
    (ht : P.underlying t = some (.slice e)) (he : P.underlying e = some .string) (hc : P.cellsOf e = 1)
    (h : DataW.trod enc P w base spare held n t [v] = some x) : ∃ ss : List ByteArray, RowV w v ss ∧ ss.length ≤ maxLen ∧ ∀ s ∈ ss, s.size ≤ maxLen := by
  rcases open_strings ht he hc h with ⟨h1, _⟩ | ⟨a, len, cap, ss, h1, _, hl, hm, hln, _, hcell, hsz⟩
  · simp at h1
    exact ⟨[], ⟨none, 0, h1, by simp, .inl rfl⟩, by simp, fun s hs => by cases hs⟩
  · simp at h1
    have hls : len ≤ ss.length := by rw [hln]; split <;> omega
    have hlt : (ss.take len).length = len := by rw [List.length_take]; omega
    refine ⟨ss.take len, ⟨some a, cap, by rw [h1, hlt], by omega, ?_⟩, by omega, fun s hs => hsz s (List.mem_of_mem_take hs)⟩
    rcases Nat.eq_zero_or_pos len with hz | hp
    · exact .inl (by rw [hz]; rfl)
    · right
      obtain ⟨b, off, spot⟩ := a
      have c0 := hcell 0 (by omega)
      have hspot : spot = none := by
        have := World.cell?_spot (a := _) (w := w) (by simpa [Addr.add] using c0)
        simpa using this
      subst hspot
      refine ⟨b, off, rfl, fun i hi => ?_⟩
      have ci := hcell i (by omega)
      rw [ad_none] at ci
      rw [ci, List.getElem_take, List.getD_eq_getElem?_getD, List.getElem?_eq_getElem (by omega)]
      rfl
theorem disk_of {H : Type} {enc : TypeId × Value → H} {P : Program} {w : World} {base : Nat} {spare : Nat → Bool} {held : Bool} {r : Reach} {b0 : Nat} {t tS e : TypeId} {f0 f1 : Field} {v : Value} {d : DataW H} {p : List MemPlace}
    (ht : P.underlying t = some (.struct #[f0, f1])) (hone : oneCellFields P #[f0, f1] = true) (hC : P.cellsOf t = 2) (k0 : f0.type = tS) (k1 : f1.type = tS)
    (hS : P.underlying tS = some (.slice e)) (he : P.underlying e = some .string) (hc : P.cellsOf e = 1)
    (hv : Value.okWide P w r b0 t v) (h : DataW.Trod enc P w base spare held t v d p) :
    ∃ (v0 v1 : Value) (ss us : List ByteArray), v = .agg #[v0, v1] ∧ RowV w v0 ss ∧ RowV w v1 us ∧ ss.length ≤ maxLen ∧ us.length ≤ maxLen ∧ (∀ s ∈ ss, s.size ≤ maxLen) ∧ (∀ s ∈ us, s.size ≤ maxLen) := by
  obtain ⟨v0, v1, y0, y1, n, rfl, _, _, h0, h1⟩ := open_agg2 ht hone hC hv h
  rw [k0] at h0
  rw [k1] at h1
  obtain ⟨ss, r0, l0, w0⟩ := texts_of hS he hc h0
  obtain ⟨us, r1, l1, w1⟩ := texts_of hS he hc h1
  exact ⟨v0, v1, ss, us, rfl, r0, r1, l0, l1, w0, w1⟩
theorem open_disk {H : Type} {enc : TypeId × Value → H} {w : World} {base : Nat} {spare : Nat → Bool} {held : Bool} {r : Reach} {b0 : Nat} {v : Value} {d : DataW H} {p : List MemPlace}
    (hv : Value.okWide Try.prog w r b0 24 v) (h : DataW.Trod enc Try.prog w base spare held 24 v d p) :
    ∃ (v0 v1 : Value) (ss us : List ByteArray), v = .agg #[v0, v1] ∧ RowV w v0 ss ∧ RowV w v1 us ∧ ss.length ≤ maxLen ∧ us.length ≤ maxLen ∧ (∀ s ∈ ss, s.size ≤ maxLen) ∧ (∀ s ∈ us, s.size ≤ maxLen) :=
  disk_of Try.underlying24 (by kernel_rfl) (by kernel_rfl) rfl rfl Try.underlying22 Try.underlying9 (by kernel_rfl) hv h
end Go.Proofs.Ytmogmamijnkpdaa
