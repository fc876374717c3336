/- What a list of objects looks like when the call begins. -/
import Derived.Test.YtjjgodnbfflepaaOo
import Derived.Test.YtjjgodnbfflepaaXl
import Derived.ProofKit
import Derived.OpenShut
import Derived.Lib.SmallJoins
import Derived.Deep.Slices
import Derived.Deep.Strs
namespace Go.Proofs.Ytjjgodnbfflepaa
open Go.ChangeShapes Go.WideShapes Go.ChangeAt Go.RowKit Go.Joins Go.Deep
set_option linter.unusedSimpArgs false
set_option linter.unusedVariables false
set_option maxRecDepth 100000

theorem listO_of {Q : Nat → Ov → Prop} (len : Nat) (h : ∀ i, i < len → ∃ s, Q i s) : ∃ l : List Ov, l.length = len ∧ ∀ i (hi : i < l.length), Q i l[i] := by
  induction len with
  | zero => exact ⟨[], rfl, fun i hi => by simp at hi⟩
  | succ n ih =>
    obtain ⟨l, h1, h2⟩ := ih (fun i hi => h i (by omega))
    obtain ⟨s, hs⟩ := h n (by omega)
    refine ⟨l ++ [s], by simp [h1], fun i hi => ?_⟩
    rcases Nat.lt_or_ge i l.length with q | q
    · rw [List.getElem_append_left q]; exact h2 i q
    · have e : i = l.length := by simp at hi; omega
      subst e
      simp
      rw [h1]; exact hs
theorem objc_of {H : Type} {enc : TypeId × Value → H} {P : Program} {w : World} {base : Nat} {spare : Nat → Bool} {held : Bool} {n : Nat} {x : DataW H × List MemPlace} {t tS tV e tD tI tB : TypeId} {o0 o1 f0 f1 f2 g0 g1 : Field} {cs : List Value}
    (ho : P.underlying t = some (.struct #[o0, o1])) (n0 : o0.type = tS ∧ o0.offset = 0) (n1 : o1.type = tV ∧ o1.offset = 1) (cO : P.cellsOf t = 4) (cS : P.cellsOf tS = 1) (cV : P.cellsOf tV = 3) (hV : P.underlying tV = some (.array 3 tI))
    (ht : P.underlying tS = some (.slice e)) (he : P.underlying e = some (.struct #[f0, f1, f2])) (hD : P.underlying tD = some (.struct #[g0, g1])) (hI : P.underlying tI = some (.int .i64)) (hB : P.underlying tB = some .bool)
    (k0 : f0.type = tD ∧ f0.offset = 0) (k1 : f1.type = tI ∧ f1.offset = 2) (k2 : f2.type = tB ∧ f2.offset = 3) (m0 : g0.type = tI ∧ g0.offset = 0) (m1 : g1.type = tI ∧ g1.offset = 1)
    (ce : P.cellsOf e = 4) (cD : P.cellsOf tD = 2) (cI : P.cellsOf tI = 1) (cB : P.cellsOf tB = 1)
    (h : DataW.trod enc P w base spare held n t cs = some x) :
    ∃ y : Ov, cs = [.slice y.ao y.l.length y.cap, .int .i64 y.a, .int .i64 y.b, .int .i64 y.c] ∧ y.l.length ≤ maxLen ∧ SibRow w y.ao y.l := by
  obtain ⟨y0, y1, m, _, hl, h0, h1⟩ := trod_struct2 ho h
  rw [cO] at hl
  rw [n0.1, n0.2, cS] at h0
  rw [n1.1, n1.2, cV] at h1
  obtain ⟨ao, l, cap, q1, q2, q3⟩ := sibs_of ht he hD hI hB k0 k1 k2 m0 m1 ce cD cI cB h0
  obtain ⟨a, b, c, e1, wa, wb, wc⟩ := ints3_of hV hI cV cI h1
  match cs, hl with
  | [c0, c1, c2, c3], _ =>
    simp at q1 e1
    obtain ⟨rfl, rfl, rfl⟩ := e1
    subst q1
    exact ⟨{ ao := ao, l := l, cap := cap, a := a, b := b, c := c }, rfl, q2, q3⟩
theorem objs_of {H : Type} {enc : TypeId × Value → H} {P : Program} {w : World} {base : Nat} {spare : Nat → Bool} {held : Bool} {r : Reach} {b0 : Nat} {tL t tS tV e tD tI tB : TypeId} {o0 o1 f0 f1 f2 g0 g1 : Field} {v : Value} {d : DataW H} {p : List MemPlace}
    (hL : P.underlying tL = some (.slice t)) (ho : P.underlying t = some (.struct #[o0, o1])) (n0 : o0.type = tS ∧ o0.offset = 0) (n1 : o1.type = tV ∧ o1.offset = 1) (cO : P.cellsOf t = 4) (cS : P.cellsOf tS = 1) (cV : P.cellsOf tV = 3) (hV : P.underlying tV = some (.array 3 tI))
    (ht : P.underlying tS = some (.slice e)) (he : P.underlying e = some (.struct #[f0, f1, f2])) (hD : P.underlying tD = some (.struct #[g0, g1])) (hI : P.underlying tI = some (.int .i64)) (hB : P.underlying tB = some .bool)
    (k0 : f0.type = tD ∧ f0.offset = 0) (k1 : f1.type = tI ∧ f1.offset = 2) (k2 : f2.type = tB ∧ f2.offset = 3) (m0 : g0.type = tI ∧ g0.offset = 0) (m1 : g1.type = tI ∧ g1.offset = 1)
    (ce : P.cellsOf e = 4) (cD : P.cellsOf tD = 2) (cI : P.cellsOf tI = 1) (cB : P.cellsOf tB = 1)
    (hv : Value.okWide P w r b0 tL v) (h : DataW.Trod enc P w base spare held tL v d p) :
    ∃ (ao : Option Addr) (os : List Ov) (cap : Nat), v = .slice ao os.length cap ∧ os.length ≤ maxLen ∧ (∀ x ∈ os, x.l.length ≤ maxLen) ∧ ARow w ao os := by
  obtain ⟨a0, len0, cap0, rfl⟩ := okWide_slice hL hv
  obtain ⟨fuel, hf⟩ := h
  rcases open_slice hL hf with ⟨hcs, _⟩ | ⟨a, len, cap, m, n', D, Pl, hcs, hb, hl, hm, hmm, _, hel⟩
  · simp [Value.cells] at hcs
    obtain ⟨rfl, rfl, rfl⟩ := hcs
    exact ⟨none, [], 0, rfl, by simp, fun x hx => by simp at hx, ⟨.inl rfl, fun x hx => by simp at hx⟩⟩
  · simp [Value.cells] at hcs
    obtain ⟨rfl, rfl, rfl⟩ := hcs
    have hlm : len0 ≤ m := by rw [hmm]; split <;> omega
    obtain ⟨os, h1, h2⟩ := listO_of (Q := fun i s => w.cells? base (a.add (i * 4)) 4 = some [.slice s.ao s.l.length s.cap, .int .i64 s.a, .int .i64 s.b, .int .i64 s.c] ∧ s.l.length ≤ maxLen ∧ SibRow w s.ao s.l) len0 (fun i hi => by
      obtain ⟨cs', q1, q2⟩ := hel i (by omega)
      rw [cO] at q1
      obtain ⟨s, rfl, r1, r2⟩ := objc_of ho n0 n1 cO cS cV hV ht he hD hI hB k0 k1 k2 m0 m1 ce cD cI cB q2
      exact ⟨s, q1, r1, r2⟩)
    refine ⟨some a, os, cap0, by rw [h1], by omega, fun x hx => ?_, ?_, fun x hx => ?_⟩
    · obtain ⟨i, hi, rfl⟩ := List.getElem_of_mem hx
      exact (h2 i hi).2.1
    · rcases Nat.eq_zero_or_pos os.length with hz | hp
      · exact Or.inl (List.length_eq_zero_iff.1 hz)
      · right
        obtain ⟨b, off, spot⟩ := a
        have c00 := (World.cells?_some (h2 0 hp).1).2.2 0 (by omega)
        have hspot : spot = none := by
          have := World.cell?_spot (a := _) (w := w) (v := .slice os[0].ao os[0].l.length os[0].cap) (by simpa [Addr.add] using c00)
          simpa using this
        subst hspot
        refine ⟨b, off, rfl, fun i hi => ?_⟩
        have hc := (World.cells?_some (h2 i hi).1).2.2
        have ad : ∀ u k, ((⟨b, u, none⟩ : Addr).add k) = ⟨b, u + k, none⟩ := fun u k => by
          unfold Addr.add
          by_cases hk : k = 0 <;> simp [hk]
        have c0 := hc 0 (by omega)
        have c1 := hc 1 (by omega)
        have c2 := hc 2 (by omega)
        have c3 := hc 3 (by omega)
        rw [ad, ad] at c0 c1 c2 c3
        exact ⟨by simpa using c0, by simpa using c1, by simpa using c2, by simpa using c3⟩
    · obtain ⟨i, hi, rfl⟩ := List.getElem_of_mem hx
      exact (h2 i hi).2.2
/-- The seat's own types: the laws' list of objects. -/
theorem open_objs {H : Type} {enc : TypeId × Value → H} {w : World} {base : Nat} {spare : Nat → Bool} {held : Bool} {r : Reach} {b0 : Nat} {v : Value} {d : DataW H} {p : List MemPlace}
    (hv : Value.okWide Try.prog w r b0 22 v) (h : DataW.Trod enc Try.prog w base spare held 22 v d p) :
    ∃ (ao : Option Addr) (os : List Ov) (cap : Nat), v = .slice ao os.length cap ∧ os.length ≤ maxLen ∧ (∀ x ∈ os, x.l.length ≤ maxLen) ∧ ARow w ao os :=
  objs_of Try.underlying22 Try.underlying46 ⟨rfl, rfl⟩ ⟨rfl, rfl⟩ (by kernel_rfl) (by kernel_rfl) (by kernel_rfl) Try.underlying25 Try.underlying44 Try.underlying83 Try.underlying81 Try.underlying3 Try.underlying4 ⟨rfl, rfl⟩ ⟨rfl, rfl⟩ ⟨rfl, rfl⟩ ⟨rfl, rfl⟩ ⟨rfl, rfl⟩ (by kernel_rfl) (by kernel_rfl) (by kernel_rfl) (by kernel_rfl) hv h
end Go.Proofs.Ytjjgodnbfflepaa
