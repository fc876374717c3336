/- What an object looks like when the call begins: a list of siblings in memory, and what is known. -/
import Derived.Test.YtjjgodnbfflepaaSb
import Derived.ProofKit
import Derived.OpenShut
import Derived.Lib.SmallJoins
import Derived.Deep.Slices
import Derived.Deep.Strs
namespace Go.Proofs.Ytjjgodnbfflepaa
open Go.ChangeShapes Go.WideShapes Go.ChangeAt Go.RowKit Go.Joins Go.Deep
set_option linter.unusedSimpArgs false
set_option linter.unusedVariables false
set_option maxRecDepth 100000

theorem list_of {Q : Nat → Sib → Prop} (len : Nat) (h : ∀ i, i < len → ∃ s, Q i s) : ∃ l : List Sib, l.length = len ∧ ∀ i (hi : i < l.length), Q i l[i] := by
  induction len with
  | zero => exact ⟨[], rfl, fun i hi => by simp at hi⟩
  | succ n ih =>
    obtain ⟨l, h1, h2⟩ := ih (fun i hi => h i (by omega))
    obtain ⟨s, hs⟩ := h n (by omega)
    refine ⟨l ++ [s], by simp [h1], fun i hi => ?_⟩
    rcases Nat.lt_or_ge i l.length with q | q
    · rw [List.getElem_append_left q]; exact h2 i q
    · have e : i = l.length := by simp at hi; omega
      subst e
      simp
      rw [h1]; exact hs

theorem sib_of {H : Type} {enc : TypeId × Value → H} {P : Program} {w : World} {base : Nat} {spare : Nat → Bool} {held : Bool} {e tD tI tB : TypeId} {f0 f1 f2 g0 g1 : Field} {n : Nat} {cs : List Value} {x : DataW H × List MemPlace}
    (he : P.underlying e = some (.struct #[f0, f1, f2])) (hD : P.underlying tD = some (.struct #[g0, g1])) (hI : P.underlying tI = some (.int .i64)) (hB : P.underlying tB = some .bool)
    (k0 : f0.type = tD ∧ f0.offset = 0) (k1 : f1.type = tI ∧ f1.offset = 2) (k2 : f2.type = tB ∧ f2.offset = 3) (m0 : g0.type = tI ∧ g0.offset = 0) (m1 : g1.type = tI ∧ g1.offset = 1)
    (ce : P.cellsOf e = 4) (cD : P.cellsOf tD = 2) (cI : P.cellsOf tI = 1) (cB : P.cellsOf tB = 1)
    (h : DataW.trod enc P w base spare held n e cs = some x) : ∃ s : Sib, cs = [.int .i64 s.p, .int .i64 s.n, .int .i64 s.v, .bool s.d] := by
  obtain ⟨y0, y1, y2, m, _, hl, h0, h1, h2⟩ := trod_struct3 he h
  rw [ce] at hl
  rw [k0.1, k0.2, cD] at h0
  rw [k1.1, k1.2, cI] at h1
  rw [k2.1, k2.2, cB] at h2
  obtain ⟨z0, z1, m', _, _, i0, i1⟩ := trod_struct2 hD h0
  rw [m0.1, m0.2, cI] at i0
  rw [m1.1, m1.2, cI] at i1
  match cs, hl with
  | [c0, c1, c2, c3], _ =>
    obtain ⟨p, e0, _, _⟩ := DataW.trod_int hI i0
    obtain ⟨q, e1, _, _⟩ := DataW.trod_int hI i1
    obtain ⟨v, e2, _, _⟩ := DataW.trod_int hI h1
    obtain ⟨d, e3, _⟩ := DataW.trod_bool hB h2
    simp at e0 e1 e2 e3
    exact ⟨⟨p, q, v, d⟩, by rw [e0, e1, e2, e3]⟩

theorem sibs_of {H : Type} {enc : TypeId × Value → H} {P : Program} {w : World} {base : Nat} {spare : Nat → Bool} {held : Bool} {t e tD tI tB : TypeId} {f0 f1 f2 g0 g1 : Field} {n : Nat} {cs : List Value} {x : DataW H × List MemPlace}
    (ht : P.underlying t = some (.slice e)) (he : P.underlying e = some (.struct #[f0, f1, f2])) (hD : P.underlying tD = some (.struct #[g0, g1])) (hI : P.underlying tI = some (.int .i64)) (hB : P.underlying tB = some .bool)
    (k0 : f0.type = tD ∧ f0.offset = 0) (k1 : f1.type = tI ∧ f1.offset = 2) (k2 : f2.type = tB ∧ f2.offset = 3) (m0 : g0.type = tI ∧ g0.offset = 0) (m1 : g1.type = tI ∧ g1.offset = 1)
    (ce : P.cellsOf e = 4) (cD : P.cellsOf tD = 2) (cI : P.cellsOf tI = 1) (cB : P.cellsOf tB = 1)
    (h : DataW.trod enc P w base spare held n t cs = some x) : ∃ (ao : Option Addr) (l : List Sib) (cap : Nat), cs = [.slice ao l.length cap] ∧ l.length ≤ maxLen ∧ SibRow w ao l := by
  rcases open_slice ht h with ⟨rfl, _⟩ | ⟨a, len, cap, m, n', D, Pl, rfl, hb, hl, hm, hmm, _, hel⟩
  · exact ⟨none, [], 0, rfl, by simp, Or.inl rfl⟩
  · have hlm : len ≤ m := by rw [hmm]; split <;> omega
    obtain ⟨l, h1, h2⟩ := list_of (Q := fun i s => w.cells? base (a.add (i * 4)) 4 = some [.int .i64 s.p, .int .i64 s.n, .int .i64 s.v, .bool s.d]) len (fun i hi => by
      obtain ⟨cs', q1, q2⟩ := hel i (by omega)
      rw [ce] at q1
      obtain ⟨s, rfl⟩ := sib_of he hD hI hB k0 k1 k2 m0 m1 ce cD cI cB q2
      exact ⟨s, q1⟩)
    refine ⟨some a, l, cap, by rw [h1], by omega, ?_⟩
    rcases Nat.eq_zero_or_pos l.length with hz | hp
    · exact Or.inl (List.length_eq_zero_iff.1 hz)
    · right
      obtain ⟨b, off, spot⟩ := a
      have c00 := (World.cells?_some (h2 0 hp)).2.2 0 (by omega)
      have hspot : spot = none := by
        have := World.cell?_spot (a := _) (w := w) (v := .int .i64 l[0].p) (by simpa [Addr.add] using c00)
        simpa using this
      subst hspot
      refine ⟨b, off, rfl, fun i hi => ?_⟩
      have hc := (World.cells?_some (h2 i hi)).2.2
      have ad : ∀ u k, ((⟨b, u, none⟩ : Addr).add k) = ⟨b, u + k, none⟩ := fun u k => by
        unfold Addr.add
        by_cases hk : k = 0 <;> simp [hk]
      have c0 := hc 0 (by omega)
      have c1 := hc 1 (by omega)
      have c2 := hc 2 (by omega)
      have c3 := hc 3 (by omega)
      rw [ad, ad] at c0 c1 c2 c3
      exact ⟨by simpa using c0, by simpa using c1, by simpa using c2, by simpa using c3⟩

theorem okWide_array {P : Program} {w : World} {r : Reach} {base : Nat} {t : TypeId} {v : Value} {n : Nat} {e : TypeId} (ht : P.underlying t = some (.array n e)) (h : Value.okWide P w r base t v) : ∃ cs, v = .agg cs ∧ cs.size = P.cellsOf t := by
  simp only [Value.okWide, ht] at h
  obtain ⟨cs, h1, h2, _⟩ := h
  exact ⟨cs, h1, h2⟩
theorem ints3_of {H : Type} {enc : TypeId × Value → H} {P : Program} {w : World} {base : Nat} {spare : Nat → Bool} {held : Bool} {t e : TypeId} {n : Nat} {cs : List Value} {x : DataW H × List MemPlace}
    (ht : P.underlying t = some (.array 3 e)) (he : P.underlying e = some (.int .i64)) (hC : P.cellsOf t = 3) (hE : P.cellsOf e = 1)
    (h : DataW.trod enc P w base spare held n t cs = some x) : ∃ a b c : Int, cs = [.int .i64 a, .int .i64 b, .int .i64 c] ∧ (Lit.int .i64 a).wf = true ∧ (Lit.int .i64 b).wf = true ∧ (Lit.int .i64 c).wf = true := by
  obtain ⟨xs, m, _, _, hlc, hl, hx⟩ := DataW.trod_array ht h
  rw [hC] at hlc
  have g0 := hx 0 (by omega)
  have g1 := hx 1 (by omega)
  have g2 := hx 2 (by omega)
  obtain ⟨y0, y1, y2, rfl⟩ : ∃ y0 y1 y2, xs = [y0, y1, y2] := by
    match xs, hl with
    | [y0, y1, y2], _ => exact ⟨y0, y1, y2, rfl⟩
  obtain ⟨c0, c1, c2, rfl⟩ : ∃ c0 c1 c2, cs = [c0, c1, c2] := by
    match cs, hlc with
    | [y0, y1, y2], _ => exact ⟨y0, y1, y2, rfl⟩
  simp [hE] at g0 g1 g2
  obtain ⟨a, e0, _, wa⟩ := DataW.trod_int he g0
  obtain ⟨b, e1, _, wb⟩ := DataW.trod_int he g1
  obtain ⟨c, e2, _, wc⟩ := DataW.trod_int he g2
  simp at e0 e1 e2
  subst e0 e1 e2
  exact ⟨a, b, c, rfl, wa, wb, wc⟩
theorem obj_of {H : Type} {enc : TypeId × Value → H} {P : Program} {w : World} {base : Nat} {spare : Nat → Bool} {held : Bool} {r : Reach} {b0 : Nat} {t tS tV e tD tI tB : TypeId} {o0 o1 f0 f1 f2 g0 g1 : Field} {v : Value} {d : DataW H} {p : List MemPlace}
    (ho : P.underlying t = some (.struct #[o0, o1])) (n0 : o0.type = tS ∧ o0.offset = 0) (n1 : o1.type = tV ∧ o1.offset = 1) (cO : P.cellsOf t = 4) (cS : P.cellsOf tS = 1) (cV : P.cellsOf tV = 3) (hV : P.underlying tV = some (.array 3 tI))
    (ht : P.underlying tS = some (.slice e)) (he : P.underlying e = some (.struct #[f0, f1, f2])) (hD : P.underlying tD = some (.struct #[g0, g1])) (hI : P.underlying tI = some (.int .i64)) (hB : P.underlying tB = some .bool)
    (k0 : f0.type = tD ∧ f0.offset = 0) (k1 : f1.type = tI ∧ f1.offset = 2) (k2 : f2.type = tB ∧ f2.offset = 3) (m0 : g0.type = tI ∧ g0.offset = 0) (m1 : g1.type = tI ∧ g1.offset = 1)
    (ce : P.cellsOf e = 4) (cD : P.cellsOf tD = 2) (cI : P.cellsOf tI = 1) (cB : P.cellsOf tB = 1)
    (hv : Value.okWide P w r b0 t v) (h : DataW.Trod enc P w base spare held t v d p) :
    ∃ (ao : Option Addr) (l : List Sib) (cap : Nat) (a b c : Int), v = .agg #[.slice ao l.length cap, .int .i64 a, .int .i64 b, .int .i64 c] ∧ l.length ≤ maxLen ∧ SibRow w ao l ∧ (Lit.int .i64 a).wf = true ∧ (Lit.int .i64 b).wf = true ∧ (Lit.int .i64 c).wf = true := by
  obtain ⟨cs, rfl, hsz⟩ := okWide_struct ho hv
  obtain ⟨c0, c1, c2, c3, rfl⟩ := array4 (hsz.trans cO)
  obtain ⟨fuel, hf⟩ := h
  obtain ⟨y0, y1, m, _, _, h0, h1⟩ := trod_struct2 ho hf
  rw [n0.1, n0.2, cS] at h0
  rw [n1.1, n1.2, cV] at h1
  obtain ⟨ao, l, cap, q1, q2, q3⟩ := sibs_of ht he hD hI hB k0 k1 k2 m0 m1 ce cD cI cB h0
  obtain ⟨a, b, c, e1, wa, wb, wc⟩ := ints3_of hV hI cV cI h1
  simp [Value.cells] at q1 e1
  obtain ⟨rfl, rfl, rfl⟩ := e1
  subst q1
  exact ⟨ao, l, cap, a, b, c, rfl, q2, q3, wa, wb, wc⟩
/-- The seat's own types: the laws' object. -/
theorem open_obj {H : Type} {enc : TypeId × Value → H} {w : World} {base : Nat} {spare : Nat → Bool} {held : Bool} {r : Reach} {b0 : Nat} {v : Value} {d : DataW H} {p : List MemPlace}
    (hv : Value.okWide Try.prog w r b0 46 v) (h : DataW.Trod enc Try.prog w base spare held 46 v d p) :
    ∃ (ao : Option Addr) (l : List Sib) (cap : Nat) (a b c : Int), v = .agg #[.slice ao l.length cap, .int .i64 a, .int .i64 b, .int .i64 c] ∧ l.length ≤ maxLen ∧ SibRow w ao l ∧ (Lit.int .i64 a).wf = true ∧ (Lit.int .i64 b).wf = true ∧ (Lit.int .i64 c).wf = true :=
  obj_of Try.underlying46 ⟨rfl, rfl⟩ ⟨rfl, rfl⟩ (by kernel_rfl) (by kernel_rfl) (by kernel_rfl) Try.underlying25 Try.underlying44 Try.underlying83 Try.underlying81 Try.underlying3 Try.underlying4 ⟨rfl, rfl⟩ ⟨rfl, rfl⟩ ⟨rfl, rfl⟩ ⟨rfl, rfl⟩ ⟨rfl, rfl⟩ (by kernel_rfl) (by kernel_rfl) (by kernel_rfl) (by kernel_rfl) hv h
end Go.Proofs.Ytjjgodnbfflepaa
