/- What a group looks like when the call begins: two numbers, what is known, and a list of events in memory. -/
import Derived.Test.YtklajcdlacemaaaGd
import Derived.ProofKit
import Derived.OpenShut
import Derived.Lib.SmallJoins
import Derived.Deep.Slices
import Derived.Deep.Strs
namespace Go.Proofs.Ytklajcdlacemaaa
open Go.ChangeShapes Go.WideShapes Go.ChangeAt Go.RowKit Go.Joins Go.Deep
set_option maxRecDepth 100000
set_option linter.unusedSimpArgs false
set_option linter.unusedVariables false
theorem listD_of {Q : Nat → Dt → Prop} (len : Nat) (h : ∀ i, i < len → ∃ s, Q i s) : ∃ l : List Dt, l.length = len ∧ ∀ i (hi : i < l.length), Q i l[i] := by
  induction len with
  | zero => exact ⟨[], rfl, fun i hi => by simp at hi⟩
  | succ n ih =>
    obtain ⟨l, h1, h2⟩ := ih (fun i hi => h i (by omega))
    obtain ⟨s, hs⟩ := h n (by omega)
    refine ⟨l ++ [s], by simp [h1], fun i hi => ?_⟩
    rcases Nat.lt_or_ge i l.length with q | q
    · rw [List.getElem_append_left q]; exact h2 i q
    · have e : i = l.length := by simp at hi; omega
      subst e
      simp
      rw [h1]; exact hs
theorem dt_of {H : Type} {enc : TypeId × Value → H} {P : Program} {w : World} {base : Nat} {spare : Nat → Bool} {held : Bool} {tD tI : TypeId} {g0 g1 : Field} {n : Nat} {cs : List Value} {x : DataW H × List MemPlace}
    (hD : P.underlying tD = some (.struct #[g0, g1])) (hI : P.underlying tI = some (.int .i64)) (m0 : g0.type = tI ∧ g0.offset = 0) (m1 : g1.type = tI ∧ g1.offset = 1) (cD : P.cellsOf tD = 2) (cI : P.cellsOf tI = 1)
    (h : DataW.trod enc P w base spare held n tD cs = some x) : ∃ s : Dt, cs = [.int .i64 s.p, .int .i64 s.n] := by
  obtain ⟨z0, z1, m', _, hl, i0, i1⟩ := trod_struct2 hD h
  rw [cD] at hl
  rw [m0.1, m0.2, cI] at i0
  rw [m1.1, m1.2, cI] at i1
  match cs, hl with
  | [c0, c1], _ =>
    obtain ⟨p, e0, _, _⟩ := DataW.trod_int hI i0
    obtain ⟨q, e1, _, _⟩ := DataW.trod_int hI i1
    simp at e0 e1
    exact ⟨⟨p, q⟩, by rw [e0, e1]⟩
theorem dts_of {H : Type} {enc : TypeId × Value → H} {P : Program} {w : World} {base : Nat} {spare : Nat → Bool} {held : Bool} {t tD tI : TypeId} {g0 g1 : Field} {n : Nat} {cs : List Value} {x : DataW H × List MemPlace}
    (ht : P.underlying t = some (.slice tD)) (hD : P.underlying tD = some (.struct #[g0, g1])) (hI : P.underlying tI = some (.int .i64)) (m0 : g0.type = tI ∧ g0.offset = 0) (m1 : g1.type = tI ∧ g1.offset = 1) (cD : P.cellsOf tD = 2) (cI : P.cellsOf tI = 1)
    (h : DataW.trod enc P w base spare held n t cs = some x) : ∃ (ao : Option Addr) (l : List Dt) (cap : Nat), cs = [.slice ao l.length cap] ∧ l.length ≤ maxLen ∧ GRow 0 w ao (flatD l) := by
  rcases open_slice ht h with ⟨rfl, _⟩ | ⟨a, len, cap, m, n', D, Pl, rfl, hb, hl, hm, hmm, _, hel⟩
  · exact ⟨none, [], 0, rfl, by simp, Or.inl rfl⟩
  · have hlm : len ≤ m := by rw [hmm]; split <;> omega
    obtain ⟨l, h1, h2⟩ := listD_of (Q := fun i s => w.cells? base (a.add (i * 2)) 2 = some [.int .i64 s.p, .int .i64 s.n]) len (fun i hi => by
      obtain ⟨cs', q1, q2⟩ := hel i (by omega)
      rw [cD] at q1
      obtain ⟨s, rfl⟩ := dt_of hD hI m0 m1 cD cI q2
      exact ⟨s, q1⟩)
    refine ⟨some a, l, cap, by rw [h1], by omega, ?_⟩
    rcases Nat.eq_zero_or_pos l.length with hz | hp
    · exact Or.inl (by rw [List.length_eq_zero_iff.1 hz]; rfl)
    · right
      obtain ⟨b, off, spot⟩ := a
      have c00 := (World.cells?_some (h2 0 hp)).2.2 0 (by omega)
      have hspot : spot = none := by
        have := World.cell?_spot (a := _) (w := w) (v := .int .i64 l[0].p) (by simpa [Addr.add] using c00)
        simpa using this
      subst hspot
      refine ⟨b, off, rfl, Nat.zero_le _, d_row l off (fun i hi => ?_)⟩
      have hc := (World.cells?_some (h2 i hi)).2.2
      have ad : ∀ u k, ((⟨b, u, none⟩ : Addr).add k) = ⟨b, u + k, none⟩ := fun u k => by
        unfold Addr.add
        by_cases hk : k = 0 <;> simp [hk]
      have c0 := hc 0 (by omega)
      have c1 := hc 1 (by omega)
      rw [ad, ad] at c0 c1
      exact ⟨by simpa using c0, by simpa using c1⟩
theorem vv3_of {H : Type} {enc : TypeId × Value → H} {P : Program} {w : World} {base : Nat} {spare : Nat → Bool} {held : Bool} {t e : TypeId} {n : Nat} {cs : List Value} {x : DataW H × List MemPlace}
    (ht : P.underlying t = some (.array 3 e)) (he : P.underlying e = some (.int .i64)) (hC : P.cellsOf t = 3) (hE : P.cellsOf e = 1)
    (h : DataW.trod enc P w base spare held n t cs = some x) : ∃ a b c : Int, cs = [.int .i64 a, .int .i64 b, .int .i64 c] := by
  obtain ⟨xs, m, _, _, hlc, hl, hx⟩ := DataW.trod_array ht h
  rw [hC] at hlc
  have g0 := hx 0 (by omega)
  have g1 := hx 1 (by omega)
  have g2 := hx 2 (by omega)
  obtain ⟨y0, y1, y2, rfl⟩ : ∃ y0 y1 y2, xs = [y0, y1, y2] := by
    match xs, hl with
    | [y0, y1, y2], _ => exact ⟨y0, y1, y2, rfl⟩
  obtain ⟨c0, c1, c2, rfl⟩ : ∃ c0 c1 c2, cs = [c0, c1, c2] := by
    match cs, hlc with
    | [y0, y1, y2], _ => exact ⟨y0, y1, y2, rfl⟩
  simp [hE] at g0 g1 g2
  obtain ⟨a, e0, _, wa⟩ := DataW.trod_int he g0
  obtain ⟨b, e1, _, wb⟩ := DataW.trod_int he g1
  obtain ⟨c, e2, _, wc⟩ := DataW.trod_int he g2
  simp at e0 e1 e2
  subst e0 e1 e2
  exact ⟨a, b, c, rfl⟩
theorem array6 {α : Type} {cs : Array α} (h : cs.size = 6) : ∃ c0 c1 c2 c3 c4 c5, cs = #[c0, c1, c2, c3, c4, c5] := by
  obtain ⟨l⟩ := cs
  match l, h with
  | [c0, c1, c2, c3, c4, c5], _ => exact ⟨c0, c1, c2, c3, c4, c5, rfl⟩
theorem group_of {H : Type} {enc : TypeId × Value → H} {P : Program} {w : World} {base : Nat} {spare : Nat → Bool} {held : Bool} {r : Reach} {b0 : Nat} {t tS tV tD tI : TypeId} {o0 o1 o2 o3 g0 g1 : Field} {v : Value} {d : DataW H} {p : List MemPlace}
    (ho : P.underlying t = some (.struct #[o0, o1, o2, o3])) (n0 : o0.type = tI ∧ o0.offset = 0) (n1 : o1.type = tI ∧ o1.offset = 1) (n2 : o2.type = tV ∧ o2.offset = 2) (n3 : o3.type = tS ∧ o3.offset = 5) (cO : P.cellsOf t = 6) (cS : P.cellsOf tS = 1) (cV : P.cellsOf tV = 3) (hV : P.underlying tV = some (.array 3 tI))
    (ht : P.underlying tS = some (.slice tD)) (hD : P.underlying tD = some (.struct #[g0, g1])) (hI : P.underlying tI = some (.int .i64)) (m0 : g0.type = tI ∧ g0.offset = 0) (m1 : g1.type = tI ∧ g1.offset = 1) (cD : P.cellsOf tD = 2) (cI : P.cellsOf tI = 1)
    (hv : Value.okWide P w r b0 t v) (h : DataW.Trod enc P w base spare held t v d p) :
    ∃ (q : Nat) (ao : Option Addr) (l : List Dt) (e o a b c : Int), v = .agg #[.int .i64 e, .int .i64 o, .int .i64 a, .int .i64 b, .int .i64 c, .slice ao l.length q] ∧ l.length ≤ maxLen ∧ GRow 0 w ao (flatD l) := by
  obtain ⟨cs, rfl, hsz⟩ := okWide_struct ho hv
  obtain ⟨c0, c1, c2, c3, c4, c5, rfl⟩ := array6 (hsz.trans cO)
  obtain ⟨fuel, hf⟩ := h
  obtain ⟨y0, y1, y2, y3, m, _, _, h0, h1, h2, h3⟩ := trod_struct4 ho hf
  rw [n0.1, n0.2, cI] at h0
  rw [n1.1, n1.2, cI] at h1
  rw [n2.1, n2.2, cV] at h2
  rw [n3.1, n3.2, cS] at h3
  obtain ⟨e, e0, _, _⟩ := DataW.trod_int hI h0
  obtain ⟨o, e1, _, _⟩ := DataW.trod_int hI h1
  obtain ⟨a, b, c, e2⟩ := vv3_of hV hI cV cI h2
  obtain ⟨ao, l, cap, q1, q2, q3⟩ := dts_of ht hD hI m0 m1 cD cI h3
  simp [Value.cells] at e0 e1 e2 q1
  obtain ⟨rfl, rfl, rfl⟩ := e2
  subst e0 e1 q1
  exact ⟨cap, ao, l, e, o, a, b, c, rfl, q2, q3⟩
/-- The seat's own types: the laws' group. -/
theorem open_group {H : Type} {enc : TypeId × Value → H} {w : World} {base : Nat} {spare : Nat → Bool} {held : Bool} {r : Reach} {b0 : Nat} {v : Value} {d : DataW H} {p : List MemPlace}
    (hv : Value.okWide Try.prog w r b0 44 v) (h : DataW.Trod enc Try.prog w base spare held 44 v d p) :
    ∃ (q : Nat) (ao : Option Addr) (l : List Dt) (e o a b c : Int), v = .agg #[.int .i64 e, .int .i64 o, .int .i64 a, .int .i64 b, .int .i64 c, .slice ao l.length q] ∧ l.length ≤ maxLen ∧ GRow 0 w ao (flatD l) :=
  group_of Try.underlying44 ⟨rfl, rfl⟩ ⟨rfl, rfl⟩ ⟨rfl, rfl⟩ ⟨rfl, rfl⟩ (by kernel_rfl) (by kernel_rfl) (by kernel_rfl) Try.underlying23 Try.underlying42 Try.underlying49 Try.underlying3 ⟨rfl, rfl⟩ ⟨rfl, rfl⟩ (by kernel_rfl) (by kernel_rfl) hv h
end Go.Proofs.Ytklajcdlacemaaa
