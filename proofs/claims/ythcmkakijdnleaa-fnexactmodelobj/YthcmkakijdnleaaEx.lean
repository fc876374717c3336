/- What a list of events looks like when the call begins: dots, keys, values, and what was known, in memory. -/
import Derived.Test.YthcmkakijdnleaaEa
import Derived.ProofKit
import Derived.OpenShut
import Derived.Lib.SmallJoins
import Derived.Deep.Slices
import Derived.Deep.Strs
namespace Go.Proofs.Ythcmkakijdnleaa
open Go.ChangeShapes Go.WideShapes Go.ChangeAt Go.RowKit Go.Joins Go.Deep
set_option maxRecDepth 100000
set_option linter.unusedSimpArgs false
set_option linter.unusedVariables false
theorem listX_of {A : Type} {Q : Nat → A → Prop} (len : Nat) (h : ∀ i, i < len → ∃ s, Q i s) : ∃ l : List A, l.length = len ∧ ∀ i (hi : i < l.length), Q i l[i] := by
  induction len with
  | zero => exact ⟨[], rfl, fun i hi => by simp at hi⟩
  | succ n ih =>
    obtain ⟨l, h1, h2⟩ := ih (fun i hi => h i (by omega))
    obtain ⟨s, hs⟩ := h n (by omega)
    refine ⟨l ++ [s], by simp [h1], fun i hi => ?_⟩
    rcases Nat.lt_or_ge i l.length with q | q
    · rw [List.getElem_append_left q]; exact h2 i q
    · have e : i = l.length := by simp at hi; omega
      subst e
      simp
      rw [h1]; exact hs
theorem add_at (b u k : Nat) : ((⟨b, u, none⟩ : Addr).add k) = ⟨b, u + k, none⟩ := by
  unfold Addr.add
  by_cases hk : k = 0 <;> simp [hk]
theorem dt_of {H : Type} {enc : TypeId × Value → H} {P : Program} {w : World} {base : Nat} {spare : Nat → Bool} {held : Bool} {tD tI : TypeId} {g0 g1 : Field} {n : Nat} {cs : List Value} {x : DataW H × List MemPlace}
    (hD : P.underlying tD = some (.struct #[g0, g1])) (hI : P.underlying tI = some (.int .i64)) (m0 : g0.type = tI ∧ g0.offset = 0) (m1 : g1.type = tI ∧ g1.offset = 1) (cD : P.cellsOf tD = 2) (cI : P.cellsOf tI = 1)
    (h : DataW.trod enc P w base spare held n tD cs = some x) : ∃ p q : Int, cs = [.int .i64 p, .int .i64 q] := by
  obtain ⟨z0, z1, m', _, hl, i0, i1⟩ := trod_struct2 hD h
  rw [cD] at hl
  rw [m0.1, m0.2, cI] at i0
  rw [m1.1, m1.2, cI] at i1
  match cs, hl with
  | [c0, c1], _ =>
    obtain ⟨p, e0, _, _⟩ := DataW.trod_int hI i0
    obtain ⟨q, e1, _, _⟩ := DataW.trod_int hI i1
    simp at e0 e1
    exact ⟨p, q, by rw [e0, e1]⟩
theorem vv3_of {H : Type} {enc : TypeId × Value → H} {P : Program} {w : World} {base : Nat} {spare : Nat → Bool} {held : Bool} {t e : TypeId} {n : Nat} {cs : List Value} {x : DataW H × List MemPlace}
    (ht : P.underlying t = some (.array 3 e)) (he : P.underlying e = some (.int .i64)) (hC : P.cellsOf t = 3) (hE : P.cellsOf e = 1)
    (h : DataW.trod enc P w base spare held n t cs = some x) : ∃ a b c : Int, cs = [.int .i64 a, .int .i64 b, .int .i64 c] := by
  obtain ⟨xs, m, _, _, hlc, hl, hx⟩ := DataW.trod_array ht h
  rw [hC] at hlc
  have g0 := hx 0 (by omega)
  have g1 := hx 1 (by omega)
  have g2 := hx 2 (by omega)
  obtain ⟨y0, y1, y2, rfl⟩ : ∃ y0 y1 y2, xs = [y0, y1, y2] := by
    match xs, hl with
    | [y0, y1, y2], _ => exact ⟨y0, y1, y2, rfl⟩
  obtain ⟨c0, c1, c2, rfl⟩ : ∃ c0 c1 c2, cs = [c0, c1, c2] := by
    match cs, hlc with
    | [y0, y1, y2], _ => exact ⟨y0, y1, y2, rfl⟩
  simp [hE] at g0 g1 g2
  obtain ⟨a, e0, _, wa⟩ := DataW.trod_int he g0
  obtain ⟨b, e1, _, wb⟩ := DataW.trod_int he g1
  obtain ⟨c, e2, _, wc⟩ := DataW.trod_int he g2
  simp at e0 e1 e2
  subst e0 e1 e2
  exact ⟨a, b, c, rfl⟩
theorem trod_struct5 {H : Type} {enc : TypeId × Value → H} {P : Program} {w : World} {base : Nat} {spare : Nat → Bool} {held : Bool} {t : TypeId} {f0 f1 f2 f3 f4 : Field} {fuel : Nat} {cs : List Value} {x : DataW H × List MemPlace} (ht : P.underlying t = some (.struct #[f0, f1, f2, f3, f4])) (h : DataW.trod enc P w base spare held fuel t cs = some x) :
    ∃ y0 y1 y2 y3 y4 n, cs.length = P.cellsOf t ∧ DataW.trod enc P w base spare held n f0.type ((cs.drop f0.offset).take (P.cellsOf f0.type)) = some y0 ∧ DataW.trod enc P w base spare held n f1.type ((cs.drop f1.offset).take (P.cellsOf f1.type)) = some y1 ∧ DataW.trod enc P w base spare held n f2.type ((cs.drop f2.offset).take (P.cellsOf f2.type)) = some y2 ∧ DataW.trod enc P w base spare held n f3.type ((cs.drop f3.offset).take (P.cellsOf f3.type)) = some y3 ∧ DataW.trod enc P w base spare held n f4.type ((cs.drop f4.offset).take (P.cellsOf f4.type)) = some y4 := by
  obtain ⟨xs, n, _, rfl, hl, hlen, hf⟩ := DataW.trod_struct ht h
  match xs, hlen with
  | [y0, y1, y2, y3, y4], _ => exact ⟨y0, y1, y2, y3, y4, n, hl, by simpa using hf 0 f0 rfl, by simpa using hf 1 f1 rfl, by simpa using hf 2 f2 rfl, by simpa using hf 3 f3 rfl, by simpa using hf 4 f4 rfl⟩
theorem ev_of {H : Type} {enc : TypeId × Value → H} {P : Program} {w : World} {base : Nat} {spare : Nat → Bool} {held : Bool} {tE tD tV tI tS tB : TypeId} {f0 f1 f2 f3 f4 g0 g1 : Field} {n : Nat} {cs : List Value} {x : DataW H × List MemPlace}
    (hE : P.underlying tE = some (.struct #[f0, f1, f2, f3, f4])) (hD : P.underlying tD = some (.struct #[g0, g1])) (hV : P.underlying tV = some (.array 3 tI)) (hI : P.underlying tI = some (.int .i64)) (hS : P.underlying tS = some .string) (hB : P.underlying tB = some .bool) (k0 : f0.type = tD ∧ f0.offset = 0) (k1 : f1.type = tS ∧ f1.offset = 2) (k2 : f2.type = tI ∧ f2.offset = 3) (k3 : f3.type = tB ∧ f3.offset = 4) (k4 : f4.type = tV ∧ f4.offset = 5) (m0 : g0.type = tI ∧ g0.offset = 0) (m1 : g1.type = tI ∧ g1.offset = 1) (cE : P.cellsOf tE = 8) (cD : P.cellsOf tD = 2) (cV : P.cellsOf tV = 3) (cI : P.cellsOf tI = 1) (cS : P.cellsOf tS = 1) (cB : P.cellsOf tB = 1)
    (h : DataW.trod enc P w base spare held n tE cs = some x) : ∃ m : Ev, cs = [.int .i64 m.p, .int .i64 m.n, .string m.key, .int .i64 m.v, .bool m.dead, .int .i64 m.a, .int .i64 m.b, .int .i64 m.c] ∧ m.key.size ≤ maxLen := by
  obtain ⟨y0, y1, y2, y3, y4, m, hl, h0, h1, h2, h3, h4⟩ := trod_struct5 hE h
  rw [cE] at hl
  rw [k0.1, k0.2, cD] at h0
  rw [k1.1, k1.2, cS] at h1
  rw [k2.1, k2.2, cI] at h2
  rw [k3.1, k3.2, cB] at h3
  rw [k4.1, k4.2, cV] at h4
  match cs, hl with
  | [c0, c1, c2, c3, c4, c5, c6, c7], _ =>
    obtain ⟨p, q, e0⟩ := dt_of hD hI m0 m1 cD cI h0
    obtain ⟨s, e1, _, hs⟩ := DataW.trod_string hS h1
    obtain ⟨v, e2, _, _⟩ := DataW.trod_int hI h2
    obtain ⟨d, e3, _⟩ := DataW.trod_bool hB h3
    obtain ⟨a, b, c, e4⟩ := vv3_of hV hI cV cI h4
    simp at e0 e1 e2 e3 e4
    obtain ⟨e0, e0'⟩ := e0
    obtain ⟨e4, e5, e6⟩ := e4
    exact ⟨⟨p, q, s, v, d, a, b, c⟩, by rw [e0, e0', e1, e2, e3, e4, e5, e6], hs⟩
theorem evs_of {H : Type} {enc : TypeId × Value → H} {P : Program} {w : World} {base : Nat} {spare : Nat → Bool} {held : Bool} {r : Reach} {b0 : Nat} {tL : TypeId} {tE tD tV tI tS tB : TypeId} {f0 f1 f2 f3 f4 g0 g1 : Field} {v : Value} {d : DataW H} {p : List MemPlace}
    (hL : P.underlying tL = some (.slice tE)) (hE : P.underlying tE = some (.struct #[f0, f1, f2, f3, f4])) (hD : P.underlying tD = some (.struct #[g0, g1])) (hV : P.underlying tV = some (.array 3 tI)) (hI : P.underlying tI = some (.int .i64)) (hS : P.underlying tS = some .string) (hB : P.underlying tB = some .bool) (k0 : f0.type = tD ∧ f0.offset = 0) (k1 : f1.type = tS ∧ f1.offset = 2) (k2 : f2.type = tI ∧ f2.offset = 3) (k3 : f3.type = tB ∧ f3.offset = 4) (k4 : f4.type = tV ∧ f4.offset = 5) (m0 : g0.type = tI ∧ g0.offset = 0) (m1 : g1.type = tI ∧ g1.offset = 1) (cE : P.cellsOf tE = 8) (cD : P.cellsOf tD = 2) (cV : P.cellsOf tV = 3) (cI : P.cellsOf tI = 1) (cS : P.cellsOf tS = 1) (cB : P.cellsOf tB = 1)
    (hv : Value.okWide P w r b0 tL v) (h : DataW.Trod enc P w base spare held tL v d p) :
    ∃ (ao : Option Addr) (ms : List Ev) (cap : Nat), v = .slice ao ms.length cap ∧ ms.length ≤ maxLen ∧ (∀ x ∈ ms, x.key.size ≤ maxLen) ∧ GRow 0 w ao (flatE ms) := by
  obtain ⟨a0, len0, cap0, rfl⟩ := okWide_slice hL hv
  obtain ⟨fuel, hf⟩ := h
  rcases open_slice hL hf with ⟨hcs, _⟩ | ⟨a, len, cap, m, n', D, Pl, hcs, hb, hl, hm, hmm, _, hel⟩
  · simp [Value.cells] at hcs
    obtain ⟨rfl, rfl, rfl⟩ := hcs
    exact ⟨none, [], 0, rfl, by simp, fun x hx => by simp at hx, .inl rfl⟩
  · simp [Value.cells] at hcs
    obtain ⟨rfl, rfl, rfl⟩ := hcs
    have hlm : len0 ≤ m := by rw [hmm]; split <;> omega
    obtain ⟨ms, h1, h2⟩ := listX_of (A := Ev) (Q := fun i m => w.cells? base (a.add (i * 8)) 8 = some [.int .i64 m.p, .int .i64 m.n, .string m.key, .int .i64 m.v, .bool m.dead, .int .i64 m.a, .int .i64 m.b, .int .i64 m.c] ∧ m.key.size ≤ maxLen) len0 (fun i hi => by
      obtain ⟨cs', q1, q2⟩ := hel i (by omega)
      rw [cE] at q1
      obtain ⟨s, rfl, r1⟩ := ev_of hE hD hV hI hS hB k0 k1 k2 k3 k4 m0 m1 cE cD cV cI cS cB q2
      exact ⟨s, q1, r1⟩)
    refine ⟨some a, ms, cap0, by rw [h1], by omega, fun x hx => ?_, ?_⟩
    · obtain ⟨i, hi, rfl⟩ := List.getElem_of_mem hx
      exact (h2 i hi).2
    · rcases Nat.eq_zero_or_pos ms.length with hz | hp
      · exact Or.inl (by rw [List.length_eq_zero_iff.1 hz]; rfl)
      · right
        obtain ⟨b, off, spot⟩ := a
        have c00 := (World.cells?_some (h2 0 hp).1).2.2 0 (by omega)
        have hspot : spot = none := by
          have := World.cell?_spot (a := _) (w := w) (v := .int .i64 ms[0].p) (by simpa [Addr.add] using c00)
          simpa using this
        subst hspot
        refine ⟨b, off, rfl, Nat.zero_le _, e_row ms off (fun i hi => ?_)⟩
        have hc := (World.cells?_some (h2 i hi).1).2.2
        have c0 := hc 0 (by omega)
        have c1 := hc 1 (by omega)
        have c2 := hc 2 (by omega)
        have c3 := hc 3 (by omega)
        have c4 := hc 4 (by omega)
        have c5 := hc 5 (by omega)
        have c6 := hc 6 (by omega)
        have c7 := hc 7 (by omega)
        rw [add_at, add_at] at c0 c1 c2 c3 c4 c5 c6 c7
        exact ⟨by simpa using c0, by simpa using c1, by simpa using c2, by simpa using c3, by simpa using c4, by simpa using c5, by simpa using c6, by simpa using c7⟩
/-- The seat's own types: the laws' list of events. -/
theorem open_events {H : Type} {enc : TypeId × Value → H} {w : World} {base : Nat} {spare : Nat → Bool} {held : Bool} {r : Reach} {b0 : Nat} {v : Value} {d : DataW H} {p : List MemPlace}
    (hv : Value.okWide Try.prog w r b0 22 v) (h : DataW.Trod enc Try.prog w base spare held 22 v d p) :
    ∃ (ao : Option Addr) (ms : List Ev) (cap : Nat), v = .slice ao ms.length cap ∧ ms.length ≤ maxLen ∧ (∀ x ∈ ms, x.key.size ≤ maxLen) ∧ GRow 0 w ao (flatE ms) :=
  evs_of Try.underlying22 Try.underlying54 Try.underlying30 Try.underlying37 Try.underlying3 Try.underlying9 Try.underlying4 ⟨rfl, rfl⟩ ⟨rfl, rfl⟩ ⟨rfl, rfl⟩ ⟨rfl, rfl⟩ ⟨rfl, rfl⟩ ⟨rfl, rfl⟩ ⟨rfl, rfl⟩ (by kernel_rfl) (by kernel_rfl) (by kernel_rfl) (by kernel_rfl) (by kernel_rfl) (by kernel_rfl) hv h
end Go.Proofs.Ythcmkakijdnleaa
