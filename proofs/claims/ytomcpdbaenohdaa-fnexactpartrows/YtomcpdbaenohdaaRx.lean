/- What a list of rows looks like when the call begins: parts, keys, and lists of numbers in memory. -/
import Derived.Test.YtomcpdbaenohdaaRa
import Derived.ProofKit
import Derived.OpenShut
import Derived.Lib.SmallJoins
import Derived.Deep.Slices
import Derived.Deep.Strs
namespace Go.Proofs.Ytomcpdbaenohdaa
open Go.ChangeShapes Go.WideShapes Go.ChangeAt Go.RowKit Go.Joins Go.Deep
set_option maxRecDepth 100000
set_option linter.unusedSimpArgs false
set_option linter.unusedVariables false
theorem listX_of {A : Type} {Q : Nat → A → Prop} (len : Nat) (h : ∀ i, i < len → ∃ s, Q i s) : ∃ l : List A, l.length = len ∧ ∀ i (hi : i < l.length), Q i l[i] := by
  induction len with
  | zero => exact ⟨[], rfl, fun i hi => by simp at hi⟩
  | succ n ih =>
    obtain ⟨l, h1, h2⟩ := ih (fun i hi => h i (by omega))
    obtain ⟨s, hs⟩ := h n (by omega)
    refine ⟨l ++ [s], by simp [h1], fun i hi => ?_⟩
    rcases Nat.lt_or_ge i l.length with q | q
    · rw [List.getElem_append_left q]; exact h2 i q
    · have e : i = l.length := by simp at hi; omega
      subst e
      simp
      rw [h1]; exact hs
theorem add_at (b u k : Nat) : ((⟨b, u, none⟩ : Addr).add k) = ⟨b, u + k, none⟩ := by
  unfold Addr.add
  by_cases hk : k = 0 <;> simp [hk]
theorem ints_of {H : Type} {enc : TypeId × Value → H} {P : Program} {w : World} {base : Nat} {spare : Nat → Bool} {held : Bool} {tV tI : TypeId} {n : Nat} {cs : List Value} {x : DataW H × List MemPlace}
    (hV : P.underlying tV = some (.slice tI)) (hI : P.underlying tI = some (.int .i64)) (cI : P.cellsOf tI = 1)
    (h : DataW.trod enc P w base spare held n tV cs = some x) : ∃ (ao : Option Addr) (l : List Int) (cap : Nat), cs = [.slice ao l.length cap] ∧ l.length ≤ maxLen ∧ GRow 0 w ao (ints l) := by
  rcases open_slice hV h with ⟨rfl, _⟩ | ⟨a, len, cap, m, n', D, Pl, rfl, hb, hl, hm, hmm, _, hel⟩
  · exact ⟨none, [], 0, rfl, by simp, Or.inl rfl⟩
  · have hlm : len ≤ m := by rw [hmm]; split <;> omega
    obtain ⟨l, h1, h2⟩ := listX_of (A := Int) (Q := fun i s => w.cells? base (a.add (i * 1)) 1 = some [.int .i64 s]) len (fun i hi => by
      obtain ⟨cs', q1, q2⟩ := hel i (by omega)
      rw [cI] at q1
      obtain ⟨s, rfl, _, _⟩ := DataW.trod_int hI q2
      exact ⟨s, q1⟩)
    refine ⟨some a, l, cap, by rw [h1], by omega, ?_⟩
    rcases Nat.eq_zero_or_pos l.length with hz | hp
    · exact Or.inl (by rw [List.length_eq_zero_iff.1 hz]; rfl)
    · right
      obtain ⟨b, off, spot⟩ := a
      have c00 := (World.cells?_some (h2 0 hp)).2.2 0 (by omega)
      have hspot : spot = none := by
        have := World.cell?_spot (a := _) (w := w) (v := .int .i64 l[0]) (by simpa [Addr.add] using c00)
        simpa using this
      subst hspot
      refine ⟨b, off, rfl, Nat.zero_le _, i_row (fun i hi => ?_)⟩
      have c0 := (World.cells?_some (h2 i hi)).2.2 0 (by omega)
      rw [add_at, add_at] at c0
      simpa using c0
theorem row_of {H : Type} {enc : TypeId × Value → H} {P : Program} {w : World} {base : Nat} {spare : Nat → Bool} {held : Bool} {tR tI tS tV : TypeId} {f0 f1 f2 : Field} {n : Nat} {cs : List Value} {x : DataW H × List MemPlace}
    (hR : P.underlying tR = some (.struct #[f0, f1, f2])) (hI : P.underlying tI = some (.int .i64)) (hS : P.underlying tS = some .string) (hV : P.underlying tV = some (.slice tI)) (k0 : f0.type = tI ∧ f0.offset = 0) (k1 : f1.type = tS ∧ f1.offset = 1) (k2 : f2.type = tV ∧ f2.offset = 2) (cR : P.cellsOf tR = 3) (cI : P.cellsOf tI = 1) (cS : P.cellsOf tS = 1) (cV : P.cellsOf tV = 1)
    (h : DataW.trod enc P w base spare held n tR cs = some x) : ∃ m : Rm, cs = [.int .i64 m.r.part, .string m.r.key, .slice m.p m.r.vs.length m.q] ∧ m.r.vs.length ≤ maxLen ∧ m.r.key.size ≤ maxLen ∧ GRow 0 w m.p (ints m.r.vs) := by
  obtain ⟨y0, y1, y2, m, _, hl, h0, h1, h2⟩ := trod_struct3 hR h
  rw [cR] at hl
  rw [k0.1, k0.2, cI] at h0
  rw [k1.1, k1.2, cS] at h1
  rw [k2.1, k2.2, cV] at h2
  match cs, hl with
  | [c0, c1, c2], _ =>
    obtain ⟨p, e0, _, _⟩ := DataW.trod_int hI h0
    obtain ⟨s, e1, _, hs⟩ := DataW.trod_string hS h1
    obtain ⟨ao, l, cap, e2, hl2, hg⟩ := ints_of hV hI cI h2
    simp at e0 e1 e2
    exact ⟨⟨⟨p, s, l⟩, ao, cap⟩, by rw [e0, e1, e2], hl2, hs, hg⟩
theorem rows_of {H : Type} {enc : TypeId × Value → H} {P : Program} {w : World} {base : Nat} {spare : Nat → Bool} {held : Bool} {r : Reach} {b0 : Nat} {tL tR tI tS tV : TypeId} {f0 f1 f2 : Field} {v : Value} {d : DataW H} {p : List MemPlace}
    (hL : P.underlying tL = some (.slice tR)) (hR : P.underlying tR = some (.struct #[f0, f1, f2])) (hI : P.underlying tI = some (.int .i64)) (hS : P.underlying tS = some .string) (hV : P.underlying tV = some (.slice tI)) (k0 : f0.type = tI ∧ f0.offset = 0) (k1 : f1.type = tS ∧ f1.offset = 1) (k2 : f2.type = tV ∧ f2.offset = 2) (cR : P.cellsOf tR = 3) (cI : P.cellsOf tI = 1) (cS : P.cellsOf tS = 1) (cV : P.cellsOf tV = 1)
    (hv : Value.okWide P w r b0 tL v) (h : DataW.Trod enc P w base spare held tL v d p) :
    ∃ (ao : Option Addr) (ms : List Rm) (cap : Nat), v = .slice ao ms.length cap ∧ ms.length ≤ maxLen ∧ (∀ x ∈ ms, x.r.vs.length ≤ maxLen ∧ x.r.key.size ≤ maxLen) ∧ RR 0 w ao ms := by
  obtain ⟨a0, len0, cap0, rfl⟩ := okWide_slice hL hv
  obtain ⟨fuel, hf⟩ := h
  rcases open_slice hL hf with ⟨hcs, _⟩ | ⟨a, len, cap, m, n', D, Pl, hcs, hb, hl, hm, hmm, _, hel⟩
  · simp [Value.cells] at hcs
    obtain ⟨rfl, rfl, rfl⟩ := hcs
    exact ⟨none, [], 0, rfl, by simp, fun x hx => by simp at hx, ⟨.inl rfl, fun x hx => by simp at hx⟩⟩
  · simp [Value.cells] at hcs
    obtain ⟨rfl, rfl, rfl⟩ := hcs
    have hlm : len0 ≤ m := by rw [hmm]; split <;> omega
    obtain ⟨ms, h1, h2⟩ := listX_of (A := Rm) (Q := fun i m => w.cells? base (a.add (i * 3)) 3 = some [.int .i64 m.r.part, .string m.r.key, .slice m.p m.r.vs.length m.q] ∧ m.r.vs.length ≤ maxLen ∧ m.r.key.size ≤ maxLen ∧ GRow 0 w m.p (ints m.r.vs)) len0 (fun i hi => by
      obtain ⟨cs', q1, q2⟩ := hel i (by omega)
      rw [cR] at q1
      obtain ⟨s, rfl, r1⟩ := row_of hR hI hS hV k0 k1 k2 cR cI cS cV q2
      exact ⟨s, q1, r1⟩)
    refine ⟨some a, ms, cap0, by rw [h1], by omega, fun x hx => ?_, ?_, fun x hx => ?_⟩
    · obtain ⟨i, hi, rfl⟩ := List.getElem_of_mem hx
      exact ⟨(h2 i hi).2.1, (h2 i hi).2.2.1⟩
    · rcases Nat.eq_zero_or_pos ms.length with hz | hp
      · exact Or.inl (by rw [List.length_eq_zero_iff.1 hz]; rfl)
      · right
        obtain ⟨b, off, spot⟩ := a
        have c00 := (World.cells?_some (h2 0 hp).1).2.2 0 (by omega)
        have hspot : spot = none := by
          have := World.cell?_spot (a := _) (w := w) (v := .int .i64 ms[0].r.part) (by simpa [Addr.add] using c00)
          simpa using this
        subst hspot
        refine ⟨b, off, rfl, Nat.zero_le _, r_row ms off (fun i hi => ?_)⟩
        have hc := (World.cells?_some (h2 i hi).1).2.2
        have c0 := hc 0 (by omega)
        have c1 := hc 1 (by omega)
        have c2 := hc 2 (by omega)
        rw [add_at, add_at] at c0 c1 c2
        exact ⟨by simpa using c0, by simpa using c1, by simpa using c2⟩
    · obtain ⟨i, hi, rfl⟩ := List.getElem_of_mem hx
      exact (h2 i hi).2.2.2
/-- The seat's own types: the laws' list of rows. -/
theorem open_rows {H : Type} {enc : TypeId × Value → H} {w : World} {base : Nat} {spare : Nat → Bool} {held : Bool} {r : Reach} {b0 : Nat} {v : Value} {d : DataW H} {p : List MemPlace}
    (hv : Value.okWide Try.prog w r b0 22 v) (h : DataW.Trod enc Try.prog w base spare held 22 v d p) :
    ∃ (ao : Option Addr) (ms : List Rm) (cap : Nat), v = .slice ao ms.length cap ∧ ms.length ≤ maxLen ∧ (∀ x ∈ ms, x.r.vs.length ≤ maxLen ∧ x.r.key.size ≤ maxLen) ∧ RR 0 w ao ms :=
  rows_of Try.underlying22 Try.underlying37 Try.underlying3 Try.underlying9 Try.underlying35 ⟨rfl, rfl⟩ ⟨rfl, rfl⟩ ⟨rfl, rfl⟩ (by kernel_rfl) (by kernel_rfl) (by kernel_rfl) (by kernel_rfl) hv h
end Go.Proofs.Ytomcpdbaenohdaa
