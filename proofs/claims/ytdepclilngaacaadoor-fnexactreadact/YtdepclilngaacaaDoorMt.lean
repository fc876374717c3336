/- What the words of an act make (mathematics alone); an act's box beside the answer's. -/
import Derived.Test.YtdepclilngaacaaDoorRows
import Derived.WalkKit
import Derived.WalkSpells
import Derived.WalkLawsBesides
import Derived.Deep.QuietTactic
import Derived.BigQuiet
import Derived.Deep.RegionHeld3
import Derived.Test.YtdepclilngaacaaDoorRd
import Derived.Test.YtdepclilngaacaaDoorWb
import Derived.Test.YtdepclilngaacaaDoorKd
import Derived.Test.YtdepclilngaacaaDoorWf
import Derived.LoopN
namespace Go.Proofs.YtdepclilngaacaaDoor
open Go.RowKit
set_option linter.unusedSimpArgs false
set_option linter.unusedVariables false

def zeroA : Av := ⟨0, 0, 0, ⟨#[]⟩, 0, 0, false⟩
def foldA (l : List (Nat × ByteArray)) (a : Av) : Av := l.foldl (fun a x => rdA x.1 x.2 a) a
theorem foldA_snoc (l : List (Nat × ByteArray)) (x : Nat × ByteArray) (a : Av) : foldA (l ++ [x]) a = rdA x.1 x.2 (foldA l a) := by simp [foldA, List.foldl_append]
theorem foldA_key : ∀ (l : List (Nat × ByteArray)) (a : Av), (∀ x ∈ l, x.2.size ≤ 65536) → a.key.size ≤ 65536 → (foldA l a).key.size ≤ 65536
  | [], a, _, h => h
  | x :: l, a, hl, h => by
    have h1 : (rdA x.1 x.2 a).key.size ≤ 65536 := by
      unfold rdA
      repeat' split
      all_goals first
        | exact h
        | exact hl x (by simp)
    exact foldA_key l _ (fun y hy => hl y (List.mem_cons_of_mem _ hy)) h1
/-- The act that words make, if they do. -/
def actOf (k : Nat) (b : Bool) (t : List ByteArray) : Av := foldA ((fs k).zip t) ⟨k, 0, 0, ⟨#[]⟩, 0, 0, b⟩
def goodW (k : Nat) (t : List ByteArray) : Prop := (fs k).length = t.length ∧ ∀ x ∈ (fs k).zip t, rdP x.1 x.2
def Av.ok (a : Av) : Prop := actP a.k a.n a.m a.v a.p a.key
def resA : List ByteArray → Av
  | [] => zeroA
  | w0 :: t => actOf (kindN w0) (strip (kindN w0) t).2 (strip (kindN w0) t).1
def Good : List ByteArray → Prop
  | [] => False
  | w0 :: t => goodW (kindN w0) (strip (kindN w0) t).1 ∧ (actOf (kindN w0) (strip (kindN w0) t).2 (strip (kindN w0) t).1).ok
/-- What ReadAct answers. -/
def RaP (s : ByteArray) (a : Av) (c : Int) : Prop := (65536 < s.size ∧ a = zeroA ∧ c = 2) ∨ (s.size ≤ 65536 ∧ Good (wordsB s) ∧ a = resA (wordsB s) ∧ c = 0) ∨ (s.size ≤ 65536 ∧ ¬ Good (wordsB s) ∧ a = zeroA ∧ c = 3)
theorem RaP.one {s : ByteArray} {a a' : Av} {c c' : Int} (h : RaP s a c) (k : RaP s a' c') : a = a' ∧ c = c' := by
  rcases h with ⟨h1, rfl, rfl⟩ | ⟨h1, h2, rfl, rfl⟩ | ⟨h1, h2, rfl, rfl⟩ <;> rcases k with ⟨k1, rfl, rfl⟩ | ⟨k1, k2, rfl, rfl⟩ | ⟨k1, k2, rfl, rfl⟩
  all_goals first
    | exact ⟨rfl, rfl⟩
    | omega
    | exact (h2 k2).elim
    | exact (k2 h2).elim
def RaQ (s : ByteArray) (w : World) (e : Ending) (w' : World) : Prop := ∃ a c, e = .returned (.tuple #[a.val, .int .i64 c]) ∧ RaP s a c ∧ Below w.heap.size w w'
/-- The answer's box, the act's box, the words. -/
structure St (w W : World) (R : Nat) (a : Av) (p : Option Addr) (ws : List ByteArray) : Prop where
  r : Box W R zeroA.cells
  a : Box W (R + 1) a.cells
  eq : R = w.heap.size
  g : GRow (R + 2) W p (txB ws)
  b : Below w.heap.size w W
theorem St.next {w W W' : World} {R : Nat} {a : Av} {p : Option Addr} {ws : List ByteArray} (h : St w W R a p ws) (hb : Below W.heap.size W W') : St w W' R a p ws := ⟨h.r.next hb, h.a.next hb, h.eq, h.g.next hb, h.b.trans (hb.mono h.b.size)⟩
theorem St.kp {w W W' : World} {R : Nat} {a a' : Av} {p : Option Addr} {ws : List ByteArray} (h : St w W R a p ws) (hk : Kp (· = R + 1) W W') (ha : Box W' (R + 1) a'.cells) : St w W' R a' p ws :=
  ⟨h.r.kp hk (by omega), ha, h.eq, h.g.kp hk (fun x hx hn e => by
    rcases h.g with h' | ⟨b, off, hp, hb, _⟩
    · exact hn h'
    · rw [hx] at hp; cases hp; have e' : b = R + 1 := e; omega), h.b.trans (hk.below h.b.size (fun b hb e => by have e' : b = R + 1 := e; have := h.eq; omega))⟩
theorem St.tail {w W : World} {R : Nat} {a : Av} {b off : Nat} {w0 : ByteArray} {t : List ByteArray} (h : St w W R a (some ⟨b, off, none⟩) (w0 :: t)) : St w W R a (some ⟨b, off + 1, none⟩) t :=
  ⟨h.r, h.a, h.eq, by
    rcases h.g with h' | ⟨b', off', hp, hb, hc⟩
    · simp [txB] at h'
    · cases hp
      refine .inr ⟨b, off + 1, rfl, hb, fun j hj => ?_⟩
      have := hc (j + 1) (by simp [txB] at hj ⊢; omega)
      rw [show off + 1 + j = off + (j + 1) by omega, this]
      simp [txB], h.b⟩
theorem St.tail2 {w W : World} {R q : Nat} {a : Av} {b off : Nat} {w0 : ByteArray} {t : List ByteArray} (h : St w W R a (some ⟨b, off, none⟩) (w0 :: t)) (hq : t.length + 1 ≤ q) : St w W R a (if q = 1 then some (⟨b, off, none⟩ : Addr) else some ⟨b, off + 1, none⟩) t := by
  by_cases e : q = 1
  · have : t = [] := List.length_eq_zero_iff.1 (by omega)
    subst this
    exact ⟨h.r, h.a, h.eq, .inl rfl, h.b⟩
  · rw [if_neg e]
    exact h.tail
theorem St.sub {w W : World} {R : Nat} {a : Av} {p : Option Addr} {ws : List ByteArray} {j : Nat} (h : St w W R a p ws) : St w W R a p (ws.take j) :=
  ⟨h.r, h.a, h.eq, by
    rcases h.g with h' | ⟨b', off', hp, hb, hc⟩
    · have : ws = [] := by simpa [txB] using h'
      exact .inl (by simp [txB, this])
    · refine .inr ⟨b', off', hp, hb, fun i hi => ?_⟩
      have h1 : i < (txB ws).length := by simp [txB] at hi ⊢; omega
      rw [hc i h1]
      simp [txB], h.b⟩
theorem St.word {w W : World} {R : Nat} {a : Av} {p : Option Addr} {ws : List ByteArray} {i : Nat} {s : ByteArray} (h : St w W R a p ws) (hi : ws[i]? = some s) : ∃ b off, p = some ⟨b, off, none⟩ ∧ W.cell? ⟨b, off + i, none⟩ = some (.string s) := by
  obtain ⟨b, off, hp, _, hc⟩ := grow_txt h.g hi
  exact ⟨b, off, hp, hc⟩
theorem zip_at {F : List Nat} {T : List ByteArray} {i f : Nat} {s : ByteArray} (hf : F[i]? = some f) (hs : T[i]? = some s) : (F.zip T)[i]? = some (f, s) := by
  rw [List.getElem?_zip_eq_some]
  exact ⟨hf, hs⟩
theorem zip_take {F : List Nat} {T : List ByteArray} {i f : Nat} {s : ByteArray} (hf : F[i]? = some f) (hs : T[i]? = some s) : (F.zip T).take (i + 1) = (F.zip T).take i ++ [(f, s)] := by
  have := zip_at hf hs
  rw [List.take_add_one, this]
  rfl
end Go.Proofs.YtdepclilngaacaaDoor
