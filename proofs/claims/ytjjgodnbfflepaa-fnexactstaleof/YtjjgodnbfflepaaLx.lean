/- What the laws of merged lists share. -/
import Derived.Test.YtjjgodnbfflepaaRows
import Derived.WalkKit
import Derived.WalkSpells
import Derived.WalkLawsBesides
import Derived.Deep.QuietTactic
import Derived.BigQuiet
import Derived.Deep.RegionHeld3
import Derived.Test.YtjjgodnbfflepaaXl
import Derived.LoopN
namespace Go.Proofs.Ytjjgodnbfflepaa
open Go.RowKit
set_option linter.unusedSimpArgs false
set_option linter.unusedVariables false
theorem own_mrow {W : World} {e : TypeId} {ao : Option Addr} {cap : Nat} {J : List Sib} (h : Hid (W.ownsRow 0 e 4 (.slice ao J.length cap) J.length (flat J))) : Hid (MRow W ao J.length) := by
  rcases h.out.2 with ⟨h', hn⟩ | ⟨g, cap', cur, h', _⟩
  · exact .inl hn
  · cases h'
    refine .inr ⟨g, rfl, (h.out.lt g rfl).2, fun j hj => ?_⟩
    rw [h.out.cellAt j hj]
    refine ⟨?_, h.out.frozenAt j⟩
    have : j < (flat J).length := by rw [flat_length]; exact hj
    simp [this]
theorem own_srow {W : World} {e : TypeId} {ao : Option Addr} {cap : Nat} {J : List Sib} (h : Hid (W.ownsRow 0 e 4 (.slice ao J.length cap) J.length (flat J))) : SibRow W ao J := by
  obtain ⟨o, c, e', hr, _⟩ := owned_row h.out
  cases e'
  exact hr

theorem c4_chg {W W' : World} {g lo hi : Nat} {v0 : Value} {a b c : Int} (h : Hid (Cells4 W g v0 a b c)) (hg : Chg lo hi W W') (hne : g < lo ∨ hi ≤ g) : Hid (Cells4 W' g v0 a b c) :=
  ⟨hg.cell h.out.1 hne, hg.cell h.out.2.1 hne, hg.cell h.out.2.2.1 hne, hg.cell h.out.2.2.2 hne⟩
theorem mgS_cp (os : List Ov) (gs : Nat → Nat) : mgS (cpL os gs) = mgS os := by
  have key : ∀ k, k ≤ os.length → mgS ((cpL os gs).take k) = mgS (os.take k) := by
    intro k
    induction k with
    | zero => intro _; rfl
    | succ k ih =>
      intro hk
      rw [mgS_take (by rw [cpL_len]; omega), mgS_take (by omega), ih (by omega), cpL_at]
      rfl
  have := key os.length (Nat.le_refl _)
  rw [List.take_of_length_le (by rw [cpL_len]; exact Nat.le_refl _), List.take_of_length_le (Nat.le_refl _)] at this
  exact this
theorem allok_cp (os : List Ov) (gs : Nat → Nat) : AllOk (cpL os gs) ↔ AllOk os := by
  constructor
  · intro h x hx
    obtain ⟨i, hi, rfl⟩ := List.getElem_of_mem hx
    have hi' : i < (cpL os gs).length := by rw [cpL_len]; exact hi
    have h1 := h (cpL os gs)[i] (List.getElem_mem hi')
    rw [cpL_at] at h1
    exact h1
  · intro h x hx
    obtain ⟨i, hi, rfl⟩ := List.getElem_of_mem hx
    have hi' : i < os.length := by rw [cpL_len] at hi; exact hi
    rw [cpL_at]
    exact h os[i] (List.getElem_mem hi')
theorem mr_cp {os : List Ov} {J : List Sib} {p q r code : Int} (gs : Nat → Nat) (h : MR os J p q r code) : MR (cpL os gs) J p q r code := by
  unfold MR at *
  rw [cpL_len, mgS_cp, allok_cp]
  exact h
theorem sml_cp {os : List Ov} (gs : Nat → Nat) (h : os.length + tot os ≤ 1048576) : Sml (cpL os gs) := fun x hx => by
  obtain ⟨i, hi, rfl⟩ := List.getElem_of_mem hx
  rw [cpL_at]
  have hi' : i < os.length := by rw [cpL_len] at hi; exact hi
  have := tot_mem (List.getElem_mem hi')
  show os[i].l.length ≤ _
  omega
/-- A merged object that a call hands out: new, with a code. -/
def MaQ (J : List Sib) (p q r code : Int) (w : World) (e : Ending) (w' : World) : Prop := ∃ vo vc, e = .returned (.tuple #[.agg #[.slice vo J.length vc, .int .i64 p, .int .i64 q, .int .i64 r], .int .i64 code]) ∧ Below w.heap.size w w' ∧ Hid (w'.ownsRow 0 68 4 (.slice vo J.length vc) J.length (flat J)) ∧ Hid (∀ k, Value.ownBlock (.slice vo J.length vc) = some k → w.heap.size ≤ k ∧ k < w'.heap.size)
theorem maq_of {J : List Sib} {p q r code : Int} {w w' : World} {e : Ending} (h : MaP J p q r code w e w') : MaQ J p q r code w e w' := by
  obtain ⟨vo, vc, rfl, hg, ho⟩ := h
  refine ⟨vo, vc, rfl, hg.below (Nat.le_refl _) (fun k hk => by simp [Value.ownBlock] at hk), ho, fun k hk => ⟨?_, (ho.lt k hk).2⟩⟩
  rcases hg.fresh k hk with h' | h'
  · simp [Value.ownBlock] at h'
  · exact h'
theorem implMerge_x {w0 W : World} {g : Nat} {os : List Ov} {gs : Nat → Nat} {J : List Sib} {p q r code : Int} (h : XR w0 W g os gs os.length) (hm : os.length + tot os ≤ 1048576) (hJ : MR os J p q r code) :
    Calls Try.prog 8 #[.slice (some ⟨g, 0, none⟩) os.length os.length] W (MaQ J p q r code W) := by
  have := implMerge_any os.length (some ⟨g, 0, none⟩) (cpL os gs) J p q r code (mr_cp gs hJ) W (by rw [cpL_len]; omega) (sml_cp gs hm) h.orow
  rw [cpL_len] at this
  exact this.mono fun e w' h => maq_of h
theorem specMerge_x {w0 W : World} {g : Nat} {os : List Ov} {gs : Nat → Nat} {J : List Sib} {p q r code : Int} (h : XR w0 W g os gs os.length) (hm : os.length + tot os ≤ 1048576) (hJ : MR os J p q r code) :
    Calls Try.prog 6 #[.slice (some ⟨g, 0, none⟩) os.length os.length] W (MaQ J p q r code W) := by
  have := specMerge_any os.length (some ⟨g, 0, none⟩) (cpL os gs) J p q r code (mr_cp gs hJ) W (by rw [cpL_len]; omega) (sml_cp gs hm) h.orow
  rw [cpL_len] at this
  exact this.mono fun e w' h => maq_of h
end Go.Proofs.Ytjjgodnbfflepaa
