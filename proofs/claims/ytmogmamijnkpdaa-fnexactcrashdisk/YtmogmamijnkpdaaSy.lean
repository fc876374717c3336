/- Sync, on both sides. -/
import Derived.Test.YtmogmamijnkpdaaRows
import Derived.WalkKit
import Derived.WalkSpells
import Derived.WalkLawsBesides
import Derived.Deep.QuietTactic
import Derived.BigQuiet
import Derived.Deep.RegionHeld3
import Derived.Test.YtmogmamijnkpdaaTa
import Derived.Test.YtmogmamijnkpdaaCl
import Derived.LoopN
import Derived.Deep.Cut
namespace Go.Proofs.Ytmogmamijnkpdaa
open Go.RowKit
set_option linter.unusedSimpArgs false
set_option linter.unusedVariables false

/-- What a call that answers a disk and a code leaves. -/
def DP (w : World) (code : Int) (rs ru : List ByteArray) (e : Ending) (w' : World) : Prop := ∃ p0 c0 p1 c1, e = .returned (.tuple #[.agg #[.slice p0 rs.length c0, .slice p1 ru.length c1], .int .i64 code]) ∧ Below w.heap.size w w' ∧ Own2 w' (.slice p0 rs.length c0) (.slice p1 ru.length c1) rs ru w.heap.size w'.heap.size
theorem own2_nil (W : World) (lo hi : Nat) : Own2 W (.slice none 0 0) (.slice none 0 0) [] [] lo hi :=
  ⟨World.ownsRow_nil W 0 9 1, World.ownsRow_nil W 0 9 1, fun k hk => absurd hk Gro.none_ne, fun k hk => absurd hk Gro.none_ne, fun k hk => absurd hk Gro.none_ne⟩
/-- A box of two cells that may be written. -/
structure Th2 (W : World) (p : Nat) : Prop where
  cells : (∃ u, W.cell? ⟨p, 0, none⟩ = some u) ∧ (∃ u, W.cell? ⟨p, 1, none⟩ = some u)
  f0 : W.frozen? ⟨p, 0, none⟩ = false
  f1 : W.frozen? ⟨p, 1, none⟩ = false
theorem Th2.next {W W' : World} {p : Nat} (h : Th2 W p) (hb : Below W.heap.size W W') : Th2 W' p := by
  obtain ⟨⟨⟨u, h0⟩, ⟨v, h1⟩⟩, f0, f1⟩ := h
  exact ⟨⟨⟨u, cell_next hb h0 (cell_lt' h0)⟩, ⟨v, cell_next hb h1 (cell_lt' h1)⟩⟩, frozen_next hb f0 (cell_lt' h0), frozen_next hb f1 (cell_lt' h0)⟩
theorem Th2.gro {W W' : World} {p lo : Nat} {v v' : Value} {ss : List ByteArray} (h : Th2 W p) (ho : OwnT W v ss lo) (hg : Gro W W' v v') (hp : p < lo) : Th2 W' p := by
  obtain ⟨⟨⟨u, h0⟩, ⟨u', h1⟩⟩, f0, f1⟩ := h
  exact ⟨⟨⟨u, ho.cell hg h0 hp⟩, ⟨u', ho.cell hg h1 hp⟩⟩, ho.frozen hg f0 (cell_lt' h0) hp, ho.frozen hg f1 (cell_lt' h0) hp⟩
theorem th2_new {W : World} {v0 v1 : Value} {t : TypeId} : Th2 (W.alloc (.cells #[v0, v1] t)) W.heap.size := ⟨⟨⟨v0, by go_simp⟩, ⟨v1, by go_simp⟩⟩, by go_simp, by go_simp⟩
theorem set2_cells {W : World} {p : Nat} {v0 v1 : Value} (h : Th2 W p) : ((W.setCell ⟨p, 0, none⟩ v0).setCell ⟨p, 1, none⟩ v1).cell? ⟨p, 0, none⟩ = some v0 ∧ ((W.setCell ⟨p, 0, none⟩ v0).setCell ⟨p, 1, none⟩ v1).cell? ⟨p, 1, none⟩ = some v1 := by
  obtain ⟨⟨⟨u, h0⟩, ⟨u', h1⟩⟩, _, _⟩ := h
  refine ⟨?_, ?_⟩
  · rw [World.cell?_setCell_other _ _ _ _ (fun e => by cases e)]
    exact World.cell?_setCell_same W _ _ h0
  · have h2 : (W.setCell ⟨p, 0, none⟩ v0).cell? ⟨p, 1, none⟩ = some u' := by
      rw [World.cell?_setCell_other _ _ _ _ (fun e => by cases e)]; exact h1
    exact World.cell?_setCell_same _ _ _ h2
theorem OwnT.apart {W W' : World} {v v' u : Value} {ss : List ByteArray} {lo : Nat} (hu : OwnT W u ss lo) (hne : ∀ k, v.ownBlock = some k → u.ownBlock ≠ some k) (hg : Gro W W' v v') : OwnT W' u ss lo ∧ ∀ k, v'.ownBlock = some k → u.ownBlock ≠ some k := by
  refine ⟨⟨own_gro hu.own hg (fun k hk e => hne k e hk), hu.ge⟩, fun k hk e => ?_⟩
  rcases hg.fresh k hk with h' | h'
  · exact hne k h' e
  · have := (hu.own.lt k e).2; omega
theorem own2_of {W : World} {v0 v1 : Value} {rs ru : List ByteArray} {lo : Nat} (h0 : OwnT W v0 rs lo) (h1 : OwnT W v1 ru lo) (hne : ∀ k, v0.ownBlock = some k → v1.ownBlock ≠ some k) : Own2 W v0 v1 rs ru lo W.heap.size := ⟨h0.own, h1.own, h0.lt, h1.lt, hne⟩

theorem th2_drew {W : World} {p : Nat} (h : Th2 W p) : Th2 W.drew p := h.next (bel_drew _)
end Go.Proofs.Ytmogmamijnkpdaa
