/- appendUnknown: what a context does not know is laid behind. -/
import Derived.Test.YtgnacdhceiapkaaDoorRows
import Derived.WalkKit
import Derived.WalkSpells
import Derived.WalkLawsBesides
import Derived.Deep.QuietTactic
import Derived.BigQuiet
import Derived.Deep.RegionHeld3
import Derived.Test.YtgnacdhceiapkaaDoorAp
import Derived.Test.YtgnacdhceiapkaaDoorIo
import Derived.LoopN
namespace Go.Proofs.YtgnacdhceiapkaaDoor
open Go.RowKit
set_option linter.unusedSimpArgs false
set_option linter.unusedVariables false

theorem info_sib : (Tryd.prog.info? 62).map (fun i => (i.zero, i.size, i.bytes)) = some (some (.agg #[.int .i64 0, .int .i64 0, .int .i64 0, .bool false]), 4, 32) := by kernel_rfl
def fil (a b c : Int) (l : List Sib) : List Sib := l.filter fun s => !decide (s.n ≤ comp a b c s.p)
theorem fil_miss {a b c : Int} {l : List Sib} {k : Nat} (h : k < l.length) (hd : decide (l[k].n ≤ comp a b c l[k].p) = true) : fil a b c (l.take (k + 1)) = fil a b c (l.take k) := by
  unfold fil
  rw [List.take_succ_eq_append_getElem h, List.filter_append, List.filter_cons_of_neg (by simp [hd]), List.filter_nil, List.append_nil]
theorem fil_hit {a b c : Int} {l : List Sib} {k : Nat} (h : k < l.length) (hd : decide (l[k].n ≤ comp a b c l[k].p) = false) : fil a b c (l.take (k + 1)) = fil a b c (l.take k) ++ [l[k]] := by
  unfold fil
  rw [List.take_succ_eq_append_getElem h, List.filter_append, List.filter_cons_of_pos (by simp [hd]), List.filter_nil]
theorem fil_le (a b c : Int) (l : List Sib) (k : Nat) : (fil a b c (l.take k)).length ≤ k := by
  refine Nat.le_trans (List.length_filter_le _ _) ?_
  simp
  omega
theorem own_cast {w : World} {base e size n n' : Nat} {v : Value} {xs xs' : List Value} (h : w.ownsRow base e size v n xs) (h1 : n = n') (h2 : xs = xs') : w.ownsRow base e size v n' xs' := by subst h1; subst h2; exact h
theorem lit_at {W : World} {x : Sib} {t : TypeId} : SibAt (W.alloc (.cells #[.int .i64 x.p, .int .i64 x.n, .int .i64 x.v, .bool x.d] t)) W.heap.size 0 x := by
  refine ⟨?_, ?_, ?_, ?_⟩ <;> go_simp
theorem addr_add (b o j : Nat) : ((⟨b, o, none⟩ : Addr).add j) = ⟨b, o + j, none⟩ := by
  unfold Addr.add
  by_cases hk : j = 0 <;> simp [hk]
theorem one_cells {W : World} {g : Nat} {x : Sib} (h : SibAt W g 0 x) : ∀ j u, (flat [x])[j]? = some u → W.cell? ((⟨g, 0, none⟩ : Addr).add j) = some u := by
  intro j u hu
  rw [addr_add]
  refine flat_cells (l := [x]) (off := 0) rfl (fun i hi => ?_) j u hu
  have : i = 0 := by simpa using hi
  subst this
  simpa using h
theorem Gro.none_ne {b : Nat} : Value.ownBlock (.slice none 0 0) ≠ some b := by simp [Value.ownBlock]
/-- What one round does where the sibling is laid behind. -/
theorem au_hit {w wr w2 w3 : World} {v vr v' : Value} {o1 o2 : Obj} {m0 l : List Sib} {a b c : Int} {k e : Nat} (hk : k < l.length) (hd : decide (l[k].n ≤ comp a b c l[k].p) = false) (G : Gro w wr v vr) (hb : Below (wr.alloc o1).heap.size (wr.alloc o1) w2) (hg : Gro (w2.alloc o2) w3 vr v')
    (hown : w3.ownsRow 0 e 4 v' ((m0 ++ fil a b c (l.take k)).length + 1) (flat (m0 ++ fil a b c (l.take k)) ++ flat [l[k]])) :
    Gro w w3 v v' ∧ w3.ownsRow 0 e 4 v' (m0 ++ fil a b c (l.take (k + 1))).length (flat (m0 ++ fil a b c (l.take (k + 1)))) := by
  refine ⟨G.trans ((Gro.of_below ((Below.refl _ _).alloc (Nat.le_refl _) _)).trans ((Gro.of_below hb).trans ((Gro.of_below ((Below.refl _ _).alloc (Nat.le_refl _) _)).trans hg))), own_cast hown ?_ ?_⟩
  · rw [fil_hit hk hd]; simp; omega
  · rw [fil_hit hk hd, ← List.append_assoc, flat_append _ [l[k]]]

end Go.Proofs.YtgnacdhceiapkaaDoor
