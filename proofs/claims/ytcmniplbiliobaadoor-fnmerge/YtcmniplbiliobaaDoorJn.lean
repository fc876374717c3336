/- The join as the program goes along both lists. -/
import Derived.Test.YtcmniplbiliobaaDoorRows
import Derived.WalkKit
import Derived.WalkSpells
import Derived.WalkLawsBesides
import Derived.Deep.QuietTactic
import Derived.BigQuiet
import Derived.Deep.RegionHeld3
import Derived.Test.YtcmniplbiliobaaDoorAu
import Derived.Laws.StructEq
namespace Go.Proofs.YtcmniplbiliobaaDoor
open Go.RowKit
set_option linter.unusedSimpArgs false
set_option linter.unusedVariables false

def kn (a b c : Int) (s : Sib) : Bool := decide (s.n ≤ comp a b c s.p)
def jn (a b c x y z : Int) : List Sib → List Sib → List Sib
  | [], rest => fil a b c rest
  | s :: l, [] => fil x y z [s] ++ jn a b c x y z l []
  | s :: l, o :: rest =>
    if 0 < dotsI o.p o.n s.p s.n then fil x y z [s] ++ jn a b c x y z l (o :: rest)
    else if o.p = s.p ∧ o.n = s.n then s :: jn a b c x y z l rest
    else fil a b c [o] ++ jn a b c x y z (s :: l) rest
termination_by l r => l.length + r.length
theorem drop_cons {l : List Sib} {i : Nat} (h : i < l.length) : l.drop i = l[i] :: l.drop (i + 1) := List.drop_eq_getElem_cons h
theorem jn_end (a b c x y z : Int) (l l2 : List Sib) (i j : Nat) (h : l.length ≤ i) : jn a b c x y z (l.drop i) (l2.drop j) = fil a b c (l2.drop j) := by
  rw [List.drop_of_length_le h, jn]
theorem jn_out (a b c x y z : Int) (l l2 : List Sib) (i j : Nat) (h : i < l.length) (h2 : l2.length ≤ j) : jn a b c x y z (l.drop i) (l2.drop j) = fil x y z [l[i]] ++ jn a b c x y z (l.drop (i + 1)) (l2.drop j) := by
  rw [drop_cons h, List.drop_of_length_le h2, jn]
theorem jn_pass (a b c x y z : Int) (l l2 : List Sib) (i j : Nat) (h : i < l.length) (h2 : j < l2.length) (hd : 0 < dotsI l2[j].p l2[j].n l[i].p l[i].n) : jn a b c x y z (l.drop i) (l2.drop j) = fil x y z [l[i]] ++ jn a b c x y z (l.drop (i + 1)) (l2.drop j) := by
  rw [drop_cons h, drop_cons h2, jn, if_pos hd]
theorem jn_same (a b c x y z : Int) (l l2 : List Sib) (i j : Nat) (h : i < l.length) (h2 : j < l2.length) (hd : ¬ 0 < dotsI l2[j].p l2[j].n l[i].p l[i].n) (he : l2[j].p = l[i].p ∧ l2[j].n = l[i].n) : jn a b c x y z (l.drop i) (l2.drop j) = [l[i]] ++ jn a b c x y z (l.drop (i + 1)) (l2.drop (j + 1)) := by
  rw [drop_cons h, drop_cons h2, jn, if_neg hd, if_pos he]
  rfl
theorem jn_less (a b c x y z : Int) (l l2 : List Sib) (i j : Nat) (h : i < l.length) (h2 : j < l2.length) (hd : ¬ 0 < dotsI l2[j].p l2[j].n l[i].p l[i].n) (he : ¬ (l2[j].p = l[i].p ∧ l2[j].n = l[i].n)) : jn a b c x y z (l.drop i) (l2.drop j) = fil a b c [l2[j]] ++ jn a b c x y z (l.drop i) (l2.drop (j + 1)) := by
  rw [drop_cons h, drop_cons h2, jn, if_neg hd, if_neg he]
theorem fil_one_le (a b c : Int) (s : Sib) : (fil a b c [s]).length ≤ 1 := by
  unfold fil
  exact Nat.le_trans (List.length_filter_le _ _) (by simp)
theorem fil_len (a b c : Int) (l : List Sib) : (fil a b c l).length ≤ l.length := List.length_filter_le _ _

theorem eqd (p n q m : Int) (w : World) : Sem.run Tryd.prog (Op.equalIn 10000 72 (.agg #[.int .i64 p, .int .i64 n]) (.agg #[.int .i64 q, .int .i64 m])) w = .ok (p == q && n == m) w := by
  have h40 := Tryd.underlying72
  have h3 := Tryd.underlying3
  have hs' : Tryd.prog.stoodInHeld 72 = false := by kernel_rfl
  rw [run_equalIn_struct w 9999 72 _ _ (by kernel_rfl) hs']
  simp [go_sem, h40, h3, hs']
  cases h1 : (p == q) <;> cases h2 : (n == m) <;> simp_all [go_sem]
end Go.Proofs.YtcmniplbiliobaaDoor
