/- Covered, of both sides. -/
import Derived.Test.YtlhabbdihjeidaaRows
import Derived.Test.YtlhabbdihjeidaaOb
import Derived.WalkKit
import Derived.WalkSpells
import Derived.WalkLawsBesides
import Derived.Deep.QuietTactic
import Derived.BigQuiet
import Derived.Deep.RegionHeld3
import Derived.Test.YtlhabbdihjeidaaAu
import Derived.Test.YtlhabbdihjeidaaSp
import Derived.Test.YtlhabbdihjeidaaLk
import Derived.Test.YtlhabbdihjeidaaAu
import Derived.LoopN
namespace Go.Proofs.Ytlhabbdihjeidaa
open Go.RowKit
set_option linter.unusedSimpArgs false
set_option linter.unusedVariables false

def Knows (x y z : Int) (l : List Sib) : Prop := ∀ i (h : i < l.length), decide (l[i].n ≤ comp x y z l[i].p) = true
theorem fil_nil (x y z : Int) (l : List Sib) : Knows x y z l ↔ (fil x y z l).length = 0 := by
  unfold Knows fil
  rw [List.length_eq_zero_iff, List.filter_eq_nil_iff]
  constructor
  · intro h s hs
    obtain ⟨i, hi, rfl⟩ := List.mem_iff_getElem.1 hs
    simp [h i hi]
  · intro h i hi
    have := h l[i] (List.getElem_mem hi)
    simpa using this
theorem bool_no' {P : Prop} (h : Hid (false = true ↔ P)) : ¬ P := fun p => by cases h.out.2 p
theorem cv_keep {w W W' : World} {p q : Nat} {ao : Option Addr} {n cap : Nat} {x y z : Int} {s : Sib} (hb : Below W.heap.size W W') (h : W.cell? ⟨w.heap.size, 0, none⟩ = some (.slice ao n cap) ∧ W.cell? ⟨w.heap.size + 1, 0, none⟩ = some (.int .i64 x) ∧ W.cell? ⟨w.heap.size + 1, 1, none⟩ = some (.int .i64 y) ∧ W.cell? ⟨w.heap.size + 1, 2, none⟩ = some (.int .i64 z) ∧ W.cell? ⟨p, q, none⟩ = some (.int .i64 s.p) ∧ W.cell? ⟨p, q + 1, none⟩ = some (.int .i64 s.n) ∧ Below w.heap.size w W ∧ w.heap.size + 1 < W.heap.size) :
    W'.cell? ⟨w.heap.size, 0, none⟩ = some (.slice ao n cap) ∧ W'.cell? ⟨w.heap.size + 1, 0, none⟩ = some (.int .i64 x) ∧ W'.cell? ⟨w.heap.size + 1, 1, none⟩ = some (.int .i64 y) ∧ W'.cell? ⟨w.heap.size + 1, 2, none⟩ = some (.int .i64 z) ∧ W'.cell? ⟨p, q, none⟩ = some (.int .i64 s.p) ∧ W'.cell? ⟨p, q + 1, none⟩ = some (.int .i64 s.n) ∧ Below w.heap.size w W' ∧ w.heap.size + 1 < W'.heap.size := by
  obtain ⟨c0, c1, c2, c3, c4, c5, hB, hz⟩ := h
  have := hb.size
  exact ⟨cell_next hb c0 (by omega), cell_next hb c1 hz, cell_next hb c2 hz, cell_next hb c3 hz, cell_next hb c4 (cell_lt (x := ⟨p, q, none⟩) c4), cell_next hb c5 (cell_lt (x := ⟨p, q + 1, none⟩) c5), bel_next hB hb, by omega⟩
theorem au_nil (cap : Nat) (ao : Option Addr) (l : List Sib) (a b c : Int) (w : World) (hm : l.length ≤ 2097152) (hn : ∀ i (h : i < l.length), 0 ≤ l[i].p ∧ l[i].p < 3) (hr0 : SibRow w ao l) :
    Calls Try.prog 36 #[.slice none 0 0, .agg #[.int .i64 a, .int .i64 b, .int .i64 c], .slice ao l.length cap] w fun e w' => ∃ ao' n cap', e = .returned (.slice ao' n cap') ∧ Hid (n = (fil a b c l).length) ∧ Hid (SibRow w' ao' (fil a b c l)) ∧ Hid (∀ q, ao' = some q → w.heap.size ≤ q.block ∧ q.block < w'.heap.size) ∧ Below w.heap.size w w' ∧ Hid (w'.ownsRow 0 47 4 (.slice ao' n cap') n (flat (fil a b c l))) := by
  refine (au_any cap ao l [] a b c (.slice none 0 0) w (by simpa using hm) hn hr0 (fun _ _ _ => Gro.none_ne) (World.ownsRow_nil _ _ _ _)).mono ?_
  rintro e w' ⟨v', rfl, ho, hg⟩
  simp only [List.nil_append] at ho
  obtain ⟨ao', cap', rfl, h1, h2⟩ := owned_row ho
  refine ⟨ao', _, cap', rfl, rfl, h1, fun q hq => ?_, hg.below (Nat.le_refl _) (fun k hk => by simp [Value.ownBlock] at hk), ho⟩
  refine ⟨?_, (h2 q hq).2⟩
  subst hq
  rcases hg.fresh q.block rfl with h' | h'
  · simp [Value.ownBlock] at h'
  · exact h'
set_option maxHeartbeats 4000000 in
theorem implCov_any (cap : Nat) (ao : Option Addr) (l : List Sib) (a b c x y z : Int) (r k0 : Bool) (code : Int) (hO : Hid (k0 = true ↔ OkP l a b c)) (hC : Hid ((k0 = true ∧ vvB x y z = true → code = 0 ∧ (r = true ↔ Knows x y z l)) ∧ (¬ (k0 = true ∧ vvB x y z = true) → r = false ∧ code = 1))) (w : World) (hm : (l.length : Int) ≤ 1048576) (hr0 : SibRow w ao l) :
    Calls Try.prog 21 #[.agg #[.slice ao l.length cap, .int .i64 a, .int .i64 b, .int .i64 c], .agg #[.int .i64 x, .int .i64 y, .int .i64 z]] w fun e w' => e = .returned (.tuple #[.bool r, .int .i64 code]) ∧ Below w.heap.size w w' := by
  have hr : Hid (SibRow w ao l) := hr0
  clear hr0
  cases k0
  · obtain ⟨rfl, rfl⟩ := hC.out.2 (fun h => by cases h.1)
    go_enter Try.func21, Try.ntmps21
    go_wp2_with fail
    refine (implOK_any cap ao l a b c false hO _ hm (row_next (row_next hr (bel_alloc _ _)) (bel_alloc _ _)).out).mono ?_
    rintro e w1 ⟨rfl, hb⟩
    have HB : Hid (Below w.heap.size w w1) := ((bel_alloc _ _).trans ((bel_alloc _ _).mono (by simp))).trans (hb.mono (by simp; omega))
    have D0 := cell_next hb (b := w.heap.size + 1) (o := 0) (v := .int .i64 x) (by go_simp) (by simp)
    have D1 := cell_next hb (b := w.heap.size + 1) (o := 1) (v := .int .i64 y) (by go_simp) (by simp)
    have D2 := cell_next hb (b := w.heap.size + 1) (o := 2) (v := .int .i64 z) (by go_simp) (by simp)
    clear hb
    go_wp2
    go_ret2
    exact ⟨rfl, HB.out⟩
  have HOKP : Hid (OkP l a b c) := hO.out.1 rfl
  clear hO
  cases hv : vvB x y z
  · obtain ⟨rfl, rfl⟩ := hC.out.2 (fun h => by rw [h.2] at hv; cases hv)
    go_enter Try.func21, Try.ntmps21
    go_wp2_with fail
    refine (implOK_any cap ao l a b c true ⟨fun _ => HOKP.out, fun _ => rfl⟩ _ hm (row_next (row_next hr (bel_alloc _ _)) (bel_alloc _ _)).out).mono ?_
    rintro e w1 ⟨rfl, hb⟩
    have HB : Hid (Below w.heap.size w w1) := ((bel_alloc _ _).trans ((bel_alloc _ _).mono (by simp))).trans (hb.mono (by simp; omega))
    have D0 := cell_next hb (b := w.heap.size + 1) (o := 0) (v := .int .i64 x) (by go_simp) (by simp)
    have D1 := cell_next hb (b := w.heap.size + 1) (o := 1) (v := .int .i64 y) (by go_simp) (by simp)
    have D2 := cell_next hb (b := w.heap.size + 1) (o := 2) (v := .int .i64 z) (by go_simp) (by simp)
    clear hb
    go_wp2_with fail
    refine (impl_vv x y z _).mono ?_
    rintro e w2 ⟨rfl, hb⟩
    replace HB := bel_next HB hb
    clear hb
    go_wp2
    go_ret2
    exact ⟨rfl, HB.out⟩
  obtain ⟨rfl, hK⟩ := hC.out.1 ⟨rfl, hv⟩
  have HK : Hid (r = true ↔ Knows x y z l) := hK
  have HOK := HOKP.out
  have HN : Hid (∀ i (h : i < l.length), 0 ≤ l[i].p ∧ l[i].p < 3) := fun i h => sib_node (HOK.2.2 i h).1
  clear hK hC HOK
  go_enter Try.func21, Try.ntmps21
  go_wp2_with fail
  refine (implOK_any cap ao l a b c true ⟨fun _ => HOKP.out, fun _ => rfl⟩ _ hm (row_next (row_next hr (bel_alloc _ _)) (bel_alloc _ _)).out).mono ?_
  rintro e w1 ⟨rfl, hb⟩
  have hB : Hid (Below w.heap.size w w1) := ((bel_alloc _ _).trans ((bel_alloc _ _).mono (by simp))).trans (hb.mono (by simp; omega))
  have C0 := cell_next hb (b := w.heap.size) (o := 0) (v := .slice ao l.length cap) (by go_simp) (by simp; omega)
  have D0 := cell_next hb (b := w.heap.size + 1) (o := 0) (v := .int .i64 x) (by go_simp) (by simp)
  have D1 := cell_next hb (b := w.heap.size + 1) (o := 1) (v := .int .i64 y) (by go_simp) (by simp)
  have D2 := cell_next hb (b := w.heap.size + 1) (o := 2) (v := .int .i64 z) (by go_simp) (by simp)
  have hz := hb.size
  simp at hz
  clear hb
  go_wp2_with fail
  refine (impl_vv x y z _).mono ?_
  rintro e w2 ⟨rfl, hb⟩
  replace hB := bel_next hB hb
  replace C0 := cell_next hb C0 (by omega)
  replace D0 := cell_next hb D0 (by omega)
  replace D1 := cell_next hb D1 (by omega)
  replace D2 := cell_next hb D2 (by omega)
  replace hz := Nat.le_trans hz hb.size
  clear hb
  cases hrr : r
  · have HR : Hid (r = false) := hrr
    subst hrr
    go_wp2_with fail
    refine (au_nil cap ao l x y z _ (by omega) HN.out (row_of_below hr hB)).mono ?_
    rintro e w3 ⟨ao', n, cap', rfl, hn, hR, hA, hb, hW⟩
    replace hB := bel_next hB hb
    have hne : ((n : Int) == 0) = false := beq_eq_false_iff_ne.2 (fun h => (bool_no' HK) ((fil_nil x y z l).2 (by have := hn.out; omega)))
    clear hn hR hA hb hW C0 D0 D1 D2
    go_wp2
    go_ret2
    exact ⟨rfl, hB.out⟩
  · have HR : Hid (r = true) := hrr
    subst hrr
    go_wp2_with fail
    refine (au_nil cap ao l x y z _ (by omega) HN.out (row_of_below hr hB)).mono ?_
    rintro e w3 ⟨ao', n, cap', rfl, hn, hR, hA, hb, hW⟩
    replace hB := bel_next hB hb
    have hn0 : n = 0 := hn.out.trans ((fil_nil x y z l).1 (HK.out.1 (by simp))); subst hn0
    clear hn hR hA hb hW C0 D0 D1 D2
    go_wp2
    go_ret2
    exact ⟨rfl, hB.out⟩

end Go.Proofs.Ytlhabbdihjeidaa
