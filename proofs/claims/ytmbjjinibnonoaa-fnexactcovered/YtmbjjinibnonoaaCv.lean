/- Covered, of both sides. -/
import Derived.Test.YtmbjjinibnonoaaRows
import Derived.WalkKit
import Derived.WalkSpells
import Derived.WalkLawsBesides
import Derived.Deep.QuietTactic
import Derived.BigQuiet
import Derived.Deep.RegionHeld3
import Derived.Test.YtmbjjinibnonoaaAu
import Derived.Test.YtmbjjinibnonoaaSp
import Derived.Test.YtmbjjinibnonoaaLk
import Derived.LoopN
namespace Go.Proofs.Ytmbjjinibnonoaa
open Go.RowKit
set_option linter.unusedSimpArgs false
set_option linter.unusedVariables false

def Knows (x y z : Int) (l : List Sib) : Prop := ∀ i (h : i < l.length), decide (l[i].n ≤ comp x y z l[i].p) = true
theorem fil_nil (x y z : Int) (l : List Sib) : Knows x y z l ↔ (fil x y z l).length = 0 := by
  unfold Knows fil
  rw [List.length_eq_zero_iff, List.filter_eq_nil_iff]
  constructor
  · intro h s hs
    obtain ⟨i, hi, rfl⟩ := List.mem_iff_getElem.1 hs
    simp [h i hi]
  · intro h i hi
    have := h l[i] (List.getElem_mem hi)
    simpa using this
theorem bool_no' {P : Prop} (h : Hid (false = true ↔ P)) : ¬ P := fun p => by cases h.out.2 p
theorem row_of_below {w W : World} {ao : Option Addr} {l : List Sib} (h : Hid (SibRow w ao l)) (hb : Hid (Below w.heap.size w W)) : SibRow W ao l := h.out.next hb.out
theorem cv_keep {w W W' : World} {p q : Nat} {ao : Option Addr} {n cap : Nat} {x y z : Int} {s : Sib} (hb : Below W.heap.size W W') (h : W.cell? ⟨w.heap.size, 0, none⟩ = some (.slice ao n cap) ∧ W.cell? ⟨w.heap.size + 1, 0, none⟩ = some (.int .i64 x) ∧ W.cell? ⟨w.heap.size + 1, 1, none⟩ = some (.int .i64 y) ∧ W.cell? ⟨w.heap.size + 1, 2, none⟩ = some (.int .i64 z) ∧ W.cell? ⟨p, q, none⟩ = some (.int .i64 s.p) ∧ W.cell? ⟨p, q + 1, none⟩ = some (.int .i64 s.n) ∧ Below w.heap.size w W ∧ w.heap.size + 1 < W.heap.size) :
    W'.cell? ⟨w.heap.size, 0, none⟩ = some (.slice ao n cap) ∧ W'.cell? ⟨w.heap.size + 1, 0, none⟩ = some (.int .i64 x) ∧ W'.cell? ⟨w.heap.size + 1, 1, none⟩ = some (.int .i64 y) ∧ W'.cell? ⟨w.heap.size + 1, 2, none⟩ = some (.int .i64 z) ∧ W'.cell? ⟨p, q, none⟩ = some (.int .i64 s.p) ∧ W'.cell? ⟨p, q + 1, none⟩ = some (.int .i64 s.n) ∧ Below w.heap.size w W' ∧ w.heap.size + 1 < W'.heap.size := by
  obtain ⟨c0, c1, c2, c3, c4, c5, hB, hz⟩ := h
  have := hb.size
  exact ⟨cell_next hb c0 (by omega), cell_next hb c1 hz, cell_next hb c2 hz, cell_next hb c3 hz, cell_next hb c4 (cell_lt (x := ⟨p, q, none⟩) c4), cell_next hb c5 (cell_lt (x := ⟨p, q + 1, none⟩) c5), bel_next hB hb, by omega⟩
theorem au_nil (cap : Nat) (ao : Option Addr) (l : List Sib) (a b c : Int) (w : World) (hm : l.length ≤ 2097152) (hn : ∀ i (h : i < l.length), 0 ≤ l[i].p ∧ l[i].p < 3) (hr0 : SibRow w ao l) :
    Calls Try.prog 24 #[.slice none 0 0, .agg #[.int .i64 a, .int .i64 b, .int .i64 c], .slice ao l.length cap] w fun e w' => ∃ ao' n cap', e = .returned (.slice ao' n cap') ∧ Hid (n = (fil a b c l).length) ∧ Hid (SibRow w' ao' (fil a b c l)) ∧ Hid (∀ q, ao' = some q → w.heap.size ≤ q.block ∧ q.block < w'.heap.size) ∧ Below w.heap.size w w' ∧ Hid (w'.ownsRow 0 51 4 (.slice ao' n cap') n (flat (fil a b c l))) := by
  refine (au_any cap ao l [] a b c (.slice none 0 0) w (by simpa using hm) hn hr0 (fun _ _ _ => Gro.none_ne) (World.ownsRow_nil _ _ _ _)).mono ?_
  rintro e w' ⟨v', rfl, ho, hg⟩
  simp only [List.nil_append] at ho
  obtain ⟨ao', cap', rfl, h1, h2⟩ := owned_row ho
  refine ⟨ao', _, cap', rfl, rfl, h1, fun q hq => ?_, hg.below (Nat.le_refl _) (fun k hk => by simp [Value.ownBlock] at hk), ho⟩
  refine ⟨?_, (h2 q hq).2⟩
  subst hq
  rcases hg.fresh q.block rfl with h' | h'
  · simp [Value.ownBlock] at h'
  · exact h'
set_option maxHeartbeats 4000000 in
theorem specCov_any (cap : Nat) (ao : Option Addr) (l : List Sib) (a b c x y z : Int) (r k0 : Bool) (code : Int) (hO : Hid (k0 = true ↔ OkP l a b c)) (hC : Hid ((k0 = true ∧ vvB x y z = true → code = 0 ∧ (r = true ↔ Knows x y z l)) ∧ (¬ (k0 = true ∧ vvB x y z = true) → r = false ∧ code = 1))) (w : World) (hm : (l.length : Int) ≤ 1048576) (hr0 : SibRow w ao l) :
    Calls Try.prog 6 #[.agg #[.slice ao l.length cap, .int .i64 a, .int .i64 b, .int .i64 c], .agg #[.int .i64 x, .int .i64 y, .int .i64 z]] w fun e w' => e = .returned (.tuple #[.bool r, .int .i64 code]) ∧ Below w.heap.size w w' := by
  have hr : Hid (SibRow w ao l) := hr0
  clear hr0
  cases k0
  · obtain ⟨rfl, rfl⟩ := hC.out.2 (fun h => by cases h.1)
    go_enter Try.func6, Try.ntmps6
    go_wp2_with fail
    refine (specOK_any cap ao l a b c false hO _ hm (row_next (row_next hr (bel_alloc _ _)) (bel_alloc _ _)).out).mono ?_
    rintro e w1 ⟨rfl, hb⟩
    have HB : Hid (Below w.heap.size w w1) := ((bel_alloc _ _).trans ((bel_alloc _ _).mono (by simp))).trans (hb.mono (by simp; omega))
    have D0 := cell_next hb (b := w.heap.size + 1) (o := 0) (v := .int .i64 x) (by go_simp) (by simp)
    have D1 := cell_next hb (b := w.heap.size + 1) (o := 1) (v := .int .i64 y) (by go_simp) (by simp)
    have D2 := cell_next hb (b := w.heap.size + 1) (o := 2) (v := .int .i64 z) (by go_simp) (by simp)
    clear hb
    go_wp2
    go_ret2
    exact ⟨rfl, HB.out⟩
  have HOKP : Hid (OkP l a b c) := hO.out.1 rfl
  clear hO
  cases hv : vvB x y z
  · obtain ⟨rfl, rfl⟩ := hC.out.2 (fun h => by rw [h.2] at hv; cases hv)
    go_enter Try.func6, Try.ntmps6
    go_wp2_with fail
    refine (specOK_any cap ao l a b c true ⟨fun _ => HOKP.out, fun _ => rfl⟩ _ hm (row_next (row_next hr (bel_alloc _ _)) (bel_alloc _ _)).out).mono ?_
    rintro e w1 ⟨rfl, hb⟩
    have HB : Hid (Below w.heap.size w w1) := ((bel_alloc _ _).trans ((bel_alloc _ _).mono (by simp))).trans (hb.mono (by simp; omega))
    have D0 := cell_next hb (b := w.heap.size + 1) (o := 0) (v := .int .i64 x) (by go_simp) (by simp)
    have D1 := cell_next hb (b := w.heap.size + 1) (o := 1) (v := .int .i64 y) (by go_simp) (by simp)
    have D2 := cell_next hb (b := w.heap.size + 1) (o := 2) (v := .int .i64 z) (by go_simp) (by simp)
    clear hb
    go_wp2_with fail
    refine (spec_vv x y z _).mono ?_
    rintro e w2 ⟨rfl, hb⟩
    replace HB := bel_next HB hb
    clear hb
    go_wp2
    go_ret2
    exact ⟨rfl, HB.out⟩
  obtain ⟨rfl, hK⟩ := hC.out.1 ⟨rfl, hv⟩
  have HK : Hid (r = true ↔ Knows x y z l) := hK
  have HOK := HOKP.out
  have HN : Hid (∀ i (h : i < l.length), 0 ≤ l[i].p ∧ l[i].p < 3) := fun i h => sib_node (HOK.2.2 i h).1
  clear hK hC HOK
  go_enter Try.func6, Try.ntmps6
  go_wp2_with fail
  refine (specOK_any cap ao l a b c true ⟨fun _ => HOKP.out, fun _ => rfl⟩ _ hm (row_next (row_next hr (bel_alloc _ _)) (bel_alloc _ _)).out).mono ?_
  rintro e w1 ⟨rfl, hb⟩
  have hB : Hid (Below w.heap.size w w1) := ((bel_alloc _ _).trans ((bel_alloc _ _).mono (by simp))).trans (hb.mono (by simp; omega))
  have C0 := cell_next hb (b := w.heap.size) (o := 0) (v := .slice ao l.length cap) (by go_simp) (by simp; omega)
  have D0 := cell_next hb (b := w.heap.size + 1) (o := 0) (v := .int .i64 x) (by go_simp) (by simp)
  have D1 := cell_next hb (b := w.heap.size + 1) (o := 1) (v := .int .i64 y) (by go_simp) (by simp)
  have D2 := cell_next hb (b := w.heap.size + 1) (o := 2) (v := .int .i64 z) (by go_simp) (by simp)
  have hz := hb.size
  simp at hz
  clear hb
  go_wp2_with fail
  refine (spec_vv x y z _).mono ?_
  rintro e w2 ⟨rfl, hb⟩
  replace hB := bel_next hB hb
  replace C0 := cell_next hb C0 (by omega)
  replace D0 := cell_next hb D0 (by omega)
  replace D1 := cell_next hb D1 (by omega)
  replace D2 := cell_next hb D2 (by omega)
  replace hz := Nat.le_trans hz hb.size
  clear hb
  go_wp2
  clear hv
  go_loopw [6] (fun s6 wr => ∃ k : Nat, k ≤ l.length ∧ s6 = .int .i64 k ∧ Below w.heap.size w wr ∧ (∀ i (h : i < l.length), i < k → decide (l[i].n ≤ comp x y z l[i].p) = true) ∧ w.heap.size + 1 < wr.heap.size ∧ wr.cell? ⟨w.heap.size, 0, none⟩ = some (.slice ao l.length cap) ∧ wr.cell? ⟨w.heap.size + 1, 0, none⟩ = some (.int .i64 x) ∧ wr.cell? ⟨w.heap.size + 1, 1, none⟩ = some (.int .i64 y) ∧ wr.cell? ⟨w.heap.size + 1, 2, none⟩ = some (.int .i64 z)) (fun s6 _ => l.length - (intOf s6).toNat)
  case atStart => exact ⟨0, by omega, rfl, hB.out, fun i h h' => by omega, by omega, C0, D0, D1, D2⟩
  case round =>
    clear hB C0 D0 D1 D2 hz
    obtain ⟨k, hk, rfl, hB0, hG0, hz, C0, D0, D1, D2⟩ := hrel
    have hB : Hid (Below w.heap.size w wr) := hB0
    have hG : Hid (∀ i (h : i < l.length), i < k → decide (l[i].n ≤ comp x y z l[i].p) = true) := hG0
    clear hB0 hG0
    by_cases hkl : k < l.length
    · have hkl' : (k : Int) < (l.length : Int) := by omega
      have kk : (0 : Int) ≤ (k : Int) := by omega
      obtain ⟨n0, n3⟩ := HN.out k hkl
      rcases hr.out with h' | ⟨p, off, rfl, h2⟩
      · rw [h'] at hkl; simp at hkl
      obtain ⟨x0, x1, x2, x3⟩ := (h2 k hkl).next hB.out (cell_lt (x := ⟨p, off + k * 4, none⟩) (h2 k hkl).1)
      clear h2 x2 x3
      cases hk1 : decide (l[k].n ≤ comp x y z l[k].p)
      · have HR : Hid (r = false) := bool_no HK (fun h => by rw [h k hkl] at hk1; cases hk1)
        go_wp2
        refine wp_region_held_drew (S := (fun w' => w'.cell? ⟨w.heap.size, 0, none⟩ = some (.slice (some ⟨p, off, none⟩) l.length cap) ∧ w'.cell? ⟨w.heap.size + 1, 0, none⟩ = some (.int .i64 x) ∧ w'.cell? ⟨w.heap.size + 1, 1, none⟩ = some (.int .i64 y) ∧ w'.cell? ⟨w.heap.size + 1, 2, none⟩ = some (.int .i64 z) ∧ w'.cell? ⟨p, off + k * 4, none⟩ = some (.int .i64 l[k].p) ∧ w'.cell? ⟨p, off + k * 4 + 1, none⟩ = some (.int .i64 l[k].n) ∧ Below w.heap.size w w' ∧ w.heap.size + 1 < w'.heap.size)) (by kernel_rfl) ?_ (fun hHeld => ?_)
        · (try dsimp only)
          exact ⟨C0, D0, D1, D2, x0, x1, (bel_next hB (bel_drew _)).out, hz⟩
        refine wpAnyH_take (i := 0) (v := ?_) rfl (by kernel_rfl) (by kernel_rfl) (by kernel_rfl) (fun _ _ _ h => h) (Or.inl ⟨by rfl, ?_⟩) (by assumption) ?_
        rotate_left
        · intro w' hSw
          (try dsimp only at hSw)
          go_simp
          all_goals (try with_reducible rfl)
        (try simp only [Act.put, List.getElem_toArray, List.getElem_cons_zero, List.getElem_cons_succ, List.setIfInBounds_toArray, List.set_cons_zero, List.set_cons_succ])
        refine wpAnyH_take (i := 1) (v := ?_) rfl (by kernel_rfl) (by kernel_rfl) (by kernel_rfl) (fun _ _ _ h => h) (Or.inl ⟨by rfl, ?_⟩) (by assumption) ?_
        rotate_left
        · intro w' hSw
          (try dsimp only at hSw)
          go_simp
          all_goals (try with_reducible rfl)
        (try simp only [Act.put, List.getElem_toArray, List.getElem_cons_zero, List.getElem_cons_succ, List.setIfInBounds_toArray, List.set_cons_zero, List.set_cons_succ])
        refine wpAnyH_take (i := 2) (v := ?_) rfl (by kernel_rfl) (by kernel_rfl) (by kernel_rfl) (fun _ _ _ h => h) (Or.inl ⟨by rfl, ?_⟩) (by assumption) ?_
        rotate_left
        · intro w' hSw
          (try dsimp only at hSw)
          go_simp
          all_goals (try with_reducible rfl)
        (try simp only [Act.put, List.getElem_toArray, List.getElem_cons_zero, List.getElem_cons_succ, List.setIfInBounds_toArray, List.set_cons_zero, List.set_cons_succ])
        refine wpAnyH_take (i := 3) (v := ?_) rfl (by kernel_rfl) (by kernel_rfl) (by kernel_rfl) (fun _ _ _ h => h) (Or.inl ⟨by rfl, ?_⟩) (by assumption) ?_
        rotate_left
        · intro w' hSw
          (try dsimp only at hSw)
          go_simp
          all_goals (try with_reducible rfl)
        (try simp only [Act.put, List.getElem_toArray, List.getElem_cons_zero, List.getElem_cons_succ, List.setIfInBounds_toArray, List.set_cons_zero, List.set_cons_succ])
        refine wpAnyH_take (i := 4) (v := ?_) rfl (by kernel_rfl) (by kernel_rfl) (by kernel_rfl) (fun _ _ _ h => h) (Or.inl ⟨by rfl, ?_⟩) (by assumption) ?_
        rotate_left
        · intro w' hSw
          (try dsimp only at hSw)
          go_simp
          all_goals (try with_reducible rfl)
        (try simp only [Act.put, List.getElem_toArray, List.getElem_cons_zero, List.getElem_cons_succ, List.setIfInBounds_toArray, List.set_cons_zero, List.set_cons_succ])
        refine wpAnyH_take (i := 5) (v := ?_) rfl (by kernel_rfl) (by kernel_rfl) (by kernel_rfl) (fun _ _ _ h => h) (Or.inl ⟨by rfl, ?_⟩) (by assumption) ?_
        rotate_left
        · intro w' hSw
          (try dsimp only at hSw)
          go_simp
          all_goals (try with_reducible rfl)
        (try simp only [Act.put, List.getElem_toArray, List.getElem_cons_zero, List.getElem_cons_succ, List.setIfInBounds_toArray, List.set_cons_zero, List.set_cons_succ])
        refine wpAnyH_take (i := 6) (v := ?_) rfl (by kernel_rfl) (by kernel_rfl) (by kernel_rfl) (fun _ _ _ h => h) (Or.inl ⟨by rfl, ?_⟩) (by assumption) ?_
        rotate_left
        · intro w' hSw
          (try dsimp only at hSw)
          go_simp
          all_goals (try with_reducible rfl)
        (try simp only [Act.put, List.getElem_toArray, List.getElem_cons_zero, List.getElem_cons_succ, List.setIfInBounds_toArray, List.set_cons_zero, List.set_cons_succ])
        refine wpAnyH_ready (rs := [7]) (by kernel_rfl) (by simp) ?_
        refine AllReadyH.cons rfl (fun K hK => ?_) AllReadyH.nil
        (try simp only [Act.put, List.getElem_toArray, List.getElem_cons_zero, List.getElem_cons_succ, List.setIfInBounds_toArray, List.set_cons_zero, List.set_cons_succ])
        go_simp
        (go_at_call 20; refine (l01has_any x y z l[k].p l[k].n _ n0 n3).mono ?_; rintro e w5 ⟨rfl, hb⟩; rw [hk1])
        (try simp only [])
        refine hK.out _ _ ?_ (fun hHeld' => ?_)
        · (try dsimp only)
          exact cv_keep hb hHeld
        clear hK K
        clear hHeld
        have hHeld := hHeld'
        clear hHeld'
        clear hb
        (try simp only [Act.put, List.getElem_toArray, List.getElem_cons_zero, List.getElem_cons_succ, List.setIfInBounds_toArray, List.set_cons_zero, List.set_cons_succ])
        refine wpAnyH_take (i := 8) (v := ?_) rfl (by kernel_rfl) (by kernel_rfl) (by kernel_rfl) (fun _ _ _ h => h) (Or.inl ⟨by rfl, ?_⟩) (by assumption) ?_
        rotate_left
        · intro w' hSw
          (try dsimp only at hSw)
          go_simp
          all_goals (try with_reducible rfl)
        (try simp only [Act.put, List.getElem_toArray, List.getElem_cons_zero, List.getElem_cons_succ, List.setIfInBounds_toArray, List.set_cons_zero, List.set_cons_succ])
        refine wpAnyH_done (by kernel_rfl) ?_ _
        have hB5 : Hid (Below w.heap.size w w5) := hHeld.2.2.2.2.2.2.1
        clear hHeld C0 D0 D1 D2 x0 x1 hk1
        go_wp2
        go_ret2
        exact ⟨ret_bint HR.out.symm rfl, hB5.out⟩
      · have hG1 : ∀ i (h : i < l.length), i < k + 1 → decide (l[i].n ≤ comp x y z l[i].p) = true := fun i h h3 => by
          by_cases e : i = k
          · subst e; exact hk1
          · exact hG.out i h (by omega)
        go_wp2
        refine wp_region_held_drew (S := (fun w' => w'.cell? ⟨w.heap.size, 0, none⟩ = some (.slice (some ⟨p, off, none⟩) l.length cap) ∧ w'.cell? ⟨w.heap.size + 1, 0, none⟩ = some (.int .i64 x) ∧ w'.cell? ⟨w.heap.size + 1, 1, none⟩ = some (.int .i64 y) ∧ w'.cell? ⟨w.heap.size + 1, 2, none⟩ = some (.int .i64 z) ∧ w'.cell? ⟨p, off + k * 4, none⟩ = some (.int .i64 l[k].p) ∧ w'.cell? ⟨p, off + k * 4 + 1, none⟩ = some (.int .i64 l[k].n) ∧ Below w.heap.size w w' ∧ w.heap.size + 1 < w'.heap.size)) (by kernel_rfl) ?_ (fun hHeld => ?_)
        · (try dsimp only)
          exact ⟨C0, D0, D1, D2, x0, x1, (bel_next hB (bel_drew _)).out, hz⟩
        refine wpAnyH_take (i := 0) (v := ?_) rfl (by kernel_rfl) (by kernel_rfl) (by kernel_rfl) (fun _ _ _ h => h) (Or.inl ⟨by rfl, ?_⟩) (by assumption) ?_
        rotate_left
        · intro w' hSw
          (try dsimp only at hSw)
          go_simp
          all_goals (try with_reducible rfl)
        (try simp only [Act.put, List.getElem_toArray, List.getElem_cons_zero, List.getElem_cons_succ, List.setIfInBounds_toArray, List.set_cons_zero, List.set_cons_succ])
        refine wpAnyH_take (i := 1) (v := ?_) rfl (by kernel_rfl) (by kernel_rfl) (by kernel_rfl) (fun _ _ _ h => h) (Or.inl ⟨by rfl, ?_⟩) (by assumption) ?_
        rotate_left
        · intro w' hSw
          (try dsimp only at hSw)
          go_simp
          all_goals (try with_reducible rfl)
        (try simp only [Act.put, List.getElem_toArray, List.getElem_cons_zero, List.getElem_cons_succ, List.setIfInBounds_toArray, List.set_cons_zero, List.set_cons_succ])
        refine wpAnyH_take (i := 2) (v := ?_) rfl (by kernel_rfl) (by kernel_rfl) (by kernel_rfl) (fun _ _ _ h => h) (Or.inl ⟨by rfl, ?_⟩) (by assumption) ?_
        rotate_left
        · intro w' hSw
          (try dsimp only at hSw)
          go_simp
          all_goals (try with_reducible rfl)
        (try simp only [Act.put, List.getElem_toArray, List.getElem_cons_zero, List.getElem_cons_succ, List.setIfInBounds_toArray, List.set_cons_zero, List.set_cons_succ])
        refine wpAnyH_take (i := 3) (v := ?_) rfl (by kernel_rfl) (by kernel_rfl) (by kernel_rfl) (fun _ _ _ h => h) (Or.inl ⟨by rfl, ?_⟩) (by assumption) ?_
        rotate_left
        · intro w' hSw
          (try dsimp only at hSw)
          go_simp
          all_goals (try with_reducible rfl)
        (try simp only [Act.put, List.getElem_toArray, List.getElem_cons_zero, List.getElem_cons_succ, List.setIfInBounds_toArray, List.set_cons_zero, List.set_cons_succ])
        refine wpAnyH_take (i := 4) (v := ?_) rfl (by kernel_rfl) (by kernel_rfl) (by kernel_rfl) (fun _ _ _ h => h) (Or.inl ⟨by rfl, ?_⟩) (by assumption) ?_
        rotate_left
        · intro w' hSw
          (try dsimp only at hSw)
          go_simp
          all_goals (try with_reducible rfl)
        (try simp only [Act.put, List.getElem_toArray, List.getElem_cons_zero, List.getElem_cons_succ, List.setIfInBounds_toArray, List.set_cons_zero, List.set_cons_succ])
        refine wpAnyH_take (i := 5) (v := ?_) rfl (by kernel_rfl) (by kernel_rfl) (by kernel_rfl) (fun _ _ _ h => h) (Or.inl ⟨by rfl, ?_⟩) (by assumption) ?_
        rotate_left
        · intro w' hSw
          (try dsimp only at hSw)
          go_simp
          all_goals (try with_reducible rfl)
        (try simp only [Act.put, List.getElem_toArray, List.getElem_cons_zero, List.getElem_cons_succ, List.setIfInBounds_toArray, List.set_cons_zero, List.set_cons_succ])
        refine wpAnyH_take (i := 6) (v := ?_) rfl (by kernel_rfl) (by kernel_rfl) (by kernel_rfl) (fun _ _ _ h => h) (Or.inl ⟨by rfl, ?_⟩) (by assumption) ?_
        rotate_left
        · intro w' hSw
          (try dsimp only at hSw)
          go_simp
          all_goals (try with_reducible rfl)
        (try simp only [Act.put, List.getElem_toArray, List.getElem_cons_zero, List.getElem_cons_succ, List.setIfInBounds_toArray, List.set_cons_zero, List.set_cons_succ])
        refine wpAnyH_ready (rs := [7]) (by kernel_rfl) (by simp) ?_
        refine AllReadyH.cons rfl (fun K hK => ?_) AllReadyH.nil
        (try simp only [Act.put, List.getElem_toArray, List.getElem_cons_zero, List.getElem_cons_succ, List.setIfInBounds_toArray, List.set_cons_zero, List.set_cons_succ])
        go_simp
        (go_at_call 20; refine (l01has_any x y z l[k].p l[k].n _ n0 n3).mono ?_; rintro e w5 ⟨rfl, hb⟩; rw [hk1])
        (try simp only [])
        refine hK.out _ _ ?_ (fun hHeld' => ?_)
        · (try dsimp only)
          exact cv_keep hb hHeld
        clear hK K
        clear hHeld
        have hHeld := hHeld'
        clear hHeld'
        clear hb
        (try simp only [Act.put, List.getElem_toArray, List.getElem_cons_zero, List.getElem_cons_succ, List.setIfInBounds_toArray, List.set_cons_zero, List.set_cons_succ])
        refine wpAnyH_take (i := 8) (v := ?_) rfl (by kernel_rfl) (by kernel_rfl) (by kernel_rfl) (fun _ _ _ h => h) (Or.inl ⟨by rfl, ?_⟩) (by assumption) ?_
        rotate_left
        · intro w' hSw
          (try dsimp only at hSw)
          go_simp
          all_goals (try with_reducible rfl)
        (try simp only [Act.put, List.getElem_toArray, List.getElem_cons_zero, List.getElem_cons_succ, List.setIfInBounds_toArray, List.set_cons_zero, List.set_cons_succ])
        refine wpAnyH_done (by kernel_rfl) ?_ _
        obtain ⟨E0, F0, F1, F2, _, _, hB4, hz4⟩ := hHeld
        have hB5 : Hid (Below w.heap.size w w5) := hB4
        clear hB4 C0 D0 D1 D2 x0 x1 hk1 n0 n3
        go_wp2
        go_roundw
        case rel => first | exact ⟨k + 1, by omega, by go_num, hB5.out, hG1, hz4, E0, F0, F1, F2⟩ | ((repeat apply Exists.intro); exact ⟨⟨k + 1, by omega, by go_num, hB5.out, hG1, hz4, E0, F0, F1, F2⟩, rfl⟩)
        case measure => simp [intOf]; omega
    · have hkl' : ¬ (k : Int) < (l.length : Int) := by omega
      have HR : Hid (r = true) := bool_yes HK (fun i h => hG.out i h (by omega))
      go_wp2
      go_ret2
      exact ⟨ret_bint HR.out.symm rfl, hB.out⟩

set_option maxHeartbeats 4000000 in
theorem implCov_any (cap : Nat) (ao : Option Addr) (l : List Sib) (a b c x y z : Int) (r k0 : Bool) (code : Int) (hO : Hid (k0 = true ↔ OkP l a b c)) (hC : Hid ((k0 = true ∧ vvB x y z = true → code = 0 ∧ (r = true ↔ Knows x y z l)) ∧ (¬ (k0 = true ∧ vvB x y z = true) → r = false ∧ code = 1))) (w : World) (hm : (l.length : Int) ≤ 1048576) (hr0 : SibRow w ao l) :
    Calls Try.prog 9 #[.agg #[.slice ao l.length cap, .int .i64 a, .int .i64 b, .int .i64 c], .agg #[.int .i64 x, .int .i64 y, .int .i64 z]] w fun e w' => e = .returned (.tuple #[.bool r, .int .i64 code]) ∧ Below w.heap.size w w' := by
  have hr : Hid (SibRow w ao l) := hr0
  clear hr0
  cases k0
  · obtain ⟨rfl, rfl⟩ := hC.out.2 (fun h => by cases h.1)
    go_enter Try.func9, Try.ntmps9
    go_wp2_with fail
    refine (implOK_any cap ao l a b c false hO _ hm (row_next (row_next hr (bel_alloc _ _)) (bel_alloc _ _)).out).mono ?_
    rintro e w1 ⟨rfl, hb⟩
    have HB : Hid (Below w.heap.size w w1) := ((bel_alloc _ _).trans ((bel_alloc _ _).mono (by simp))).trans (hb.mono (by simp; omega))
    have D0 := cell_next hb (b := w.heap.size + 1) (o := 0) (v := .int .i64 x) (by go_simp) (by simp)
    have D1 := cell_next hb (b := w.heap.size + 1) (o := 1) (v := .int .i64 y) (by go_simp) (by simp)
    have D2 := cell_next hb (b := w.heap.size + 1) (o := 2) (v := .int .i64 z) (by go_simp) (by simp)
    clear hb
    go_wp2
    go_ret2
    exact ⟨rfl, HB.out⟩
  have HOKP : Hid (OkP l a b c) := hO.out.1 rfl
  clear hO
  cases hv : vvB x y z
  · obtain ⟨rfl, rfl⟩ := hC.out.2 (fun h => by rw [h.2] at hv; cases hv)
    go_enter Try.func9, Try.ntmps9
    go_wp2_with fail
    refine (implOK_any cap ao l a b c true ⟨fun _ => HOKP.out, fun _ => rfl⟩ _ hm (row_next (row_next hr (bel_alloc _ _)) (bel_alloc _ _)).out).mono ?_
    rintro e w1 ⟨rfl, hb⟩
    have HB : Hid (Below w.heap.size w w1) := ((bel_alloc _ _).trans ((bel_alloc _ _).mono (by simp))).trans (hb.mono (by simp; omega))
    have D0 := cell_next hb (b := w.heap.size + 1) (o := 0) (v := .int .i64 x) (by go_simp) (by simp)
    have D1 := cell_next hb (b := w.heap.size + 1) (o := 1) (v := .int .i64 y) (by go_simp) (by simp)
    have D2 := cell_next hb (b := w.heap.size + 1) (o := 2) (v := .int .i64 z) (by go_simp) (by simp)
    clear hb
    go_wp2_with fail
    refine (impl_vv x y z _).mono ?_
    rintro e w2 ⟨rfl, hb⟩
    replace HB := bel_next HB hb
    clear hb
    go_wp2
    go_ret2
    exact ⟨rfl, HB.out⟩
  obtain ⟨rfl, hK⟩ := hC.out.1 ⟨rfl, hv⟩
  have HK : Hid (r = true ↔ Knows x y z l) := hK
  have HOK := HOKP.out
  have HN : Hid (∀ i (h : i < l.length), 0 ≤ l[i].p ∧ l[i].p < 3) := fun i h => sib_node (HOK.2.2 i h).1
  clear hK hC HOK
  go_enter Try.func9, Try.ntmps9
  go_wp2_with fail
  refine (implOK_any cap ao l a b c true ⟨fun _ => HOKP.out, fun _ => rfl⟩ _ hm (row_next (row_next hr (bel_alloc _ _)) (bel_alloc _ _)).out).mono ?_
  rintro e w1 ⟨rfl, hb⟩
  have hB : Hid (Below w.heap.size w w1) := ((bel_alloc _ _).trans ((bel_alloc _ _).mono (by simp))).trans (hb.mono (by simp; omega))
  have C0 := cell_next hb (b := w.heap.size) (o := 0) (v := .slice ao l.length cap) (by go_simp) (by simp; omega)
  have D0 := cell_next hb (b := w.heap.size + 1) (o := 0) (v := .int .i64 x) (by go_simp) (by simp)
  have D1 := cell_next hb (b := w.heap.size + 1) (o := 1) (v := .int .i64 y) (by go_simp) (by simp)
  have D2 := cell_next hb (b := w.heap.size + 1) (o := 2) (v := .int .i64 z) (by go_simp) (by simp)
  have hz := hb.size
  simp at hz
  clear hb
  go_wp2_with fail
  refine (impl_vv x y z _).mono ?_
  rintro e w2 ⟨rfl, hb⟩
  replace hB := bel_next hB hb
  replace C0 := cell_next hb C0 (by omega)
  replace D0 := cell_next hb D0 (by omega)
  replace D1 := cell_next hb D1 (by omega)
  replace D2 := cell_next hb D2 (by omega)
  replace hz := Nat.le_trans hz hb.size
  clear hb
  cases hrr : r
  · have HR : Hid (r = false) := hrr
    subst hrr
    go_wp2_with fail
    refine (au_nil cap ao l x y z _ (by omega) HN.out (row_of_below hr hB)).mono ?_
    rintro e w3 ⟨ao', n, cap', rfl, hn, hR, hA, hb, hW⟩
    replace hB := bel_next hB hb
    have hne : ((n : Int) == 0) = false := beq_eq_false_iff_ne.2 (fun h => (bool_no' HK) ((fil_nil x y z l).2 (by have := hn.out; omega)))
    clear hn hR hA hb hW C0 D0 D1 D2
    go_wp2
    go_ret2
    exact ⟨rfl, hB.out⟩
  · have HR : Hid (r = true) := hrr
    subst hrr
    go_wp2_with fail
    refine (au_nil cap ao l x y z _ (by omega) HN.out (row_of_below hr hB)).mono ?_
    rintro e w3 ⟨ao', n, cap', rfl, hn, hR, hA, hb, hW⟩
    replace hB := bel_next hB hb
    have hn0 : n = 0 := hn.out.trans ((fil_nil x y z l).1 (HK.out.1 (by simp))); subst hn0
    clear hn hR hA hb hW C0 D0 D1 D2
    go_wp2
    go_ret2
    exact ⟨rfl, hB.out⟩

end Go.Proofs.Ytmbjjinibnonoaa
