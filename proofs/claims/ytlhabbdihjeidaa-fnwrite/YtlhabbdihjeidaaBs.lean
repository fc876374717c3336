/- slices.BinarySearchFunc over siblings; placeSibling. -/
import Derived.Test.YtlhabbdihjeidaaRows
import Derived.Test.YtlhabbdihjeidaaWs
import Derived.WalkKit
import Derived.WalkSpells
import Derived.WalkLawsBesides
import Derived.Deep.QuietTactic
import Derived.BigQuiet
import Derived.Deep.RegionHeld3
import Derived.Test.YtlhabbdihjeidaaIn
import Derived.Test.YtlhabbdihjeidaaLk
import Derived.Test.YtlhabbdihjeidaaJm
import Derived.LoopN
namespace Go.Proofs.Ytlhabbdihjeidaa
open Go.RowKit
set_option linter.unusedSimpArgs false
set_option linter.unusedVariables false

set_option maxHeartbeats 1000000 in
theorem place1_any (x : Sib) (p q : Int) (w : World) :
    Calls Try.prog 54 #[.agg #[.int .i64 x.p, .int .i64 x.n, .int .i64 x.v, .bool x.d], .agg #[.int .i64 p, .int .i64 q]] w fun e w' => e = .returned (.int .i64 (dotsI x.p x.n p q)) ∧ Below w.heap.size w w' := by
  obtain ⟨r, hr⟩ : ∃ r, r = dotsI x.p x.n p q := ⟨_, rfl⟩
  have C : Hid (∀ W, Calls Try.prog 30 #[.agg #[.int .i64 x.p, .int .i64 x.n], .agg #[.int .i64 p, .int .i64 q]] W fun e w' => e = .returned (.int .i64 r) ∧ Below W.heap.size W w') := fun W => by rw [hr]; exact cmpDots_any _ _ _ _ W
  rw [← hr]
  clear hr
  go_enter Try.func54, Try.ntmps54
  go_wp2_with fail
  refine Calls.mono (C.out _) ?_
  rintro e w1 ⟨rfl, hb⟩
  have HB : Hid (Below w.heap.size w w1) := (((Below.refl _ _).alloc (Nat.le_refl _) _).alloc (by simp) _).trans (hb.mono (by simp; omega))
  clear hb
  go_wp2
  go_ret
  exact ⟨rfl, HB.out⟩
/-- Where an event's place is among siblings that rise. -/
def BsP (l : List Sib) (p q : Int) (w : World) (e : Ending) (w' : World) : Prop := ∃ (k : Nat) (b : Bool), e = .returned (.tuple #[.int .i64 k, .bool b]) ∧ k ≤ l.length ∧ (∀ i (h : i < l.length), i < k → dotsI l[i].p l[i].n p q < 0) ∧ (∀ h : k < l.length, ¬ dotsI l[k].p l[k].n p q < 0) ∧ Below w.heap.size w w'
set_option maxHeartbeats 4000000 in
theorem bs_any (cap : Nat) (ao : Option Addr) (l : List Sib) (p q : Int) (w : World) (hm : l.length ≤ 1048576) (hr0 : SibRow w ao l) (hs0 : ∀ i j (hi : i < l.length) (hj : j < l.length), i ≤ j → dotsI l[j].p l[j].n p q < 0 → dotsI l[i].p l[i].n p q < 0) :
    Calls Try.prog 53 #[.slice ao l.length cap, .agg #[.int .i64 p, .int .i64 q], .func (Fn.func 54) #[] #[]] w (BsP l p q w) := by
  have hr : Hid (SibRow w ao l) := hr0
  have hS : Hid (∀ i j (hi : i < l.length) (hj : j < l.length), i ≤ j → dotsI l[j].p l[j].n p q < 0 → dotsI l[i].p l[i].n p q < 0) := hs0
  clear hr0 hs0
  have mixed : Try.prog.follows Departure.mixedOrders = true := by kernel_rfl
  obtain ⟨n, hn0⟩ : ∃ n, n = l.length := ⟨_, rfl⟩
  have hn : Hid (n = l.length) := hn0
  rw [← hn0] at hm
  have e0 : (.slice ao l.length cap : Value) = .slice ao n cap := by rw [hn0]
  rw [e0]
  clear e0 hn0
  go_enter Try.func53, Try.ntmps53
  go_wp2
  go_loopw [9, 10] (fun s9 s10 wr => ∃ i j : Nat, s9 = .int .i64 i ∧ s10 = .int .i64 j ∧ i ≤ j ∧ j ≤ n ∧ Hid ((∀ t (h : t < l.length), t < i → dotsI l[t].p l[t].n p q < 0) ∧ (∀ t (h : t < l.length), j ≤ t → 0 ≤ dotsI l[t].p l[t].n p q)) ∧ Hid (Below w.heap.size w wr) ∧ w.heap.size < wr.heap.size ∧ wr.cell? ⟨w.heap.size, 0, none⟩ = some (.int .i64 p) ∧ wr.cell? ⟨w.heap.size, 1, none⟩ = some (.int .i64 q)) (fun s9 s10 _ => (intOf s10).toNat - (intOf s9).toNat)
  case atStart => exact ⟨0, n, rfl, rfl, by omega, by omega, ⟨fun t h h' => by omega, fun t h h' => by have := hn.out; omega⟩, (Below.refl _ _).alloc (Nat.le_refl _) _, by simp, by go_simp, by go_simp⟩
  case round =>
    obtain ⟨i, j, rfl, rfl, hij, hjn, HI, HB, hz, C0, C1⟩ := hrel
    have HZ : Hid (w.heap.size < wr.heap.size) := hz
    clear hz
    by_cases hlt : i < j
    · obtain ⟨md, hh⟩ : ∃ md : Nat, md = (i + j) / 2 := ⟨_, rfl⟩
      have hi1 : i ≤ md := by omega
      have hi2 : md < j := by omega
      have hlt' : (i : Int) < (j : Int) := by omega
      have hkl : md < l.length := by have := hn.out; omega
      obtain ⟨x, hx⟩ : ∃ x, x = l[md] := ⟨_, rfl⟩
      have HX : Hid (x = l[md]) := hx
      rcases hr.out with h' | ⟨b, off, rfl, h2⟩
      · rw [h'] at hkl; simp at hkl
      have h3 := h2 md hkl
      rw [← hx] at h3
      have x0 := cell_next HB.out h3.1 (cell_lt (x := ⟨b, _, none⟩) h3.1)
      have x1 := cell_next HB.out h3.2.1 (cell_lt (x := ⟨b, _, none⟩) h3.2.1)
      have x2 := cell_next HB.out h3.2.2.1 (cell_lt (x := ⟨b, _, none⟩) h3.2.2.1)
      have x3 := cell_next HB.out h3.2.2.2 (cell_lt (x := ⟨b, _, none⟩) h3.2.2.2)
      clear h3 h2 hx
      have hhi : ((i : Int) + (j : Int)) / 2 = (md : Int) := by omega
      have hw0 : IntKind.i64.wrap ((i : Int) + (j : Int)) = (i : Int) + (j : Int) := by rw [IntKind.wrap_i64]; omega
      have hw3 : IntKind.i64.wrap ((md : Int) + 1) = (md : Int) + 1 := by rw [IntKind.wrap_i64]; omega
      have hk0 : (0 : Int) ≤ (md : Int) := by omega
      have hkn : (md : Int) < (n : Int) := by omega
      clear hh
      obtain ⟨r, hr1⟩ : ∃ r, r = dotsI x.p x.n p q := ⟨_, rfl⟩
      have C : Hid (∀ W, Calls Try.prog 54 #[.agg #[.int .i64 x.p, .int .i64 x.n, .int .i64 x.v, .bool x.d], .agg #[.int .i64 p, .int .i64 q]] W fun e w' => e = .returned (.int .i64 r) ∧ Below W.heap.size W w') := fun W => by rw [hr1]; exact place1_any x p q W
      have HR : Hid (r = dotsI l[md].p l[md].n p q) := by show _ = _; rw [hr1, HX.out]
      clear hr1
      by_cases hneg : r < 0
      · go_wp2_with fail
        refine wp_region_held_drew (S := (fun w' => w'.cell? ⟨b, off + md * 4, none⟩ = some (.int .i64 x.p) ∧ w'.cell? ⟨b, off + md * 4 + 1, none⟩ = some (.int .i64 x.n) ∧ w'.cell? ⟨b, off + md * 4 + 2, none⟩ = some (.int .i64 x.v) ∧ w'.cell? ⟨b, off + md * 4 + 3, none⟩ = some (.bool x.d) ∧ w'.cell? ⟨w.heap.size, 0, none⟩ = some (.int .i64 p) ∧ w'.cell? ⟨w.heap.size, 1, none⟩ = some (.int .i64 q) ∧ Below wr.heap.size wr w')) (by kernel_rfl) ?_ (fun hHeld => ?_)
        · (try dsimp only)
          exact ⟨x0, x1, x2, x3, C0, C1, bel_drew _⟩
        refine wpAnyH_take (i := 0) (v := ?_) rfl (by kernel_rfl) (by kernel_rfl) (by kernel_rfl) (fun _ _ _ h => h) (Or.inl ⟨by rfl, ?_⟩) (by assumption) ?_
        rotate_left
        · intro w' hSw
          (try dsimp only at hSw)
          go_simp
          all_goals (try with_reducible rfl)
        (try simp only [Act.put, List.getElem_toArray, List.getElem_cons_zero, List.getElem_cons_succ, List.setIfInBounds_toArray, List.set_cons_zero, List.set_cons_succ])
        refine wpAnyH_take (i := 1) (v := ?_) rfl (by kernel_rfl) (by kernel_rfl) (by kernel_rfl) (fun _ _ _ h => h) (Or.inl ⟨by rfl, ?_⟩) (by assumption) ?_
        rotate_left
        · intro w' hSw
          (try dsimp only at hSw)
          go_simp
          all_goals (try with_reducible rfl)
        (try simp only [Act.put, List.getElem_toArray, List.getElem_cons_zero, List.getElem_cons_succ, List.setIfInBounds_toArray, List.set_cons_zero, List.set_cons_succ])
        refine wpAnyH_take (i := 2) (v := ?_) rfl (by kernel_rfl) (by kernel_rfl) (by kernel_rfl) (fun _ _ _ h => h) (Or.inl ⟨by rfl, ?_⟩) (by assumption) ?_
        rotate_left
        · intro w' hSw
          (try dsimp only at hSw)
          go_simp
          all_goals (try with_reducible rfl)
        (try simp only [Act.put, List.getElem_toArray, List.getElem_cons_zero, List.getElem_cons_succ, List.setIfInBounds_toArray, List.set_cons_zero, List.set_cons_succ])
        refine wpAnyH_take (i := 3) (v := ?_) rfl (by kernel_rfl) (by kernel_rfl) (by kernel_rfl) (fun _ _ _ h => h) (Or.inl ⟨by rfl, ?_⟩) (by assumption) ?_
        rotate_left
        · intro w' hSw
          (try dsimp only at hSw)
          go_simp
          all_goals (try with_reducible rfl)
        (try simp only [Act.put, List.getElem_toArray, List.getElem_cons_zero, List.getElem_cons_succ, List.setIfInBounds_toArray, List.set_cons_zero, List.set_cons_succ])
        refine wpAnyH_take (i := 4) (v := ?_) rfl (by kernel_rfl) (by kernel_rfl) (by kernel_rfl) (fun _ _ _ h => h) (Or.inl ⟨by rfl, ?_⟩) (by assumption) ?_
        rotate_left
        · intro w' hSw
          (try dsimp only at hSw)
          go_simp
          all_goals (try with_reducible rfl)
        (try simp only [Act.put, List.getElem_toArray, List.getElem_cons_zero, List.getElem_cons_succ, List.setIfInBounds_toArray, List.set_cons_zero, List.set_cons_succ])
        refine wpAnyH_take (i := 5) (v := ?_) rfl (by kernel_rfl) (by kernel_rfl) (by kernel_rfl) (fun _ _ _ h => h) (Or.inl ⟨by rfl, ?_⟩) (by assumption) ?_
        rotate_left
        · intro w' hSw
          (try dsimp only at hSw)
          go_simp
          all_goals (try with_reducible rfl)
        (try simp only [Act.put, List.getElem_toArray, List.getElem_cons_zero, List.getElem_cons_succ, List.setIfInBounds_toArray, List.set_cons_zero, List.set_cons_succ])
        refine wpAnyH_ready (rs := [6]) (by kernel_rfl) (by simp) ?_
        refine AllReadyH.cons rfl (fun K hK => ?_) AllReadyH.nil
        (try simp only [Act.put, List.getElem_toArray, List.getElem_cons_zero, List.getElem_cons_succ, List.setIfInBounds_toArray, List.set_cons_zero, List.set_cons_succ])
        go_simp
        (refine Calls.mono (C.out _) ?_; rintro e w2 ⟨rfl, hb⟩)
        (try simp only [])
        refine hK.out _ _ ?_ (fun hHeld' => ?_)
        · (try dsimp only)
          exact ⟨cell_next hb hHeld.1 (cell_lt hHeld.1), cell_next hb hHeld.2.1 (cell_lt hHeld.2.1), cell_next hb hHeld.2.2.1 (cell_lt hHeld.2.2.1), cell_next hb hHeld.2.2.2.1 (cell_lt hHeld.2.2.2.1), cell_next hb hHeld.2.2.2.2.1 (cell_lt hHeld.2.2.2.2.1), cell_next hb hHeld.2.2.2.2.2.1 (cell_lt hHeld.2.2.2.2.2.1), (bel_next' hHeld.2.2.2.2.2.2 hb).out⟩
        clear hK K
        clear hHeld
        have hHeld := hHeld'
        clear hHeld'
        clear hb
        (try simp only [Act.put, List.getElem_toArray, List.getElem_cons_zero, List.getElem_cons_succ, List.setIfInBounds_toArray, List.set_cons_zero, List.set_cons_succ])
        refine wpAnyH_take (i := 7) (v := ?_) rfl (by kernel_rfl) (by kernel_rfl) (by kernel_rfl) (fun _ _ _ h => h) (Or.inl ⟨by rfl, ?_⟩) (by assumption) ?_
        rotate_left
        · intro w' hSw
          (try dsimp only at hSw)
          go_simp
          all_goals (try with_reducible rfl)
        (try simp only [Act.put, List.getElem_toArray, List.getElem_cons_zero, List.getElem_cons_succ, List.setIfInBounds_toArray, List.set_cons_zero, List.set_cons_succ])
        refine wpAnyH_done (by kernel_rfl) ?_ _
        have HB2 : Hid (Below w.heap.size w _) := bel_next' HB hHeld.2.2.2.2.2.2
        have hz2 := hHeld.2.2.2.2.2.2.size
        have c0' := hHeld.2.2.2.2.1
        have c1' := hHeld.2.2.2.2.2.1
        clear hHeld x0 x1 x2 x3 C0 C1
        go_wp2
        go_roundw
        case rel =>
          have I2 : Hid ((∀ t (h : t < l.length), t < md + 1 → dotsI l[t].p l[t].n p q < 0) ∧ (∀ t (h : t < l.length), j ≤ t → 0 ≤ dotsI l[t].p l[t].n p q)) := ⟨fun t ht htl => hS.out t md ht hkl (by omega) (by rw [← HR.out]; exact hneg), HI.out.2⟩
          exact ⟨md + 1, j, by go_num, rfl, by omega, hjn, I2, HB2, by have := HZ.out; omega, c0', c1'⟩
        case measure => simp [intOf]; omega
      · go_wp2_with fail
        refine wp_region_held_drew (S := (fun w' => w'.cell? ⟨b, off + md * 4, none⟩ = some (.int .i64 x.p) ∧ w'.cell? ⟨b, off + md * 4 + 1, none⟩ = some (.int .i64 x.n) ∧ w'.cell? ⟨b, off + md * 4 + 2, none⟩ = some (.int .i64 x.v) ∧ w'.cell? ⟨b, off + md * 4 + 3, none⟩ = some (.bool x.d) ∧ w'.cell? ⟨w.heap.size, 0, none⟩ = some (.int .i64 p) ∧ w'.cell? ⟨w.heap.size, 1, none⟩ = some (.int .i64 q) ∧ Below wr.heap.size wr w')) (by kernel_rfl) ?_ (fun hHeld => ?_)
        · (try dsimp only)
          exact ⟨x0, x1, x2, x3, C0, C1, bel_drew _⟩
        refine wpAnyH_take (i := 0) (v := ?_) rfl (by kernel_rfl) (by kernel_rfl) (by kernel_rfl) (fun _ _ _ h => h) (Or.inl ⟨by rfl, ?_⟩) (by assumption) ?_
        rotate_left
        · intro w' hSw
          (try dsimp only at hSw)
          go_simp
          all_goals (try with_reducible rfl)
        (try simp only [Act.put, List.getElem_toArray, List.getElem_cons_zero, List.getElem_cons_succ, List.setIfInBounds_toArray, List.set_cons_zero, List.set_cons_succ])
        refine wpAnyH_take (i := 1) (v := ?_) rfl (by kernel_rfl) (by kernel_rfl) (by kernel_rfl) (fun _ _ _ h => h) (Or.inl ⟨by rfl, ?_⟩) (by assumption) ?_
        rotate_left
        · intro w' hSw
          (try dsimp only at hSw)
          go_simp
          all_goals (try with_reducible rfl)
        (try simp only [Act.put, List.getElem_toArray, List.getElem_cons_zero, List.getElem_cons_succ, List.setIfInBounds_toArray, List.set_cons_zero, List.set_cons_succ])
        refine wpAnyH_take (i := 2) (v := ?_) rfl (by kernel_rfl) (by kernel_rfl) (by kernel_rfl) (fun _ _ _ h => h) (Or.inl ⟨by rfl, ?_⟩) (by assumption) ?_
        rotate_left
        · intro w' hSw
          (try dsimp only at hSw)
          go_simp
          all_goals (try with_reducible rfl)
        (try simp only [Act.put, List.getElem_toArray, List.getElem_cons_zero, List.getElem_cons_succ, List.setIfInBounds_toArray, List.set_cons_zero, List.set_cons_succ])
        refine wpAnyH_take (i := 3) (v := ?_) rfl (by kernel_rfl) (by kernel_rfl) (by kernel_rfl) (fun _ _ _ h => h) (Or.inl ⟨by rfl, ?_⟩) (by assumption) ?_
        rotate_left
        · intro w' hSw
          (try dsimp only at hSw)
          go_simp
          all_goals (try with_reducible rfl)
        (try simp only [Act.put, List.getElem_toArray, List.getElem_cons_zero, List.getElem_cons_succ, List.setIfInBounds_toArray, List.set_cons_zero, List.set_cons_succ])
        refine wpAnyH_take (i := 4) (v := ?_) rfl (by kernel_rfl) (by kernel_rfl) (by kernel_rfl) (fun _ _ _ h => h) (Or.inl ⟨by rfl, ?_⟩) (by assumption) ?_
        rotate_left
        · intro w' hSw
          (try dsimp only at hSw)
          go_simp
          all_goals (try with_reducible rfl)
        (try simp only [Act.put, List.getElem_toArray, List.getElem_cons_zero, List.getElem_cons_succ, List.setIfInBounds_toArray, List.set_cons_zero, List.set_cons_succ])
        refine wpAnyH_take (i := 5) (v := ?_) rfl (by kernel_rfl) (by kernel_rfl) (by kernel_rfl) (fun _ _ _ h => h) (Or.inl ⟨by rfl, ?_⟩) (by assumption) ?_
        rotate_left
        · intro w' hSw
          (try dsimp only at hSw)
          go_simp
          all_goals (try with_reducible rfl)
        (try simp only [Act.put, List.getElem_toArray, List.getElem_cons_zero, List.getElem_cons_succ, List.setIfInBounds_toArray, List.set_cons_zero, List.set_cons_succ])
        refine wpAnyH_ready (rs := [6]) (by kernel_rfl) (by simp) ?_
        refine AllReadyH.cons rfl (fun K hK => ?_) AllReadyH.nil
        (try simp only [Act.put, List.getElem_toArray, List.getElem_cons_zero, List.getElem_cons_succ, List.setIfInBounds_toArray, List.set_cons_zero, List.set_cons_succ])
        go_simp
        (refine Calls.mono (C.out _) ?_; rintro e w2 ⟨rfl, hb⟩)
        (try simp only [])
        refine hK.out _ _ ?_ (fun hHeld' => ?_)
        · (try dsimp only)
          exact ⟨cell_next hb hHeld.1 (cell_lt hHeld.1), cell_next hb hHeld.2.1 (cell_lt hHeld.2.1), cell_next hb hHeld.2.2.1 (cell_lt hHeld.2.2.1), cell_next hb hHeld.2.2.2.1 (cell_lt hHeld.2.2.2.1), cell_next hb hHeld.2.2.2.2.1 (cell_lt hHeld.2.2.2.2.1), cell_next hb hHeld.2.2.2.2.2.1 (cell_lt hHeld.2.2.2.2.2.1), (bel_next' hHeld.2.2.2.2.2.2 hb).out⟩
        clear hK K
        clear hHeld
        have hHeld := hHeld'
        clear hHeld'
        clear hb
        (try simp only [Act.put, List.getElem_toArray, List.getElem_cons_zero, List.getElem_cons_succ, List.setIfInBounds_toArray, List.set_cons_zero, List.set_cons_succ])
        refine wpAnyH_take (i := 7) (v := ?_) rfl (by kernel_rfl) (by kernel_rfl) (by kernel_rfl) (fun _ _ _ h => h) (Or.inl ⟨by rfl, ?_⟩) (by assumption) ?_
        rotate_left
        · intro w' hSw
          (try dsimp only at hSw)
          go_simp
          all_goals (try with_reducible rfl)
        (try simp only [Act.put, List.getElem_toArray, List.getElem_cons_zero, List.getElem_cons_succ, List.setIfInBounds_toArray, List.set_cons_zero, List.set_cons_succ])
        refine wpAnyH_done (by kernel_rfl) ?_ _
        have HB2 : Hid (Below w.heap.size w _) := bel_next' HB hHeld.2.2.2.2.2.2
        have hz2 := hHeld.2.2.2.2.2.2.size
        have c0' := hHeld.2.2.2.2.1
        have c1' := hHeld.2.2.2.2.2.1
        clear hHeld x0 x1 x2 x3 C0 C1
        go_wp2
        go_roundw
        case rel =>
          have I2 : Hid ((∀ t (h : t < l.length), t < i → dotsI l[t].p l[t].n p q < 0) ∧ (∀ t (h : t < l.length), md ≤ t → 0 ≤ dotsI l[t].p l[t].n p q)) := ⟨HI.out.1, fun t ht htl => Int.not_lt.1 fun hc => by have h5 := hS.out md t hkl ht htl hc; rw [← HR.out] at h5; omega⟩
          exact ⟨i, md, rfl, rfl, by omega, by omega, I2, HB2, by have := HZ.out; omega, c0', c1'⟩
        case measure => simp [intOf]; omega
    · have hij' : i = j := by omega
      subst hij'
      by_cases hin : i < n
      · have hkl : i < l.length := by have := hn.out; omega
        obtain ⟨x, hx⟩ : ∃ x, x = l[i] := ⟨_, rfl⟩
        rcases hr.out with h' | ⟨b, off, rfl, h2⟩
        · rw [h'] at hkl; simp at hkl
        have h3 := h2 i hkl
        rw [← hx] at h3
        have x0 := cell_next HB.out h3.1 (cell_lt (x := ⟨b, _, none⟩) h3.1)
        have x1 := cell_next HB.out h3.2.1 (cell_lt (x := ⟨b, _, none⟩) h3.2.1)
        have x2 := cell_next HB.out h3.2.2.1 (cell_lt (x := ⟨b, _, none⟩) h3.2.2.1)
        have x3 := cell_next HB.out h3.2.2.2 (cell_lt (x := ⟨b, _, none⟩) h3.2.2.2)
        clear h3 h2
        have hk0 : (0 : Int) ≤ (i : Int) := by omega
        have hkn : (i : Int) < (n : Int) := by omega
        have hii : ¬ (i : Int) < (i : Int) := by omega
        obtain ⟨r, hr1⟩ : ∃ r, r = dotsI x.p x.n p q := ⟨_, rfl⟩
        have C : Hid (∀ W, Calls Try.prog 54 #[.agg #[.int .i64 x.p, .int .i64 x.n, .int .i64 x.v, .bool x.d], .agg #[.int .i64 p, .int .i64 q]] W fun e w' => e = .returned (.int .i64 r) ∧ Below W.heap.size W w') := fun W => by rw [hr1]; exact place1_any x p q W
        have hnl := hn.out
        have HN : Hid (∀ h : i < l.length, 0 ≤ dotsI l[i].p l[i].n p q) := fun h => HI.out.2 i h (Nat.le_refl _)
        have HF : Hid (∀ t (h : t < l.length), t < i → dotsI l[t].p l[t].n p q < 0) := HI.out.1
        have HL : Hid (i ≤ l.length) := by show _ ≤ _; omega
        clear hr1 hx HI hnl
        go_wp2_with fail
        refine wp_region_held_drew (S := (fun w' => w'.cell? ⟨b, off + i * 4, none⟩ = some (.int .i64 x.p) ∧ w'.cell? ⟨b, off + i * 4 + 1, none⟩ = some (.int .i64 x.n) ∧ w'.cell? ⟨b, off + i * 4 + 2, none⟩ = some (.int .i64 x.v) ∧ w'.cell? ⟨b, off + i * 4 + 3, none⟩ = some (.bool x.d) ∧ w'.cell? ⟨w.heap.size, 0, none⟩ = some (.int .i64 p) ∧ w'.cell? ⟨w.heap.size, 1, none⟩ = some (.int .i64 q) ∧ Below wr.heap.size wr w')) (by kernel_rfl) ?_ (fun hHeld => ?_)
        · (try dsimp only)
          exact ⟨x0, x1, x2, x3, C0, C1, bel_drew _⟩
        refine wpAnyH_take (i := 0) (v := ?_) rfl (by kernel_rfl) (by kernel_rfl) (by kernel_rfl) (fun _ _ _ h => h) (Or.inl ⟨by rfl, ?_⟩) (by assumption) ?_
        rotate_left
        · intro w' hSw
          (try dsimp only at hSw)
          go_simp
          all_goals (try with_reducible rfl)
        (try simp only [Act.put, List.getElem_toArray, List.getElem_cons_zero, List.getElem_cons_succ, List.setIfInBounds_toArray, List.set_cons_zero, List.set_cons_succ])
        refine wpAnyH_take (i := 1) (v := ?_) rfl (by kernel_rfl) (by kernel_rfl) (by kernel_rfl) (fun _ _ _ h => h) (Or.inl ⟨by rfl, ?_⟩) (by assumption) ?_
        rotate_left
        · intro w' hSw
          (try dsimp only at hSw)
          go_simp
          all_goals (try with_reducible rfl)
        (try simp only [Act.put, List.getElem_toArray, List.getElem_cons_zero, List.getElem_cons_succ, List.setIfInBounds_toArray, List.set_cons_zero, List.set_cons_succ])
        refine wpAnyH_take (i := 2) (v := ?_) rfl (by kernel_rfl) (by kernel_rfl) (by kernel_rfl) (fun _ _ _ h => h) (Or.inl ⟨by rfl, ?_⟩) (by assumption) ?_
        rotate_left
        · intro w' hSw
          (try dsimp only at hSw)
          go_simp
          all_goals (try with_reducible rfl)
        (try simp only [Act.put, List.getElem_toArray, List.getElem_cons_zero, List.getElem_cons_succ, List.setIfInBounds_toArray, List.set_cons_zero, List.set_cons_succ])
        refine wpAnyH_take (i := 3) (v := ?_) rfl (by kernel_rfl) (by kernel_rfl) (by kernel_rfl) (fun _ _ _ h => h) (Or.inl ⟨by rfl, ?_⟩) (by assumption) ?_
        rotate_left
        · intro w' hSw
          (try dsimp only at hSw)
          go_simp
          all_goals (try with_reducible rfl)
        (try simp only [Act.put, List.getElem_toArray, List.getElem_cons_zero, List.getElem_cons_succ, List.setIfInBounds_toArray, List.set_cons_zero, List.set_cons_succ])
        refine wpAnyH_take (i := 4) (v := ?_) rfl (by kernel_rfl) (by kernel_rfl) (by kernel_rfl) (fun _ _ _ h => h) (Or.inl ⟨by rfl, ?_⟩) (by assumption) ?_
        rotate_left
        · intro w' hSw
          (try dsimp only at hSw)
          go_simp
          all_goals (try with_reducible rfl)
        (try simp only [Act.put, List.getElem_toArray, List.getElem_cons_zero, List.getElem_cons_succ, List.setIfInBounds_toArray, List.set_cons_zero, List.set_cons_succ])
        refine wpAnyH_take (i := 5) (v := ?_) rfl (by kernel_rfl) (by kernel_rfl) (by kernel_rfl) (fun _ _ _ h => h) (Or.inl ⟨by rfl, ?_⟩) (by assumption) ?_
        rotate_left
        · intro w' hSw
          (try dsimp only at hSw)
          go_simp
          all_goals (try with_reducible rfl)
        (try simp only [Act.put, List.getElem_toArray, List.getElem_cons_zero, List.getElem_cons_succ, List.setIfInBounds_toArray, List.set_cons_zero, List.set_cons_succ])
        refine wpAnyH_take (i := 6) (v := ?_) rfl (by kernel_rfl) (by kernel_rfl) (by kernel_rfl) (fun _ _ _ h => h) (Or.inl ⟨by rfl, ?_⟩) (by assumption) ?_
        rotate_left
        · intro w' hSw
          (try dsimp only at hSw)
          go_simp
          all_goals (try with_reducible rfl)
        (try simp only [Act.put, List.getElem_toArray, List.getElem_cons_zero, List.getElem_cons_succ, List.setIfInBounds_toArray, List.set_cons_zero, List.set_cons_succ])
        refine wpAnyH_take (i := 7) (v := ?_) rfl (by kernel_rfl) (by kernel_rfl) (by kernel_rfl) (fun _ _ _ h => h) (Or.inl ⟨by rfl, ?_⟩) (by assumption) ?_
        rotate_left
        · intro w' hSw
          (try dsimp only at hSw)
          go_simp
          all_goals (try with_reducible rfl)
        (try simp only [Act.put, List.getElem_toArray, List.getElem_cons_zero, List.getElem_cons_succ, List.setIfInBounds_toArray, List.set_cons_zero, List.set_cons_succ])
        refine wpAnyH_take (i := 8) (v := ?_) rfl (by kernel_rfl) (by kernel_rfl) (by kernel_rfl) (fun _ _ _ h => h) (Or.inl ⟨by rfl, ?_⟩) (by assumption) ?_
        rotate_left
        · intro w' hSw
          (try dsimp only at hSw)
          go_simp
          all_goals (try with_reducible rfl)
        (try simp only [Act.put, List.getElem_toArray, List.getElem_cons_zero, List.getElem_cons_succ, List.setIfInBounds_toArray, List.set_cons_zero, List.set_cons_succ])
        refine wpAnyH_take (i := 9) (v := ?_) rfl (by kernel_rfl) (by kernel_rfl) (by kernel_rfl) (fun _ _ _ h => h) (Or.inl ⟨by rfl, ?_⟩) (by assumption) ?_
        rotate_left
        · intro w' hSw
          (try dsimp only at hSw)
          go_simp
          all_goals (try with_reducible rfl)
        (try simp only [Act.put, List.getElem_toArray, List.getElem_cons_zero, List.getElem_cons_succ, List.setIfInBounds_toArray, List.set_cons_zero, List.set_cons_succ])
        refine wpAnyH_take (i := 10) (v := ?_) rfl (by kernel_rfl) (by kernel_rfl) (by kernel_rfl) (fun _ _ _ h => h) (Or.inl ⟨by rfl, ?_⟩) (by assumption) ?_
        rotate_left
        · intro w' hSw
          (try dsimp only at hSw)
          go_simp
          all_goals (try with_reducible rfl)
        (try simp only [Act.put, List.getElem_toArray, List.getElem_cons_zero, List.getElem_cons_succ, List.setIfInBounds_toArray, List.set_cons_zero, List.set_cons_succ])
        refine wpAnyH_ready (rs := [11]) (by kernel_rfl) (by simp) ?_
        refine AllReadyH.cons rfl (fun K hK => ?_) AllReadyH.nil
        (try simp only [Act.put, List.getElem_toArray, List.getElem_cons_zero, List.getElem_cons_succ, List.setIfInBounds_toArray, List.set_cons_zero, List.set_cons_succ])
        go_simp
        (refine Calls.mono (C.out _) ?_; rintro e w2 ⟨rfl, hb⟩)
        (try simp only [])
        refine hK.out _ _ ?_ (fun hHeld' => ?_)
        · (try dsimp only)
          exact ⟨cell_next hb hHeld.1 (cell_lt hHeld.1), cell_next hb hHeld.2.1 (cell_lt hHeld.2.1), cell_next hb hHeld.2.2.1 (cell_lt hHeld.2.2.1), cell_next hb hHeld.2.2.2.1 (cell_lt hHeld.2.2.2.1), cell_next hb hHeld.2.2.2.2.1 (cell_lt hHeld.2.2.2.2.1), cell_next hb hHeld.2.2.2.2.2.1 (cell_lt hHeld.2.2.2.2.2.1), (bel_next' hHeld.2.2.2.2.2.2 hb).out⟩
        clear hK K
        clear hHeld
        have hHeld := hHeld'
        clear hHeld'
        clear hb
        (try simp only [Act.put, List.getElem_toArray, List.getElem_cons_zero, List.getElem_cons_succ, List.setIfInBounds_toArray, List.set_cons_zero, List.set_cons_succ])
        refine wpAnyH_take (i := 12) (v := ?_) rfl (by kernel_rfl) (by kernel_rfl) (by kernel_rfl) (fun _ _ _ h => h) (Or.inl ⟨by rfl, ?_⟩) (by assumption) ?_
        rotate_left
        · intro w' hSw
          (try dsimp only at hSw)
          go_simp
          all_goals (try with_reducible rfl)
        (try simp only [Act.put, List.getElem_toArray, List.getElem_cons_zero, List.getElem_cons_succ, List.setIfInBounds_toArray, List.set_cons_zero, List.set_cons_succ])
        refine wpAnyH_take (i := 13) (v := ?_) rfl (by kernel_rfl) (by kernel_rfl) (by kernel_rfl) (fun _ _ _ h => h) (Or.inl ⟨by rfl, ?_⟩) (by assumption) ?_
        rotate_left
        · intro w' hSw
          (try dsimp only at hSw)
          go_simp
          all_goals (try with_reducible rfl)
        (try simp only [Act.put, List.getElem_toArray, List.getElem_cons_zero, List.getElem_cons_succ, List.setIfInBounds_toArray, List.set_cons_zero, List.set_cons_succ])
        refine wpAnyH_take (i := 14) (v := ?_) rfl (by kernel_rfl) (by kernel_rfl) (by kernel_rfl) (fun _ _ _ h => h) (Or.inl ⟨by rfl, ?_⟩) (by assumption) ?_
        rotate_left
        · intro w' hSw
          (try dsimp only at hSw)
          go_simp
          all_goals (try with_reducible rfl)
        (try simp only [Act.put, List.getElem_toArray, List.getElem_cons_zero, List.getElem_cons_succ, List.setIfInBounds_toArray, List.set_cons_zero, List.set_cons_succ])
        refine wpAnyH_take (i := 15) (v := ?_) rfl (by kernel_rfl) (by kernel_rfl) (by kernel_rfl) (fun _ _ _ h => h) (Or.inl ⟨by rfl, ?_⟩) (by assumption) ?_
        rotate_left
        · intro w' hSw
          (try dsimp only at hSw)
          go_simp
          all_goals (try with_reducible rfl)
        (try simp only [Act.put, List.getElem_toArray, List.getElem_cons_zero, List.getElem_cons_succ, List.setIfInBounds_toArray, List.set_cons_zero, List.set_cons_succ])
        refine wpAnyH_done (by kernel_rfl) ?_ _
        have HB2 : Hid (Below w.heap.size w _) := bel_next' HB hHeld.2.2.2.2.2.2
        clear hHeld x0 x1 x2 x3 C0 C1
        go_wp2
        go_ret2
        exact ⟨i, _, rfl, HL.out, HF.out, fun h => Int.not_lt.2 (HN.out h), HB2.out⟩
      · have hkn : ¬ (i : Int) < (n : Int) := by omega
        have hii : ¬ (i : Int) < (i : Int) := by omega
        have hnl := hn.out
        have HN : Hid (∀ h : i < l.length, 0 ≤ dotsI l[i].p l[i].n p q) := fun h => by omega
        have HF : Hid (∀ t (h : t < l.length), t < i → dotsI l[t].p l[t].n p q < 0) := HI.out.1
        have HL : Hid (i ≤ l.length) := by show _ ≤ _; omega
        clear HI hnl
        go_wp2_with fail
        refine wp_region_held_drew (S := (fun w' => Below wr.heap.size wr w')) (by kernel_rfl) ?_ (fun hHeld => ?_)
        · (try dsimp only)
          exact bel_drew _
        refine wpAnyH_take (i := 0) (v := ?_) rfl (by kernel_rfl) (by kernel_rfl) (by kernel_rfl) (fun _ _ _ h => h) (Or.inl ⟨by rfl, ?_⟩) (by assumption) ?_
        rotate_left
        · intro w' hSw
          (try dsimp only at hSw)
          go_simp
          all_goals (try with_reducible rfl)
        (try simp only [Act.put, List.getElem_toArray, List.getElem_cons_zero, List.getElem_cons_succ, List.setIfInBounds_toArray, List.set_cons_zero, List.set_cons_succ])
        refine wpAnyH_take (i := 1) (v := ?_) rfl (by kernel_rfl) (by kernel_rfl) (by kernel_rfl) (fun _ _ _ h => h) (Or.inl ⟨by rfl, ?_⟩) (by assumption) ?_
        rotate_left
        · intro w' hSw
          (try dsimp only at hSw)
          go_simp
          all_goals (try with_reducible rfl)
        (try simp only [Act.put, List.getElem_toArray, List.getElem_cons_zero, List.getElem_cons_succ, List.setIfInBounds_toArray, List.set_cons_zero, List.set_cons_succ])
        refine wpAnyH_take (i := 2) (v := ?_) rfl (by kernel_rfl) (by kernel_rfl) (by kernel_rfl) (fun _ _ _ h => h) (Or.inl ⟨by rfl, ?_⟩) (by assumption) ?_
        rotate_left
        · intro w' hSw
          (try dsimp only at hSw)
          go_simp
          all_goals (try with_reducible rfl)
        (try simp only [Act.put, List.getElem_toArray, List.getElem_cons_zero, List.getElem_cons_succ, List.setIfInBounds_toArray, List.set_cons_zero, List.set_cons_succ])
        refine wpAnyH_take (i := 3) (v := ?_) rfl (by kernel_rfl) (by kernel_rfl) (by kernel_rfl) (fun _ _ _ h => h) (Or.inl ⟨by rfl, ?_⟩) (by assumption) ?_
        rotate_left
        · intro w' hSw
          (try dsimp only at hSw)
          go_simp
          all_goals (try with_reducible rfl)
        (try simp only [Act.put, List.getElem_toArray, List.getElem_cons_zero, List.getElem_cons_succ, List.setIfInBounds_toArray, List.set_cons_zero, List.set_cons_succ])
        refine wpAnyH_take (i := 4) (v := ?_) rfl (by kernel_rfl) (by kernel_rfl) (by kernel_rfl) (fun _ _ _ h => h) (Or.inl ⟨by rfl, ?_⟩) (by assumption) ?_
        rotate_left
        · intro w' hSw
          (try dsimp only at hSw)
          go_simp
          all_goals (try with_reducible rfl)
        (try simp only [Act.put, List.getElem_toArray, List.getElem_cons_zero, List.getElem_cons_succ, List.setIfInBounds_toArray, List.set_cons_zero, List.set_cons_succ])
        refine wpAnyH_take (i := 5) (v := undef) rfl (by kernel_rfl) (by kernel_rfl) (by kernel_rfl) (fun _ _ _ h => h) (Or.inr ⟨by rfl, rfl⟩) (by assumption) ?_
        (try simp only [Act.put, List.getElem_toArray, List.getElem_cons_zero, List.getElem_cons_succ, List.setIfInBounds_toArray, List.set_cons_zero, List.set_cons_succ])
        refine wpAnyH_take (i := 6) (v := undef) rfl (by kernel_rfl) (by kernel_rfl) (by kernel_rfl) (fun _ _ _ h => h) (Or.inr ⟨by rfl, rfl⟩) (by assumption) ?_
        (try simp only [Act.put, List.getElem_toArray, List.getElem_cons_zero, List.getElem_cons_succ, List.setIfInBounds_toArray, List.set_cons_zero, List.set_cons_succ])
        refine wpAnyH_take (i := 7) (v := undef) rfl (by kernel_rfl) (by kernel_rfl) (by kernel_rfl) (fun _ _ _ h => h) (Or.inr ⟨by rfl, rfl⟩) (by assumption) ?_
        (try simp only [Act.put, List.getElem_toArray, List.getElem_cons_zero, List.getElem_cons_succ, List.setIfInBounds_toArray, List.set_cons_zero, List.set_cons_succ])
        refine wpAnyH_take (i := 8) (v := undef) rfl (by kernel_rfl) (by kernel_rfl) (by kernel_rfl) (fun _ _ _ h => h) (Or.inr ⟨by rfl, rfl⟩) (by assumption) ?_
        (try simp only [Act.put, List.getElem_toArray, List.getElem_cons_zero, List.getElem_cons_succ, List.setIfInBounds_toArray, List.set_cons_zero, List.set_cons_succ])
        refine wpAnyH_take (i := 9) (v := undef) rfl (by kernel_rfl) (by kernel_rfl) (by kernel_rfl) (fun _ _ _ h => h) (Or.inr ⟨by rfl, rfl⟩) (by assumption) ?_
        (try simp only [Act.put, List.getElem_toArray, List.getElem_cons_zero, List.getElem_cons_succ, List.setIfInBounds_toArray, List.set_cons_zero, List.set_cons_succ])
        refine wpAnyH_take (i := 10) (v := undef) rfl (by kernel_rfl) (by kernel_rfl) (by kernel_rfl) (fun _ _ _ h => h) (Or.inr ⟨by rfl, rfl⟩) (by assumption) ?_
        (try simp only [Act.put, List.getElem_toArray, List.getElem_cons_zero, List.getElem_cons_succ, List.setIfInBounds_toArray, List.set_cons_zero, List.set_cons_succ])
        refine wpAnyH_take (i := 11) (v := undef) rfl (by kernel_rfl) (by kernel_rfl) (by kernel_rfl) (fun _ _ _ h => h) (Or.inr ⟨by rfl, rfl⟩) (by assumption) ?_
        (try simp only [Act.put, List.getElem_toArray, List.getElem_cons_zero, List.getElem_cons_succ, List.setIfInBounds_toArray, List.set_cons_zero, List.set_cons_succ])
        refine wpAnyH_take (i := 12) (v := undef) rfl (by kernel_rfl) (by kernel_rfl) (by kernel_rfl) (fun _ _ _ h => h) (Or.inr ⟨by rfl, rfl⟩) (by assumption) ?_
        (try simp only [Act.put, List.getElem_toArray, List.getElem_cons_zero, List.getElem_cons_succ, List.setIfInBounds_toArray, List.set_cons_zero, List.set_cons_succ])
        refine wpAnyH_take (i := 13) (v := ?_) rfl (by kernel_rfl) (by kernel_rfl) (by kernel_rfl) (fun _ _ _ h => h) (Or.inl ⟨by rfl, ?_⟩) (by assumption) ?_
        rotate_left
        · intro w' hSw
          (try dsimp only at hSw)
          go_simp
          all_goals (try with_reducible rfl)
        (try simp only [Act.put, List.getElem_toArray, List.getElem_cons_zero, List.getElem_cons_succ, List.setIfInBounds_toArray, List.set_cons_zero, List.set_cons_succ])
        refine wpAnyH_take (i := 14) (v := ?_) rfl (by kernel_rfl) (by kernel_rfl) (by kernel_rfl) (fun _ _ _ h => h) (Or.inl ⟨by rfl, ?_⟩) (by assumption) ?_
        rotate_left
        · intro w' hSw
          (try dsimp only at hSw)
          go_simp
          all_goals (try with_reducible rfl)
        (try simp only [Act.put, List.getElem_toArray, List.getElem_cons_zero, List.getElem_cons_succ, List.setIfInBounds_toArray, List.set_cons_zero, List.set_cons_succ])
        refine wpAnyH_take (i := 15) (v := ?_) rfl (by kernel_rfl) (by kernel_rfl) (by kernel_rfl) (fun _ _ _ h => h) (Or.inl ⟨by rfl, ?_⟩) (by assumption) ?_
        rotate_left
        · intro w' hSw
          (try dsimp only at hSw)
          go_simp
          all_goals (try with_reducible rfl)
        (try simp only [Act.put, List.getElem_toArray, List.getElem_cons_zero, List.getElem_cons_succ, List.setIfInBounds_toArray, List.set_cons_zero, List.set_cons_succ])
        refine wpAnyH_done (by kernel_rfl) ?_ _
        have HB2 : Hid (Below w.heap.size w _) := bel_next' HB hHeld
        clear hHeld
        go_wp2
        go_ret2
        exact ⟨i, _, rfl, HL.out, HF.out, fun h => Int.not_lt.2 (HN.out h), HB2.out⟩
theorem rise_mono {l : List Sib} (h : Rise l) (x : Sib) : ∀ i j (hi : i < l.length) (hj : j < l.length), i ≤ j → dotsI l[j].p l[j].n x.p x.n < 0 → dotsI l[i].p l[i].n x.p x.n < 0 := by
  intro i j hi hj hij hd
  rcases Nat.lt_or_ge i j with h' | h'
  · have h1 : Bef l[i] l[j] := List.pairwise_iff_getElem.1 h i j hi hj h'
    exact dots_neg.2 (h1.trans (dots_neg.1 hd))
  · have : i = j := by omega
    subst this
    exact hd
set_option maxHeartbeats 2000000 in
theorem place_any (v : Value) (m : List Sib) (x : Sib) (w : World) (hm : m.length ≤ 1048576) (hO0 : w.ownsRow 0 47 4 v m.length (flat m)) (hR0 : Rise m) :
    Calls Try.prog 35 #[v, .agg #[.int .i64 x.p, .int .i64 x.n, .int .i64 x.v, .bool x.d]] w fun e w' => ∃ v', e = .returned v' ∧ w'.ownsRow 0 47 4 v' (pt x m).length (flat (pt x m)) ∧ Gro w w' v v' := by
  obtain ⟨ao, cap, rfl, hrow, hlt⟩ := owned_row hO0
  have HO : Hid (w.ownsRow 0 47 4 (.slice ao m.length cap) m.length (flat m)) := hO0
  have HRow : Hid (SibRow w ao m) := hrow
  have HRi : Hid (Rise m) := hR0
  have HM : Hid (m.length ≤ 1048576) := hm
  clear hO0 hrow hR0 hm hlt
  obtain ⟨n, hn0⟩ : ∃ n, n = m.length := ⟨_, rfl⟩
  have HN : Hid (n = m.length) := hn0
  have CB : Hid (∀ W, SibRow W ao m → Calls Try.prog 53 #[.slice ao n cap, .agg #[.int .i64 x.p, .int .i64 x.n], .func (Fn.func 54) #[] #[]] W (BsP m x.p x.n W)) := fun W h => by rw [hn0]; exact bs_any cap ao m x.p x.n W HM.out h (rise_mono HRi.out x)
  have CI : Hid (∀ W (k vb : Nat), k ≤ m.length → W.ownsRow 0 47 4 (.slice ao m.length cap) m.length (flat m) → W.heap[vb]? = some (.cells (cel x).toArray 47 (0, 0)) → (Value.slice ao m.length cap).ownBlock ≠ some vb → Calls Try.prog 55 #[.slice ao n cap, .int .i64 k, .slice (some ⟨vb, 0, none⟩) 1 1] W fun e w' => ∃ v', e = .returned v' ∧ w'.ownsRow 0 47 4 v' (m.length + 1) (flat (m.take k ++ x :: m.drop k)) ∧ Gro W w' (.slice ao m.length cap) v') := fun W k vb hk h1 h2 h3 => by rw [hn0]; exact ins_any _ m k x vb 1 W hk HM.out h1 h2 h3
  have e0 : (.slice ao m.length cap : Value) = .slice ao n cap := by rw [hn0]
  have GOAL : Hid (∀ e w' v', e = Ending.returned v' → w'.ownsRow 0 47 4 v' (pt x m).length (flat (pt x m)) → Gro w w' (.slice ao m.length cap) v' → ∃ v', e = Ending.returned v' ∧ w'.ownsRow 0 47 4 v' (pt x m).length (flat (pt x m)) ∧ Gro w w' (.slice ao m.length cap) v') := fun e w' v' h1 h2 h3 => ⟨v', h1, h2, h3⟩
  rw [e0] at GOAL ⊢
  have E0 : Hid ((.slice ao m.length cap : Value) = .slice ao n cap) := e0
  clear e0 hn0
  go_enter Try.func35, Try.ntmps35
  go_wp2_with fail
  refine Calls.mono (CB.out _ (HRow.out.next (bel_alloc _ _))) ?_
  rintro e w1 ⟨k, b, rfl, hk, h1, h2, hb⟩
  have HB : Hid (Below w.heap.size w w1) := (bel_alloc _ _).trans (hb.mono (by simp))
  have HK : Hid (k ≤ m.length ∧ m.take k ++ x :: m.drop k = pt x m) := ⟨hk, pt_at x m k hk h1 h2⟩
  have HS : Hid (w.heap.size < w1.heap.size) := by have := hb.size; simp at this; show _ < _; omega
  have x0 : w1.cell? ⟨w.heap.size, 0, none⟩ = some (.int .i64 x.p) := cell_next hb (by go_simp) (by simp)
  have x1 : w1.cell? ⟨w.heap.size, 1, none⟩ = some (.int .i64 x.n) := cell_next hb (by go_simp) (by simp)
  have x2 : w1.cell? ⟨w.heap.size, 2, none⟩ = some (.int .i64 x.v) := cell_next hb (by go_simp) (by simp)
  have x3 : w1.cell? ⟨w.heap.size, 3, none⟩ = some (.bool x.d) := cell_next hb (by go_simp) (by simp)
  clear hb hk h1 h2
  go_wp2_with fail
  have O1 : Hid (w1.ownsRow 0 47 4 (.slice ao m.length cap) m.length (flat m)) := own_next HO.out HB.out
  refine Calls.mono (CI.out _ k w1.heap.size HK.out.1 (own_next O1.out (bel_alloc _ _)) (heap_alloc_new w1 _) (fun e => by have := (O1.out.lt _ e).2; omega)) ?_
  rintro e w2 ⟨v', rfl, ho, hg⟩
  have HO2 : Hid (w2.ownsRow 0 47 4 v' (pt x m).length (flat (pt x m))) := by
    rw [HK.out.2] at ho
    exact own_cast ho (by rw [← HK.out.2]; simp; have := HK.out.1; omega) rfl
  have HG2 : Hid (Gro w w2 (.slice ao m.length cap) v') := (Gro.of_below HB.out).trans ((Gro.of_below (bel_alloc _ _)).trans hg)
  clear ho hg x0 x1 x2 x3
  go_wp2
  go_ret
  rw [E0.out] at HG2
  exact ⟨v', rfl, HO2.out, HG2.out⟩
end Go.Proofs.Ytlhabbdihjeidaa
