/- l02Put: a sibling is put at its place. -/
import Derived.Test.YtcmniplbiliobaaDoorRows
import Derived.WalkKit
import Derived.WalkSpells
import Derived.WalkLawsBesides
import Derived.Deep.QuietTactic
import Derived.BigQuiet
import Derived.Deep.RegionHeld3
import Derived.Test.YtcmniplbiliobaaDoorFp
import Derived.LoopN
namespace Go.Proofs.YtcmniplbiliobaaDoor
open Go.RowKit
set_option linter.unusedSimpArgs false
set_option linter.unusedVariables false

set_option maxHeartbeats 8000000 in
theorem put_any (cap : Nat) (ao : Option Addr) (l : List Sib) (x : Sib) (w : World) (hm : (l.length : Int) ≤ 1048576) (hcap : l.length ≤ cap) (hr0 : SibRow w ao l) :
    Calls Tryd.prog 80 #[.slice ao l.length cap, .agg #[.int .i64 x.p, .int .i64 x.n, .int .i64 x.v, .bool x.d]] w fun e w' => ∃ v', e = .returned v' ∧ w'.ownsRow 0 74 4 v' (pt x l).length (flat (pt x l)) ∧ Gro w w' (.slice none 0 0) v' := by
  have hr : Hid (SibRow w ao l) := hr0
  clear hr0
  obtain ⟨i0, hi, hz0, hz1, hz2⟩ := info_parts info_sib
  have HI : Hid (Tryd.prog.info? 74 = some i0 ∧ i0.zero = some (.agg #[.int .i64 0, .int .i64 0, .int .i64 0, .bool false]) ∧ i0.size = 4 ∧ i0.bytes = 32) := ⟨hi, hz0, hz1, hz2⟩
  clear hi hz0 hz1 hz2
  go_enter Tryd.func80, Tryd.ntmps80
  go_wp2
  go_loopw [5] (fun s5 wr => ∃ k : Nat, k ≤ l.length ∧ s5 = .int .i64 k ∧ Below w.heap.size w wr ∧ (∀ i (h : i < l.length), i < k → dotsI l[i].p l[i].n x.p x.n < 0) ∧ w.heap.size < wr.heap.size ∧ wr.cell? ⟨w.heap.size, 0, none⟩ = some (.int .i64 x.p) ∧ wr.cell? ⟨w.heap.size, 1, none⟩ = some (.int .i64 x.n) ∧ wr.cell? ⟨w.heap.size, 2, none⟩ = some (.int .i64 x.v) ∧ wr.cell? ⟨w.heap.size, 3, none⟩ = some (.bool x.d)) (fun s5 _ => l.length - (intOf s5).toNat)
  case atStart => exact ⟨0, by omega, rfl, bel_alloc _ _, fun i h h' => by omega, by simp, by go_simp, by go_simp, by go_simp, by go_simp⟩
  case round =>
    obtain ⟨k, hk, rfl, hB0, hG0, hz, D0, D1, D2, D3⟩ := hrel
    have HB0 : Hid (Below w.heap.size w wr) := hB0
    have hG : Hid (∀ i (h : i < l.length), i < k → dotsI l[i].p l[i].n x.p x.n < 0) := hG0
    have hR : Hid (SibRow wr ao l) := hr.out.next hB0
    have kk : (0 : Int) ≤ (k : Int) := by omega
    clear hB0 hG0
    by_cases hkl : k < l.length
    · have hkl' : (k : Int) < (l.length : Int) := by omega
      rcases hR.out with h' | ⟨q, off, rfl, h2⟩
      · rw [h'] at hkl; simp at hkl
      obtain ⟨x0, x1, x2, x3⟩ := h2 k hkl
      clear h2 x2 x3
      cases hd : decide (dotsI l[k].p l[k].n x.p x.n < 0)
      · have HPT : Hid (l.take k ++ x :: l.drop k = pt x l) := pt_at x l k hk hG.out (fun _ => of_decide_eq_false hd)
        go_wp2
        refine wp_region_held_drew (S := (fun w' => (w'.cell? ⟨w.heap.size, 0, none⟩ = some (.int .i64 x.p) ∧ w'.cell? ⟨w.heap.size, 1, none⟩ = some (.int .i64 x.n) ∧ w'.cell? ⟨w.heap.size, 2, none⟩ = some (.int .i64 x.v) ∧ w'.cell? ⟨w.heap.size, 3, none⟩ = some (.bool x.d)) ∧ w'.cell? ⟨q, off + k * 4, none⟩ = some (.int .i64 l[k].p) ∧ w'.cell? ⟨q, off + k * 4 + 1, none⟩ = some (.int .i64 l[k].n) ∧ Below wr.heap.size wr w')) (by kernel_rfl) ?_ (fun hHeld => ?_)
        · (try dsimp only)
          exact ⟨⟨D0, D1, D2, D3⟩, x0, x1, bel_drew _⟩
        refine wpAnyH_take (i := 0) (v := ?_) rfl (by kernel_rfl) (by kernel_rfl) (by kernel_rfl) (fun _ _ _ h => h) (Or.inl ⟨by rfl, ?_⟩) (by assumption) ?_
        rotate_left
        · intro w' hSw
          (try dsimp only at hSw)
          go_simp
          all_goals (try with_reducible rfl)
        (try simp only [Act.put, List.getElem_toArray, List.getElem_cons_zero, List.getElem_cons_succ, List.setIfInBounds_toArray, List.set_cons_zero, List.set_cons_succ])
        refine wpAnyH_take (i := 1) (v := ?_) rfl (by kernel_rfl) (by kernel_rfl) (by kernel_rfl) (fun _ _ _ h => h) (Or.inl ⟨by rfl, ?_⟩) (by assumption) ?_
        rotate_left
        · intro w' hSw
          (try dsimp only at hSw)
          go_simp
          all_goals (try with_reducible rfl)
        (try simp only [Act.put, List.getElem_toArray, List.getElem_cons_zero, List.getElem_cons_succ, List.setIfInBounds_toArray, List.set_cons_zero, List.set_cons_succ])
        refine wpAnyH_take (i := 2) (v := ?_) rfl (by kernel_rfl) (by kernel_rfl) (by kernel_rfl) (fun _ _ _ h => h) (Or.inl ⟨by rfl, ?_⟩) (by assumption) ?_
        rotate_left
        · intro w' hSw
          (try dsimp only at hSw)
          go_simp
          all_goals (try with_reducible rfl)
        (try simp only [Act.put, List.getElem_toArray, List.getElem_cons_zero, List.getElem_cons_succ, List.setIfInBounds_toArray, List.set_cons_zero, List.set_cons_succ])
        refine wpAnyH_take (i := 3) (v := ?_) rfl (by kernel_rfl) (by kernel_rfl) (by kernel_rfl) (fun _ _ _ h => h) (Or.inl ⟨by rfl, ?_⟩) (by assumption) ?_
        rotate_left
        · intro w' hSw
          (try dsimp only at hSw)
          go_simp
          all_goals (try with_reducible rfl)
        (try simp only [Act.put, List.getElem_toArray, List.getElem_cons_zero, List.getElem_cons_succ, List.setIfInBounds_toArray, List.set_cons_zero, List.set_cons_succ])
        refine wpAnyH_take (i := 4) (v := ?_) rfl (by kernel_rfl) (by kernel_rfl) (by kernel_rfl) (fun _ _ _ h => h) (Or.inl ⟨by rfl, ?_⟩) (by assumption) ?_
        rotate_left
        · intro w' hSw
          (try dsimp only at hSw)
          go_simp
          all_goals (try with_reducible rfl)
        (try simp only [Act.put, List.getElem_toArray, List.getElem_cons_zero, List.getElem_cons_succ, List.setIfInBounds_toArray, List.set_cons_zero, List.set_cons_succ])
        refine wpAnyH_take (i := 5) (v := ?_) rfl (by kernel_rfl) (by kernel_rfl) (by kernel_rfl) (fun _ _ _ h => h) (Or.inl ⟨by rfl, ?_⟩) (by assumption) ?_
        rotate_left
        · intro w' hSw
          (try dsimp only at hSw)
          go_simp
          all_goals (try with_reducible rfl)
        (try simp only [Act.put, List.getElem_toArray, List.getElem_cons_zero, List.getElem_cons_succ, List.setIfInBounds_toArray, List.set_cons_zero, List.set_cons_succ])
        refine wpAnyH_take (i := 6) (v := ?_) rfl (by kernel_rfl) (by kernel_rfl) (by kernel_rfl) (fun _ _ _ h => h) (Or.inl ⟨by rfl, ?_⟩) (by assumption) ?_
        rotate_left
        · intro w' hSw
          (try dsimp only at hSw)
          go_simp
          all_goals (try with_reducible rfl)
        (try simp only [Act.put, List.getElem_toArray, List.getElem_cons_zero, List.getElem_cons_succ, List.setIfInBounds_toArray, List.set_cons_zero, List.set_cons_succ])
        refine wpAnyH_take (i := 7) (v := ?_) rfl (by kernel_rfl) (by kernel_rfl) (by kernel_rfl) (fun _ _ _ h => h) (Or.inl ⟨by rfl, ?_⟩) (by assumption) ?_
        rotate_left
        · intro w' hSw
          (try dsimp only at hSw)
          go_simp
          all_goals (try with_reducible rfl)
        (try simp only [Act.put, List.getElem_toArray, List.getElem_cons_zero, List.getElem_cons_succ, List.setIfInBounds_toArray, List.set_cons_zero, List.set_cons_succ])
        refine wpAnyH_take (i := 8) (v := ?_) rfl (by kernel_rfl) (by kernel_rfl) (by kernel_rfl) (fun _ _ _ h => h) (Or.inl ⟨by rfl, ?_⟩) (by assumption) ?_
        rotate_left
        · intro w' hSw
          (try dsimp only at hSw)
          go_simp
          all_goals (try with_reducible rfl)
        (try simp only [Act.put, List.getElem_toArray, List.getElem_cons_zero, List.getElem_cons_succ, List.setIfInBounds_toArray, List.set_cons_zero, List.set_cons_succ])
        refine wpAnyH_take (i := 9) (v := ?_) rfl (by kernel_rfl) (by kernel_rfl) (by kernel_rfl) (fun _ _ _ h => h) (Or.inl ⟨by rfl, ?_⟩) (by assumption) ?_
        rotate_left
        · intro w' hSw
          (try dsimp only at hSw)
          go_simp
          all_goals (try with_reducible rfl)
        (try simp only [Act.put, List.getElem_toArray, List.getElem_cons_zero, List.getElem_cons_succ, List.setIfInBounds_toArray, List.set_cons_zero, List.set_cons_succ])
        refine wpAnyH_take (i := 10) (v := ?_) rfl (by kernel_rfl) (by kernel_rfl) (by kernel_rfl) (fun _ _ _ h => h) (Or.inl ⟨by rfl, ?_⟩) (by assumption) ?_
        rotate_left
        · intro w' hSw
          (try dsimp only at hSw)
          go_simp
          all_goals (try with_reducible rfl)
        (try simp only [Act.put, List.getElem_toArray, List.getElem_cons_zero, List.getElem_cons_succ, List.setIfInBounds_toArray, List.set_cons_zero, List.set_cons_succ])
        refine wpAnyH_take (i := 11) (v := ?_) rfl (by kernel_rfl) (by kernel_rfl) (by kernel_rfl) (fun _ _ _ h => h) (Or.inl ⟨by rfl, ?_⟩) (by assumption) ?_
        rotate_left
        · intro w' hSw
          (try dsimp only at hSw)
          go_simp
          all_goals (try with_reducible rfl)
        (try simp only [Act.put, List.getElem_toArray, List.getElem_cons_zero, List.getElem_cons_succ, List.setIfInBounds_toArray, List.set_cons_zero, List.set_cons_succ])
        refine wpAnyH_ready (rs := [12]) (by kernel_rfl) (by simp) ?_
        refine AllReadyH.cons rfl (fun K hK => ?_) AllReadyH.nil
        (try simp only [Act.put, List.getElem_toArray, List.getElem_cons_zero, List.getElem_cons_succ, List.setIfInBounds_toArray, List.set_cons_zero, List.set_cons_succ])
        go_simp
        (go_at_call 44; refine (l01dots_any l[k].p l[k].n x.p x.n _).mono ?_; rintro e w3 ⟨rfl, hb⟩)
        (try simp only [])
        refine hK.out _ _ ?_ (fun hHeld' => ?_)
        · (try dsimp only)
          exact ⟨⟨cell_next hb hHeld.1.1 (cell_lt (x := ⟨w.heap.size, 0, none⟩) hHeld.1.1), cell_next hb hHeld.1.2.1 (cell_lt (x := ⟨w.heap.size, 1, none⟩) hHeld.1.2.1), cell_next hb hHeld.1.2.2.1 (cell_lt (x := ⟨w.heap.size, 2, none⟩) hHeld.1.2.2.1), cell_next hb hHeld.1.2.2.2 (cell_lt (x := ⟨w.heap.size, 3, none⟩) hHeld.1.2.2.2)⟩, cell_next hb hHeld.2.1 (cell_lt (x := ⟨q, off + k * 4, none⟩) hHeld.2.1), cell_next hb hHeld.2.2.1 (cell_lt (x := ⟨q, off + k * 4 + 1, none⟩) hHeld.2.2.1), (bel_next hHeld.2.2.2 hb).out⟩
        clear hK K
        clear hHeld
        have hHeld := hHeld'
        clear hHeld'
        clear hb
        (try simp only [Act.put, List.getElem_toArray, List.getElem_cons_zero, List.getElem_cons_succ, List.setIfInBounds_toArray, List.set_cons_zero, List.set_cons_succ])
        refine wpAnyH_take (i := 13) (v := ?_) rfl (by kernel_rfl) (by kernel_rfl) (by kernel_rfl) (fun _ _ _ h => h) (Or.inl ⟨by rfl, ?_⟩) (by assumption) ?_
        rotate_left
        · intro w' hSw
          (try dsimp only at hSw)
          go_simp
          all_goals (try with_reducible rfl)
        (try simp only [Act.put, List.getElem_toArray, List.getElem_cons_zero, List.getElem_cons_succ, List.setIfInBounds_toArray, List.set_cons_zero, List.set_cons_succ])
        refine wpAnyH_take (i := 14) (v := ?_) rfl (by kernel_rfl) (by kernel_rfl) (by kernel_rfl) (fun _ _ _ h => h) (Or.inl ⟨by rfl, ?_⟩) (by assumption) ?_
        rotate_left
        · intro w' hSw
          (try dsimp only at hSw)
          go_simp
          all_goals (try with_reducible rfl)
        (try simp only [Act.put, List.getElem_toArray, List.getElem_cons_zero, List.getElem_cons_succ, List.setIfInBounds_toArray, List.set_cons_zero, List.set_cons_succ])
        refine wpAnyH_done (by kernel_rfl) ?_ _
        obtain ⟨⟨E0, E1, E2, E3⟩, _, _, hB3⟩ := hHeld
        replace HB0 := bel_next HB0 hB3
        have hz3 := Nat.lt_of_lt_of_le hz hB3.size
        replace hR : Hid (SibRow w3 (some ⟨q, off, none⟩) l) := hR.out.next hB3
        clear D0 D1 D2 D3 x0 x1 hd hB3
        go_wp2
        have hck : k ≤ cap := by omega
        have hck' : (k : Int) ≤ (cap : Int) := by omega
        have hkl2 : (k : Int) ≤ (l.length : Int) := by omega
        have hz := hz3
        have D0 := E0
        have D1 := E1
        have D2 := E2
        have D3 := E3
        clear E0 E1 E2 E3
        have SrcT : SrcRow w3 _ _ (l.take k) := src_take hk hR.out
        have SrcD : SrcRow w3 _ _ (l.drop k) := src_drop' hk hcap hR.out
        refine wp_region_held_drew (S := (fun w' => (w'.cell? ⟨w.heap.size, 0, none⟩ = some (.int .i64 x.p) ∧ w'.cell? ⟨w.heap.size, 1, none⟩ = some (.int .i64 x.n) ∧ w'.cell? ⟨w.heap.size, 2, none⟩ = some (.int .i64 x.v) ∧ w'.cell? ⟨w.heap.size, 3, none⟩ = some (.bool x.d)) ∧ Below w3.heap.size w3 w')) (by kernel_rfl) ?_ (fun hHeld => ?_)
        · (try dsimp only)
          exact ⟨⟨D0, D1, D2, D3⟩, bel_drew _⟩
        refine wpAnyH_take (i := 1) (v := ?_) rfl (by kernel_rfl) (by kernel_rfl) (by kernel_rfl) (fun _ _ _ h => h) (Or.inl ⟨by rfl, ?_⟩) (by assumption) ?_
        rotate_left
        · intro w' hSw
          (try dsimp only at hSw)
          go_simp
          all_goals (try with_reducible rfl)
        (try simp only [Act.put, List.getElem_toArray, List.getElem_cons_zero, List.getElem_cons_succ, List.setIfInBounds_toArray, List.set_cons_zero, List.set_cons_succ])
        refine wpAnyH_take (i := 2) (v := ?_) rfl (by kernel_rfl) (by kernel_rfl) (by kernel_rfl) (fun _ _ _ h => h) (Or.inl ⟨by rfl, ?_⟩) (by assumption) ?_
        rotate_left
        · intro w' hSw
          (try dsimp only at hSw)
          go_simp
          all_goals (try with_reducible rfl)
        (try simp only [Act.put, List.getElem_toArray, List.getElem_cons_zero, List.getElem_cons_succ, List.setIfInBounds_toArray, List.set_cons_zero, List.set_cons_succ])
        refine wpAnyH_take (i := 3) (v := ?_) rfl (by kernel_rfl) (by kernel_rfl) (by kernel_rfl) (fun _ _ _ h => h) (Or.inl ⟨by rfl, ?_⟩) (by assumption) ?_
        rotate_left
        · intro w' hSw
          (try dsimp only at hSw)
          go_simp
          all_goals (try with_reducible rfl)
        (try simp only [Act.put, List.getElem_toArray, List.getElem_cons_zero, List.getElem_cons_succ, List.setIfInBounds_toArray, List.set_cons_zero, List.set_cons_succ])
        refine wpAnyH_take (i := 8) (v := ?_) rfl (by kernel_rfl) (by kernel_rfl) (by kernel_rfl) (fun _ _ _ h => h) (Or.inl ⟨by rfl, ?_⟩) (by assumption) ?_
        rotate_left
        · intro w' hSw
          (try dsimp only at hSw)
          go_simp
          all_goals (try with_reducible rfl)
        (try simp only [Act.put, List.getElem_toArray, List.getElem_cons_zero, List.getElem_cons_succ, List.setIfInBounds_toArray, List.set_cons_zero, List.set_cons_succ])
        refine wpAnyH_take (i := 9) (v := ?_) rfl (by kernel_rfl) (by kernel_rfl) (by kernel_rfl) (fun _ _ _ h => h) (Or.inl ⟨by rfl, ?_⟩) (by assumption) ?_
        rotate_left
        · intro w' hSw
          (try dsimp only at hSw)
          go_simp
          all_goals (try with_reducible rfl)
        (try simp only [Act.put, List.getElem_toArray, List.getElem_cons_zero, List.getElem_cons_succ, List.setIfInBounds_toArray, List.set_cons_zero, List.set_cons_succ])
        refine wpAnyH_take (i := 10) (v := ?_) rfl (by kernel_rfl) (by kernel_rfl) (by kernel_rfl) (fun _ _ _ h => h) (Or.inl ⟨by rfl, ?_⟩) (by assumption) ?_
        rotate_left
        · intro w' hSw
          (try dsimp only at hSw)
          go_simp
          all_goals (try with_reducible rfl)
        (try simp only [Act.put, List.getElem_toArray, List.getElem_cons_zero, List.getElem_cons_succ, List.setIfInBounds_toArray, List.set_cons_zero, List.set_cons_succ])
        refine wpAnyH_take (i := 5) (v := ?_) rfl (by kernel_rfl) (by kernel_rfl) (by kernel_rfl) (fun _ _ _ h => h) (Or.inl ⟨by rfl, ?_⟩) (by assumption) ?_
        rotate_left
        · intro w' hSw
          (try dsimp only at hSw)
          go_simp
          all_goals (try with_reducible rfl)
        (try simp only [Act.put, List.getElem_toArray, List.getElem_cons_zero, List.getElem_cons_succ, List.setIfInBounds_toArray, List.set_cons_zero, List.set_cons_succ])
        have HBs : Below w3.heap.size w3 w3.drew := bel_drew _
        refine wpAnyH_ready (rs := [0, 6]) (by kernel_rfl) (by simp) ?_
        refine AllReadyH.cons rfl (fun K hK => ?_) (AllReadyH.cons rfl (fun K hK => ?_) AllReadyH.nil)
        · (try simp only [Act.put, List.getElem_toArray, List.getElem_cons_zero, List.getElem_cons_succ, List.setIfInBounds_toArray, List.set_cons_zero, List.set_cons_succ])
          go_simp
          (try simp only [])
          have OW11 : Own w3 ((w3.drew).alloc (.cells #[] 74)) 74 (.slice (some ⟨w3.heap.size, 0, none⟩) 0 0) 0 [] := by simpa using Own.lit (e := 74) HBs
          have HBn : Below w3.heap.size w3 ((w3.drew).alloc (.cells #[] 74)) := HBs.trans ((bel_alloc _ _).mono HBs.size)
          refine hK.out _ _ ?_ (fun hHeld' => ?_)
          · (try dsimp only)
            exact ⟨⟨cell_next HBn D0 hz, cell_next HBn D1 hz, cell_next HBn D2 hz, cell_next HBn D3 hz⟩, HBn⟩
          clear hK K
          clear hHeld
          have hHeld := hHeld'
          clear hHeld'
          have HB11 : Below w3.heap.size w3 ((w3.drew).alloc (.cells #[] 74)) := HBn
          clear HBn
          (try simp only [Act.put, List.getElem_toArray, List.getElem_cons_zero, List.getElem_cons_succ, List.setIfInBounds_toArray, List.set_cons_zero, List.set_cons_succ])
          refine wpAnyH_ready (rs := [4, 6]) (by kernel_rfl) (by simp) ?_
          refine AllReadyH.cons rfl (fun K hK => ?_) (AllReadyH.cons rfl (fun K hK => ?_) AllReadyH.nil)
          · rw [if_pos (by rfl)]
            refine wp_append3 (.tmp 23) (.tmp 26) 29 rfl 74 i0 (.agg #[.int .i64 0, .int .i64 0, .int .i64 0, .bool false]) 32 Tryd.underlying29 HI.out.1 HI.out.2.1 HI.out.2.2.1 HI.out.2.2.2 rfl (.slice (some ⟨w3.heap.size, 0, none⟩) 0 0) _ _ rfl OW11.1 _ _ _ _ rfl (SrcT.next HB11) (by unfold maxLen; (try simp); (try omega)) (by (try simp); (try omega)) ?_
            intro v12 w12 ho hg
            have OW12 := OW11.app ho hg
            have HBn := OW12.2.1
            clear ho hg
            refine hK.out _ _ ?_ (fun hHeld' => ?_)
            · (try dsimp only)
              exact ⟨⟨cell_next HBn D0 hz, cell_next HBn D1 hz, cell_next HBn D2 hz, cell_next HBn D3 hz⟩, HBn⟩
            clear hK K
            clear hHeld
            have hHeld := hHeld'
            clear hHeld'
            have HB12 : Below w3.heap.size w3 (w12) := HBn
            clear HBn
            (try simp only [Act.put, List.getElem_toArray, List.getElem_cons_zero, List.getElem_cons_succ, List.setIfInBounds_toArray, List.set_cons_zero, List.set_cons_succ])
            refine wpAnyH_ready (rs := [6]) (by kernel_rfl) (by simp) ?_
            refine AllReadyH.cons rfl (fun K hK => ?_) AllReadyH.nil
            (try simp only [Act.put, List.getElem_toArray, List.getElem_cons_zero, List.getElem_cons_succ, List.setIfInBounds_toArray, List.set_cons_zero, List.set_cons_succ])
            go_simp
            (try simp only [])
            have OW13 := OW12.step (bel_alloc _ ((.cells #[.int .i64 x.p, .int .i64 x.n, .int .i64 x.v, .bool x.d] 74)))
            have SO13 : SrcRow ((w12).alloc (.cells #[.int .i64 x.p, .int .i64 x.n, .int .i64 x.v, .bool x.d] 74)) (some ⟨w12.heap.size, 0, none⟩) 1 [x] := by simpa using (src_one (W := w12) (x := x) (t := 74))
            have HBn : Below w3.heap.size w3 ((w12).alloc (.cells #[.int .i64 x.p, .int .i64 x.n, .int .i64 x.v, .bool x.d] 74)) := HB12.trans ((bel_alloc _ _).mono HB12.size)
            refine hK.out _ _ ?_ (fun hHeld' => ?_)
            · (try dsimp only)
              exact ⟨⟨cell_next HBn D0 hz, cell_next HBn D1 hz, cell_next HBn D2 hz, cell_next HBn D3 hz⟩, HBn⟩
            clear hK K
            clear hHeld
            have hHeld := hHeld'
            clear hHeld'
            have HB13 : Below w3.heap.size w3 ((w12).alloc (.cells #[.int .i64 x.p, .int .i64 x.n, .int .i64 x.v, .bool x.d] 74)) := HBn
            clear HBn
            (try simp only [Act.put, List.getElem_toArray, List.getElem_cons_zero, List.getElem_cons_succ, List.setIfInBounds_toArray, List.set_cons_zero, List.set_cons_succ])
            refine wpAnyH_ready (rs := [7]) (by kernel_rfl) (by simp) ?_
            refine AllReadyH.cons rfl (fun K hK => ?_) AllReadyH.nil
            rw [if_pos (by rfl)]
            refine wp_append3 (.tmp 27) (.tmp 29) 29 rfl 74 i0 (.agg #[.int .i64 0, .int .i64 0, .int .i64 0, .bool false]) 32 Tryd.underlying29 HI.out.1 HI.out.2.1 HI.out.2.2.1 HI.out.2.2.2 rfl v12 _ _ rfl OW13.1 _ _ _ _ rfl SO13 (by unfold maxLen; (try simp); (try omega)) (by (try simp); (try omega)) ?_
            intro v14 w14 ho hg
            have OW14 := OW13.app ho hg
            have HBn := OW14.2.1
            clear ho hg
            refine hK.out _ _ ?_ (fun hHeld' => ?_)
            · (try dsimp only)
              exact ⟨⟨cell_next HBn D0 hz, cell_next HBn D1 hz, cell_next HBn D2 hz, cell_next HBn D3 hz⟩, HBn⟩
            clear hK K
            clear hHeld
            have hHeld := hHeld'
            clear hHeld'
            have HB14 : Below w3.heap.size w3 (w14) := HBn
            clear HBn
            (try simp only [Act.put, List.getElem_toArray, List.getElem_cons_zero, List.getElem_cons_succ, List.setIfInBounds_toArray, List.set_cons_zero, List.set_cons_succ])
            refine wpAnyH_ready (rs := [11]) (by kernel_rfl) (by simp) ?_
            refine AllReadyH.cons rfl (fun K hK => ?_) AllReadyH.nil
            rw [if_pos (by rfl)]
            refine wp_append3 (.tmp 30) (.tmp 33) 29 rfl 74 i0 (.agg #[.int .i64 0, .int .i64 0, .int .i64 0, .bool false]) 32 Tryd.underlying29 HI.out.1 HI.out.2.1 HI.out.2.2.1 HI.out.2.2.2 rfl v14 _ _ rfl OW14.1 _ _ _ _ rfl (SrcD.next HB14) (by unfold maxLen; (try simp); (try omega)) (by (try simp); (try omega)) ?_
            intro v15 w15 ho hg
            have OW15 := OW14.app ho hg
            have HBn := OW15.2.1
            clear ho hg
            refine hK.out _ _ ?_ (fun hHeld' => ?_)
            · (try dsimp only)
              exact ⟨⟨cell_next HBn D0 hz, cell_next HBn D1 hz, cell_next HBn D2 hz, cell_next HBn D3 hz⟩, HBn⟩
            clear hK K
            clear hHeld
            have hHeld := hHeld'
            clear hHeld'
            have HB15 : Below w3.heap.size w3 (w15) := HBn
            clear HBn
            (try simp only [Act.put, List.getElem_toArray, List.getElem_cons_zero, List.getElem_cons_succ, List.setIfInBounds_toArray, List.set_cons_zero, List.set_cons_succ])
            refine wpAnyH_take (i := 12) (v := ?_) rfl (by kernel_rfl) (by kernel_rfl) (by kernel_rfl) (fun _ _ _ h => h) (Or.inl ⟨by rfl, ?_⟩) (by assumption) ?_
            rotate_left
            · intro w' hSw
              (try dsimp only at hSw)
              go_simp
              all_goals (try with_reducible rfl)
            (try simp only [Act.put, List.getElem_toArray, List.getElem_cons_zero, List.getElem_cons_succ, List.setIfInBounds_toArray, List.set_cons_zero, List.set_cons_succ])
            refine wpAnyH_done (by kernel_rfl) ?_ _
            have O9 : Hid (Own w3 w15 74 v15 _ _) := OW15
            clear hHeld D0 D1 D2 D3
            go_wp2
            all_goals go_ret
            all_goals exact ⟨_, rfl, own_cast O9.out.1 (by rw [← HPT.out]; (try simp); (try omega)) (by rw [← HPT.out]; simp [flat_append, flat]), (Gro.of_below HB0.out).trans O9.out.gro⟩
          · (try simp only [Act.put, List.getElem_toArray, List.getElem_cons_zero, List.getElem_cons_succ, List.setIfInBounds_toArray, List.set_cons_zero, List.set_cons_succ])
            go_simp
            (try simp only [])
            have OW12 := OW11.step (bel_alloc _ ((.cells #[.int .i64 x.p, .int .i64 x.n, .int .i64 x.v, .bool x.d] 74)))
            have SO12 : SrcRow (((w3.drew).alloc (.cells #[] 74)).alloc (.cells #[.int .i64 x.p, .int .i64 x.n, .int .i64 x.v, .bool x.d] 74)) (some ⟨w3.heap.size + 1, 0, none⟩) 1 [x] := by simpa using (src_one (W := (w3.drew).alloc (.cells #[] 74)) (x := x) (t := 74))
            have HBn : Below w3.heap.size w3 (((w3.drew).alloc (.cells #[] 74)).alloc (.cells #[.int .i64 x.p, .int .i64 x.n, .int .i64 x.v, .bool x.d] 74)) := HB11.trans ((bel_alloc _ _).mono HB11.size)
            refine hK.out _ _ ?_ (fun hHeld' => ?_)
            · (try dsimp only)
              exact ⟨⟨cell_next HBn D0 hz, cell_next HBn D1 hz, cell_next HBn D2 hz, cell_next HBn D3 hz⟩, HBn⟩
            clear hK K
            clear hHeld
            have hHeld := hHeld'
            clear hHeld'
            have HB12 : Below w3.heap.size w3 (((w3.drew).alloc (.cells #[] 74)).alloc (.cells #[.int .i64 x.p, .int .i64 x.n, .int .i64 x.v, .bool x.d] 74)) := HBn
            clear HBn
            (try simp only [Act.put, List.getElem_toArray, List.getElem_cons_zero, List.getElem_cons_succ, List.setIfInBounds_toArray, List.set_cons_zero, List.set_cons_succ])
            refine wpAnyH_ready (rs := [4]) (by kernel_rfl) (by simp) ?_
            refine AllReadyH.cons rfl (fun K hK => ?_) AllReadyH.nil
            rw [if_pos (by rfl)]
            refine wp_append3 (.tmp 23) (.tmp 26) 29 rfl 74 i0 (.agg #[.int .i64 0, .int .i64 0, .int .i64 0, .bool false]) 32 Tryd.underlying29 HI.out.1 HI.out.2.1 HI.out.2.2.1 HI.out.2.2.2 rfl (.slice (some ⟨w3.heap.size, 0, none⟩) 0 0) _ _ rfl OW12.1 _ _ _ _ rfl (SrcT.next HB12) (by unfold maxLen; (try simp); (try omega)) (by (try simp); (try omega)) ?_
            intro v13 w13 ho hg
            have OW13 := OW12.app ho hg
            have SO13 := src_gro SO12 hg (by simp [Value.ownBlock])
            have HBn := OW13.2.1
            clear ho hg
            refine hK.out _ _ ?_ (fun hHeld' => ?_)
            · (try dsimp only)
              exact ⟨⟨cell_next HBn D0 hz, cell_next HBn D1 hz, cell_next HBn D2 hz, cell_next HBn D3 hz⟩, HBn⟩
            clear hK K
            clear hHeld
            have hHeld := hHeld'
            clear hHeld'
            have HB13 : Below w3.heap.size w3 (w13) := HBn
            clear HBn
            (try simp only [Act.put, List.getElem_toArray, List.getElem_cons_zero, List.getElem_cons_succ, List.setIfInBounds_toArray, List.set_cons_zero, List.set_cons_succ])
            refine wpAnyH_ready (rs := [7]) (by kernel_rfl) (by simp) ?_
            refine AllReadyH.cons rfl (fun K hK => ?_) AllReadyH.nil
            rw [if_pos (by rfl)]
            refine wp_append3 (.tmp 27) (.tmp 29) 29 rfl 74 i0 (.agg #[.int .i64 0, .int .i64 0, .int .i64 0, .bool false]) 32 Tryd.underlying29 HI.out.1 HI.out.2.1 HI.out.2.2.1 HI.out.2.2.2 rfl v13 _ _ rfl OW13.1 _ _ _ _ rfl SO13 (by unfold maxLen; (try simp); (try omega)) (by (try simp); (try omega)) ?_
            intro v14 w14 ho hg
            have OW14 := OW13.app ho hg
            have HBn := OW14.2.1
            clear ho hg
            refine hK.out _ _ ?_ (fun hHeld' => ?_)
            · (try dsimp only)
              exact ⟨⟨cell_next HBn D0 hz, cell_next HBn D1 hz, cell_next HBn D2 hz, cell_next HBn D3 hz⟩, HBn⟩
            clear hK K
            clear hHeld
            have hHeld := hHeld'
            clear hHeld'
            have HB14 : Below w3.heap.size w3 (w14) := HBn
            clear HBn
            (try simp only [Act.put, List.getElem_toArray, List.getElem_cons_zero, List.getElem_cons_succ, List.setIfInBounds_toArray, List.set_cons_zero, List.set_cons_succ])
            refine wpAnyH_ready (rs := [11]) (by kernel_rfl) (by simp) ?_
            refine AllReadyH.cons rfl (fun K hK => ?_) AllReadyH.nil
            rw [if_pos (by rfl)]
            refine wp_append3 (.tmp 30) (.tmp 33) 29 rfl 74 i0 (.agg #[.int .i64 0, .int .i64 0, .int .i64 0, .bool false]) 32 Tryd.underlying29 HI.out.1 HI.out.2.1 HI.out.2.2.1 HI.out.2.2.2 rfl v14 _ _ rfl OW14.1 _ _ _ _ rfl (SrcD.next HB14) (by unfold maxLen; (try simp); (try omega)) (by (try simp); (try omega)) ?_
            intro v15 w15 ho hg
            have OW15 := OW14.app ho hg
            have HBn := OW15.2.1
            clear ho hg
            refine hK.out _ _ ?_ (fun hHeld' => ?_)
            · (try dsimp only)
              exact ⟨⟨cell_next HBn D0 hz, cell_next HBn D1 hz, cell_next HBn D2 hz, cell_next HBn D3 hz⟩, HBn⟩
            clear hK K
            clear hHeld
            have hHeld := hHeld'
            clear hHeld'
            have HB15 : Below w3.heap.size w3 (w15) := HBn
            clear HBn
            (try simp only [Act.put, List.getElem_toArray, List.getElem_cons_zero, List.getElem_cons_succ, List.setIfInBounds_toArray, List.set_cons_zero, List.set_cons_succ])
            refine wpAnyH_take (i := 12) (v := ?_) rfl (by kernel_rfl) (by kernel_rfl) (by kernel_rfl) (fun _ _ _ h => h) (Or.inl ⟨by rfl, ?_⟩) (by assumption) ?_
            rotate_left
            · intro w' hSw
              (try dsimp only at hSw)
              go_simp
              all_goals (try with_reducible rfl)
            (try simp only [Act.put, List.getElem_toArray, List.getElem_cons_zero, List.getElem_cons_succ, List.setIfInBounds_toArray, List.set_cons_zero, List.set_cons_succ])
            refine wpAnyH_done (by kernel_rfl) ?_ _
            have O9 : Hid (Own w3 w15 74 v15 _ _) := OW15
            clear hHeld D0 D1 D2 D3
            go_wp2
            all_goals go_ret
            all_goals exact ⟨_, rfl, own_cast O9.out.1 (by rw [← HPT.out]; (try simp); (try omega)) (by rw [← HPT.out]; simp [flat_append, flat]), (Gro.of_below HB0.out).trans O9.out.gro⟩
        · (try simp only [Act.put, List.getElem_toArray, List.getElem_cons_zero, List.getElem_cons_succ, List.setIfInBounds_toArray, List.set_cons_zero, List.set_cons_succ])
          go_simp
          (try simp only [])
          have SO11 : SrcRow ((w3.drew).alloc (.cells #[.int .i64 x.p, .int .i64 x.n, .int .i64 x.v, .bool x.d] 74)) (some ⟨w3.heap.size, 0, none⟩) 1 [x] := by simpa using (src_one (W := w3.drew) (x := x) (t := 74))
          have HBn : Below w3.heap.size w3 ((w3.drew).alloc (.cells #[.int .i64 x.p, .int .i64 x.n, .int .i64 x.v, .bool x.d] 74)) := HBs.trans ((bel_alloc _ _).mono HBs.size)
          refine hK.out _ _ ?_ (fun hHeld' => ?_)
          · (try dsimp only)
            exact ⟨⟨cell_next HBn D0 hz, cell_next HBn D1 hz, cell_next HBn D2 hz, cell_next HBn D3 hz⟩, HBn⟩
          clear hK K
          clear hHeld
          have hHeld := hHeld'
          clear hHeld'
          have HB11 : Below w3.heap.size w3 ((w3.drew).alloc (.cells #[.int .i64 x.p, .int .i64 x.n, .int .i64 x.v, .bool x.d] 74)) := HBn
          clear HBn
          (try simp only [Act.put, List.getElem_toArray, List.getElem_cons_zero, List.getElem_cons_succ, List.setIfInBounds_toArray, List.set_cons_zero, List.set_cons_succ])
          refine wpAnyH_ready (rs := [0]) (by kernel_rfl) (by simp) ?_
          refine AllReadyH.cons rfl (fun K hK => ?_) AllReadyH.nil
          (try simp only [Act.put, List.getElem_toArray, List.getElem_cons_zero, List.getElem_cons_succ, List.setIfInBounds_toArray, List.set_cons_zero, List.set_cons_succ])
          go_simp
          (try simp only [])
          have OW12 : Own w3 (((w3.drew).alloc (.cells #[.int .i64 x.p, .int .i64 x.n, .int .i64 x.v, .bool x.d] 74)).alloc (.cells #[] 74)) 74 (.slice (some ⟨w3.heap.size + 1, 0, none⟩) 0 0) 0 [] := by simpa using Own.lit (e := 74) HB11
          have SO12 := SO11.next (bel_alloc _ ((.cells #[] 74)))
          have HBn : Below w3.heap.size w3 (((w3.drew).alloc (.cells #[.int .i64 x.p, .int .i64 x.n, .int .i64 x.v, .bool x.d] 74)).alloc (.cells #[] 74)) := HB11.trans ((bel_alloc _ _).mono HB11.size)
          refine hK.out _ _ ?_ (fun hHeld' => ?_)
          · (try dsimp only)
            exact ⟨⟨cell_next HBn D0 hz, cell_next HBn D1 hz, cell_next HBn D2 hz, cell_next HBn D3 hz⟩, HBn⟩
          clear hK K
          clear hHeld
          have hHeld := hHeld'
          clear hHeld'
          have HB12 : Below w3.heap.size w3 (((w3.drew).alloc (.cells #[.int .i64 x.p, .int .i64 x.n, .int .i64 x.v, .bool x.d] 74)).alloc (.cells #[] 74)) := HBn
          clear HBn
          (try simp only [Act.put, List.getElem_toArray, List.getElem_cons_zero, List.getElem_cons_succ, List.setIfInBounds_toArray, List.set_cons_zero, List.set_cons_succ])
          refine wpAnyH_ready (rs := [4]) (by kernel_rfl) (by simp) ?_
          refine AllReadyH.cons rfl (fun K hK => ?_) AllReadyH.nil
          rw [if_pos (by rfl)]
          refine wp_append3 (.tmp 23) (.tmp 26) 29 rfl 74 i0 (.agg #[.int .i64 0, .int .i64 0, .int .i64 0, .bool false]) 32 Tryd.underlying29 HI.out.1 HI.out.2.1 HI.out.2.2.1 HI.out.2.2.2 rfl (.slice (some ⟨w3.heap.size + 1, 0, none⟩) 0 0) _ _ rfl OW12.1 _ _ _ _ rfl (SrcT.next HB12) (by unfold maxLen; (try simp); (try omega)) (by (try simp); (try omega)) ?_
          intro v13 w13 ho hg
          have OW13 := OW12.app ho hg
          have SO13 := src_gro SO12 hg (by simp [Value.ownBlock])
          have HBn := OW13.2.1
          clear ho hg
          refine hK.out _ _ ?_ (fun hHeld' => ?_)
          · (try dsimp only)
            exact ⟨⟨cell_next HBn D0 hz, cell_next HBn D1 hz, cell_next HBn D2 hz, cell_next HBn D3 hz⟩, HBn⟩
          clear hK K
          clear hHeld
          have hHeld := hHeld'
          clear hHeld'
          have HB13 : Below w3.heap.size w3 (w13) := HBn
          clear HBn
          (try simp only [Act.put, List.getElem_toArray, List.getElem_cons_zero, List.getElem_cons_succ, List.setIfInBounds_toArray, List.set_cons_zero, List.set_cons_succ])
          refine wpAnyH_ready (rs := [7]) (by kernel_rfl) (by simp) ?_
          refine AllReadyH.cons rfl (fun K hK => ?_) AllReadyH.nil
          rw [if_pos (by rfl)]
          refine wp_append3 (.tmp 27) (.tmp 29) 29 rfl 74 i0 (.agg #[.int .i64 0, .int .i64 0, .int .i64 0, .bool false]) 32 Tryd.underlying29 HI.out.1 HI.out.2.1 HI.out.2.2.1 HI.out.2.2.2 rfl v13 _ _ rfl OW13.1 _ _ _ _ rfl SO13 (by unfold maxLen; (try simp); (try omega)) (by (try simp); (try omega)) ?_
          intro v14 w14 ho hg
          have OW14 := OW13.app ho hg
          have HBn := OW14.2.1
          clear ho hg
          refine hK.out _ _ ?_ (fun hHeld' => ?_)
          · (try dsimp only)
            exact ⟨⟨cell_next HBn D0 hz, cell_next HBn D1 hz, cell_next HBn D2 hz, cell_next HBn D3 hz⟩, HBn⟩
          clear hK K
          clear hHeld
          have hHeld := hHeld'
          clear hHeld'
          have HB14 : Below w3.heap.size w3 (w14) := HBn
          clear HBn
          (try simp only [Act.put, List.getElem_toArray, List.getElem_cons_zero, List.getElem_cons_succ, List.setIfInBounds_toArray, List.set_cons_zero, List.set_cons_succ])
          refine wpAnyH_ready (rs := [11]) (by kernel_rfl) (by simp) ?_
          refine AllReadyH.cons rfl (fun K hK => ?_) AllReadyH.nil
          rw [if_pos (by rfl)]
          refine wp_append3 (.tmp 30) (.tmp 33) 29 rfl 74 i0 (.agg #[.int .i64 0, .int .i64 0, .int .i64 0, .bool false]) 32 Tryd.underlying29 HI.out.1 HI.out.2.1 HI.out.2.2.1 HI.out.2.2.2 rfl v14 _ _ rfl OW14.1 _ _ _ _ rfl (SrcD.next HB14) (by unfold maxLen; (try simp); (try omega)) (by (try simp); (try omega)) ?_
          intro v15 w15 ho hg
          have OW15 := OW14.app ho hg
          have HBn := OW15.2.1
          clear ho hg
          refine hK.out _ _ ?_ (fun hHeld' => ?_)
          · (try dsimp only)
            exact ⟨⟨cell_next HBn D0 hz, cell_next HBn D1 hz, cell_next HBn D2 hz, cell_next HBn D3 hz⟩, HBn⟩
          clear hK K
          clear hHeld
          have hHeld := hHeld'
          clear hHeld'
          have HB15 : Below w3.heap.size w3 (w15) := HBn
          clear HBn
          (try simp only [Act.put, List.getElem_toArray, List.getElem_cons_zero, List.getElem_cons_succ, List.setIfInBounds_toArray, List.set_cons_zero, List.set_cons_succ])
          refine wpAnyH_take (i := 12) (v := ?_) rfl (by kernel_rfl) (by kernel_rfl) (by kernel_rfl) (fun _ _ _ h => h) (Or.inl ⟨by rfl, ?_⟩) (by assumption) ?_
          rotate_left
          · intro w' hSw
            (try dsimp only at hSw)
            go_simp
            all_goals (try with_reducible rfl)
          (try simp only [Act.put, List.getElem_toArray, List.getElem_cons_zero, List.getElem_cons_succ, List.setIfInBounds_toArray, List.set_cons_zero, List.set_cons_succ])
          refine wpAnyH_done (by kernel_rfl) ?_ _
          have O9 : Hid (Own w3 w15 74 v15 _ _) := OW15
          clear hHeld D0 D1 D2 D3
          go_wp2
          all_goals go_ret
          all_goals exact ⟨_, rfl, own_cast O9.out.1 (by rw [← HPT.out]; (try simp); (try omega)) (by rw [← HPT.out]; simp [flat_append, flat]), (Gro.of_below HB0.out).trans O9.out.gro⟩
      · have hG1 : Hid (∀ i (h : i < l.length), i < k + 1 → dotsI l[i].p l[i].n x.p x.n < 0) := fun i h h3 => by
          by_cases e : i = k
          · subst e; exact of_decide_eq_true hd
          · exact hG.out i h (by omega)
        go_wp2
        refine wp_region_held_drew (S := (fun w' => (w'.cell? ⟨w.heap.size, 0, none⟩ = some (.int .i64 x.p) ∧ w'.cell? ⟨w.heap.size, 1, none⟩ = some (.int .i64 x.n) ∧ w'.cell? ⟨w.heap.size, 2, none⟩ = some (.int .i64 x.v) ∧ w'.cell? ⟨w.heap.size, 3, none⟩ = some (.bool x.d)) ∧ w'.cell? ⟨q, off + k * 4, none⟩ = some (.int .i64 l[k].p) ∧ w'.cell? ⟨q, off + k * 4 + 1, none⟩ = some (.int .i64 l[k].n) ∧ Below wr.heap.size wr w')) (by kernel_rfl) ?_ (fun hHeld => ?_)
        · (try dsimp only)
          exact ⟨⟨D0, D1, D2, D3⟩, x0, x1, bel_drew _⟩
        refine wpAnyH_take (i := 0) (v := ?_) rfl (by kernel_rfl) (by kernel_rfl) (by kernel_rfl) (fun _ _ _ h => h) (Or.inl ⟨by rfl, ?_⟩) (by assumption) ?_
        rotate_left
        · intro w' hSw
          (try dsimp only at hSw)
          go_simp
          all_goals (try with_reducible rfl)
        (try simp only [Act.put, List.getElem_toArray, List.getElem_cons_zero, List.getElem_cons_succ, List.setIfInBounds_toArray, List.set_cons_zero, List.set_cons_succ])
        refine wpAnyH_take (i := 1) (v := ?_) rfl (by kernel_rfl) (by kernel_rfl) (by kernel_rfl) (fun _ _ _ h => h) (Or.inl ⟨by rfl, ?_⟩) (by assumption) ?_
        rotate_left
        · intro w' hSw
          (try dsimp only at hSw)
          go_simp
          all_goals (try with_reducible rfl)
        (try simp only [Act.put, List.getElem_toArray, List.getElem_cons_zero, List.getElem_cons_succ, List.setIfInBounds_toArray, List.set_cons_zero, List.set_cons_succ])
        refine wpAnyH_take (i := 2) (v := ?_) rfl (by kernel_rfl) (by kernel_rfl) (by kernel_rfl) (fun _ _ _ h => h) (Or.inl ⟨by rfl, ?_⟩) (by assumption) ?_
        rotate_left
        · intro w' hSw
          (try dsimp only at hSw)
          go_simp
          all_goals (try with_reducible rfl)
        (try simp only [Act.put, List.getElem_toArray, List.getElem_cons_zero, List.getElem_cons_succ, List.setIfInBounds_toArray, List.set_cons_zero, List.set_cons_succ])
        refine wpAnyH_take (i := 3) (v := ?_) rfl (by kernel_rfl) (by kernel_rfl) (by kernel_rfl) (fun _ _ _ h => h) (Or.inl ⟨by rfl, ?_⟩) (by assumption) ?_
        rotate_left
        · intro w' hSw
          (try dsimp only at hSw)
          go_simp
          all_goals (try with_reducible rfl)
        (try simp only [Act.put, List.getElem_toArray, List.getElem_cons_zero, List.getElem_cons_succ, List.setIfInBounds_toArray, List.set_cons_zero, List.set_cons_succ])
        refine wpAnyH_take (i := 4) (v := ?_) rfl (by kernel_rfl) (by kernel_rfl) (by kernel_rfl) (fun _ _ _ h => h) (Or.inl ⟨by rfl, ?_⟩) (by assumption) ?_
        rotate_left
        · intro w' hSw
          (try dsimp only at hSw)
          go_simp
          all_goals (try with_reducible rfl)
        (try simp only [Act.put, List.getElem_toArray, List.getElem_cons_zero, List.getElem_cons_succ, List.setIfInBounds_toArray, List.set_cons_zero, List.set_cons_succ])
        refine wpAnyH_take (i := 5) (v := ?_) rfl (by kernel_rfl) (by kernel_rfl) (by kernel_rfl) (fun _ _ _ h => h) (Or.inl ⟨by rfl, ?_⟩) (by assumption) ?_
        rotate_left
        · intro w' hSw
          (try dsimp only at hSw)
          go_simp
          all_goals (try with_reducible rfl)
        (try simp only [Act.put, List.getElem_toArray, List.getElem_cons_zero, List.getElem_cons_succ, List.setIfInBounds_toArray, List.set_cons_zero, List.set_cons_succ])
        refine wpAnyH_take (i := 6) (v := ?_) rfl (by kernel_rfl) (by kernel_rfl) (by kernel_rfl) (fun _ _ _ h => h) (Or.inl ⟨by rfl, ?_⟩) (by assumption) ?_
        rotate_left
        · intro w' hSw
          (try dsimp only at hSw)
          go_simp
          all_goals (try with_reducible rfl)
        (try simp only [Act.put, List.getElem_toArray, List.getElem_cons_zero, List.getElem_cons_succ, List.setIfInBounds_toArray, List.set_cons_zero, List.set_cons_succ])
        refine wpAnyH_take (i := 7) (v := ?_) rfl (by kernel_rfl) (by kernel_rfl) (by kernel_rfl) (fun _ _ _ h => h) (Or.inl ⟨by rfl, ?_⟩) (by assumption) ?_
        rotate_left
        · intro w' hSw
          (try dsimp only at hSw)
          go_simp
          all_goals (try with_reducible rfl)
        (try simp only [Act.put, List.getElem_toArray, List.getElem_cons_zero, List.getElem_cons_succ, List.setIfInBounds_toArray, List.set_cons_zero, List.set_cons_succ])
        refine wpAnyH_take (i := 8) (v := ?_) rfl (by kernel_rfl) (by kernel_rfl) (by kernel_rfl) (fun _ _ _ h => h) (Or.inl ⟨by rfl, ?_⟩) (by assumption) ?_
        rotate_left
        · intro w' hSw
          (try dsimp only at hSw)
          go_simp
          all_goals (try with_reducible rfl)
        (try simp only [Act.put, List.getElem_toArray, List.getElem_cons_zero, List.getElem_cons_succ, List.setIfInBounds_toArray, List.set_cons_zero, List.set_cons_succ])
        refine wpAnyH_take (i := 9) (v := ?_) rfl (by kernel_rfl) (by kernel_rfl) (by kernel_rfl) (fun _ _ _ h => h) (Or.inl ⟨by rfl, ?_⟩) (by assumption) ?_
        rotate_left
        · intro w' hSw
          (try dsimp only at hSw)
          go_simp
          all_goals (try with_reducible rfl)
        (try simp only [Act.put, List.getElem_toArray, List.getElem_cons_zero, List.getElem_cons_succ, List.setIfInBounds_toArray, List.set_cons_zero, List.set_cons_succ])
        refine wpAnyH_take (i := 10) (v := ?_) rfl (by kernel_rfl) (by kernel_rfl) (by kernel_rfl) (fun _ _ _ h => h) (Or.inl ⟨by rfl, ?_⟩) (by assumption) ?_
        rotate_left
        · intro w' hSw
          (try dsimp only at hSw)
          go_simp
          all_goals (try with_reducible rfl)
        (try simp only [Act.put, List.getElem_toArray, List.getElem_cons_zero, List.getElem_cons_succ, List.setIfInBounds_toArray, List.set_cons_zero, List.set_cons_succ])
        refine wpAnyH_take (i := 11) (v := ?_) rfl (by kernel_rfl) (by kernel_rfl) (by kernel_rfl) (fun _ _ _ h => h) (Or.inl ⟨by rfl, ?_⟩) (by assumption) ?_
        rotate_left
        · intro w' hSw
          (try dsimp only at hSw)
          go_simp
          all_goals (try with_reducible rfl)
        (try simp only [Act.put, List.getElem_toArray, List.getElem_cons_zero, List.getElem_cons_succ, List.setIfInBounds_toArray, List.set_cons_zero, List.set_cons_succ])
        refine wpAnyH_ready (rs := [12]) (by kernel_rfl) (by simp) ?_
        refine AllReadyH.cons rfl (fun K hK => ?_) AllReadyH.nil
        (try simp only [Act.put, List.getElem_toArray, List.getElem_cons_zero, List.getElem_cons_succ, List.setIfInBounds_toArray, List.set_cons_zero, List.set_cons_succ])
        go_simp
        (go_at_call 44; refine (l01dots_any l[k].p l[k].n x.p x.n _).mono ?_; rintro e w3 ⟨rfl, hb⟩)
        (try simp only [])
        refine hK.out _ _ ?_ (fun hHeld' => ?_)
        · (try dsimp only)
          exact ⟨⟨cell_next hb hHeld.1.1 (cell_lt (x := ⟨w.heap.size, 0, none⟩) hHeld.1.1), cell_next hb hHeld.1.2.1 (cell_lt (x := ⟨w.heap.size, 1, none⟩) hHeld.1.2.1), cell_next hb hHeld.1.2.2.1 (cell_lt (x := ⟨w.heap.size, 2, none⟩) hHeld.1.2.2.1), cell_next hb hHeld.1.2.2.2 (cell_lt (x := ⟨w.heap.size, 3, none⟩) hHeld.1.2.2.2)⟩, cell_next hb hHeld.2.1 (cell_lt (x := ⟨q, off + k * 4, none⟩) hHeld.2.1), cell_next hb hHeld.2.2.1 (cell_lt (x := ⟨q, off + k * 4 + 1, none⟩) hHeld.2.2.1), (bel_next hHeld.2.2.2 hb).out⟩
        clear hK K
        clear hHeld
        have hHeld := hHeld'
        clear hHeld'
        clear hb
        (try simp only [Act.put, List.getElem_toArray, List.getElem_cons_zero, List.getElem_cons_succ, List.setIfInBounds_toArray, List.set_cons_zero, List.set_cons_succ])
        refine wpAnyH_take (i := 13) (v := ?_) rfl (by kernel_rfl) (by kernel_rfl) (by kernel_rfl) (fun _ _ _ h => h) (Or.inl ⟨by rfl, ?_⟩) (by assumption) ?_
        rotate_left
        · intro w' hSw
          (try dsimp only at hSw)
          go_simp
          all_goals (try with_reducible rfl)
        (try simp only [Act.put, List.getElem_toArray, List.getElem_cons_zero, List.getElem_cons_succ, List.setIfInBounds_toArray, List.set_cons_zero, List.set_cons_succ])
        refine wpAnyH_take (i := 14) (v := ?_) rfl (by kernel_rfl) (by kernel_rfl) (by kernel_rfl) (fun _ _ _ h => h) (Or.inl ⟨by rfl, ?_⟩) (by assumption) ?_
        rotate_left
        · intro w' hSw
          (try dsimp only at hSw)
          go_simp
          all_goals (try with_reducible rfl)
        (try simp only [Act.put, List.getElem_toArray, List.getElem_cons_zero, List.getElem_cons_succ, List.setIfInBounds_toArray, List.set_cons_zero, List.set_cons_succ])
        refine wpAnyH_done (by kernel_rfl) ?_ _
        obtain ⟨⟨E0, E1, E2, E3⟩, _, _, hB3⟩ := hHeld
        replace HB0 := bel_next HB0 hB3
        have hz3 := Nat.lt_of_lt_of_le hz hB3.size
        clear D0 D1 D2 D3 x0 x1 hd hB3
        go_wp2
        go_roundw
        case rel => first | exact ⟨k + 1, by omega, by go_num, HB0.out, hG1.out, hz3, E0, E1, E2, E3⟩ | ((repeat apply Exists.intro); exact ⟨⟨k + 1, by omega, by go_num, HB0.out, hG1.out, hz3, E0, E1, E2, E3⟩, rfl⟩)
        case measure => simp [intOf]; omega
    · obtain rfl : k = l.length := by omega
      clear hkl
      have HPT : Hid (l.take l.length ++ x :: l.drop l.length = pt x l) := pt_at x l l.length hk hG.out (fun h => by omega)
      have hkl' : ¬ (l.length : Int) < (l.length : Int) := by omega
      go_wp2
      refine wp_region_held_drew (S := (fun w' => (w'.cell? ⟨w.heap.size, 0, none⟩ = some (.int .i64 x.p) ∧ w'.cell? ⟨w.heap.size, 1, none⟩ = some (.int .i64 x.n) ∧ w'.cell? ⟨w.heap.size, 2, none⟩ = some (.int .i64 x.v) ∧ w'.cell? ⟨w.heap.size, 3, none⟩ = some (.bool x.d)) ∧ Below wr.heap.size wr w')) (by kernel_rfl) ?_ (fun hHeld => ?_)
      · (try dsimp only)
        exact ⟨⟨D0, D1, D2, D3⟩, bel_drew _⟩
      refine wpAnyH_take (i := 0) (v := ?_) rfl (by kernel_rfl) (by kernel_rfl) (by kernel_rfl) (fun _ _ _ h => h) (Or.inl ⟨by rfl, ?_⟩) (by assumption) ?_
      rotate_left
      · intro w' hSw
        (try dsimp only at hSw)
        go_simp
        all_goals (try with_reducible rfl)
      (try simp only [Act.put, List.getElem_toArray, List.getElem_cons_zero, List.getElem_cons_succ, List.setIfInBounds_toArray, List.set_cons_zero, List.set_cons_succ])
      refine wpAnyH_take (i := 1) (v := ?_) rfl (by kernel_rfl) (by kernel_rfl) (by kernel_rfl) (fun _ _ _ h => h) (Or.inl ⟨by rfl, ?_⟩) (by assumption) ?_
      rotate_left
      · intro w' hSw
        (try dsimp only at hSw)
        go_simp
        all_goals (try with_reducible rfl)
      (try simp only [Act.put, List.getElem_toArray, List.getElem_cons_zero, List.getElem_cons_succ, List.setIfInBounds_toArray, List.set_cons_zero, List.set_cons_succ])
      refine wpAnyH_take (i := 2) (v := ?_) rfl (by kernel_rfl) (by kernel_rfl) (by kernel_rfl) (fun _ _ _ h => h) (Or.inl ⟨by rfl, ?_⟩) (by assumption) ?_
      rotate_left
      · intro w' hSw
        (try dsimp only at hSw)
        go_simp
        all_goals (try with_reducible rfl)
      (try simp only [Act.put, List.getElem_toArray, List.getElem_cons_zero, List.getElem_cons_succ, List.setIfInBounds_toArray, List.set_cons_zero, List.set_cons_succ])
      refine wpAnyH_take (i := 3) (v := ?_) rfl (by kernel_rfl) (by kernel_rfl) (by kernel_rfl) (fun _ _ _ h => h) (Or.inl ⟨by rfl, ?_⟩) (by assumption) ?_
      rotate_left
      · intro w' hSw
        (try dsimp only at hSw)
        go_simp
        all_goals (try with_reducible rfl)
      (try simp only [Act.put, List.getElem_toArray, List.getElem_cons_zero, List.getElem_cons_succ, List.setIfInBounds_toArray, List.set_cons_zero, List.set_cons_succ])
      refine wpAnyH_take (i := 4) (v := ?_) rfl (by kernel_rfl) (by kernel_rfl) (by kernel_rfl) (fun _ _ _ h => h) (Or.inl ⟨by rfl, ?_⟩) (by assumption) ?_
      rotate_left
      · intro w' hSw
        (try dsimp only at hSw)
        go_simp
        all_goals (try with_reducible rfl)
      (try simp only [Act.put, List.getElem_toArray, List.getElem_cons_zero, List.getElem_cons_succ, List.setIfInBounds_toArray, List.set_cons_zero, List.set_cons_succ])
      refine wpAnyH_take (i := 5) (v := undef) rfl (by kernel_rfl) (by kernel_rfl) (by kernel_rfl) (fun _ _ _ h => h) (Or.inr ⟨by rfl, rfl⟩) (by assumption) ?_
      (try simp only [Act.put, List.getElem_toArray, List.getElem_cons_zero, List.getElem_cons_succ, List.setIfInBounds_toArray, List.set_cons_zero, List.set_cons_succ])
      refine wpAnyH_take (i := 6) (v := undef) rfl (by kernel_rfl) (by kernel_rfl) (by kernel_rfl) (fun _ _ _ h => h) (Or.inr ⟨by rfl, rfl⟩) (by assumption) ?_
      (try simp only [Act.put, List.getElem_toArray, List.getElem_cons_zero, List.getElem_cons_succ, List.setIfInBounds_toArray, List.set_cons_zero, List.set_cons_succ])
      refine wpAnyH_take (i := 7) (v := undef) rfl (by kernel_rfl) (by kernel_rfl) (by kernel_rfl) (fun _ _ _ h => h) (Or.inr ⟨by rfl, rfl⟩) (by assumption) ?_
      (try simp only [Act.put, List.getElem_toArray, List.getElem_cons_zero, List.getElem_cons_succ, List.setIfInBounds_toArray, List.set_cons_zero, List.set_cons_succ])
      refine wpAnyH_take (i := 8) (v := undef) rfl (by kernel_rfl) (by kernel_rfl) (by kernel_rfl) (fun _ _ _ h => h) (Or.inr ⟨by rfl, rfl⟩) (by assumption) ?_
      (try simp only [Act.put, List.getElem_toArray, List.getElem_cons_zero, List.getElem_cons_succ, List.setIfInBounds_toArray, List.set_cons_zero, List.set_cons_succ])
      refine wpAnyH_take (i := 9) (v := undef) rfl (by kernel_rfl) (by kernel_rfl) (by kernel_rfl) (fun _ _ _ h => h) (Or.inr ⟨by rfl, rfl⟩) (by assumption) ?_
      (try simp only [Act.put, List.getElem_toArray, List.getElem_cons_zero, List.getElem_cons_succ, List.setIfInBounds_toArray, List.set_cons_zero, List.set_cons_succ])
      refine wpAnyH_take (i := 10) (v := undef) rfl (by kernel_rfl) (by kernel_rfl) (by kernel_rfl) (fun _ _ _ h => h) (Or.inr ⟨by rfl, rfl⟩) (by assumption) ?_
      (try simp only [Act.put, List.getElem_toArray, List.getElem_cons_zero, List.getElem_cons_succ, List.setIfInBounds_toArray, List.set_cons_zero, List.set_cons_succ])
      refine wpAnyH_take (i := 11) (v := undef) rfl (by kernel_rfl) (by kernel_rfl) (by kernel_rfl) (fun _ _ _ h => h) (Or.inr ⟨by rfl, rfl⟩) (by assumption) ?_
      (try simp only [Act.put, List.getElem_toArray, List.getElem_cons_zero, List.getElem_cons_succ, List.setIfInBounds_toArray, List.set_cons_zero, List.set_cons_succ])
      refine wpAnyH_take (i := 12) (v := undef) rfl (by kernel_rfl) (by kernel_rfl) (by kernel_rfl) (fun _ _ _ h => h) (Or.inr ⟨by rfl, rfl⟩) (by assumption) ?_
      (try simp only [Act.put, List.getElem_toArray, List.getElem_cons_zero, List.getElem_cons_succ, List.setIfInBounds_toArray, List.set_cons_zero, List.set_cons_succ])
      refine wpAnyH_take (i := 13) (v := undef) rfl (by kernel_rfl) (by kernel_rfl) (by kernel_rfl) (fun _ _ _ h => h) (Or.inr ⟨by rfl, rfl⟩) (by assumption) ?_
      (try simp only [Act.put, List.getElem_toArray, List.getElem_cons_zero, List.getElem_cons_succ, List.setIfInBounds_toArray, List.set_cons_zero, List.set_cons_succ])
      refine wpAnyH_take (i := 14) (v := ?_) rfl (by kernel_rfl) (by kernel_rfl) (by kernel_rfl) (fun _ _ _ h => h) (Or.inl ⟨by rfl, ?_⟩) (by assumption) ?_
      rotate_left
      · intro w' hSw
        (try dsimp only at hSw)
        go_simp
        all_goals (try with_reducible rfl)
      (try simp only [Act.put, List.getElem_toArray, List.getElem_cons_zero, List.getElem_cons_succ, List.setIfInBounds_toArray, List.set_cons_zero, List.set_cons_succ])
      refine wpAnyH_done (by kernel_rfl) ?_ _
      obtain ⟨⟨E0, E1, E2, E3⟩, hB3⟩ := hHeld
      replace HB0 := bel_next HB0 hB3
      replace hR : Hid (SibRow wr.drew ao l) := hR.out.next hB3
      clear hG
      go_wp2
      rcases hR.out with h' | ⟨q, off, rfl, h2⟩
      · cases ao with
        | none =>
          subst h'
          have hck' : ((([] : List Sib).length : Nat) : Int) ≤ (cap : Int) := by omega
          have SrcT : SrcRow wr.drew _ _ (([] : List Sib).take 0) := (src_none : SrcRow _ none 0 [])
          have SrcD : SrcRow wr.drew _ _ (([] : List Sib).drop 0) := (src_none : SrcRow _ none 0 [])
          refine wp_region_held_drew (S := (fun w' => (w'.cell? ⟨w.heap.size, 0, none⟩ = some (.int .i64 x.p) ∧ w'.cell? ⟨w.heap.size, 1, none⟩ = some (.int .i64 x.n) ∧ w'.cell? ⟨w.heap.size, 2, none⟩ = some (.int .i64 x.v) ∧ w'.cell? ⟨w.heap.size, 3, none⟩ = some (.bool x.d)) ∧ Below wr.drew.heap.size wr.drew w')) (by kernel_rfl) ?_ (fun hHeld => ?_)
          · (try dsimp only)
            exact ⟨⟨D0, D1, D2, D3⟩, bel_drew _⟩
          refine wpAnyH_take (i := 1) (v := ?_) rfl (by kernel_rfl) (by kernel_rfl) (by kernel_rfl) (fun _ _ _ h => h) (Or.inl ⟨by rfl, ?_⟩) (by assumption) ?_
          rotate_left
          · intro w' hSw
            (try dsimp only at hSw)
            go_simp
            all_goals (try with_reducible rfl)
          (try simp only [Act.put, List.getElem_toArray, List.getElem_cons_zero, List.getElem_cons_succ, List.setIfInBounds_toArray, List.set_cons_zero, List.set_cons_succ])
          refine wpAnyH_take (i := 2) (v := ?_) rfl (by kernel_rfl) (by kernel_rfl) (by kernel_rfl) (fun _ _ _ h => h) (Or.inl ⟨by rfl, ?_⟩) (by assumption) ?_
          rotate_left
          · intro w' hSw
            (try dsimp only at hSw)
            go_simp
            all_goals (try with_reducible rfl)
          (try simp only [Act.put, List.getElem_toArray, List.getElem_cons_zero, List.getElem_cons_succ, List.setIfInBounds_toArray, List.set_cons_zero, List.set_cons_succ])
          refine wpAnyH_take (i := 3) (v := ?_) rfl (by kernel_rfl) (by kernel_rfl) (by kernel_rfl) (fun _ _ _ h => h) (Or.inl ⟨by rfl, ?_⟩) (by assumption) ?_
          rotate_left
          · intro w' hSw
            (try dsimp only at hSw)
            go_simp
            all_goals (try with_reducible rfl)
          (try simp only [Act.put, List.getElem_toArray, List.getElem_cons_zero, List.getElem_cons_succ, List.setIfInBounds_toArray, List.set_cons_zero, List.set_cons_succ])
          refine wpAnyH_take (i := 8) (v := ?_) rfl (by kernel_rfl) (by kernel_rfl) (by kernel_rfl) (fun _ _ _ h => h) (Or.inl ⟨by rfl, ?_⟩) (by assumption) ?_
          rotate_left
          · intro w' hSw
            (try dsimp only at hSw)
            go_simp
            all_goals (try with_reducible rfl)
          (try simp only [Act.put, List.getElem_toArray, List.getElem_cons_zero, List.getElem_cons_succ, List.setIfInBounds_toArray, List.set_cons_zero, List.set_cons_succ])
          refine wpAnyH_take (i := 9) (v := ?_) rfl (by kernel_rfl) (by kernel_rfl) (by kernel_rfl) (fun _ _ _ h => h) (Or.inl ⟨by rfl, ?_⟩) (by assumption) ?_
          rotate_left
          · intro w' hSw
            (try dsimp only at hSw)
            go_simp
            all_goals (try with_reducible rfl)
          (try simp only [Act.put, List.getElem_toArray, List.getElem_cons_zero, List.getElem_cons_succ, List.setIfInBounds_toArray, List.set_cons_zero, List.set_cons_succ])
          refine wpAnyH_take (i := 10) (v := ?_) rfl (by kernel_rfl) (by kernel_rfl) (by kernel_rfl) (fun _ _ _ h => h) (Or.inl ⟨by rfl, ?_⟩) (by assumption) ?_
          rotate_left
          · intro w' hSw
            (try dsimp only at hSw)
            go_simp
            all_goals (try with_reducible rfl)
          (try simp only [Act.put, List.getElem_toArray, List.getElem_cons_zero, List.getElem_cons_succ, List.setIfInBounds_toArray, List.set_cons_zero, List.set_cons_succ])
          refine wpAnyH_take (i := 5) (v := ?_) rfl (by kernel_rfl) (by kernel_rfl) (by kernel_rfl) (fun _ _ _ h => h) (Or.inl ⟨by rfl, ?_⟩) (by assumption) ?_
          rotate_left
          · intro w' hSw
            (try dsimp only at hSw)
            go_simp
            all_goals (try with_reducible rfl)
          (try simp only [Act.put, List.getElem_toArray, List.getElem_cons_zero, List.getElem_cons_succ, List.setIfInBounds_toArray, List.set_cons_zero, List.set_cons_succ])
          have HBs : Below wr.drew.heap.size wr.drew wr.drew.drew := bel_drew _
          refine wpAnyH_ready (rs := [0, 6]) (by kernel_rfl) (by simp) ?_
          refine AllReadyH.cons rfl (fun K hK => ?_) (AllReadyH.cons rfl (fun K hK => ?_) AllReadyH.nil)
          · (try simp only [Act.put, List.getElem_toArray, List.getElem_cons_zero, List.getElem_cons_succ, List.setIfInBounds_toArray, List.set_cons_zero, List.set_cons_succ])
            go_simp
            (try simp only [])
            have OW11 : Own wr.drew ((wr.drew.drew).alloc (.cells #[] 74)) 74 (.slice (some ⟨wr.drew.heap.size, 0, none⟩) 0 0) 0 [] := by simpa using Own.lit (e := 74) HBs
            have HBn : Below wr.drew.heap.size wr.drew ((wr.drew.drew).alloc (.cells #[] 74)) := HBs.trans ((bel_alloc _ _).mono HBs.size)
            refine hK.out _ _ ?_ (fun hHeld' => ?_)
            · (try dsimp only)
              exact ⟨⟨cell_next HBn D0 hz, cell_next HBn D1 hz, cell_next HBn D2 hz, cell_next HBn D3 hz⟩, HBn⟩
            clear hK K
            clear hHeld
            have hHeld := hHeld'
            clear hHeld'
            have HB11 : Below wr.drew.heap.size wr.drew ((wr.drew.drew).alloc (.cells #[] 74)) := HBn
            clear HBn
            (try simp only [Act.put, List.getElem_toArray, List.getElem_cons_zero, List.getElem_cons_succ, List.setIfInBounds_toArray, List.set_cons_zero, List.set_cons_succ])
            refine wpAnyH_ready (rs := [4, 6]) (by kernel_rfl) (by simp) ?_
            refine AllReadyH.cons rfl (fun K hK => ?_) (AllReadyH.cons rfl (fun K hK => ?_) AllReadyH.nil)
            · rw [if_pos (by rfl)]
              refine wp_append3 (.tmp 23) (.tmp 26) 29 rfl 74 i0 (.agg #[.int .i64 0, .int .i64 0, .int .i64 0, .bool false]) 32 Tryd.underlying29 HI.out.1 HI.out.2.1 HI.out.2.2.1 HI.out.2.2.2 rfl (.slice (some ⟨wr.drew.heap.size, 0, none⟩) 0 0) _ _ rfl OW11.1 _ _ _ _ rfl (SrcT.next HB11) (by unfold maxLen; (try simp); (try omega)) (by (try simp); (try omega)) ?_
              intro v12 w12 ho hg
              have OW12 := OW11.app ho hg
              have HBn := OW12.2.1
              clear ho hg
              refine hK.out _ _ ?_ (fun hHeld' => ?_)
              · (try dsimp only)
                exact ⟨⟨cell_next HBn D0 hz, cell_next HBn D1 hz, cell_next HBn D2 hz, cell_next HBn D3 hz⟩, HBn⟩
              clear hK K
              clear hHeld
              have hHeld := hHeld'
              clear hHeld'
              have HB12 : Below wr.drew.heap.size wr.drew (w12) := HBn
              clear HBn
              (try simp only [Act.put, List.getElem_toArray, List.getElem_cons_zero, List.getElem_cons_succ, List.setIfInBounds_toArray, List.set_cons_zero, List.set_cons_succ])
              refine wpAnyH_ready (rs := [6]) (by kernel_rfl) (by simp) ?_
              refine AllReadyH.cons rfl (fun K hK => ?_) AllReadyH.nil
              (try simp only [Act.put, List.getElem_toArray, List.getElem_cons_zero, List.getElem_cons_succ, List.setIfInBounds_toArray, List.set_cons_zero, List.set_cons_succ])
              go_simp
              (try simp only [])
              have OW13 := OW12.step (bel_alloc _ ((.cells #[.int .i64 x.p, .int .i64 x.n, .int .i64 x.v, .bool x.d] 74)))
              have SO13 : SrcRow ((w12).alloc (.cells #[.int .i64 x.p, .int .i64 x.n, .int .i64 x.v, .bool x.d] 74)) (some ⟨w12.heap.size, 0, none⟩) 1 [x] := by simpa using (src_one (W := w12) (x := x) (t := 74))
              have HBn : Below wr.drew.heap.size wr.drew ((w12).alloc (.cells #[.int .i64 x.p, .int .i64 x.n, .int .i64 x.v, .bool x.d] 74)) := HB12.trans ((bel_alloc _ _).mono HB12.size)
              refine hK.out _ _ ?_ (fun hHeld' => ?_)
              · (try dsimp only)
                exact ⟨⟨cell_next HBn D0 hz, cell_next HBn D1 hz, cell_next HBn D2 hz, cell_next HBn D3 hz⟩, HBn⟩
              clear hK K
              clear hHeld
              have hHeld := hHeld'
              clear hHeld'
              have HB13 : Below wr.drew.heap.size wr.drew ((w12).alloc (.cells #[.int .i64 x.p, .int .i64 x.n, .int .i64 x.v, .bool x.d] 74)) := HBn
              clear HBn
              (try simp only [Act.put, List.getElem_toArray, List.getElem_cons_zero, List.getElem_cons_succ, List.setIfInBounds_toArray, List.set_cons_zero, List.set_cons_succ])
              refine wpAnyH_ready (rs := [7]) (by kernel_rfl) (by simp) ?_
              refine AllReadyH.cons rfl (fun K hK => ?_) AllReadyH.nil
              rw [if_pos (by rfl)]
              refine wp_append3 (.tmp 27) (.tmp 29) 29 rfl 74 i0 (.agg #[.int .i64 0, .int .i64 0, .int .i64 0, .bool false]) 32 Tryd.underlying29 HI.out.1 HI.out.2.1 HI.out.2.2.1 HI.out.2.2.2 rfl v12 _ _ rfl OW13.1 _ _ _ _ rfl SO13 (by unfold maxLen; (try simp); (try omega)) (by (try simp); (try omega)) ?_
              intro v14 w14 ho hg
              have OW14 := OW13.app ho hg
              have HBn := OW14.2.1
              clear ho hg
              refine hK.out _ _ ?_ (fun hHeld' => ?_)
              · (try dsimp only)
                exact ⟨⟨cell_next HBn D0 hz, cell_next HBn D1 hz, cell_next HBn D2 hz, cell_next HBn D3 hz⟩, HBn⟩
              clear hK K
              clear hHeld
              have hHeld := hHeld'
              clear hHeld'
              have HB14 : Below wr.drew.heap.size wr.drew (w14) := HBn
              clear HBn
              (try simp only [Act.put, List.getElem_toArray, List.getElem_cons_zero, List.getElem_cons_succ, List.setIfInBounds_toArray, List.set_cons_zero, List.set_cons_succ])
              refine wpAnyH_ready (rs := [11]) (by kernel_rfl) (by simp) ?_
              refine AllReadyH.cons rfl (fun K hK => ?_) AllReadyH.nil
              rw [if_pos (by rfl)]
              refine wp_append3 (.tmp 30) (.tmp 33) 29 rfl 74 i0 (.agg #[.int .i64 0, .int .i64 0, .int .i64 0, .bool false]) 32 Tryd.underlying29 HI.out.1 HI.out.2.1 HI.out.2.2.1 HI.out.2.2.2 rfl v14 _ _ rfl OW14.1 _ _ _ _ rfl (SrcD.next HB14) (by unfold maxLen; (try simp); (try omega)) (by (try simp); (try omega)) ?_
              intro v15 w15 ho hg
              have OW15 := OW14.app ho hg
              have HBn := OW15.2.1
              clear ho hg
              refine hK.out _ _ ?_ (fun hHeld' => ?_)
              · (try dsimp only)
                exact ⟨⟨cell_next HBn D0 hz, cell_next HBn D1 hz, cell_next HBn D2 hz, cell_next HBn D3 hz⟩, HBn⟩
              clear hK K
              clear hHeld
              have hHeld := hHeld'
              clear hHeld'
              have HB15 : Below wr.drew.heap.size wr.drew (w15) := HBn
              clear HBn
              (try simp only [Act.put, List.getElem_toArray, List.getElem_cons_zero, List.getElem_cons_succ, List.setIfInBounds_toArray, List.set_cons_zero, List.set_cons_succ])
              refine wpAnyH_take (i := 12) (v := ?_) rfl (by kernel_rfl) (by kernel_rfl) (by kernel_rfl) (fun _ _ _ h => h) (Or.inl ⟨by rfl, ?_⟩) (by assumption) ?_
              rotate_left
              · intro w' hSw
                (try dsimp only at hSw)
                go_simp
                all_goals (try with_reducible rfl)
              (try simp only [Act.put, List.getElem_toArray, List.getElem_cons_zero, List.getElem_cons_succ, List.setIfInBounds_toArray, List.set_cons_zero, List.set_cons_succ])
              refine wpAnyH_done (by kernel_rfl) ?_ _
              have O9 : Hid (Own wr.drew w15 74 v15 _ _) := OW15
              clear hHeld D0 D1 D2 D3
              go_wp2
              all_goals go_ret
              all_goals exact ⟨_, rfl, own_cast O9.out.1 (by rw [← HPT.out]; (try simp); (try omega)) (by rw [← HPT.out]; simp [flat_append, flat]), (Gro.of_below HB0.out).trans O9.out.gro⟩
            · (try simp only [Act.put, List.getElem_toArray, List.getElem_cons_zero, List.getElem_cons_succ, List.setIfInBounds_toArray, List.set_cons_zero, List.set_cons_succ])
              go_simp
              (try simp only [])
              have OW12 := OW11.step (bel_alloc _ ((.cells #[.int .i64 x.p, .int .i64 x.n, .int .i64 x.v, .bool x.d] 74)))
              have SO12 : SrcRow (((wr.drew.drew).alloc (.cells #[] 74)).alloc (.cells #[.int .i64 x.p, .int .i64 x.n, .int .i64 x.v, .bool x.d] 74)) (some ⟨wr.drew.heap.size + 1, 0, none⟩) 1 [x] := by simpa using (src_one (W := (wr.drew.drew).alloc (.cells #[] 74)) (x := x) (t := 74))
              have HBn : Below wr.drew.heap.size wr.drew (((wr.drew.drew).alloc (.cells #[] 74)).alloc (.cells #[.int .i64 x.p, .int .i64 x.n, .int .i64 x.v, .bool x.d] 74)) := HB11.trans ((bel_alloc _ _).mono HB11.size)
              refine hK.out _ _ ?_ (fun hHeld' => ?_)
              · (try dsimp only)
                exact ⟨⟨cell_next HBn D0 hz, cell_next HBn D1 hz, cell_next HBn D2 hz, cell_next HBn D3 hz⟩, HBn⟩
              clear hK K
              clear hHeld
              have hHeld := hHeld'
              clear hHeld'
              have HB12 : Below wr.drew.heap.size wr.drew (((wr.drew.drew).alloc (.cells #[] 74)).alloc (.cells #[.int .i64 x.p, .int .i64 x.n, .int .i64 x.v, .bool x.d] 74)) := HBn
              clear HBn
              (try simp only [Act.put, List.getElem_toArray, List.getElem_cons_zero, List.getElem_cons_succ, List.setIfInBounds_toArray, List.set_cons_zero, List.set_cons_succ])
              refine wpAnyH_ready (rs := [4]) (by kernel_rfl) (by simp) ?_
              refine AllReadyH.cons rfl (fun K hK => ?_) AllReadyH.nil
              rw [if_pos (by rfl)]
              refine wp_append3 (.tmp 23) (.tmp 26) 29 rfl 74 i0 (.agg #[.int .i64 0, .int .i64 0, .int .i64 0, .bool false]) 32 Tryd.underlying29 HI.out.1 HI.out.2.1 HI.out.2.2.1 HI.out.2.2.2 rfl (.slice (some ⟨wr.drew.heap.size, 0, none⟩) 0 0) _ _ rfl OW12.1 _ _ _ _ rfl (SrcT.next HB12) (by unfold maxLen; (try simp); (try omega)) (by (try simp); (try omega)) ?_
              intro v13 w13 ho hg
              have OW13 := OW12.app ho hg
              have SO13 := src_gro SO12 hg (by simp [Value.ownBlock])
              have HBn := OW13.2.1
              clear ho hg
              refine hK.out _ _ ?_ (fun hHeld' => ?_)
              · (try dsimp only)
                exact ⟨⟨cell_next HBn D0 hz, cell_next HBn D1 hz, cell_next HBn D2 hz, cell_next HBn D3 hz⟩, HBn⟩
              clear hK K
              clear hHeld
              have hHeld := hHeld'
              clear hHeld'
              have HB13 : Below wr.drew.heap.size wr.drew (w13) := HBn
              clear HBn
              (try simp only [Act.put, List.getElem_toArray, List.getElem_cons_zero, List.getElem_cons_succ, List.setIfInBounds_toArray, List.set_cons_zero, List.set_cons_succ])
              refine wpAnyH_ready (rs := [7]) (by kernel_rfl) (by simp) ?_
              refine AllReadyH.cons rfl (fun K hK => ?_) AllReadyH.nil
              rw [if_pos (by rfl)]
              refine wp_append3 (.tmp 27) (.tmp 29) 29 rfl 74 i0 (.agg #[.int .i64 0, .int .i64 0, .int .i64 0, .bool false]) 32 Tryd.underlying29 HI.out.1 HI.out.2.1 HI.out.2.2.1 HI.out.2.2.2 rfl v13 _ _ rfl OW13.1 _ _ _ _ rfl SO13 (by unfold maxLen; (try simp); (try omega)) (by (try simp); (try omega)) ?_
              intro v14 w14 ho hg
              have OW14 := OW13.app ho hg
              have HBn := OW14.2.1
              clear ho hg
              refine hK.out _ _ ?_ (fun hHeld' => ?_)
              · (try dsimp only)
                exact ⟨⟨cell_next HBn D0 hz, cell_next HBn D1 hz, cell_next HBn D2 hz, cell_next HBn D3 hz⟩, HBn⟩
              clear hK K
              clear hHeld
              have hHeld := hHeld'
              clear hHeld'
              have HB14 : Below wr.drew.heap.size wr.drew (w14) := HBn
              clear HBn
              (try simp only [Act.put, List.getElem_toArray, List.getElem_cons_zero, List.getElem_cons_succ, List.setIfInBounds_toArray, List.set_cons_zero, List.set_cons_succ])
              refine wpAnyH_ready (rs := [11]) (by kernel_rfl) (by simp) ?_
              refine AllReadyH.cons rfl (fun K hK => ?_) AllReadyH.nil
              rw [if_pos (by rfl)]
              refine wp_append3 (.tmp 30) (.tmp 33) 29 rfl 74 i0 (.agg #[.int .i64 0, .int .i64 0, .int .i64 0, .bool false]) 32 Tryd.underlying29 HI.out.1 HI.out.2.1 HI.out.2.2.1 HI.out.2.2.2 rfl v14 _ _ rfl OW14.1 _ _ _ _ rfl (SrcD.next HB14) (by unfold maxLen; (try simp); (try omega)) (by (try simp); (try omega)) ?_
              intro v15 w15 ho hg
              have OW15 := OW14.app ho hg
              have HBn := OW15.2.1
              clear ho hg
              refine hK.out _ _ ?_ (fun hHeld' => ?_)
              · (try dsimp only)
                exact ⟨⟨cell_next HBn D0 hz, cell_next HBn D1 hz, cell_next HBn D2 hz, cell_next HBn D3 hz⟩, HBn⟩
              clear hK K
              clear hHeld
              have hHeld := hHeld'
              clear hHeld'
              have HB15 : Below wr.drew.heap.size wr.drew (w15) := HBn
              clear HBn
              (try simp only [Act.put, List.getElem_toArray, List.getElem_cons_zero, List.getElem_cons_succ, List.setIfInBounds_toArray, List.set_cons_zero, List.set_cons_succ])
              refine wpAnyH_take (i := 12) (v := ?_) rfl (by kernel_rfl) (by kernel_rfl) (by kernel_rfl) (fun _ _ _ h => h) (Or.inl ⟨by rfl, ?_⟩) (by assumption) ?_
              rotate_left
              · intro w' hSw
                (try dsimp only at hSw)
                go_simp
                all_goals (try with_reducible rfl)
              (try simp only [Act.put, List.getElem_toArray, List.getElem_cons_zero, List.getElem_cons_succ, List.setIfInBounds_toArray, List.set_cons_zero, List.set_cons_succ])
              refine wpAnyH_done (by kernel_rfl) ?_ _
              have O9 : Hid (Own wr.drew w15 74 v15 _ _) := OW15
              clear hHeld D0 D1 D2 D3
              go_wp2
              all_goals go_ret
              all_goals exact ⟨_, rfl, own_cast O9.out.1 (by rw [← HPT.out]; (try simp); (try omega)) (by rw [← HPT.out]; simp [flat_append, flat]), (Gro.of_below HB0.out).trans O9.out.gro⟩
          · (try simp only [Act.put, List.getElem_toArray, List.getElem_cons_zero, List.getElem_cons_succ, List.setIfInBounds_toArray, List.set_cons_zero, List.set_cons_succ])
            go_simp
            (try simp only [])
            have SO11 : SrcRow ((wr.drew.drew).alloc (.cells #[.int .i64 x.p, .int .i64 x.n, .int .i64 x.v, .bool x.d] 74)) (some ⟨wr.drew.heap.size, 0, none⟩) 1 [x] := by simpa using (src_one (W := wr.drew.drew) (x := x) (t := 74))
            have HBn : Below wr.drew.heap.size wr.drew ((wr.drew.drew).alloc (.cells #[.int .i64 x.p, .int .i64 x.n, .int .i64 x.v, .bool x.d] 74)) := HBs.trans ((bel_alloc _ _).mono HBs.size)
            refine hK.out _ _ ?_ (fun hHeld' => ?_)
            · (try dsimp only)
              exact ⟨⟨cell_next HBn D0 hz, cell_next HBn D1 hz, cell_next HBn D2 hz, cell_next HBn D3 hz⟩, HBn⟩
            clear hK K
            clear hHeld
            have hHeld := hHeld'
            clear hHeld'
            have HB11 : Below wr.drew.heap.size wr.drew ((wr.drew.drew).alloc (.cells #[.int .i64 x.p, .int .i64 x.n, .int .i64 x.v, .bool x.d] 74)) := HBn
            clear HBn
            (try simp only [Act.put, List.getElem_toArray, List.getElem_cons_zero, List.getElem_cons_succ, List.setIfInBounds_toArray, List.set_cons_zero, List.set_cons_succ])
            refine wpAnyH_ready (rs := [0]) (by kernel_rfl) (by simp) ?_
            refine AllReadyH.cons rfl (fun K hK => ?_) AllReadyH.nil
            (try simp only [Act.put, List.getElem_toArray, List.getElem_cons_zero, List.getElem_cons_succ, List.setIfInBounds_toArray, List.set_cons_zero, List.set_cons_succ])
            go_simp
            (try simp only [])
            have OW12 : Own wr.drew (((wr.drew.drew).alloc (.cells #[.int .i64 x.p, .int .i64 x.n, .int .i64 x.v, .bool x.d] 74)).alloc (.cells #[] 74)) 74 (.slice (some ⟨wr.drew.heap.size + 1, 0, none⟩) 0 0) 0 [] := by simpa using Own.lit (e := 74) HB11
            have SO12 := SO11.next (bel_alloc _ ((.cells #[] 74)))
            have HBn : Below wr.drew.heap.size wr.drew (((wr.drew.drew).alloc (.cells #[.int .i64 x.p, .int .i64 x.n, .int .i64 x.v, .bool x.d] 74)).alloc (.cells #[] 74)) := HB11.trans ((bel_alloc _ _).mono HB11.size)
            refine hK.out _ _ ?_ (fun hHeld' => ?_)
            · (try dsimp only)
              exact ⟨⟨cell_next HBn D0 hz, cell_next HBn D1 hz, cell_next HBn D2 hz, cell_next HBn D3 hz⟩, HBn⟩
            clear hK K
            clear hHeld
            have hHeld := hHeld'
            clear hHeld'
            have HB12 : Below wr.drew.heap.size wr.drew (((wr.drew.drew).alloc (.cells #[.int .i64 x.p, .int .i64 x.n, .int .i64 x.v, .bool x.d] 74)).alloc (.cells #[] 74)) := HBn
            clear HBn
            (try simp only [Act.put, List.getElem_toArray, List.getElem_cons_zero, List.getElem_cons_succ, List.setIfInBounds_toArray, List.set_cons_zero, List.set_cons_succ])
            refine wpAnyH_ready (rs := [4]) (by kernel_rfl) (by simp) ?_
            refine AllReadyH.cons rfl (fun K hK => ?_) AllReadyH.nil
            rw [if_pos (by rfl)]
            refine wp_append3 (.tmp 23) (.tmp 26) 29 rfl 74 i0 (.agg #[.int .i64 0, .int .i64 0, .int .i64 0, .bool false]) 32 Tryd.underlying29 HI.out.1 HI.out.2.1 HI.out.2.2.1 HI.out.2.2.2 rfl (.slice (some ⟨wr.drew.heap.size + 1, 0, none⟩) 0 0) _ _ rfl OW12.1 _ _ _ _ rfl (SrcT.next HB12) (by unfold maxLen; (try simp); (try omega)) (by (try simp); (try omega)) ?_
            intro v13 w13 ho hg
            have OW13 := OW12.app ho hg
            have SO13 := src_gro SO12 hg (by simp [Value.ownBlock])
            have HBn := OW13.2.1
            clear ho hg
            refine hK.out _ _ ?_ (fun hHeld' => ?_)
            · (try dsimp only)
              exact ⟨⟨cell_next HBn D0 hz, cell_next HBn D1 hz, cell_next HBn D2 hz, cell_next HBn D3 hz⟩, HBn⟩
            clear hK K
            clear hHeld
            have hHeld := hHeld'
            clear hHeld'
            have HB13 : Below wr.drew.heap.size wr.drew (w13) := HBn
            clear HBn
            (try simp only [Act.put, List.getElem_toArray, List.getElem_cons_zero, List.getElem_cons_succ, List.setIfInBounds_toArray, List.set_cons_zero, List.set_cons_succ])
            refine wpAnyH_ready (rs := [7]) (by kernel_rfl) (by simp) ?_
            refine AllReadyH.cons rfl (fun K hK => ?_) AllReadyH.nil
            rw [if_pos (by rfl)]
            refine wp_append3 (.tmp 27) (.tmp 29) 29 rfl 74 i0 (.agg #[.int .i64 0, .int .i64 0, .int .i64 0, .bool false]) 32 Tryd.underlying29 HI.out.1 HI.out.2.1 HI.out.2.2.1 HI.out.2.2.2 rfl v13 _ _ rfl OW13.1 _ _ _ _ rfl SO13 (by unfold maxLen; (try simp); (try omega)) (by (try simp); (try omega)) ?_
            intro v14 w14 ho hg
            have OW14 := OW13.app ho hg
            have HBn := OW14.2.1
            clear ho hg
            refine hK.out _ _ ?_ (fun hHeld' => ?_)
            · (try dsimp only)
              exact ⟨⟨cell_next HBn D0 hz, cell_next HBn D1 hz, cell_next HBn D2 hz, cell_next HBn D3 hz⟩, HBn⟩
            clear hK K
            clear hHeld
            have hHeld := hHeld'
            clear hHeld'
            have HB14 : Below wr.drew.heap.size wr.drew (w14) := HBn
            clear HBn
            (try simp only [Act.put, List.getElem_toArray, List.getElem_cons_zero, List.getElem_cons_succ, List.setIfInBounds_toArray, List.set_cons_zero, List.set_cons_succ])
            refine wpAnyH_ready (rs := [11]) (by kernel_rfl) (by simp) ?_
            refine AllReadyH.cons rfl (fun K hK => ?_) AllReadyH.nil
            rw [if_pos (by rfl)]
            refine wp_append3 (.tmp 30) (.tmp 33) 29 rfl 74 i0 (.agg #[.int .i64 0, .int .i64 0, .int .i64 0, .bool false]) 32 Tryd.underlying29 HI.out.1 HI.out.2.1 HI.out.2.2.1 HI.out.2.2.2 rfl v14 _ _ rfl OW14.1 _ _ _ _ rfl (SrcD.next HB14) (by unfold maxLen; (try simp); (try omega)) (by (try simp); (try omega)) ?_
            intro v15 w15 ho hg
            have OW15 := OW14.app ho hg
            have HBn := OW15.2.1
            clear ho hg
            refine hK.out _ _ ?_ (fun hHeld' => ?_)
            · (try dsimp only)
              exact ⟨⟨cell_next HBn D0 hz, cell_next HBn D1 hz, cell_next HBn D2 hz, cell_next HBn D3 hz⟩, HBn⟩
            clear hK K
            clear hHeld
            have hHeld := hHeld'
            clear hHeld'
            have HB15 : Below wr.drew.heap.size wr.drew (w15) := HBn
            clear HBn
            (try simp only [Act.put, List.getElem_toArray, List.getElem_cons_zero, List.getElem_cons_succ, List.setIfInBounds_toArray, List.set_cons_zero, List.set_cons_succ])
            refine wpAnyH_take (i := 12) (v := ?_) rfl (by kernel_rfl) (by kernel_rfl) (by kernel_rfl) (fun _ _ _ h => h) (Or.inl ⟨by rfl, ?_⟩) (by assumption) ?_
            rotate_left
            · intro w' hSw
              (try dsimp only at hSw)
              go_simp
              all_goals (try with_reducible rfl)
            (try simp only [Act.put, List.getElem_toArray, List.getElem_cons_zero, List.getElem_cons_succ, List.setIfInBounds_toArray, List.set_cons_zero, List.set_cons_succ])
            refine wpAnyH_done (by kernel_rfl) ?_ _
            have O9 : Hid (Own wr.drew w15 74 v15 _ _) := OW15
            clear hHeld D0 D1 D2 D3
            go_wp2
            all_goals go_ret
            all_goals exact ⟨_, rfl, own_cast O9.out.1 (by rw [← HPT.out]; (try simp); (try omega)) (by rw [← HPT.out]; simp [flat_append, flat]), (Gro.of_below HB0.out).trans O9.out.gro⟩
        | some ad =>
          subst h'
          have hck' : ((([] : List Sib).length : Nat) : Int) ≤ (cap : Int) := by omega
          have SrcT : SrcRow wr.drew _ _ (([] : List Sib).take 0) := (src_none : SrcRow _ (some ad) 0 [])
          have SrcD : SrcRow wr.drew _ _ (([] : List Sib).drop 0) := (src_none : SrcRow _ (some ad) 0 [])
          refine wp_region_held_drew (S := (fun w' => (w'.cell? ⟨w.heap.size, 0, none⟩ = some (.int .i64 x.p) ∧ w'.cell? ⟨w.heap.size, 1, none⟩ = some (.int .i64 x.n) ∧ w'.cell? ⟨w.heap.size, 2, none⟩ = some (.int .i64 x.v) ∧ w'.cell? ⟨w.heap.size, 3, none⟩ = some (.bool x.d)) ∧ Below wr.drew.heap.size wr.drew w')) (by kernel_rfl) ?_ (fun hHeld => ?_)
          · (try dsimp only)
            exact ⟨⟨D0, D1, D2, D3⟩, bel_drew _⟩
          refine wpAnyH_take (i := 1) (v := ?_) rfl (by kernel_rfl) (by kernel_rfl) (by kernel_rfl) (fun _ _ _ h => h) (Or.inl ⟨by rfl, ?_⟩) (by assumption) ?_
          rotate_left
          · intro w' hSw
            (try dsimp only at hSw)
            go_simp
            all_goals (try with_reducible rfl)
          (try simp only [Act.put, List.getElem_toArray, List.getElem_cons_zero, List.getElem_cons_succ, List.setIfInBounds_toArray, List.set_cons_zero, List.set_cons_succ])
          refine wpAnyH_take (i := 2) (v := ?_) rfl (by kernel_rfl) (by kernel_rfl) (by kernel_rfl) (fun _ _ _ h => h) (Or.inl ⟨by rfl, ?_⟩) (by assumption) ?_
          rotate_left
          · intro w' hSw
            (try dsimp only at hSw)
            go_simp
            all_goals (try with_reducible rfl)
          (try simp only [Act.put, List.getElem_toArray, List.getElem_cons_zero, List.getElem_cons_succ, List.setIfInBounds_toArray, List.set_cons_zero, List.set_cons_succ])
          refine wpAnyH_take (i := 3) (v := ?_) rfl (by kernel_rfl) (by kernel_rfl) (by kernel_rfl) (fun _ _ _ h => h) (Or.inl ⟨by rfl, ?_⟩) (by assumption) ?_
          rotate_left
          · intro w' hSw
            (try dsimp only at hSw)
            go_simp
            all_goals (try with_reducible rfl)
          (try simp only [Act.put, List.getElem_toArray, List.getElem_cons_zero, List.getElem_cons_succ, List.setIfInBounds_toArray, List.set_cons_zero, List.set_cons_succ])
          refine wpAnyH_take (i := 8) (v := ?_) rfl (by kernel_rfl) (by kernel_rfl) (by kernel_rfl) (fun _ _ _ h => h) (Or.inl ⟨by rfl, ?_⟩) (by assumption) ?_
          rotate_left
          · intro w' hSw
            (try dsimp only at hSw)
            go_simp
            all_goals (try with_reducible rfl)
          (try simp only [Act.put, List.getElem_toArray, List.getElem_cons_zero, List.getElem_cons_succ, List.setIfInBounds_toArray, List.set_cons_zero, List.set_cons_succ])
          refine wpAnyH_take (i := 9) (v := ?_) rfl (by kernel_rfl) (by kernel_rfl) (by kernel_rfl) (fun _ _ _ h => h) (Or.inl ⟨by rfl, ?_⟩) (by assumption) ?_
          rotate_left
          · intro w' hSw
            (try dsimp only at hSw)
            go_simp
            all_goals (try with_reducible rfl)
          (try simp only [Act.put, List.getElem_toArray, List.getElem_cons_zero, List.getElem_cons_succ, List.setIfInBounds_toArray, List.set_cons_zero, List.set_cons_succ])
          refine wpAnyH_take (i := 10) (v := ?_) rfl (by kernel_rfl) (by kernel_rfl) (by kernel_rfl) (fun _ _ _ h => h) (Or.inl ⟨by rfl, ?_⟩) (by assumption) ?_
          rotate_left
          · intro w' hSw
            (try dsimp only at hSw)
            go_simp
            all_goals (try with_reducible rfl)
          (try simp only [Act.put, List.getElem_toArray, List.getElem_cons_zero, List.getElem_cons_succ, List.setIfInBounds_toArray, List.set_cons_zero, List.set_cons_succ])
          refine wpAnyH_take (i := 5) (v := ?_) rfl (by kernel_rfl) (by kernel_rfl) (by kernel_rfl) (fun _ _ _ h => h) (Or.inl ⟨by rfl, ?_⟩) (by assumption) ?_
          rotate_left
          · intro w' hSw
            (try dsimp only at hSw)
            go_simp
            all_goals (try with_reducible rfl)
          (try simp only [Act.put, List.getElem_toArray, List.getElem_cons_zero, List.getElem_cons_succ, List.setIfInBounds_toArray, List.set_cons_zero, List.set_cons_succ])
          have HBs : Below wr.drew.heap.size wr.drew wr.drew.drew := bel_drew _
          refine wpAnyH_ready (rs := [0, 6]) (by kernel_rfl) (by simp) ?_
          refine AllReadyH.cons rfl (fun K hK => ?_) (AllReadyH.cons rfl (fun K hK => ?_) AllReadyH.nil)
          · (try simp only [Act.put, List.getElem_toArray, List.getElem_cons_zero, List.getElem_cons_succ, List.setIfInBounds_toArray, List.set_cons_zero, List.set_cons_succ])
            go_simp
            (try simp only [])
            have OW11 : Own wr.drew ((wr.drew.drew).alloc (.cells #[] 74)) 74 (.slice (some ⟨wr.drew.heap.size, 0, none⟩) 0 0) 0 [] := by simpa using Own.lit (e := 74) HBs
            have HBn : Below wr.drew.heap.size wr.drew ((wr.drew.drew).alloc (.cells #[] 74)) := HBs.trans ((bel_alloc _ _).mono HBs.size)
            refine hK.out _ _ ?_ (fun hHeld' => ?_)
            · (try dsimp only)
              exact ⟨⟨cell_next HBn D0 hz, cell_next HBn D1 hz, cell_next HBn D2 hz, cell_next HBn D3 hz⟩, HBn⟩
            clear hK K
            clear hHeld
            have hHeld := hHeld'
            clear hHeld'
            have HB11 : Below wr.drew.heap.size wr.drew ((wr.drew.drew).alloc (.cells #[] 74)) := HBn
            clear HBn
            (try simp only [Act.put, List.getElem_toArray, List.getElem_cons_zero, List.getElem_cons_succ, List.setIfInBounds_toArray, List.set_cons_zero, List.set_cons_succ])
            refine wpAnyH_ready (rs := [4, 6]) (by kernel_rfl) (by simp) ?_
            refine AllReadyH.cons rfl (fun K hK => ?_) (AllReadyH.cons rfl (fun K hK => ?_) AllReadyH.nil)
            · rw [if_pos (by rfl)]
              refine wp_append3 (.tmp 23) (.tmp 26) 29 rfl 74 i0 (.agg #[.int .i64 0, .int .i64 0, .int .i64 0, .bool false]) 32 Tryd.underlying29 HI.out.1 HI.out.2.1 HI.out.2.2.1 HI.out.2.2.2 rfl (.slice (some ⟨wr.drew.heap.size, 0, none⟩) 0 0) _ _ rfl OW11.1 _ _ _ _ rfl (SrcT.next HB11) (by unfold maxLen; (try simp); (try omega)) (by (try simp); (try omega)) ?_
              intro v12 w12 ho hg
              have OW12 := OW11.app ho hg
              have HBn := OW12.2.1
              clear ho hg
              refine hK.out _ _ ?_ (fun hHeld' => ?_)
              · (try dsimp only)
                exact ⟨⟨cell_next HBn D0 hz, cell_next HBn D1 hz, cell_next HBn D2 hz, cell_next HBn D3 hz⟩, HBn⟩
              clear hK K
              clear hHeld
              have hHeld := hHeld'
              clear hHeld'
              have HB12 : Below wr.drew.heap.size wr.drew (w12) := HBn
              clear HBn
              (try simp only [Act.put, List.getElem_toArray, List.getElem_cons_zero, List.getElem_cons_succ, List.setIfInBounds_toArray, List.set_cons_zero, List.set_cons_succ])
              refine wpAnyH_ready (rs := [6]) (by kernel_rfl) (by simp) ?_
              refine AllReadyH.cons rfl (fun K hK => ?_) AllReadyH.nil
              (try simp only [Act.put, List.getElem_toArray, List.getElem_cons_zero, List.getElem_cons_succ, List.setIfInBounds_toArray, List.set_cons_zero, List.set_cons_succ])
              go_simp
              (try simp only [])
              have OW13 := OW12.step (bel_alloc _ ((.cells #[.int .i64 x.p, .int .i64 x.n, .int .i64 x.v, .bool x.d] 74)))
              have SO13 : SrcRow ((w12).alloc (.cells #[.int .i64 x.p, .int .i64 x.n, .int .i64 x.v, .bool x.d] 74)) (some ⟨w12.heap.size, 0, none⟩) 1 [x] := by simpa using (src_one (W := w12) (x := x) (t := 74))
              have HBn : Below wr.drew.heap.size wr.drew ((w12).alloc (.cells #[.int .i64 x.p, .int .i64 x.n, .int .i64 x.v, .bool x.d] 74)) := HB12.trans ((bel_alloc _ _).mono HB12.size)
              refine hK.out _ _ ?_ (fun hHeld' => ?_)
              · (try dsimp only)
                exact ⟨⟨cell_next HBn D0 hz, cell_next HBn D1 hz, cell_next HBn D2 hz, cell_next HBn D3 hz⟩, HBn⟩
              clear hK K
              clear hHeld
              have hHeld := hHeld'
              clear hHeld'
              have HB13 : Below wr.drew.heap.size wr.drew ((w12).alloc (.cells #[.int .i64 x.p, .int .i64 x.n, .int .i64 x.v, .bool x.d] 74)) := HBn
              clear HBn
              (try simp only [Act.put, List.getElem_toArray, List.getElem_cons_zero, List.getElem_cons_succ, List.setIfInBounds_toArray, List.set_cons_zero, List.set_cons_succ])
              refine wpAnyH_ready (rs := [7]) (by kernel_rfl) (by simp) ?_
              refine AllReadyH.cons rfl (fun K hK => ?_) AllReadyH.nil
              rw [if_pos (by rfl)]
              refine wp_append3 (.tmp 27) (.tmp 29) 29 rfl 74 i0 (.agg #[.int .i64 0, .int .i64 0, .int .i64 0, .bool false]) 32 Tryd.underlying29 HI.out.1 HI.out.2.1 HI.out.2.2.1 HI.out.2.2.2 rfl v12 _ _ rfl OW13.1 _ _ _ _ rfl SO13 (by unfold maxLen; (try simp); (try omega)) (by (try simp); (try omega)) ?_
              intro v14 w14 ho hg
              have OW14 := OW13.app ho hg
              have HBn := OW14.2.1
              clear ho hg
              refine hK.out _ _ ?_ (fun hHeld' => ?_)
              · (try dsimp only)
                exact ⟨⟨cell_next HBn D0 hz, cell_next HBn D1 hz, cell_next HBn D2 hz, cell_next HBn D3 hz⟩, HBn⟩
              clear hK K
              clear hHeld
              have hHeld := hHeld'
              clear hHeld'
              have HB14 : Below wr.drew.heap.size wr.drew (w14) := HBn
              clear HBn
              (try simp only [Act.put, List.getElem_toArray, List.getElem_cons_zero, List.getElem_cons_succ, List.setIfInBounds_toArray, List.set_cons_zero, List.set_cons_succ])
              refine wpAnyH_ready (rs := [11]) (by kernel_rfl) (by simp) ?_
              refine AllReadyH.cons rfl (fun K hK => ?_) AllReadyH.nil
              rw [if_pos (by rfl)]
              refine wp_append3 (.tmp 30) (.tmp 33) 29 rfl 74 i0 (.agg #[.int .i64 0, .int .i64 0, .int .i64 0, .bool false]) 32 Tryd.underlying29 HI.out.1 HI.out.2.1 HI.out.2.2.1 HI.out.2.2.2 rfl v14 _ _ rfl OW14.1 _ _ _ _ rfl (SrcD.next HB14) (by unfold maxLen; (try simp); (try omega)) (by (try simp); (try omega)) ?_
              intro v15 w15 ho hg
              have OW15 := OW14.app ho hg
              have HBn := OW15.2.1
              clear ho hg
              refine hK.out _ _ ?_ (fun hHeld' => ?_)
              · (try dsimp only)
                exact ⟨⟨cell_next HBn D0 hz, cell_next HBn D1 hz, cell_next HBn D2 hz, cell_next HBn D3 hz⟩, HBn⟩
              clear hK K
              clear hHeld
              have hHeld := hHeld'
              clear hHeld'
              have HB15 : Below wr.drew.heap.size wr.drew (w15) := HBn
              clear HBn
              (try simp only [Act.put, List.getElem_toArray, List.getElem_cons_zero, List.getElem_cons_succ, List.setIfInBounds_toArray, List.set_cons_zero, List.set_cons_succ])
              refine wpAnyH_take (i := 12) (v := ?_) rfl (by kernel_rfl) (by kernel_rfl) (by kernel_rfl) (fun _ _ _ h => h) (Or.inl ⟨by rfl, ?_⟩) (by assumption) ?_
              rotate_left
              · intro w' hSw
                (try dsimp only at hSw)
                go_simp
                all_goals (try with_reducible rfl)
              (try simp only [Act.put, List.getElem_toArray, List.getElem_cons_zero, List.getElem_cons_succ, List.setIfInBounds_toArray, List.set_cons_zero, List.set_cons_succ])
              refine wpAnyH_done (by kernel_rfl) ?_ _
              have O9 : Hid (Own wr.drew w15 74 v15 _ _) := OW15
              clear hHeld D0 D1 D2 D3
              go_wp2
              all_goals go_ret
              all_goals exact ⟨_, rfl, own_cast O9.out.1 (by rw [← HPT.out]; (try simp); (try omega)) (by rw [← HPT.out]; simp [flat_append, flat]), (Gro.of_below HB0.out).trans O9.out.gro⟩
            · (try simp only [Act.put, List.getElem_toArray, List.getElem_cons_zero, List.getElem_cons_succ, List.setIfInBounds_toArray, List.set_cons_zero, List.set_cons_succ])
              go_simp
              (try simp only [])
              have OW12 := OW11.step (bel_alloc _ ((.cells #[.int .i64 x.p, .int .i64 x.n, .int .i64 x.v, .bool x.d] 74)))
              have SO12 : SrcRow (((wr.drew.drew).alloc (.cells #[] 74)).alloc (.cells #[.int .i64 x.p, .int .i64 x.n, .int .i64 x.v, .bool x.d] 74)) (some ⟨wr.drew.heap.size + 1, 0, none⟩) 1 [x] := by simpa using (src_one (W := (wr.drew.drew).alloc (.cells #[] 74)) (x := x) (t := 74))
              have HBn : Below wr.drew.heap.size wr.drew (((wr.drew.drew).alloc (.cells #[] 74)).alloc (.cells #[.int .i64 x.p, .int .i64 x.n, .int .i64 x.v, .bool x.d] 74)) := HB11.trans ((bel_alloc _ _).mono HB11.size)
              refine hK.out _ _ ?_ (fun hHeld' => ?_)
              · (try dsimp only)
                exact ⟨⟨cell_next HBn D0 hz, cell_next HBn D1 hz, cell_next HBn D2 hz, cell_next HBn D3 hz⟩, HBn⟩
              clear hK K
              clear hHeld
              have hHeld := hHeld'
              clear hHeld'
              have HB12 : Below wr.drew.heap.size wr.drew (((wr.drew.drew).alloc (.cells #[] 74)).alloc (.cells #[.int .i64 x.p, .int .i64 x.n, .int .i64 x.v, .bool x.d] 74)) := HBn
              clear HBn
              (try simp only [Act.put, List.getElem_toArray, List.getElem_cons_zero, List.getElem_cons_succ, List.setIfInBounds_toArray, List.set_cons_zero, List.set_cons_succ])
              refine wpAnyH_ready (rs := [4]) (by kernel_rfl) (by simp) ?_
              refine AllReadyH.cons rfl (fun K hK => ?_) AllReadyH.nil
              rw [if_pos (by rfl)]
              refine wp_append3 (.tmp 23) (.tmp 26) 29 rfl 74 i0 (.agg #[.int .i64 0, .int .i64 0, .int .i64 0, .bool false]) 32 Tryd.underlying29 HI.out.1 HI.out.2.1 HI.out.2.2.1 HI.out.2.2.2 rfl (.slice (some ⟨wr.drew.heap.size, 0, none⟩) 0 0) _ _ rfl OW12.1 _ _ _ _ rfl (SrcT.next HB12) (by unfold maxLen; (try simp); (try omega)) (by (try simp); (try omega)) ?_
              intro v13 w13 ho hg
              have OW13 := OW12.app ho hg
              have SO13 := src_gro SO12 hg (by simp [Value.ownBlock])
              have HBn := OW13.2.1
              clear ho hg
              refine hK.out _ _ ?_ (fun hHeld' => ?_)
              · (try dsimp only)
                exact ⟨⟨cell_next HBn D0 hz, cell_next HBn D1 hz, cell_next HBn D2 hz, cell_next HBn D3 hz⟩, HBn⟩
              clear hK K
              clear hHeld
              have hHeld := hHeld'
              clear hHeld'
              have HB13 : Below wr.drew.heap.size wr.drew (w13) := HBn
              clear HBn
              (try simp only [Act.put, List.getElem_toArray, List.getElem_cons_zero, List.getElem_cons_succ, List.setIfInBounds_toArray, List.set_cons_zero, List.set_cons_succ])
              refine wpAnyH_ready (rs := [7]) (by kernel_rfl) (by simp) ?_
              refine AllReadyH.cons rfl (fun K hK => ?_) AllReadyH.nil
              rw [if_pos (by rfl)]
              refine wp_append3 (.tmp 27) (.tmp 29) 29 rfl 74 i0 (.agg #[.int .i64 0, .int .i64 0, .int .i64 0, .bool false]) 32 Tryd.underlying29 HI.out.1 HI.out.2.1 HI.out.2.2.1 HI.out.2.2.2 rfl v13 _ _ rfl OW13.1 _ _ _ _ rfl SO13 (by unfold maxLen; (try simp); (try omega)) (by (try simp); (try omega)) ?_
              intro v14 w14 ho hg
              have OW14 := OW13.app ho hg
              have HBn := OW14.2.1
              clear ho hg
              refine hK.out _ _ ?_ (fun hHeld' => ?_)
              · (try dsimp only)
                exact ⟨⟨cell_next HBn D0 hz, cell_next HBn D1 hz, cell_next HBn D2 hz, cell_next HBn D3 hz⟩, HBn⟩
              clear hK K
              clear hHeld
              have hHeld := hHeld'
              clear hHeld'
              have HB14 : Below wr.drew.heap.size wr.drew (w14) := HBn
              clear HBn
              (try simp only [Act.put, List.getElem_toArray, List.getElem_cons_zero, List.getElem_cons_succ, List.setIfInBounds_toArray, List.set_cons_zero, List.set_cons_succ])
              refine wpAnyH_ready (rs := [11]) (by kernel_rfl) (by simp) ?_
              refine AllReadyH.cons rfl (fun K hK => ?_) AllReadyH.nil
              rw [if_pos (by rfl)]
              refine wp_append3 (.tmp 30) (.tmp 33) 29 rfl 74 i0 (.agg #[.int .i64 0, .int .i64 0, .int .i64 0, .bool false]) 32 Tryd.underlying29 HI.out.1 HI.out.2.1 HI.out.2.2.1 HI.out.2.2.2 rfl v14 _ _ rfl OW14.1 _ _ _ _ rfl (SrcD.next HB14) (by unfold maxLen; (try simp); (try omega)) (by (try simp); (try omega)) ?_
              intro v15 w15 ho hg
              have OW15 := OW14.app ho hg
              have HBn := OW15.2.1
              clear ho hg
              refine hK.out _ _ ?_ (fun hHeld' => ?_)
              · (try dsimp only)
                exact ⟨⟨cell_next HBn D0 hz, cell_next HBn D1 hz, cell_next HBn D2 hz, cell_next HBn D3 hz⟩, HBn⟩
              clear hK K
              clear hHeld
              have hHeld := hHeld'
              clear hHeld'
              have HB15 : Below wr.drew.heap.size wr.drew (w15) := HBn
              clear HBn
              (try simp only [Act.put, List.getElem_toArray, List.getElem_cons_zero, List.getElem_cons_succ, List.setIfInBounds_toArray, List.set_cons_zero, List.set_cons_succ])
              refine wpAnyH_take (i := 12) (v := ?_) rfl (by kernel_rfl) (by kernel_rfl) (by kernel_rfl) (fun _ _ _ h => h) (Or.inl ⟨by rfl, ?_⟩) (by assumption) ?_
              rotate_left
              · intro w' hSw
                (try dsimp only at hSw)
                go_simp
                all_goals (try with_reducible rfl)
              (try simp only [Act.put, List.getElem_toArray, List.getElem_cons_zero, List.getElem_cons_succ, List.setIfInBounds_toArray, List.set_cons_zero, List.set_cons_succ])
              refine wpAnyH_done (by kernel_rfl) ?_ _
              have O9 : Hid (Own wr.drew w15 74 v15 _ _) := OW15
              clear hHeld D0 D1 D2 D3
              go_wp2
              all_goals go_ret
              all_goals exact ⟨_, rfl, own_cast O9.out.1 (by rw [← HPT.out]; (try simp); (try omega)) (by rw [← HPT.out]; simp [flat_append, flat]), (Gro.of_below HB0.out).trans O9.out.gro⟩
          · (try simp only [Act.put, List.getElem_toArray, List.getElem_cons_zero, List.getElem_cons_succ, List.setIfInBounds_toArray, List.set_cons_zero, List.set_cons_succ])
            go_simp
            (try simp only [])
            have SO11 : SrcRow ((wr.drew.drew).alloc (.cells #[.int .i64 x.p, .int .i64 x.n, .int .i64 x.v, .bool x.d] 74)) (some ⟨wr.drew.heap.size, 0, none⟩) 1 [x] := by simpa using (src_one (W := wr.drew.drew) (x := x) (t := 74))
            have HBn : Below wr.drew.heap.size wr.drew ((wr.drew.drew).alloc (.cells #[.int .i64 x.p, .int .i64 x.n, .int .i64 x.v, .bool x.d] 74)) := HBs.trans ((bel_alloc _ _).mono HBs.size)
            refine hK.out _ _ ?_ (fun hHeld' => ?_)
            · (try dsimp only)
              exact ⟨⟨cell_next HBn D0 hz, cell_next HBn D1 hz, cell_next HBn D2 hz, cell_next HBn D3 hz⟩, HBn⟩
            clear hK K
            clear hHeld
            have hHeld := hHeld'
            clear hHeld'
            have HB11 : Below wr.drew.heap.size wr.drew ((wr.drew.drew).alloc (.cells #[.int .i64 x.p, .int .i64 x.n, .int .i64 x.v, .bool x.d] 74)) := HBn
            clear HBn
            (try simp only [Act.put, List.getElem_toArray, List.getElem_cons_zero, List.getElem_cons_succ, List.setIfInBounds_toArray, List.set_cons_zero, List.set_cons_succ])
            refine wpAnyH_ready (rs := [0]) (by kernel_rfl) (by simp) ?_
            refine AllReadyH.cons rfl (fun K hK => ?_) AllReadyH.nil
            (try simp only [Act.put, List.getElem_toArray, List.getElem_cons_zero, List.getElem_cons_succ, List.setIfInBounds_toArray, List.set_cons_zero, List.set_cons_succ])
            go_simp
            (try simp only [])
            have OW12 : Own wr.drew (((wr.drew.drew).alloc (.cells #[.int .i64 x.p, .int .i64 x.n, .int .i64 x.v, .bool x.d] 74)).alloc (.cells #[] 74)) 74 (.slice (some ⟨wr.drew.heap.size + 1, 0, none⟩) 0 0) 0 [] := by simpa using Own.lit (e := 74) HB11
            have SO12 := SO11.next (bel_alloc _ ((.cells #[] 74)))
            have HBn : Below wr.drew.heap.size wr.drew (((wr.drew.drew).alloc (.cells #[.int .i64 x.p, .int .i64 x.n, .int .i64 x.v, .bool x.d] 74)).alloc (.cells #[] 74)) := HB11.trans ((bel_alloc _ _).mono HB11.size)
            refine hK.out _ _ ?_ (fun hHeld' => ?_)
            · (try dsimp only)
              exact ⟨⟨cell_next HBn D0 hz, cell_next HBn D1 hz, cell_next HBn D2 hz, cell_next HBn D3 hz⟩, HBn⟩
            clear hK K
            clear hHeld
            have hHeld := hHeld'
            clear hHeld'
            have HB12 : Below wr.drew.heap.size wr.drew (((wr.drew.drew).alloc (.cells #[.int .i64 x.p, .int .i64 x.n, .int .i64 x.v, .bool x.d] 74)).alloc (.cells #[] 74)) := HBn
            clear HBn
            (try simp only [Act.put, List.getElem_toArray, List.getElem_cons_zero, List.getElem_cons_succ, List.setIfInBounds_toArray, List.set_cons_zero, List.set_cons_succ])
            refine wpAnyH_ready (rs := [4]) (by kernel_rfl) (by simp) ?_
            refine AllReadyH.cons rfl (fun K hK => ?_) AllReadyH.nil
            rw [if_pos (by rfl)]
            refine wp_append3 (.tmp 23) (.tmp 26) 29 rfl 74 i0 (.agg #[.int .i64 0, .int .i64 0, .int .i64 0, .bool false]) 32 Tryd.underlying29 HI.out.1 HI.out.2.1 HI.out.2.2.1 HI.out.2.2.2 rfl (.slice (some ⟨wr.drew.heap.size + 1, 0, none⟩) 0 0) _ _ rfl OW12.1 _ _ _ _ rfl (SrcT.next HB12) (by unfold maxLen; (try simp); (try omega)) (by (try simp); (try omega)) ?_
            intro v13 w13 ho hg
            have OW13 := OW12.app ho hg
            have SO13 := src_gro SO12 hg (by simp [Value.ownBlock])
            have HBn := OW13.2.1
            clear ho hg
            refine hK.out _ _ ?_ (fun hHeld' => ?_)
            · (try dsimp only)
              exact ⟨⟨cell_next HBn D0 hz, cell_next HBn D1 hz, cell_next HBn D2 hz, cell_next HBn D3 hz⟩, HBn⟩
            clear hK K
            clear hHeld
            have hHeld := hHeld'
            clear hHeld'
            have HB13 : Below wr.drew.heap.size wr.drew (w13) := HBn
            clear HBn
            (try simp only [Act.put, List.getElem_toArray, List.getElem_cons_zero, List.getElem_cons_succ, List.setIfInBounds_toArray, List.set_cons_zero, List.set_cons_succ])
            refine wpAnyH_ready (rs := [7]) (by kernel_rfl) (by simp) ?_
            refine AllReadyH.cons rfl (fun K hK => ?_) AllReadyH.nil
            rw [if_pos (by rfl)]
            refine wp_append3 (.tmp 27) (.tmp 29) 29 rfl 74 i0 (.agg #[.int .i64 0, .int .i64 0, .int .i64 0, .bool false]) 32 Tryd.underlying29 HI.out.1 HI.out.2.1 HI.out.2.2.1 HI.out.2.2.2 rfl v13 _ _ rfl OW13.1 _ _ _ _ rfl SO13 (by unfold maxLen; (try simp); (try omega)) (by (try simp); (try omega)) ?_
            intro v14 w14 ho hg
            have OW14 := OW13.app ho hg
            have HBn := OW14.2.1
            clear ho hg
            refine hK.out _ _ ?_ (fun hHeld' => ?_)
            · (try dsimp only)
              exact ⟨⟨cell_next HBn D0 hz, cell_next HBn D1 hz, cell_next HBn D2 hz, cell_next HBn D3 hz⟩, HBn⟩
            clear hK K
            clear hHeld
            have hHeld := hHeld'
            clear hHeld'
            have HB14 : Below wr.drew.heap.size wr.drew (w14) := HBn
            clear HBn
            (try simp only [Act.put, List.getElem_toArray, List.getElem_cons_zero, List.getElem_cons_succ, List.setIfInBounds_toArray, List.set_cons_zero, List.set_cons_succ])
            refine wpAnyH_ready (rs := [11]) (by kernel_rfl) (by simp) ?_
            refine AllReadyH.cons rfl (fun K hK => ?_) AllReadyH.nil
            rw [if_pos (by rfl)]
            refine wp_append3 (.tmp 30) (.tmp 33) 29 rfl 74 i0 (.agg #[.int .i64 0, .int .i64 0, .int .i64 0, .bool false]) 32 Tryd.underlying29 HI.out.1 HI.out.2.1 HI.out.2.2.1 HI.out.2.2.2 rfl v14 _ _ rfl OW14.1 _ _ _ _ rfl (SrcD.next HB14) (by unfold maxLen; (try simp); (try omega)) (by (try simp); (try omega)) ?_
            intro v15 w15 ho hg
            have OW15 := OW14.app ho hg
            have HBn := OW15.2.1
            clear ho hg
            refine hK.out _ _ ?_ (fun hHeld' => ?_)
            · (try dsimp only)
              exact ⟨⟨cell_next HBn D0 hz, cell_next HBn D1 hz, cell_next HBn D2 hz, cell_next HBn D3 hz⟩, HBn⟩
            clear hK K
            clear hHeld
            have hHeld := hHeld'
            clear hHeld'
            have HB15 : Below wr.drew.heap.size wr.drew (w15) := HBn
            clear HBn
            (try simp only [Act.put, List.getElem_toArray, List.getElem_cons_zero, List.getElem_cons_succ, List.setIfInBounds_toArray, List.set_cons_zero, List.set_cons_succ])
            refine wpAnyH_take (i := 12) (v := ?_) rfl (by kernel_rfl) (by kernel_rfl) (by kernel_rfl) (fun _ _ _ h => h) (Or.inl ⟨by rfl, ?_⟩) (by assumption) ?_
            rotate_left
            · intro w' hSw
              (try dsimp only at hSw)
              go_simp
              all_goals (try with_reducible rfl)
            (try simp only [Act.put, List.getElem_toArray, List.getElem_cons_zero, List.getElem_cons_succ, List.setIfInBounds_toArray, List.set_cons_zero, List.set_cons_succ])
            refine wpAnyH_done (by kernel_rfl) ?_ _
            have O9 : Hid (Own wr.drew w15 74 v15 _ _) := OW15
            clear hHeld D0 D1 D2 D3
            go_wp2
            all_goals go_ret
            all_goals exact ⟨_, rfl, own_cast O9.out.1 (by rw [← HPT.out]; (try simp); (try omega)) (by rw [← HPT.out]; simp [flat_append, flat]), (Gro.of_below HB0.out).trans O9.out.gro⟩
      · clear h2
        have hck' : (l.length : Int) ≤ (cap : Int) := by omega
        have SrcT : SrcRow wr.drew _ _ (l.take l.length) := src_take hk hR.out
        have SrcD : SrcRow wr.drew _ _ (l.drop l.length) := src_drop_all hcap hR.out
        refine wp_region_held_drew (S := (fun w' => (w'.cell? ⟨w.heap.size, 0, none⟩ = some (.int .i64 x.p) ∧ w'.cell? ⟨w.heap.size, 1, none⟩ = some (.int .i64 x.n) ∧ w'.cell? ⟨w.heap.size, 2, none⟩ = some (.int .i64 x.v) ∧ w'.cell? ⟨w.heap.size, 3, none⟩ = some (.bool x.d)) ∧ Below wr.drew.heap.size wr.drew w')) (by kernel_rfl) ?_ (fun hHeld => ?_)
        · (try dsimp only)
          exact ⟨⟨D0, D1, D2, D3⟩, bel_drew _⟩
        refine wpAnyH_take (i := 1) (v := ?_) rfl (by kernel_rfl) (by kernel_rfl) (by kernel_rfl) (fun _ _ _ h => h) (Or.inl ⟨by rfl, ?_⟩) (by assumption) ?_
        rotate_left
        · intro w' hSw
          (try dsimp only at hSw)
          go_simp
          all_goals (try with_reducible rfl)
        (try simp only [Act.put, List.getElem_toArray, List.getElem_cons_zero, List.getElem_cons_succ, List.setIfInBounds_toArray, List.set_cons_zero, List.set_cons_succ])
        refine wpAnyH_take (i := 2) (v := ?_) rfl (by kernel_rfl) (by kernel_rfl) (by kernel_rfl) (fun _ _ _ h => h) (Or.inl ⟨by rfl, ?_⟩) (by assumption) ?_
        rotate_left
        · intro w' hSw
          (try dsimp only at hSw)
          go_simp
          all_goals (try with_reducible rfl)
        (try simp only [Act.put, List.getElem_toArray, List.getElem_cons_zero, List.getElem_cons_succ, List.setIfInBounds_toArray, List.set_cons_zero, List.set_cons_succ])
        refine wpAnyH_take (i := 3) (v := ?_) rfl (by kernel_rfl) (by kernel_rfl) (by kernel_rfl) (fun _ _ _ h => h) (Or.inl ⟨by rfl, ?_⟩) (by assumption) ?_
        rotate_left
        · intro w' hSw
          (try dsimp only at hSw)
          go_simp
          all_goals (try with_reducible rfl)
        (try simp only [Act.put, List.getElem_toArray, List.getElem_cons_zero, List.getElem_cons_succ, List.setIfInBounds_toArray, List.set_cons_zero, List.set_cons_succ])
        refine wpAnyH_take (i := 8) (v := ?_) rfl (by kernel_rfl) (by kernel_rfl) (by kernel_rfl) (fun _ _ _ h => h) (Or.inl ⟨by rfl, ?_⟩) (by assumption) ?_
        rotate_left
        · intro w' hSw
          (try dsimp only at hSw)
          go_simp
          all_goals (try with_reducible rfl)
        (try simp only [Act.put, List.getElem_toArray, List.getElem_cons_zero, List.getElem_cons_succ, List.setIfInBounds_toArray, List.set_cons_zero, List.set_cons_succ])
        refine wpAnyH_take (i := 9) (v := ?_) rfl (by kernel_rfl) (by kernel_rfl) (by kernel_rfl) (fun _ _ _ h => h) (Or.inl ⟨by rfl, ?_⟩) (by assumption) ?_
        rotate_left
        · intro w' hSw
          (try dsimp only at hSw)
          go_simp
          all_goals (try with_reducible rfl)
        (try simp only [Act.put, List.getElem_toArray, List.getElem_cons_zero, List.getElem_cons_succ, List.setIfInBounds_toArray, List.set_cons_zero, List.set_cons_succ])
        refine wpAnyH_take (i := 10) (v := ?_) rfl (by kernel_rfl) (by kernel_rfl) (by kernel_rfl) (fun _ _ _ h => h) (Or.inl ⟨by rfl, ?_⟩) (by assumption) ?_
        rotate_left
        · intro w' hSw
          (try dsimp only at hSw)
          go_simp
          all_goals (try with_reducible rfl)
        (try simp only [Act.put, List.getElem_toArray, List.getElem_cons_zero, List.getElem_cons_succ, List.setIfInBounds_toArray, List.set_cons_zero, List.set_cons_succ])
        refine wpAnyH_take (i := 5) (v := ?_) rfl (by kernel_rfl) (by kernel_rfl) (by kernel_rfl) (fun _ _ _ h => h) (Or.inl ⟨by rfl, ?_⟩) (by assumption) ?_
        rotate_left
        · intro w' hSw
          (try dsimp only at hSw)
          go_simp
          all_goals (try with_reducible rfl)
        (try simp only [Act.put, List.getElem_toArray, List.getElem_cons_zero, List.getElem_cons_succ, List.setIfInBounds_toArray, List.set_cons_zero, List.set_cons_succ])
        have HBs : Below wr.drew.heap.size wr.drew wr.drew.drew := bel_drew _
        refine wpAnyH_ready (rs := [0, 6]) (by kernel_rfl) (by simp) ?_
        refine AllReadyH.cons rfl (fun K hK => ?_) (AllReadyH.cons rfl (fun K hK => ?_) AllReadyH.nil)
        · (try simp only [Act.put, List.getElem_toArray, List.getElem_cons_zero, List.getElem_cons_succ, List.setIfInBounds_toArray, List.set_cons_zero, List.set_cons_succ])
          go_simp
          (try simp only [])
          have OW11 : Own wr.drew ((wr.drew.drew).alloc (.cells #[] 74)) 74 (.slice (some ⟨wr.drew.heap.size, 0, none⟩) 0 0) 0 [] := by simpa using Own.lit (e := 74) HBs
          have HBn : Below wr.drew.heap.size wr.drew ((wr.drew.drew).alloc (.cells #[] 74)) := HBs.trans ((bel_alloc _ _).mono HBs.size)
          refine hK.out _ _ ?_ (fun hHeld' => ?_)
          · (try dsimp only)
            exact ⟨⟨cell_next HBn D0 hz, cell_next HBn D1 hz, cell_next HBn D2 hz, cell_next HBn D3 hz⟩, HBn⟩
          clear hK K
          clear hHeld
          have hHeld := hHeld'
          clear hHeld'
          have HB11 : Below wr.drew.heap.size wr.drew ((wr.drew.drew).alloc (.cells #[] 74)) := HBn
          clear HBn
          (try simp only [Act.put, List.getElem_toArray, List.getElem_cons_zero, List.getElem_cons_succ, List.setIfInBounds_toArray, List.set_cons_zero, List.set_cons_succ])
          refine wpAnyH_ready (rs := [4, 6]) (by kernel_rfl) (by simp) ?_
          refine AllReadyH.cons rfl (fun K hK => ?_) (AllReadyH.cons rfl (fun K hK => ?_) AllReadyH.nil)
          · rw [if_pos (by rfl)]
            refine wp_append3 (.tmp 23) (.tmp 26) 29 rfl 74 i0 (.agg #[.int .i64 0, .int .i64 0, .int .i64 0, .bool false]) 32 Tryd.underlying29 HI.out.1 HI.out.2.1 HI.out.2.2.1 HI.out.2.2.2 rfl (.slice (some ⟨wr.drew.heap.size, 0, none⟩) 0 0) _ _ rfl OW11.1 _ _ _ _ rfl (SrcT.next HB11) (by unfold maxLen; (try simp); (try omega)) (by (try simp); (try omega)) ?_
            intro v12 w12 ho hg
            have OW12 := OW11.app ho hg
            have HBn := OW12.2.1
            clear ho hg
            refine hK.out _ _ ?_ (fun hHeld' => ?_)
            · (try dsimp only)
              exact ⟨⟨cell_next HBn D0 hz, cell_next HBn D1 hz, cell_next HBn D2 hz, cell_next HBn D3 hz⟩, HBn⟩
            clear hK K
            clear hHeld
            have hHeld := hHeld'
            clear hHeld'
            have HB12 : Below wr.drew.heap.size wr.drew (w12) := HBn
            clear HBn
            (try simp only [Act.put, List.getElem_toArray, List.getElem_cons_zero, List.getElem_cons_succ, List.setIfInBounds_toArray, List.set_cons_zero, List.set_cons_succ])
            refine wpAnyH_ready (rs := [6]) (by kernel_rfl) (by simp) ?_
            refine AllReadyH.cons rfl (fun K hK => ?_) AllReadyH.nil
            (try simp only [Act.put, List.getElem_toArray, List.getElem_cons_zero, List.getElem_cons_succ, List.setIfInBounds_toArray, List.set_cons_zero, List.set_cons_succ])
            go_simp
            (try simp only [])
            have OW13 := OW12.step (bel_alloc _ ((.cells #[.int .i64 x.p, .int .i64 x.n, .int .i64 x.v, .bool x.d] 74)))
            have SO13 : SrcRow ((w12).alloc (.cells #[.int .i64 x.p, .int .i64 x.n, .int .i64 x.v, .bool x.d] 74)) (some ⟨w12.heap.size, 0, none⟩) 1 [x] := by simpa using (src_one (W := w12) (x := x) (t := 74))
            have HBn : Below wr.drew.heap.size wr.drew ((w12).alloc (.cells #[.int .i64 x.p, .int .i64 x.n, .int .i64 x.v, .bool x.d] 74)) := HB12.trans ((bel_alloc _ _).mono HB12.size)
            refine hK.out _ _ ?_ (fun hHeld' => ?_)
            · (try dsimp only)
              exact ⟨⟨cell_next HBn D0 hz, cell_next HBn D1 hz, cell_next HBn D2 hz, cell_next HBn D3 hz⟩, HBn⟩
            clear hK K
            clear hHeld
            have hHeld := hHeld'
            clear hHeld'
            have HB13 : Below wr.drew.heap.size wr.drew ((w12).alloc (.cells #[.int .i64 x.p, .int .i64 x.n, .int .i64 x.v, .bool x.d] 74)) := HBn
            clear HBn
            (try simp only [Act.put, List.getElem_toArray, List.getElem_cons_zero, List.getElem_cons_succ, List.setIfInBounds_toArray, List.set_cons_zero, List.set_cons_succ])
            refine wpAnyH_ready (rs := [7]) (by kernel_rfl) (by simp) ?_
            refine AllReadyH.cons rfl (fun K hK => ?_) AllReadyH.nil
            rw [if_pos (by rfl)]
            refine wp_append3 (.tmp 27) (.tmp 29) 29 rfl 74 i0 (.agg #[.int .i64 0, .int .i64 0, .int .i64 0, .bool false]) 32 Tryd.underlying29 HI.out.1 HI.out.2.1 HI.out.2.2.1 HI.out.2.2.2 rfl v12 _ _ rfl OW13.1 _ _ _ _ rfl SO13 (by unfold maxLen; (try simp); (try omega)) (by (try simp); (try omega)) ?_
            intro v14 w14 ho hg
            have OW14 := OW13.app ho hg
            have HBn := OW14.2.1
            clear ho hg
            refine hK.out _ _ ?_ (fun hHeld' => ?_)
            · (try dsimp only)
              exact ⟨⟨cell_next HBn D0 hz, cell_next HBn D1 hz, cell_next HBn D2 hz, cell_next HBn D3 hz⟩, HBn⟩
            clear hK K
            clear hHeld
            have hHeld := hHeld'
            clear hHeld'
            have HB14 : Below wr.drew.heap.size wr.drew (w14) := HBn
            clear HBn
            (try simp only [Act.put, List.getElem_toArray, List.getElem_cons_zero, List.getElem_cons_succ, List.setIfInBounds_toArray, List.set_cons_zero, List.set_cons_succ])
            refine wpAnyH_ready (rs := [11]) (by kernel_rfl) (by simp) ?_
            refine AllReadyH.cons rfl (fun K hK => ?_) AllReadyH.nil
            rw [if_pos (by rfl)]
            refine wp_append3 (.tmp 30) (.tmp 33) 29 rfl 74 i0 (.agg #[.int .i64 0, .int .i64 0, .int .i64 0, .bool false]) 32 Tryd.underlying29 HI.out.1 HI.out.2.1 HI.out.2.2.1 HI.out.2.2.2 rfl v14 _ _ rfl OW14.1 _ _ _ _ rfl (SrcD.next HB14) (by unfold maxLen; (try simp); (try omega)) (by (try simp); (try omega)) ?_
            intro v15 w15 ho hg
            have OW15 := OW14.app ho hg
            have HBn := OW15.2.1
            clear ho hg
            refine hK.out _ _ ?_ (fun hHeld' => ?_)
            · (try dsimp only)
              exact ⟨⟨cell_next HBn D0 hz, cell_next HBn D1 hz, cell_next HBn D2 hz, cell_next HBn D3 hz⟩, HBn⟩
            clear hK K
            clear hHeld
            have hHeld := hHeld'
            clear hHeld'
            have HB15 : Below wr.drew.heap.size wr.drew (w15) := HBn
            clear HBn
            (try simp only [Act.put, List.getElem_toArray, List.getElem_cons_zero, List.getElem_cons_succ, List.setIfInBounds_toArray, List.set_cons_zero, List.set_cons_succ])
            refine wpAnyH_take (i := 12) (v := ?_) rfl (by kernel_rfl) (by kernel_rfl) (by kernel_rfl) (fun _ _ _ h => h) (Or.inl ⟨by rfl, ?_⟩) (by assumption) ?_
            rotate_left
            · intro w' hSw
              (try dsimp only at hSw)
              go_simp
              all_goals (try with_reducible rfl)
            (try simp only [Act.put, List.getElem_toArray, List.getElem_cons_zero, List.getElem_cons_succ, List.setIfInBounds_toArray, List.set_cons_zero, List.set_cons_succ])
            refine wpAnyH_done (by kernel_rfl) ?_ _
            have O9 : Hid (Own wr.drew w15 74 v15 _ _) := OW15
            clear hHeld D0 D1 D2 D3
            go_wp2
            all_goals go_ret
            all_goals exact ⟨_, rfl, own_cast O9.out.1 (by rw [← HPT.out]; (try simp); (try omega)) (by rw [← HPT.out]; simp [flat_append, flat]), (Gro.of_below HB0.out).trans O9.out.gro⟩
          · (try simp only [Act.put, List.getElem_toArray, List.getElem_cons_zero, List.getElem_cons_succ, List.setIfInBounds_toArray, List.set_cons_zero, List.set_cons_succ])
            go_simp
            (try simp only [])
            have OW12 := OW11.step (bel_alloc _ ((.cells #[.int .i64 x.p, .int .i64 x.n, .int .i64 x.v, .bool x.d] 74)))
            have SO12 : SrcRow (((wr.drew.drew).alloc (.cells #[] 74)).alloc (.cells #[.int .i64 x.p, .int .i64 x.n, .int .i64 x.v, .bool x.d] 74)) (some ⟨wr.drew.heap.size + 1, 0, none⟩) 1 [x] := by simpa using (src_one (W := (wr.drew.drew).alloc (.cells #[] 74)) (x := x) (t := 74))
            have HBn : Below wr.drew.heap.size wr.drew (((wr.drew.drew).alloc (.cells #[] 74)).alloc (.cells #[.int .i64 x.p, .int .i64 x.n, .int .i64 x.v, .bool x.d] 74)) := HB11.trans ((bel_alloc _ _).mono HB11.size)
            refine hK.out _ _ ?_ (fun hHeld' => ?_)
            · (try dsimp only)
              exact ⟨⟨cell_next HBn D0 hz, cell_next HBn D1 hz, cell_next HBn D2 hz, cell_next HBn D3 hz⟩, HBn⟩
            clear hK K
            clear hHeld
            have hHeld := hHeld'
            clear hHeld'
            have HB12 : Below wr.drew.heap.size wr.drew (((wr.drew.drew).alloc (.cells #[] 74)).alloc (.cells #[.int .i64 x.p, .int .i64 x.n, .int .i64 x.v, .bool x.d] 74)) := HBn
            clear HBn
            (try simp only [Act.put, List.getElem_toArray, List.getElem_cons_zero, List.getElem_cons_succ, List.setIfInBounds_toArray, List.set_cons_zero, List.set_cons_succ])
            refine wpAnyH_ready (rs := [4]) (by kernel_rfl) (by simp) ?_
            refine AllReadyH.cons rfl (fun K hK => ?_) AllReadyH.nil
            rw [if_pos (by rfl)]
            refine wp_append3 (.tmp 23) (.tmp 26) 29 rfl 74 i0 (.agg #[.int .i64 0, .int .i64 0, .int .i64 0, .bool false]) 32 Tryd.underlying29 HI.out.1 HI.out.2.1 HI.out.2.2.1 HI.out.2.2.2 rfl (.slice (some ⟨wr.drew.heap.size, 0, none⟩) 0 0) _ _ rfl OW12.1 _ _ _ _ rfl (SrcT.next HB12) (by unfold maxLen; (try simp); (try omega)) (by (try simp); (try omega)) ?_
            intro v13 w13 ho hg
            have OW13 := OW12.app ho hg
            have SO13 := src_gro SO12 hg (by simp [Value.ownBlock])
            have HBn := OW13.2.1
            clear ho hg
            refine hK.out _ _ ?_ (fun hHeld' => ?_)
            · (try dsimp only)
              exact ⟨⟨cell_next HBn D0 hz, cell_next HBn D1 hz, cell_next HBn D2 hz, cell_next HBn D3 hz⟩, HBn⟩
            clear hK K
            clear hHeld
            have hHeld := hHeld'
            clear hHeld'
            have HB13 : Below wr.drew.heap.size wr.drew (w13) := HBn
            clear HBn
            (try simp only [Act.put, List.getElem_toArray, List.getElem_cons_zero, List.getElem_cons_succ, List.setIfInBounds_toArray, List.set_cons_zero, List.set_cons_succ])
            refine wpAnyH_ready (rs := [7]) (by kernel_rfl) (by simp) ?_
            refine AllReadyH.cons rfl (fun K hK => ?_) AllReadyH.nil
            rw [if_pos (by rfl)]
            refine wp_append3 (.tmp 27) (.tmp 29) 29 rfl 74 i0 (.agg #[.int .i64 0, .int .i64 0, .int .i64 0, .bool false]) 32 Tryd.underlying29 HI.out.1 HI.out.2.1 HI.out.2.2.1 HI.out.2.2.2 rfl v13 _ _ rfl OW13.1 _ _ _ _ rfl SO13 (by unfold maxLen; (try simp); (try omega)) (by (try simp); (try omega)) ?_
            intro v14 w14 ho hg
            have OW14 := OW13.app ho hg
            have HBn := OW14.2.1
            clear ho hg
            refine hK.out _ _ ?_ (fun hHeld' => ?_)
            · (try dsimp only)
              exact ⟨⟨cell_next HBn D0 hz, cell_next HBn D1 hz, cell_next HBn D2 hz, cell_next HBn D3 hz⟩, HBn⟩
            clear hK K
            clear hHeld
            have hHeld := hHeld'
            clear hHeld'
            have HB14 : Below wr.drew.heap.size wr.drew (w14) := HBn
            clear HBn
            (try simp only [Act.put, List.getElem_toArray, List.getElem_cons_zero, List.getElem_cons_succ, List.setIfInBounds_toArray, List.set_cons_zero, List.set_cons_succ])
            refine wpAnyH_ready (rs := [11]) (by kernel_rfl) (by simp) ?_
            refine AllReadyH.cons rfl (fun K hK => ?_) AllReadyH.nil
            rw [if_pos (by rfl)]
            refine wp_append3 (.tmp 30) (.tmp 33) 29 rfl 74 i0 (.agg #[.int .i64 0, .int .i64 0, .int .i64 0, .bool false]) 32 Tryd.underlying29 HI.out.1 HI.out.2.1 HI.out.2.2.1 HI.out.2.2.2 rfl v14 _ _ rfl OW14.1 _ _ _ _ rfl (SrcD.next HB14) (by unfold maxLen; (try simp); (try omega)) (by (try simp); (try omega)) ?_
            intro v15 w15 ho hg
            have OW15 := OW14.app ho hg
            have HBn := OW15.2.1
            clear ho hg
            refine hK.out _ _ ?_ (fun hHeld' => ?_)
            · (try dsimp only)
              exact ⟨⟨cell_next HBn D0 hz, cell_next HBn D1 hz, cell_next HBn D2 hz, cell_next HBn D3 hz⟩, HBn⟩
            clear hK K
            clear hHeld
            have hHeld := hHeld'
            clear hHeld'
            have HB15 : Below wr.drew.heap.size wr.drew (w15) := HBn
            clear HBn
            (try simp only [Act.put, List.getElem_toArray, List.getElem_cons_zero, List.getElem_cons_succ, List.setIfInBounds_toArray, List.set_cons_zero, List.set_cons_succ])
            refine wpAnyH_take (i := 12) (v := ?_) rfl (by kernel_rfl) (by kernel_rfl) (by kernel_rfl) (fun _ _ _ h => h) (Or.inl ⟨by rfl, ?_⟩) (by assumption) ?_
            rotate_left
            · intro w' hSw
              (try dsimp only at hSw)
              go_simp
              all_goals (try with_reducible rfl)
            (try simp only [Act.put, List.getElem_toArray, List.getElem_cons_zero, List.getElem_cons_succ, List.setIfInBounds_toArray, List.set_cons_zero, List.set_cons_succ])
            refine wpAnyH_done (by kernel_rfl) ?_ _
            have O9 : Hid (Own wr.drew w15 74 v15 _ _) := OW15
            clear hHeld D0 D1 D2 D3
            go_wp2
            all_goals go_ret
            all_goals exact ⟨_, rfl, own_cast O9.out.1 (by rw [← HPT.out]; (try simp); (try omega)) (by rw [← HPT.out]; simp [flat_append, flat]), (Gro.of_below HB0.out).trans O9.out.gro⟩
        · (try simp only [Act.put, List.getElem_toArray, List.getElem_cons_zero, List.getElem_cons_succ, List.setIfInBounds_toArray, List.set_cons_zero, List.set_cons_succ])
          go_simp
          (try simp only [])
          have SO11 : SrcRow ((wr.drew.drew).alloc (.cells #[.int .i64 x.p, .int .i64 x.n, .int .i64 x.v, .bool x.d] 74)) (some ⟨wr.drew.heap.size, 0, none⟩) 1 [x] := by simpa using (src_one (W := wr.drew.drew) (x := x) (t := 74))
          have HBn : Below wr.drew.heap.size wr.drew ((wr.drew.drew).alloc (.cells #[.int .i64 x.p, .int .i64 x.n, .int .i64 x.v, .bool x.d] 74)) := HBs.trans ((bel_alloc _ _).mono HBs.size)
          refine hK.out _ _ ?_ (fun hHeld' => ?_)
          · (try dsimp only)
            exact ⟨⟨cell_next HBn D0 hz, cell_next HBn D1 hz, cell_next HBn D2 hz, cell_next HBn D3 hz⟩, HBn⟩
          clear hK K
          clear hHeld
          have hHeld := hHeld'
          clear hHeld'
          have HB11 : Below wr.drew.heap.size wr.drew ((wr.drew.drew).alloc (.cells #[.int .i64 x.p, .int .i64 x.n, .int .i64 x.v, .bool x.d] 74)) := HBn
          clear HBn
          (try simp only [Act.put, List.getElem_toArray, List.getElem_cons_zero, List.getElem_cons_succ, List.setIfInBounds_toArray, List.set_cons_zero, List.set_cons_succ])
          refine wpAnyH_ready (rs := [0]) (by kernel_rfl) (by simp) ?_
          refine AllReadyH.cons rfl (fun K hK => ?_) AllReadyH.nil
          (try simp only [Act.put, List.getElem_toArray, List.getElem_cons_zero, List.getElem_cons_succ, List.setIfInBounds_toArray, List.set_cons_zero, List.set_cons_succ])
          go_simp
          (try simp only [])
          have OW12 : Own wr.drew (((wr.drew.drew).alloc (.cells #[.int .i64 x.p, .int .i64 x.n, .int .i64 x.v, .bool x.d] 74)).alloc (.cells #[] 74)) 74 (.slice (some ⟨wr.drew.heap.size + 1, 0, none⟩) 0 0) 0 [] := by simpa using Own.lit (e := 74) HB11
          have SO12 := SO11.next (bel_alloc _ ((.cells #[] 74)))
          have HBn : Below wr.drew.heap.size wr.drew (((wr.drew.drew).alloc (.cells #[.int .i64 x.p, .int .i64 x.n, .int .i64 x.v, .bool x.d] 74)).alloc (.cells #[] 74)) := HB11.trans ((bel_alloc _ _).mono HB11.size)
          refine hK.out _ _ ?_ (fun hHeld' => ?_)
          · (try dsimp only)
            exact ⟨⟨cell_next HBn D0 hz, cell_next HBn D1 hz, cell_next HBn D2 hz, cell_next HBn D3 hz⟩, HBn⟩
          clear hK K
          clear hHeld
          have hHeld := hHeld'
          clear hHeld'
          have HB12 : Below wr.drew.heap.size wr.drew (((wr.drew.drew).alloc (.cells #[.int .i64 x.p, .int .i64 x.n, .int .i64 x.v, .bool x.d] 74)).alloc (.cells #[] 74)) := HBn
          clear HBn
          (try simp only [Act.put, List.getElem_toArray, List.getElem_cons_zero, List.getElem_cons_succ, List.setIfInBounds_toArray, List.set_cons_zero, List.set_cons_succ])
          refine wpAnyH_ready (rs := [4]) (by kernel_rfl) (by simp) ?_
          refine AllReadyH.cons rfl (fun K hK => ?_) AllReadyH.nil
          rw [if_pos (by rfl)]
          refine wp_append3 (.tmp 23) (.tmp 26) 29 rfl 74 i0 (.agg #[.int .i64 0, .int .i64 0, .int .i64 0, .bool false]) 32 Tryd.underlying29 HI.out.1 HI.out.2.1 HI.out.2.2.1 HI.out.2.2.2 rfl (.slice (some ⟨wr.drew.heap.size + 1, 0, none⟩) 0 0) _ _ rfl OW12.1 _ _ _ _ rfl (SrcT.next HB12) (by unfold maxLen; (try simp); (try omega)) (by (try simp); (try omega)) ?_
          intro v13 w13 ho hg
          have OW13 := OW12.app ho hg
          have SO13 := src_gro SO12 hg (by simp [Value.ownBlock])
          have HBn := OW13.2.1
          clear ho hg
          refine hK.out _ _ ?_ (fun hHeld' => ?_)
          · (try dsimp only)
            exact ⟨⟨cell_next HBn D0 hz, cell_next HBn D1 hz, cell_next HBn D2 hz, cell_next HBn D3 hz⟩, HBn⟩
          clear hK K
          clear hHeld
          have hHeld := hHeld'
          clear hHeld'
          have HB13 : Below wr.drew.heap.size wr.drew (w13) := HBn
          clear HBn
          (try simp only [Act.put, List.getElem_toArray, List.getElem_cons_zero, List.getElem_cons_succ, List.setIfInBounds_toArray, List.set_cons_zero, List.set_cons_succ])
          refine wpAnyH_ready (rs := [7]) (by kernel_rfl) (by simp) ?_
          refine AllReadyH.cons rfl (fun K hK => ?_) AllReadyH.nil
          rw [if_pos (by rfl)]
          refine wp_append3 (.tmp 27) (.tmp 29) 29 rfl 74 i0 (.agg #[.int .i64 0, .int .i64 0, .int .i64 0, .bool false]) 32 Tryd.underlying29 HI.out.1 HI.out.2.1 HI.out.2.2.1 HI.out.2.2.2 rfl v13 _ _ rfl OW13.1 _ _ _ _ rfl SO13 (by unfold maxLen; (try simp); (try omega)) (by (try simp); (try omega)) ?_
          intro v14 w14 ho hg
          have OW14 := OW13.app ho hg
          have HBn := OW14.2.1
          clear ho hg
          refine hK.out _ _ ?_ (fun hHeld' => ?_)
          · (try dsimp only)
            exact ⟨⟨cell_next HBn D0 hz, cell_next HBn D1 hz, cell_next HBn D2 hz, cell_next HBn D3 hz⟩, HBn⟩
          clear hK K
          clear hHeld
          have hHeld := hHeld'
          clear hHeld'
          have HB14 : Below wr.drew.heap.size wr.drew (w14) := HBn
          clear HBn
          (try simp only [Act.put, List.getElem_toArray, List.getElem_cons_zero, List.getElem_cons_succ, List.setIfInBounds_toArray, List.set_cons_zero, List.set_cons_succ])
          refine wpAnyH_ready (rs := [11]) (by kernel_rfl) (by simp) ?_
          refine AllReadyH.cons rfl (fun K hK => ?_) AllReadyH.nil
          rw [if_pos (by rfl)]
          refine wp_append3 (.tmp 30) (.tmp 33) 29 rfl 74 i0 (.agg #[.int .i64 0, .int .i64 0, .int .i64 0, .bool false]) 32 Tryd.underlying29 HI.out.1 HI.out.2.1 HI.out.2.2.1 HI.out.2.2.2 rfl v14 _ _ rfl OW14.1 _ _ _ _ rfl (SrcD.next HB14) (by unfold maxLen; (try simp); (try omega)) (by (try simp); (try omega)) ?_
          intro v15 w15 ho hg
          have OW15 := OW14.app ho hg
          have HBn := OW15.2.1
          clear ho hg
          refine hK.out _ _ ?_ (fun hHeld' => ?_)
          · (try dsimp only)
            exact ⟨⟨cell_next HBn D0 hz, cell_next HBn D1 hz, cell_next HBn D2 hz, cell_next HBn D3 hz⟩, HBn⟩
          clear hK K
          clear hHeld
          have hHeld := hHeld'
          clear hHeld'
          have HB15 : Below wr.drew.heap.size wr.drew (w15) := HBn
          clear HBn
          (try simp only [Act.put, List.getElem_toArray, List.getElem_cons_zero, List.getElem_cons_succ, List.setIfInBounds_toArray, List.set_cons_zero, List.set_cons_succ])
          refine wpAnyH_take (i := 12) (v := ?_) rfl (by kernel_rfl) (by kernel_rfl) (by kernel_rfl) (fun _ _ _ h => h) (Or.inl ⟨by rfl, ?_⟩) (by assumption) ?_
          rotate_left
          · intro w' hSw
            (try dsimp only at hSw)
            go_simp
            all_goals (try with_reducible rfl)
          (try simp only [Act.put, List.getElem_toArray, List.getElem_cons_zero, List.getElem_cons_succ, List.setIfInBounds_toArray, List.set_cons_zero, List.set_cons_succ])
          refine wpAnyH_done (by kernel_rfl) ?_ _
          have O9 : Hid (Own wr.drew w15 74 v15 _ _) := OW15
          clear hHeld D0 D1 D2 D3
          go_wp2
          all_goals go_ret
          all_goals exact ⟨_, rfl, own_cast O9.out.1 (by rw [← HPT.out]; (try simp); (try omega)) (by rw [← HPT.out]; simp [flat_append, flat]), (Gro.of_below HB0.out).trans O9.out.gro⟩
end Go.Proofs.YtcmniplbiliobaaDoor
