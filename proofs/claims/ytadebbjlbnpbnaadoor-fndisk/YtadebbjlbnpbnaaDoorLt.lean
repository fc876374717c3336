/- The law of torn lines. -/
import Derived.Test.YtadebbjlbnpbnaaDoorRows
import Derived.WalkKit
import Derived.WalkSpells
import Derived.WalkLawsBesides
import Derived.Deep.QuietTactic
import Derived.BigQuiet
import Derived.Deep.RegionHeld3
import Derived.Test.YtadebbjlbnpbnaaDoorDx
import Derived.Test.YtadebbjlbnpbnaaDoorTn
import Derived.Test.YtadebbjlbnpbnaaDoorOl
import Derived.Test.YtadebbjlbnpbnaaDoorRe
import Derived.Test.YtadebbjlbnpbnaaDoorCd
import Derived.Test.YtadebbjlbnpbnaaDoorAi
import Derived.LoopN
namespace Go.Proofs.YtadebbjlbnpbnaaDoor
open Go.RowKit
set_option linter.unusedSimpArgs false
set_option linter.unusedVariables false

/-- A slice of bytes that came in. -/
def BRow (w : World) (v : Value) : Prop := ∃ ao len cap zs, v = .slice ao len cap ∧ Gen.IsRow .u8 w ao len cap zs
set_option maxRecDepth 20000 in
set_option maxHeartbeats 16000000 in
theorem law_torn (v1 v2 : Value) (w : World) (h1 : BRow w v1) (h2 : BRow w v2) (hc : TB w) (hm : MX w) :
    Calls Tryd.prog 4 #[v1, v2] w fun e w' => e = .returned (.bool true) ∧ Below w.heap.size w w' := by
  obtain ⟨ao, len, cap, zs, rfl, hra⟩ := h1
  obtain ⟨bo, ln2, cp2, ys, rfl, hrb⟩ := h2
  have RC : Hid (Gen.IsRow .u8 w ao len cap zs) := hra
  have RM : Hid (Gen.IsRow .u8 w bo ln2 cp2 ys) := hrb
  have HT : Hid (TB w) := hc
  have HMX : Hid (MX w) := hm
  clear hra hrb hc hm
  by_cases hl1 : 1048576 < len
  · have hl1' : (1048576 : Int) < (len : Int) := by omega
    go_enter Tryd.func4, Tryd.ntmps4
    go_wp2
    go_ret
    exact ⟨rfl, Below.refl _ _⟩
  have hl1' : ¬ (1048576 : Int) < (len : Int) := by omega
  by_cases hl2 : 1048576 < ln2
  · have hl2' : (1048576 : Int) < (ln2 : Int) := by omega
    go_enter Tryd.func4, Tryd.ntmps4
    go_wp2
    go_ret
    exact ⟨rfl, Below.refl _ _⟩
  have hl2' : ¬ (1048576 : Int) < (ln2 : Int) := by omega
  go_enter Tryd.func4, Tryd.ntmps4
  go_wp2_with fail
  refine (at_any bo ln2 cp2 ys 0 30 _ (by omega) (by omega) (by omega) (by omega) RM.out).mono ?_
  rintro e w1 ⟨r0, rfl, hb, hr0⟩
  have HB : Hid (Below w.heap.size w w1) := hb
  clear hb
  go_wp2_with fail
  refine (textOf_any ao len cap zs r0 _ (by omega) (by omega) (row_below RC.out HB.out)).mono ?_
  rintro e w2 ⟨t, rfl, hts, hb⟩
  replace HB := bel_next HB hb
  clear hb
  have ht30 : t.size ≤ 30 := by omega
  clear hts hr0
  have CSL : Hid (∀ W : World, TB W → Calls Tryd.prog 15 #[.string t] W fun e w' => e = .returned (.tuple #[.string (sealS t), .int .i64 0]) ∧ Below W.heap.size W w') := fun W hT => by
    have := implSealLine_any t W hT (by omega)
    rw [if_pos (by omega), if_pos (by omega)] at this
    exact this
  have CSS : Hid (∀ W : World, Calls Tryd.prog 16 #[.string t] W fun e w' => e = .returned (.tuple #[.string (sealS t), .int .i64 0]) ∧ Below W.heap.size W w') := fun W => by
    have := specSealLine_any t W (by omega)
    rw [if_pos (by omega), if_pos (by omega)] at this
    exact this
  have hd1 := dsN_short t.size
  have hd2 := dsN_short (sumTo t t.size)
  have hd3 := sumTo_lt t t.size
  have hss := sealS_size t
  have hLs : (sealS t).size ≤ 5000 := by omega
  have hLp : 0 < (sealS t).size := by omega
  have COL : Hid (∀ W : World, TB W → MX W → Calls Tryd.prog 17 #[.string (sealS t)] W fun e w' => e = .returned (.tuple #[.string t, .int .i64 0]) ∧ Below W.heap.size W w') := fun W hT hM => by
    have := implOL_any (sealS t) W (by omega) hT hM
    unfold olS olC at this
    rw [if_pos (by omega), if_pos (by omega), open_seal] at this
    exact this
  have COT : Hid (∀ (W : World) (r : Nat), r < (sealS t).size → TB W → MX W → Calls Tryd.prog 17 #[.string ((sealS t).extract 0 r)] W fun e w' => e = .returned (.tuple #[.string ⟨#[]⟩, .int .i64 14]) ∧ Below W.heap.size W w') := fun W r hr hT hM => by
    have hz : ((sealS t).extract 0 r).size = r := by rw [ByteArray.size_extract]; omega
    have := implOL_any ((sealS t).extract 0 r) W (by omega) hT hM
    unfold olS olC at this
    rw [if_pos (by omega), if_pos (by omega), open_torn t r hr _ (ex_take _ _ (by omega))] at this
    exact this
  have CAP : Hid (∀ W : World, TB W → Calls Tryd.prog 6 #[.agg #[.slice none 0 0, .slice none 0 0], .string t] W (DP W 0 [] [sealS t])) := fun W hT => by
    have := implAppend_any (.slice none 0 0) (.slice none 0 0) [] [] t W (by omega) (by simp) (by simp) ⟨none, 0, rfl, by simp, .inl rfl⟩ ⟨none, 0, rfl, by simp, .inl rfl⟩ hT
    obtain ⟨e1, e2, e3⟩ := ap_ok (ss := []) (us := []) (t := t) (by omega) (by simp)
    rw [e1, e2, e3] at this
    exact this
  have CCR : Hid (∀ (W : World) (r : Nat) (x0 x1 : Value), r < (sealS t).size → RowV W x0 [] → RowV W x1 [sealS t] → Calls Tryd.prog 11 #[.agg #[x0, x1], .int .i64 0, .int .i64 (r : Int)] W (DP W 0 (surv [sealS t] 0 r) [])) := fun W r x0 x1 hr h0 h1 => by
    have := implCrash_any x0 x1 [] [sealS t] 0 (r : Int) W (by simp) (by simp) (fun s hs => by simp at hs; subst hs; omega) h0 h1
    rw [crC_ok (by simp) (by omega), crL_ok (by simp) (by omega)] at this
    simpa using this
  have CRE : Hid (∀ (W : World) (r : Nat) (x0 x1 : Value), r < (sealS t).size → RowV W x0 (surv [sealS t] 0 r) → RowV W x1 [] → TB W → MX W → Calls Tryd.prog 9 #[.agg #[x0, x1]] W (RP W 0 [])) := fun W r x0 x1 hr h0 h1 hT hM => by
    have hsl := surv_len [sealS t] 0 r
    simp at hsl
    have hmem : ∀ s ∈ surv [sealS t] 0 r, s.size ≤ 1048576 ∧ openO s = none := fun s hs => by
      unfold surv at hs
      rw [dif_pos (by simp)] at hs
      by_cases h0 : r = 0
      · rw [if_pos h0] at hs; simp at hs
      · rw [if_neg h0] at hs
        simp at hs
        subst hs
        have e : cutT (sealS t) r = (sealS t).extract 0 r := by unfold cutT; rw [show min r (sealS t).size = r by omega]
        rw [e]
        exact ⟨by rw [ByteArray.size_extract]; omega, open_torn t r hr _ (ex_take _ _ (by omega))⟩
    have := implRec_any x0 x1 (surv [sealS t] 0 r) [] W (by omega) (by simp) (fun s hs => (hmem s hs).1) h0 h1 hT hM
    rw [if_pos (by simp; omega), if_pos (by simp; omega)] at this
    have e : recL (surv [sealS t] 0 r) = [] := by
      cases hq : surv [sealS t] 0 r with
      | nil => rfl
      | cons s l =>
        unfold recL
        rw [(hmem s (by rw [hq]; simp)).2]
    rw [e] at this
    exact this
  obtain ⟨sm, hsm⟩ : ∃ sm : Int, sm = (if t.size ≤ 65536 then ((sumTo t t.size : Nat) : Int) else 0) := ⟨_, rfl⟩
  have CIS : Hid (∀ W : World, Calls Tryd.prog 18 #[.string t] W fun e w' => e = .returned (.int .i64 sm) ∧ Below W.heap.size W w') := fun W => by rw [hsm]; exact implSumOf_any t W (by omega)
  have CSO : Hid (∀ W : World, Calls Tryd.prog 19 #[.string t] W fun e w' => e = .returned (.int .i64 sm) ∧ Below W.heap.size W w') := fun W => by rw [hsm]; exact specSumOf_any t W (by omega)
  clear hsm hd1 hd2 hd3 hss
  generalize sealS t = Ln at *
  have hlz : ((Ln.size : Int) == 0) = false := beq_eq_false_iff_ne.2 (by omega)
  go_wp2_with fail
  refine Calls.mono (CSL.out _ (TB.next (show TB w from HT.out) HB.out)) ?_
  rintro e w3 ⟨rfl, hb⟩
  replace HB := bel_next HB hb
  clear hb
  go_wp2_with fail
  refine Calls.mono (CSS.out _) ?_
  rintro e w4 ⟨rfl, hb⟩
  replace HB := bel_next HB hb
  clear hb
  go_wp2_with fail
  refine Calls.mono (COL.out _ (TB.next (show TB w from HT.out) HB.out) (MX.next (show MX w from HMX.out) HB.out)) ?_
  rintro e w5 ⟨rfl, hb⟩
  replace HB := bel_next HB hb
  clear hb
  go_wp2_with fail
  refine (at_any bo ln2 cp2 ys 1 Ln.size _ (by omega) (by omega) (by omega) (by omega) (row_below RM.out HB.out)).mono ?_
  rintro e w6 ⟨r1, rfl, hb, hr1⟩
  replace HB := bel_next HB hb
  clear hb
  have hr1' : r1 < Ln.size := by omega
  have k1 : (0 : Int) ≤ (r1 : Int) := by omega
  have k2 : (r1 : Int) ≤ (Ln.size : Int) := by omega
  clear hr1
  go_wp2_with fail
  refine Calls.mono (COT.out _ r1 hr1' (TB.next (show TB w from HT.out) HB.out) (MX.next (show MX w from HMX.out) HB.out)) ?_
  rintro e w7 ⟨rfl, hb⟩
  replace HB := bel_next HB hb
  clear hb k1 k2 hr1'
  go_wp2_with fail
  refine Calls.mono (CAP.out _ (TB.next (show TB w from HT.out) HB.out)) ?_
  rintro e w8 ⟨dp, dc, dq, dd, rfl, hb, hO⟩
  replace HB := bel_next HB hb
  have ED : Hid (Own2 w8 (.slice dp 0 dc) (.slice dq 1 dd) [] [Ln] w7.heap.size w8.heap.size) := hO
  clear hb hO
  go_wp2_with fail
  have BD : Hid (Cb (w8.alloc (.cells #[.slice dp 0 dc, .slice dq 1 dd] 25)) w8.heap.size (.slice dp 0 dc) (.slice dq 1 dd)) := box_new
  have LD : Hid (w8.heap.size < (w8.alloc (.cells #[.slice dp 0 dc, .slice dq 1 dd] 25)).heap.size) := lt_new
  replace ED := o2_next ED (bel_alloc _ (.cells #[.slice dp 0 dc, .slice dq 1 dd] 25))
  replace HB := bel_next HB (bel_alloc _ (.cells #[.slice dp 0 dc, .slice dq 1 dd] 25))
  generalize hW9 : w8.alloc (.cells #[.slice dp 0 dc, .slice dq 1 dd] 25) = w9 at *
  generalize w8.heap.size = gd at *
  clear hW9
  have hW9 : True := trivial
  clear hW9
  have AT2 : Hid (∀ W : World, Gen.IsRow .u8 W bo ln2 cp2 ys → Calls Tryd.prog 10 #[.slice bo ln2 cp2, .int .i64 2, .int .i64 (Ln.size : Int)] W fun e w' => AtP W Ln.size e w') := fun W h => at_any bo ln2 cp2 ys 2 Ln.size W (by omega) (by omega) (by omega) (by omega) h
  refine wp_region_held_drew (S := (fun w' => (w'.cell? ⟨gd, 0, none⟩ = some ((.slice dp 0 dc)) ∧ w'.cell? ⟨gd, 1, none⟩ = some ((.slice dq 1 dd))) ∧ (gd < w'.heap.size) ∧ Own2 w' (.slice dp 0 dc) (.slice dq 1 dd) [] [Ln] w7.heap.size gd ∧ Below w.heap.size w w')) (by kernel_rfl) ?_ (fun hHeld => ?_)
  · (try dsimp only)
    exact ⟨(cb_next BD (bel_drew _) LD).out, (lt_next LD (bel_drew _)).out, (o2_next ED (bel_drew _)).out, (bel_next HB (bel_drew _)).out⟩
  refine wpAnyH_take (i := 0) (v := ?_) rfl (by kernel_rfl) (by kernel_rfl) (by kernel_rfl) (fun _ _ _ h => h) (Or.inl ⟨by rfl, ?_⟩) (by assumption) ?_
  rotate_left
  · intro w' hSw
    (try dsimp only at hSw)
    go_simp
    all_goals (try with_reducible rfl)
  (try simp only [Act.put, List.getElem_toArray, List.getElem_cons_zero, List.getElem_cons_succ, List.setIfInBounds_toArray, List.set_cons_zero, List.set_cons_succ])
  refine wpAnyH_take (i := 1) (v := ?_) rfl (by kernel_rfl) (by kernel_rfl) (by kernel_rfl) (fun _ _ _ h => h) (Or.inl ⟨by rfl, ?_⟩) (by assumption) ?_
  rotate_left
  · intro w' hSw
    (try dsimp only at hSw)
    go_simp
    all_goals (try with_reducible rfl)
  (try simp only [Act.put, List.getElem_toArray, List.getElem_cons_zero, List.getElem_cons_succ, List.setIfInBounds_toArray, List.set_cons_zero, List.set_cons_succ])
  refine wpAnyH_take (i := 2) (v := ?_) rfl (by kernel_rfl) (by kernel_rfl) (by kernel_rfl) (fun _ _ _ h => h) (Or.inl ⟨by rfl, ?_⟩) (by assumption) ?_
  rotate_left
  · intro w' hSw
    (try dsimp only at hSw)
    go_simp
    all_goals (try with_reducible rfl)
  (try simp only [Act.put, List.getElem_toArray, List.getElem_cons_zero, List.getElem_cons_succ, List.setIfInBounds_toArray, List.set_cons_zero, List.set_cons_succ])
  refine wpAnyH_take (i := 3) (v := ?_) rfl (by kernel_rfl) (by kernel_rfl) (by kernel_rfl) (fun _ _ _ h => h) (Or.inl ⟨by rfl, ?_⟩) (by assumption) ?_
  rotate_left
  · intro w' hSw
    (try dsimp only at hSw)
    go_simp
    all_goals (try with_reducible rfl)
  (try simp only [Act.put, List.getElem_toArray, List.getElem_cons_zero, List.getElem_cons_succ, List.setIfInBounds_toArray, List.set_cons_zero, List.set_cons_succ])
  clear BD LD ED HB
  generalize w9.drew = wd at *
  refine wpAnyH_ready (rs := [4, 9]) (by kernel_rfl) (by simp) ?_
  refine AllReadyH.cons rfl (fun K hK => ?_) (AllReadyH.cons rfl (fun K hK => ?_) AllReadyH.nil)
  · (try simp only [Act.put, List.getElem_toArray, List.getElem_cons_zero, List.getElem_cons_succ, List.setIfInBounds_toArray, List.set_cons_zero, List.set_cons_succ])
    go_simp
    go_at_call 10
    refine Calls.mono (AT2.out _ (row_below RM.out hHeld.2.2.2)) ?_
    rintro e x1 ⟨r2, rfl, hb, hr2⟩
    refine hK.out _ _ ?_ (fun hHeld' => ?_)
    · (try dsimp only)
      exact ⟨cb_next hHeld.1 hb hHeld.2.1, lt_next hHeld.2.1 hb, o2_next hHeld.2.2.1 hb, bel_next hHeld.2.2.2 hb⟩
    clear hK K hHeld
    have hHeld := hHeld'
    clear hHeld'
    (try simp only [Act.put, List.getElem_toArray, List.getElem_cons_zero, List.getElem_cons_succ, List.setIfInBounds_toArray, List.set_cons_zero, List.set_cons_succ])
    have HR2 : Hid (r2 < Ln.size) := (show r2 < Ln.size by omega)
    clear hb hr2
    refine wpAnyH_ready (rs := [5, 9]) (by kernel_rfl) (by simp) ?_
    refine AllReadyH.cons rfl (fun K hK => ?_) (AllReadyH.cons rfl (fun K hK => ?_) AllReadyH.nil)
    · (try simp only [Act.put, List.getElem_toArray, List.getElem_cons_zero, List.getElem_cons_succ, List.setIfInBounds_toArray, List.set_cons_zero, List.set_cons_succ])
      go_simp
      go_at_call 11
      refine Calls.mono (CCR.out _ r2 _ _ HR2.out (own_rowV hHeld.2.2.1.r0) (own_rowV hHeld.2.2.1.r1)) ?_
      rintro e x2 ⟨xp, xc, xq, xd, rfl, hb, hO⟩
      have EX : Hid (Own2 x2 (.slice xp (surv [Ln] 0 r2).length xc) (.slice xq 0 xd) (surv [Ln] 0 r2) [] x1.heap.size x2.heap.size) := hO
      refine hK.out _ _ ?_ (fun hHeld' => ?_)
      · (try dsimp only)
        exact ⟨cb_next hHeld.1 hb hHeld.2.1, lt_next hHeld.2.1 hb, o2_next hHeld.2.2.1 hb, bel_next hHeld.2.2.2 hb⟩
      clear hK K hHeld
      have hHeld := hHeld'
      clear hHeld'
      (try simp only [Act.put, List.getElem_toArray, List.getElem_cons_zero, List.getElem_cons_succ, List.setIfInBounds_toArray, List.set_cons_zero, List.set_cons_succ])
      clear hb hO
      refine wpAnyH_take (i := 6) (v := ?_) rfl (by kernel_rfl) (by kernel_rfl) (by kernel_rfl) (fun _ _ _ h => h) (Or.inl ⟨by rfl, ?_⟩) (by assumption) ?_
      rotate_left
      · intro w' hSw
        (try dsimp only at hSw)
        go_simp
        all_goals (try with_reducible rfl)
      (try simp only [Act.put, List.getElem_toArray, List.getElem_cons_zero, List.getElem_cons_succ, List.setIfInBounds_toArray, List.set_cons_zero, List.set_cons_succ])
      refine wpAnyH_take (i := 7) (v := ?_) rfl (by kernel_rfl) (by kernel_rfl) (by kernel_rfl) (fun _ _ _ h => h) (Or.inl ⟨by rfl, ?_⟩) (by assumption) ?_
      rotate_left
      · intro w' hSw
        (try dsimp only at hSw)
        go_simp
        all_goals (try with_reducible rfl)
      (try simp only [Act.put, List.getElem_toArray, List.getElem_cons_zero, List.getElem_cons_succ, List.setIfInBounds_toArray, List.set_cons_zero, List.set_cons_succ])
      refine wpAnyH_take (i := 8) (v := ?_) rfl (by kernel_rfl) (by kernel_rfl) (by kernel_rfl) (fun _ _ _ h => h) (Or.inl ⟨by rfl, ?_⟩) (by assumption) ?_
      rotate_left
      · intro w' hSw
        (try dsimp only at hSw)
        go_simp
        all_goals (try with_reducible rfl)
      (try simp only [Act.put, List.getElem_toArray, List.getElem_cons_zero, List.getElem_cons_succ, List.setIfInBounds_toArray, List.set_cons_zero, List.set_cons_succ])
      refine wpAnyH_ready (rs := [9]) (by kernel_rfl) (by simp) ?_
      refine AllReadyH.cons rfl (fun K hK => ?_) AllReadyH.nil
      (try simp only [Act.put, List.getElem_toArray, List.getElem_cons_zero, List.getElem_cons_succ, List.setIfInBounds_toArray, List.set_cons_zero, List.set_cons_succ])
      have NG : Hid (gd ≠ x2.heap.size) := (show gd ≠ _ from Nat.ne_of_lt hHeld.2.1)
      have NO : Hid (x2.heap.size < w7.heap.size ∨ gd ≤ x2.heap.size) := .inr (Nat.le_of_lt hHeld.2.1)
      have NW : Hid (w.heap.size ≤ x2.heap.size) := (hHeld.2.2.2).size
      have hba := bel_alloc x2 (.cells #[.slice none 0 0, .slice none 0 0] 25)
      have TH : Hid (Th2 (x2.alloc (.cells #[.slice none 0 0, .slice none 0 0] 25)) x2.heap.size) := th2_new
      have LX : Hid (x2.heap.size < (x2.alloc (.cells #[.slice none 0 0, .slice none 0 0] 25)).heap.size) := lt_new
      have GX : Hid (x2.heap.size < x1.heap.size ∨ x2.heap.size ≤ x2.heap.size) := .inr (Nat.le_refl _)
      replace EX := o2_next EX hba
      go_simp
      (try simp only [])
      refine hK.out _ _ ?_ (fun hHeld' => ?_)
      · (try dsimp only)
        exact ⟨cb_next hHeld.1 hba hHeld.2.1, lt_next hHeld.2.1 hba, o2_next hHeld.2.2.1 hba, bel_next hHeld.2.2.2 hba⟩
      clear hK K hHeld
      have hHeld := hHeld'
      clear hHeld'
      (try simp only [Act.put, List.getElem_toArray, List.getElem_cons_zero, List.getElem_cons_succ, List.setIfInBounds_toArray, List.set_cons_zero, List.set_cons_succ])
      clear hba
      generalize x2.alloc (.cells #[.slice none 0 0, .slice none 0 0] 25) = x3 at *
      generalize x2.heap.size = gx at *
      obtain ⟨⟨⟨u0, T0⟩, ⟨u1, T1⟩⟩, Z0, Z1⟩ := TH.out
      refine wpAnyH_ready (rs := [10]) (by kernel_rfl) (by simp) ?_
      refine AllReadyH.cons rfl (fun K hK => ?_) AllReadyH.nil
      (try simp only [Act.put, List.getElem_toArray, List.getElem_cons_zero, List.getElem_cons_succ, List.setIfInBounds_toArray, List.set_cons_zero, List.set_cons_succ])
      go_simp
      (try simp only [])
      refine hK.out _ _ ?_ (fun hHeld' => ?_)
      · (try dsimp only)
        exact ⟨⟨cell_set (cell_set hHeld.1.1 NG.out) NG.out, cell_set (cell_set hHeld.1.2 NG.out) NG.out⟩, (by simpa [World.setCell] using hHeld.2.1), Own2.set (Own2.set hHeld.2.2.1 NO.out) NO.out, bel_set (bel_set hHeld.2.2.2 NW.out) NW.out⟩
      clear hK K hHeld
      have hHeld := hHeld'
      clear hHeld'
      (try simp only [Act.put, List.getElem_toArray, List.getElem_cons_zero, List.getElem_cons_succ, List.setIfInBounds_toArray, List.set_cons_zero, List.set_cons_succ])
      have CC := set2_cells (v0 := (.slice xp (surv [Ln] 0 r2).length xc)) (v1 := (.slice xq 0 xd)) TH.out
      obtain ⟨y0, y1⟩ := CC
      have OX : Hid (Own2 ((x3.setCell ⟨gx, 0, none⟩ (.slice xp (surv [Ln] 0 r2).length xc)).setCell ⟨gx, 1, none⟩ (.slice xq 0 xd)) (.slice xp (surv [Ln] 0 r2).length xc) (.slice xq 0 xd) (surv [Ln] 0 r2) [] _ _) := Own2.set (Own2.set EX.out GX.out) GX.out
      have HB9 : Hid (Below w.heap.size w ((x3.setCell ⟨gx, 0, none⟩ (.slice xp (surv [Ln] 0 r2).length xc)).setCell ⟨gx, 1, none⟩ (.slice xq 0 xd))) := hHeld.2.2.2
      clear T0 T1 Z0 Z1
      refine wpAnyH_take (i := 11) (v := ?_) rfl (by kernel_rfl) (by kernel_rfl) (by kernel_rfl) (fun _ _ _ h => h) (Or.inl ⟨by rfl, ?_⟩) (by assumption) ?_
      rotate_left
      · intro w' hSw
        (try dsimp only at hSw)
        go_simp
        all_goals (try with_reducible rfl)
      (try simp only [Act.put, List.getElem_toArray, List.getElem_cons_zero, List.getElem_cons_succ, List.setIfInBounds_toArray, List.set_cons_zero, List.set_cons_succ])
      refine wpAnyH_done (by kernel_rfl) ?_ _
      clear hHeld TH EX
      generalize ((x3.setCell ⟨gx, 0, none⟩ (.slice xp (surv [Ln] 0 r2).length xc)).setCell ⟨gx, 1, none⟩ (.slice xq 0 xd)) = wz at *
      go_wp2_with fail
      refine Calls.mono (CRE.out _ r2 _ _ HR2.out (own_rowV OX.out.r0) (own_rowV OX.out.r1) (TB.next (show TB w from HT.out) HB9.out) (MX.next (show MX w from HMX.out) HB9.out)) ?_
      rintro e wy ⟨np, nc, rfl, hb, _⟩
      replace HB9 := bel_next HB9 hb
      clear hb y0 y1 OX
      go_wp2_with fail
      refine Calls.mono (CIS.out _) ?_
      rintro e wx ⟨rfl, hb⟩
      replace HB9 := bel_next HB9 hb
      clear hb
      go_wp2_with fail
      refine Calls.mono (CSO.out _) ?_
      rintro e wv ⟨rfl, hb⟩
      replace HB9 := bel_next HB9 hb
      clear hb
      go_wp2
      go_ret
      exact ⟨rfl, HB9.out⟩
    · (try simp only [Act.put, List.getElem_toArray, List.getElem_cons_zero, List.getElem_cons_succ, List.setIfInBounds_toArray, List.set_cons_zero, List.set_cons_succ])
      have NG : Hid (gd ≠ x1.heap.size) := (show gd ≠ _ from Nat.ne_of_lt hHeld.2.1)
      have NO : Hid (x1.heap.size < w7.heap.size ∨ gd ≤ x1.heap.size) := .inr (Nat.le_of_lt hHeld.2.1)
      have NW : Hid (w.heap.size ≤ x1.heap.size) := (hHeld.2.2.2).size
      have hba := bel_alloc x1 (.cells #[.slice none 0 0, .slice none 0 0] 25)
      have TH : Hid (Th2 (x1.alloc (.cells #[.slice none 0 0, .slice none 0 0] 25)) x1.heap.size) := th2_new
      have LX : Hid (x1.heap.size < (x1.alloc (.cells #[.slice none 0 0, .slice none 0 0] 25)).heap.size) := lt_new
      go_simp
      (try simp only [])
      refine hK.out _ _ ?_ (fun hHeld' => ?_)
      · (try dsimp only)
        exact ⟨cb_next hHeld.1 hba hHeld.2.1, lt_next hHeld.2.1 hba, o2_next hHeld.2.2.1 hba, bel_next hHeld.2.2.2 hba⟩
      clear hK K hHeld
      have hHeld := hHeld'
      clear hHeld'
      (try simp only [Act.put, List.getElem_toArray, List.getElem_cons_zero, List.getElem_cons_succ, List.setIfInBounds_toArray, List.set_cons_zero, List.set_cons_succ])
      clear hba
      generalize x1.alloc (.cells #[.slice none 0 0, .slice none 0 0] 25) = x2 at *
      generalize x1.heap.size = gx at *
      refine wpAnyH_ready (rs := [5]) (by kernel_rfl) (by simp) ?_
      refine AllReadyH.cons rfl (fun K hK => ?_) AllReadyH.nil
      (try simp only [Act.put, List.getElem_toArray, List.getElem_cons_zero, List.getElem_cons_succ, List.setIfInBounds_toArray, List.set_cons_zero, List.set_cons_succ])
      go_simp
      go_at_call 11
      refine Calls.mono (CCR.out _ r2 _ _ HR2.out (own_rowV hHeld.2.2.1.r0) (own_rowV hHeld.2.2.1.r1)) ?_
      rintro e x3 ⟨xp, xc, xq, xd, rfl, hb, hO⟩
      have EX : Hid (Own2 x3 (.slice xp (surv [Ln] 0 r2).length xc) (.slice xq 0 xd) (surv [Ln] 0 r2) [] x2.heap.size x3.heap.size) := hO
      have GX : Hid (gx < x2.heap.size ∨ x3.heap.size ≤ gx) := .inl LX.out
      replace TH : Hid _ := TH.out.next hb
      replace LX := lt_next LX hb
      refine hK.out _ _ ?_ (fun hHeld' => ?_)
      · (try dsimp only)
        exact ⟨cb_next hHeld.1 hb hHeld.2.1, lt_next hHeld.2.1 hb, o2_next hHeld.2.2.1 hb, bel_next hHeld.2.2.2 hb⟩
      clear hK K hHeld
      have hHeld := hHeld'
      clear hHeld'
      (try simp only [Act.put, List.getElem_toArray, List.getElem_cons_zero, List.getElem_cons_succ, List.setIfInBounds_toArray, List.set_cons_zero, List.set_cons_succ])
      clear hb hO
      refine wpAnyH_take (i := 6) (v := ?_) rfl (by kernel_rfl) (by kernel_rfl) (by kernel_rfl) (fun _ _ _ h => h) (Or.inl ⟨by rfl, ?_⟩) (by assumption) ?_
      rotate_left
      · intro w' hSw
        (try dsimp only at hSw)
        go_simp
        all_goals (try with_reducible rfl)
      (try simp only [Act.put, List.getElem_toArray, List.getElem_cons_zero, List.getElem_cons_succ, List.setIfInBounds_toArray, List.set_cons_zero, List.set_cons_succ])
      refine wpAnyH_take (i := 7) (v := ?_) rfl (by kernel_rfl) (by kernel_rfl) (by kernel_rfl) (fun _ _ _ h => h) (Or.inl ⟨by rfl, ?_⟩) (by assumption) ?_
      rotate_left
      · intro w' hSw
        (try dsimp only at hSw)
        go_simp
        all_goals (try with_reducible rfl)
      (try simp only [Act.put, List.getElem_toArray, List.getElem_cons_zero, List.getElem_cons_succ, List.setIfInBounds_toArray, List.set_cons_zero, List.set_cons_succ])
      refine wpAnyH_take (i := 8) (v := ?_) rfl (by kernel_rfl) (by kernel_rfl) (by kernel_rfl) (fun _ _ _ h => h) (Or.inl ⟨by rfl, ?_⟩) (by assumption) ?_
      rotate_left
      · intro w' hSw
        (try dsimp only at hSw)
        go_simp
        all_goals (try with_reducible rfl)
      (try simp only [Act.put, List.getElem_toArray, List.getElem_cons_zero, List.getElem_cons_succ, List.setIfInBounds_toArray, List.set_cons_zero, List.set_cons_succ])
      obtain ⟨⟨⟨u0, T0⟩, ⟨u1, T1⟩⟩, Z0, Z1⟩ := TH.out
      refine wpAnyH_ready (rs := [10]) (by kernel_rfl) (by simp) ?_
      refine AllReadyH.cons rfl (fun K hK => ?_) AllReadyH.nil
      (try simp only [Act.put, List.getElem_toArray, List.getElem_cons_zero, List.getElem_cons_succ, List.setIfInBounds_toArray, List.set_cons_zero, List.set_cons_succ])
      go_simp
      (try simp only [])
      refine hK.out _ _ ?_ (fun hHeld' => ?_)
      · (try dsimp only)
        exact ⟨⟨cell_set (cell_set hHeld.1.1 NG.out) NG.out, cell_set (cell_set hHeld.1.2 NG.out) NG.out⟩, (by simpa [World.setCell] using hHeld.2.1), Own2.set (Own2.set hHeld.2.2.1 NO.out) NO.out, bel_set (bel_set hHeld.2.2.2 NW.out) NW.out⟩
      clear hK K hHeld
      have hHeld := hHeld'
      clear hHeld'
      (try simp only [Act.put, List.getElem_toArray, List.getElem_cons_zero, List.getElem_cons_succ, List.setIfInBounds_toArray, List.set_cons_zero, List.set_cons_succ])
      have CC := set2_cells (v0 := (.slice xp (surv [Ln] 0 r2).length xc)) (v1 := (.slice xq 0 xd)) TH.out
      obtain ⟨y0, y1⟩ := CC
      have OX : Hid (Own2 ((x3.setCell ⟨gx, 0, none⟩ (.slice xp (surv [Ln] 0 r2).length xc)).setCell ⟨gx, 1, none⟩ (.slice xq 0 xd)) (.slice xp (surv [Ln] 0 r2).length xc) (.slice xq 0 xd) (surv [Ln] 0 r2) [] _ _) := Own2.set (Own2.set EX.out GX.out) GX.out
      have HB9 : Hid (Below w.heap.size w ((x3.setCell ⟨gx, 0, none⟩ (.slice xp (surv [Ln] 0 r2).length xc)).setCell ⟨gx, 1, none⟩ (.slice xq 0 xd))) := hHeld.2.2.2
      clear T0 T1 Z0 Z1
      refine wpAnyH_take (i := 11) (v := ?_) rfl (by kernel_rfl) (by kernel_rfl) (by kernel_rfl) (fun _ _ _ h => h) (Or.inl ⟨by rfl, ?_⟩) (by assumption) ?_
      rotate_left
      · intro w' hSw
        (try dsimp only at hSw)
        go_simp
        all_goals (try with_reducible rfl)
      (try simp only [Act.put, List.getElem_toArray, List.getElem_cons_zero, List.getElem_cons_succ, List.setIfInBounds_toArray, List.set_cons_zero, List.set_cons_succ])
      refine wpAnyH_done (by kernel_rfl) ?_ _
      clear hHeld TH EX
      generalize ((x3.setCell ⟨gx, 0, none⟩ (.slice xp (surv [Ln] 0 r2).length xc)).setCell ⟨gx, 1, none⟩ (.slice xq 0 xd)) = wz at *
      go_wp2_with fail
      refine Calls.mono (CRE.out _ r2 _ _ HR2.out (own_rowV OX.out.r0) (own_rowV OX.out.r1) (TB.next (show TB w from HT.out) HB9.out) (MX.next (show MX w from HMX.out) HB9.out)) ?_
      rintro e wy ⟨np, nc, rfl, hb, _⟩
      replace HB9 := bel_next HB9 hb
      clear hb y0 y1 OX
      go_wp2_with fail
      refine Calls.mono (CIS.out _) ?_
      rintro e wx ⟨rfl, hb⟩
      replace HB9 := bel_next HB9 hb
      clear hb
      go_wp2_with fail
      refine Calls.mono (CSO.out _) ?_
      rintro e wv ⟨rfl, hb⟩
      replace HB9 := bel_next HB9 hb
      clear hb
      go_wp2
      go_ret
      exact ⟨rfl, HB9.out⟩
  · (try simp only [Act.put, List.getElem_toArray, List.getElem_cons_zero, List.getElem_cons_succ, List.setIfInBounds_toArray, List.set_cons_zero, List.set_cons_succ])
    have NG : Hid (gd ≠ wd.heap.size) := (show gd ≠ _ from Nat.ne_of_lt hHeld.2.1)
    have NO : Hid (wd.heap.size < w7.heap.size ∨ gd ≤ wd.heap.size) := .inr (Nat.le_of_lt hHeld.2.1)
    have NW : Hid (w.heap.size ≤ wd.heap.size) := (hHeld.2.2.2).size
    have hba := bel_alloc wd (.cells #[.slice none 0 0, .slice none 0 0] 25)
    have TH : Hid (Th2 (wd.alloc (.cells #[.slice none 0 0, .slice none 0 0] 25)) wd.heap.size) := th2_new
    have LX : Hid (wd.heap.size < (wd.alloc (.cells #[.slice none 0 0, .slice none 0 0] 25)).heap.size) := lt_new
    go_simp
    (try simp only [])
    refine hK.out _ _ ?_ (fun hHeld' => ?_)
    · (try dsimp only)
      exact ⟨cb_next hHeld.1 hba hHeld.2.1, lt_next hHeld.2.1 hba, o2_next hHeld.2.2.1 hba, bel_next hHeld.2.2.2 hba⟩
    clear hK K hHeld
    have hHeld := hHeld'
    clear hHeld'
    (try simp only [Act.put, List.getElem_toArray, List.getElem_cons_zero, List.getElem_cons_succ, List.setIfInBounds_toArray, List.set_cons_zero, List.set_cons_succ])
    clear hba
    generalize wd.alloc (.cells #[.slice none 0 0, .slice none 0 0] 25) = x1 at *
    generalize wd.heap.size = gx at *
    refine wpAnyH_ready (rs := [4]) (by kernel_rfl) (by simp) ?_
    refine AllReadyH.cons rfl (fun K hK => ?_) AllReadyH.nil
    (try simp only [Act.put, List.getElem_toArray, List.getElem_cons_zero, List.getElem_cons_succ, List.setIfInBounds_toArray, List.set_cons_zero, List.set_cons_succ])
    go_simp
    go_at_call 10
    refine Calls.mono (AT2.out _ (row_below RM.out hHeld.2.2.2)) ?_
    rintro e x2 ⟨r2, rfl, hb, hr2⟩
    replace TH : Hid _ := TH.out.next hb
    replace LX := lt_next LX hb
    refine hK.out _ _ ?_ (fun hHeld' => ?_)
    · (try dsimp only)
      exact ⟨cb_next hHeld.1 hb hHeld.2.1, lt_next hHeld.2.1 hb, o2_next hHeld.2.2.1 hb, bel_next hHeld.2.2.2 hb⟩
    clear hK K hHeld
    have hHeld := hHeld'
    clear hHeld'
    (try simp only [Act.put, List.getElem_toArray, List.getElem_cons_zero, List.getElem_cons_succ, List.setIfInBounds_toArray, List.set_cons_zero, List.set_cons_succ])
    have HR2 : Hid (r2 < Ln.size) := (show r2 < Ln.size by omega)
    clear hb hr2
    refine wpAnyH_ready (rs := [5]) (by kernel_rfl) (by simp) ?_
    refine AllReadyH.cons rfl (fun K hK => ?_) AllReadyH.nil
    (try simp only [Act.put, List.getElem_toArray, List.getElem_cons_zero, List.getElem_cons_succ, List.setIfInBounds_toArray, List.set_cons_zero, List.set_cons_succ])
    go_simp
    go_at_call 11
    refine Calls.mono (CCR.out _ r2 _ _ HR2.out (own_rowV hHeld.2.2.1.r0) (own_rowV hHeld.2.2.1.r1)) ?_
    rintro e x3 ⟨xp, xc, xq, xd, rfl, hb, hO⟩
    have EX : Hid (Own2 x3 (.slice xp (surv [Ln] 0 r2).length xc) (.slice xq 0 xd) (surv [Ln] 0 r2) [] x2.heap.size x3.heap.size) := hO
    have GX : Hid (gx < x2.heap.size ∨ x3.heap.size ≤ gx) := .inl LX.out
    replace TH : Hid _ := TH.out.next hb
    replace LX := lt_next LX hb
    refine hK.out _ _ ?_ (fun hHeld' => ?_)
    · (try dsimp only)
      exact ⟨cb_next hHeld.1 hb hHeld.2.1, lt_next hHeld.2.1 hb, o2_next hHeld.2.2.1 hb, bel_next hHeld.2.2.2 hb⟩
    clear hK K hHeld
    have hHeld := hHeld'
    clear hHeld'
    (try simp only [Act.put, List.getElem_toArray, List.getElem_cons_zero, List.getElem_cons_succ, List.setIfInBounds_toArray, List.set_cons_zero, List.set_cons_succ])
    clear hb hO
    refine wpAnyH_take (i := 6) (v := ?_) rfl (by kernel_rfl) (by kernel_rfl) (by kernel_rfl) (fun _ _ _ h => h) (Or.inl ⟨by rfl, ?_⟩) (by assumption) ?_
    rotate_left
    · intro w' hSw
      (try dsimp only at hSw)
      go_simp
      all_goals (try with_reducible rfl)
    (try simp only [Act.put, List.getElem_toArray, List.getElem_cons_zero, List.getElem_cons_succ, List.setIfInBounds_toArray, List.set_cons_zero, List.set_cons_succ])
    refine wpAnyH_take (i := 7) (v := ?_) rfl (by kernel_rfl) (by kernel_rfl) (by kernel_rfl) (fun _ _ _ h => h) (Or.inl ⟨by rfl, ?_⟩) (by assumption) ?_
    rotate_left
    · intro w' hSw
      (try dsimp only at hSw)
      go_simp
      all_goals (try with_reducible rfl)
    (try simp only [Act.put, List.getElem_toArray, List.getElem_cons_zero, List.getElem_cons_succ, List.setIfInBounds_toArray, List.set_cons_zero, List.set_cons_succ])
    refine wpAnyH_take (i := 8) (v := ?_) rfl (by kernel_rfl) (by kernel_rfl) (by kernel_rfl) (fun _ _ _ h => h) (Or.inl ⟨by rfl, ?_⟩) (by assumption) ?_
    rotate_left
    · intro w' hSw
      (try dsimp only at hSw)
      go_simp
      all_goals (try with_reducible rfl)
    (try simp only [Act.put, List.getElem_toArray, List.getElem_cons_zero, List.getElem_cons_succ, List.setIfInBounds_toArray, List.set_cons_zero, List.set_cons_succ])
    obtain ⟨⟨⟨u0, T0⟩, ⟨u1, T1⟩⟩, Z0, Z1⟩ := TH.out
    refine wpAnyH_ready (rs := [10]) (by kernel_rfl) (by simp) ?_
    refine AllReadyH.cons rfl (fun K hK => ?_) AllReadyH.nil
    (try simp only [Act.put, List.getElem_toArray, List.getElem_cons_zero, List.getElem_cons_succ, List.setIfInBounds_toArray, List.set_cons_zero, List.set_cons_succ])
    go_simp
    (try simp only [])
    refine hK.out _ _ ?_ (fun hHeld' => ?_)
    · (try dsimp only)
      exact ⟨⟨cell_set (cell_set hHeld.1.1 NG.out) NG.out, cell_set (cell_set hHeld.1.2 NG.out) NG.out⟩, (by simpa [World.setCell] using hHeld.2.1), Own2.set (Own2.set hHeld.2.2.1 NO.out) NO.out, bel_set (bel_set hHeld.2.2.2 NW.out) NW.out⟩
    clear hK K hHeld
    have hHeld := hHeld'
    clear hHeld'
    (try simp only [Act.put, List.getElem_toArray, List.getElem_cons_zero, List.getElem_cons_succ, List.setIfInBounds_toArray, List.set_cons_zero, List.set_cons_succ])
    have CC := set2_cells (v0 := (.slice xp (surv [Ln] 0 r2).length xc)) (v1 := (.slice xq 0 xd)) TH.out
    obtain ⟨y0, y1⟩ := CC
    have OX : Hid (Own2 ((x3.setCell ⟨gx, 0, none⟩ (.slice xp (surv [Ln] 0 r2).length xc)).setCell ⟨gx, 1, none⟩ (.slice xq 0 xd)) (.slice xp (surv [Ln] 0 r2).length xc) (.slice xq 0 xd) (surv [Ln] 0 r2) [] _ _) := Own2.set (Own2.set EX.out GX.out) GX.out
    have HB9 : Hid (Below w.heap.size w ((x3.setCell ⟨gx, 0, none⟩ (.slice xp (surv [Ln] 0 r2).length xc)).setCell ⟨gx, 1, none⟩ (.slice xq 0 xd))) := hHeld.2.2.2
    clear T0 T1 Z0 Z1
    refine wpAnyH_take (i := 11) (v := ?_) rfl (by kernel_rfl) (by kernel_rfl) (by kernel_rfl) (fun _ _ _ h => h) (Or.inl ⟨by rfl, ?_⟩) (by assumption) ?_
    rotate_left
    · intro w' hSw
      (try dsimp only at hSw)
      go_simp
      all_goals (try with_reducible rfl)
    (try simp only [Act.put, List.getElem_toArray, List.getElem_cons_zero, List.getElem_cons_succ, List.setIfInBounds_toArray, List.set_cons_zero, List.set_cons_succ])
    refine wpAnyH_done (by kernel_rfl) ?_ _
    clear hHeld TH EX
    generalize ((x3.setCell ⟨gx, 0, none⟩ (.slice xp (surv [Ln] 0 r2).length xc)).setCell ⟨gx, 1, none⟩ (.slice xq 0 xd)) = wz at *
    go_wp2_with fail
    refine Calls.mono (CRE.out _ r2 _ _ HR2.out (own_rowV OX.out.r0) (own_rowV OX.out.r1) (TB.next (show TB w from HT.out) HB9.out) (MX.next (show MX w from HMX.out) HB9.out)) ?_
    rintro e wy ⟨np, nc, rfl, hb, _⟩
    replace HB9 := bel_next HB9 hb
    clear hb y0 y1 OX
    go_wp2_with fail
    refine Calls.mono (CIS.out _) ?_
    rintro e wx ⟨rfl, hb⟩
    replace HB9 := bel_next HB9 hb
    clear hb
    go_wp2_with fail
    refine Calls.mono (CSO.out _) ?_
    rintro e wv ⟨rfl, hb⟩
    replace HB9 := bel_next HB9 hb
    clear hb
    go_wp2
    go_ret
    exact ⟨rfl, HB9.out⟩
end Go.Proofs.YtadebbjlbnpbnaaDoor
