/- The law of disks. -/
import Derived.Test.YthblnifapkfbcaaDoorRows
import Derived.WalkKit
import Derived.WalkSpells
import Derived.WalkLawsBesides
import Derived.Deep.QuietTactic
import Derived.BigQuiet
import Derived.Deep.RegionHeld3
import Derived.Test.YthblnifapkfbcaaDoorDe
import Derived.Test.YthblnifapkfbcaaDoorTn
import Derived.Test.YthblnifapkfbcaaDoorLt
import Derived.Test.YthblnifapkfbcaaDoorRe
import Derived.Test.YthblnifapkfbcaaDoorSz
import Derived.Test.YthblnifapkfbcaaDoorCd
import Derived.Test.YthblnifapkfbcaaDoorAi
import Derived.LoopN
import Derived.Deep.Cut
namespace Go.Proofs.YthblnifapkfbcaaDoor
open Go.RowKit
set_option linter.unusedSimpArgs false
set_option linter.unusedVariables false
set_option maxHeartbeats 2000000 in
theorem sameTexts_same (cap cp : Nat) (ao bo : Option Addr) (ss : List ByteArray) (w : World) (hm : ss.length ≤ 1048576) (hr0 : TRow w ao ss) (hs0 : TRow w bo ss) :
    Calls Tryd.prog 12 #[.slice ao ss.length cap, .slice bo ss.length cp] w fun e w' => e = .returned (.bool true) ∧ Below w.heap.size w w' := by
  have hr : Hid (TRow w ao ss) := hr0
  have hs : Hid (TRow w bo ss) := hs0
  clear hr0 hs0
  obtain ⟨n, hn0⟩ : ∃ n, n = ss.length := ⟨_, rfl⟩
  have hn : Hid (n = ss.length) := hn0
  rw [← hn0]
  rw [← hn0] at hm
  clear hn0
  go_enter Tryd.func12, Tryd.ntmps12
  go_wp2
  go_loopw [5] (fun s5 wr => ∃ k : Nat, k ≤ n ∧ s5 = .int .i64 k ∧ Below w.heap.size w wr) (fun s5 _ => n - (intOf s5).toNat)
  case atStart => exact ⟨0, by omega, rfl, Below.refl _ _⟩
  case round =>
    obtain ⟨k, hk, rfl, hB0⟩ := hrel
    have hB : Hid (Below w.heap.size w wr) := hB0
    clear hB0
    by_cases hkl : k < n
    · have hkl' : (k : Int) < (n : Int) := by omega
      have kz : k < ss.length := by have := hn.out; omega
      rcases hr.out with h' | ⟨b, off, rfl, h2⟩
      · rw [h'] at kz; simp at kz
      rcases hs.out with h' | ⟨c, oft, rfl, h3⟩
      · rw [h'] at kz; simp at kz
      have x0 := cell_next hB.out (h2 k kz) (cell_lt' (h2 k kz))
      have y0 := cell_next hB.out (h3 k kz) (cell_lt' (h3 k kz))
      obtain ⟨s, hs⟩ : ∃ s, s = ss[k] := ⟨_, rfl⟩
      rw [← hs] at x0 y0
      have k0 : (0 : Int) ≤ (k : Int) := by omega
      clear h2 h3 hs
      go_wp2
      go_quiet (fail)
      go_wp2
      go_roundw
      case rel => first | exact ⟨k + 1, by omega, by go_num, below_drewN hB.out _⟩ | ((repeat apply Exists.intro); exact ⟨⟨k + 1, by omega, by go_num, below_drewN hB.out _⟩, rfl⟩)
      case measure => simp [intOf]; omega
    · have hkl' : ¬ (k : Int) < (n : Int) := by omega
      go_wp2
      go_ret
      exact ⟨rfl, hB.out⟩


theorem rowv_new {W W' : World} {g : Nat} {v u0 u1 : Value} {ss : List ByteArray} (h : RowV W v ss) (hg : W.heap.size ≤ g) (h' : RowV W' v ss) : RowV ((W'.setCell ⟨g, 0, none⟩ u0).setCell ⟨g, 1, none⟩ u1) v ss := by
  obtain ⟨ao, cap, rfl, hc, ht⟩ := h
  obtain ⟨ao', cap', e, hc', ht'⟩ := h'
  obtain ⟨e1, e2, e3⟩ := Value.slice.inj e
  subst e1
  subst e3
  refine ⟨ao, cap, rfl, hc, ?_⟩
  rcases ht' with h0 | ⟨b, off, rfl, h2⟩
  · exact .inl h0
  · rcases ht with h0 | ⟨b', off', e4, h3⟩
    · exact .inl h0
    · cases e4
      refine .inr ⟨b, off, rfl, fun i hi => ?_⟩
      have hlt := cell_lt' (h3 i hi)
      exact cell_set (cell_set (h2 i hi) (by omega)) (by omega)
theorem cell_hid {W W' : World} {b o : Nat} {v : Value} (h : Hid (W.cell? ⟨b, o, none⟩ = some v)) (hb : Below W.heap.size W W') : Hid (W'.cell? ⟨b, o, none⟩ = some v) := cell_next hb h.out (cell_lt' h.out)
theorem take_d {P : Program} {md : Region.Mode} {ops : Array Oper} {Q : Exit → Act → World → Prop} {S : World → Prop} {i : Nat} {d : Tmp} {oi : Oper} {v : Value} {fuel : Nat} {listed : Array Bool} {a : Act} {w : World} (hd : oi.dst = some d) (hi : ops[i]? = some oi)
    (hs : Region.noSelect ops = true) (hf : Region.free md ops listed i = true) (hr : (Region.ready md ops listed).contains i = true)
    (hQ : ∀ c a w, Q (.panic c) (a.put (some d) v) w → Q (.panic c) a w) (hy : YieldsIf P ops S oi v a) (hS : S w)
    (h : wpAnyH P md ops Q S fuel (listed.setIfInBounds i true) (a.put (some d) v) w) : wpAnyH P md ops Q S (fuel + 1) listed a w :=
  wpAnyH_take hi hs hf hr (by rw [hd]; exact hQ) hy hS (by rw [hd]; exact h)
theorem rv_next {W W' : World} {v : Value} {ss : List ByteArray} (h : Hid (RowV W v ss)) (hb : Below W.heap.size W W') : Hid (RowV W' v ss) := h.out.next hb
theorem rowv_trow {W : World} {ao : Option Addr} {n cap : Nat} {ss : List ByteArray} (h : RowV W (.slice ao n cap) ss) : TRow W ao ss := by
  obtain ⟨a, c, e, _, ht⟩ := h
  obtain ⟨e1, _, _⟩ := Value.slice.inj e
  subst e1
  exact ht
set_option maxRecDepth 20000 in
set_option maxHeartbeats 32000000 in
theorem law_disk (v1 v2 : Value) (w : World) (h1 : BRow w v1) (h2 : BRow w v2) (hc : TB w) (hm : MX w) :
    Calls Tryd.prog 3 #[v1, v2] w fun e w' => e = .returned (.bool true) ∧ Below w.heap.size w w' := by
  obtain ⟨ao, len, cap, zs, rfl, hra⟩ := h1
  obtain ⟨bo, ln2, cp2, ys, rfl, hrb⟩ := h2
  have RC : Hid (Gen.IsRow .u8 w ao len cap zs) := hra
  have RM : Hid (Gen.IsRow .u8 w bo ln2 cp2 ys) := hrb
  have HT : Hid (TB w) := hc
  have HMX : Hid (MX w) := hm
  clear hra hrb hc hm
  by_cases hl1 : 1048576 < len
  · have hl1' : (1048576 : Int) < (len : Int) := by omega
    go_enter Tryd.func3, Tryd.ntmps3
    go_wp2
    go_ret
    exact ⟨rfl, Below.refl _ _⟩
  have hl1' : ¬ (1048576 : Int) < (len : Int) := by omega
  by_cases hl2 : 1048576 < ln2
  · have hl2' : (1048576 : Int) < (ln2 : Int) := by omega
    go_enter Tryd.func3, Tryd.ntmps3
    go_wp2
    go_ret
    exact ⟨rfl, Below.refl _ _⟩
  have hl2' : ¬ (1048576 : Int) < (ln2 : Int) := by omega
  have CTX : Hid (∀ W : World, Gen.IsRow .u8 W bo ln2 cp2 ys → Calls Tryd.prog 6 #[.slice bo ln2 cp2, .int .i64 5] W fun e w' => e = .returned (.string (tOf ys ln2 5)) ∧ Below W.heap.size W w') := fun W h => textF_any bo ln2 cp2 ys 5 W (by omega) (by omega) h
  have ht5 := tOf_size ys ln2 5
  generalize tOf ys ln2 5 = t5 at *
  go_enter Tryd.func3, Tryd.ntmps3
  go_wp2_with fail
  refine (diskOf_any ao len cap zs _ (by omega) RC.out).mono ?_
  rintro e w1 ⟨TA, TU, p0, p1, c0, c1, rfl, hle, hsz, hb, hr0, hr1⟩
  have HB : Hid (Below w.heap.size w w1) := hb
  clear hb
  obtain ⟨ss, hss⟩ : ∃ ss, ss = TA.map sealS := ⟨_, rfl⟩
  obtain ⟨us, hus⟩ : ∃ us, us = TU.map sealS := ⟨_, rfl⟩
  obtain ⟨ux, hux⟩ : ∃ ux, ux = us ++ [sealS t5] := ⟨_, rfl⟩
  obtain ⟨al_, hal⟩ : ∃ al_, al_ = ss ++ ux := ⟨_, rfl⟩
  obtain ⟨rl, hrl⟩ : ∃ rl, rl = TA ++ (TU ++ [t5]) := ⟨_, rfl⟩
  have lss : TA.length = ss.length := by rw [hss, List.length_map]
  have lus : TU.length = us.length := by rw [hus, List.length_map]
  have lux : ux.length = us.length + 1 := by rw [hux]; simp
  have lal : al_.length = ss.length + ux.length := by rw [hal]; simp
  have lrl : rl.length = ss.length + us.length + 1 := by rw [hrl]; simp; omega
  rw [← hss, lss] at hr0
  rw [← hus, lus] at hr1
  rw [lss, lus]
  rw [lss, lus] at hle
  have hux' : ux = (TU ++ [t5]).map sealS := by rw [hux, hus]; simp
  have hmem : ∀ s ∈ ss ++ ux, s.size ≤ 5000 := fun s hs => by
    have : ∃ t, t.size ≤ 5 ∧ s = sealS t := by
      rw [hss, hux', ← List.map_append, List.mem_map] at hs
      obtain ⟨t, ht, rfl⟩ := hs
      refine ⟨t, ?_, rfl⟩
      rw [← List.append_assoc, List.mem_append, List.mem_singleton] at ht
      rcases ht with ht | ht
      · exact hsz t ht
      · rw [ht]; omega
    obtain ⟨t, ht, rfl⟩ := this
    have hd1 := dsN_short t.size
    have hd2 := dsN_short (sumTo t t.size)
    have hd3 := sumTo_lt t t.size
    rw [sealS_size]
    omega
  have hrec : ∀ l : List ByteArray, recL (l.map sealS) = l := fun l => by
    induction l with
    | nil => rfl
    | cons x l ih =>
      show (match openO (sealS x) with | some t => t :: recL (l.map sealS) | none => []) = x :: l
      rw [open_seal]
      show x :: recL (l.map sealS) = x :: l
      rw [ih]
  have CAP : Hid (∀ W x0 x1, RowV W x0 ss → RowV W x1 us → TB W → Calls Tryd.prog 5 #[.agg #[x0, x1], .string t5] W (DP W 0 ss ux)) := fun W x0 x1 h0 h1 hT => by
    have := implAppend_any x0 x1 ss us t5 W (by omega) (by omega) (by omega) h0 h1 hT
    obtain ⟨e1, e2, e3⟩ := ap_ok (ss := ss) (us := us) (t := t5) (by omega) (by omega)
    rw [e1, e2, e3, ← hux] at this
    exact this
  have CSY : Hid (∀ W x0 x1, RowV W x0 ss → RowV W x1 ux → Calls Tryd.prog 7 #[.agg #[x0, x1]] W (DP W 0 al_ [])) := fun W x0 x1 h0 h1 => by
    have := implSync_any x0 x1 ss ux W (by omega) (by omega) h0 h1
    rw [if_pos (by omega), if_pos (by omega), ← hal] at this
    exact this
  have CRA : Hid (∀ W x0 x1, RowV W x0 al_ → RowV W x1 [] → TB W → MX W → Calls Tryd.prog 8 #[.agg #[x0, x1]] W (RP W 0 rl)) := fun W x0 x1 h0 h1 hT hM => by
    have := implRec_any x0 x1 al_ [] W (by omega) (by simp) (fun s hs => by have := hmem s (by rw [← hal]; exact hs); omega) h0 h1 hT hM
    rw [if_pos (by simp; omega), if_pos (by simp; omega)] at this
    have e : recL al_ = rl := by rw [hal, hss, hux', ← List.map_append, hrec, hrl]
    rw [e] at this
    exact this
  have hcl : ∀ r : Nat, crL ss ux (r : Int) 0 = ss ++ ux.take r ∨ ¬ r ≤ 300 := fun r => by
    by_cases hr : r ≤ 300
    · left
      rw [crL_ok (by omega) (by omega)]
      have : surv ux (r : Int).toNat (0 : Int).toNat = ux.take r := by
        unfold surv
        simp
        intro h
        rw [List.take_of_length_le h]
      rw [this]
    · exact .inr hr
  have CCR : Hid (∀ (W : World) (x0 x1 : Value) (r : Nat), r ≤ 6 → RowV W x0 ss → RowV W x1 ux → Calls Tryd.prog 10 #[.agg #[x0, x1], .int .i64 (r : Int), .int .i64 0] W (DP W 0 (ss ++ ux.take r) [])) := fun W x0 x1 r hr h0 h1 => by
    have := implCrash_any x0 x1 ss ux (r : Int) 0 W (by omega) (by omega) (fun s hs => by have := hmem s (by simp [hs]); omega) h0 h1
    rw [crC_ok (by omega) (by omega), (hcl r).resolve_right (by omega)] at this
    exact this
  have CSC : Hid (∀ (W : World) (x0 x1 : Value) (r : Nat), r ≤ 6 → RowV W x0 ss → RowV W x1 ux → Calls Tryd.prog 11 #[.agg #[x0, x1], .int .i64 (r : Int), .int .i64 0] W (DP W 0 (ss ++ ux.take r) [])) := fun W x0 x1 r hr h0 h1 => by
    have := specCrash_any x0 x1 ss ux (r : Int) 0 W (by omega) (by omega) (fun s hs => by have := hmem s (by simp [hs]); omega) h0 h1
    rw [crC_ok (by omega) (by omega), (hcl r).resolve_right (by omega)] at this
    exact this
  have CRZ : Hid (∀ (W : World) (x0 x1 : Value) (r : Nat), RowV W x0 (ss ++ ux.take r) → RowV W x1 [] → TB W → MX W → Calls Tryd.prog 8 #[.agg #[x0, x1]] W (RP W 0 (rl.take (ss.length + min r ux.length)))) := fun W x0 x1 r h0 h1 hT hM => by
    have hlen : (ss ++ ux.take r).length ≤ 300 := by simp; omega
    have := implRec_any x0 x1 (ss ++ ux.take r) [] W (by omega) (by simp) (fun s hs => by
      have := hmem s (by
        rw [List.mem_append] at hs ⊢
        rcases hs with hs | hs
        · exact .inl hs
        · exact .inr (List.mem_of_mem_take hs))
      omega) h0 h1 hT hM
    rw [if_pos (by simpa using hlen), if_pos (by simpa using hlen)] at this
    have e : recL (ss ++ ux.take r) = rl.take (ss.length + min r ux.length) := by
      have e1 : ss ++ ux.take r = (TA ++ (TU ++ [t5]).take r).map sealS := by rw [hss, hux', ← List.map_take, ← List.map_append]
      have e3 : ux.length = (TU ++ [t5]).length := by rw [hux', List.length_map]
      rw [e1, hrec, hrl, ← lss, e3]
      generalize TU ++ [t5] = M
      have e4 : (TA ++ M).take (TA.length + min r M.length) = TA ++ M.take (min r M.length) := by
        rw [List.take_append, List.take_of_length_le (by omega), Nat.add_sub_cancel_left]
      rw [e4]
      rcases Nat.le_total r M.length with hrm | hrm
      · rw [Nat.min_eq_left hrm]
      · rw [Nat.min_eq_right hrm, List.take_of_length_le hrm, List.take_of_length_le (Nat.le_refl _)]
    rw [e] at this
    exact this
  have hlast : rl[ss.length + us.length]? = some t5 := by
    rw [hrl, List.getElem?_append_right (by omega), List.getElem?_append_right (by omega), lss, lus]
    simp
  have HLAST : Hid _ := hlast
  have LUX : Hid (ux.length = us.length + 1 ∧ al_.length = ss.length + ux.length ∧ rl.length = ss.length + us.length + 1) := ⟨lux, lal, lrl⟩
  have HR0 : Hid (RowV w1 (.slice p0 ss.length c0) ss) := hr0
  have HR1 : Hid (RowV w1 (.slice p1 us.length c1) us) := hr1
  clear lux lal lrl hlast hcl hrec hmem hux' hrl hal hux hus hss lss lus hsz hr0 hr1
  go_upto_region 4 with fail
  have BD : Hid (Cb (w1.alloc (.cells #[.slice p0 ss.length c0, .slice p1 us.length c1] 25)) w1.heap.size (.slice p0 ss.length c0) (.slice p1 us.length c1)) := box_new
  have LD : Hid (w1.heap.size < (w1.alloc (.cells #[.slice p0 ss.length c0, .slice p1 us.length c1] 25)).heap.size) := lt_new
  replace HR0 : Hid (RowV (w1.alloc (.cells #[.slice p0 ss.length c0, .slice p1 us.length c1] 25)) (.slice p0 ss.length c0) ss) := HR0.out.next (bel_alloc _ _)
  replace HR1 : Hid (RowV (w1.alloc (.cells #[.slice p0 ss.length c0, .slice p1 us.length c1] 25)) (.slice p1 us.length c1) us) := HR1.out.next (bel_alloc _ _)
  replace HB := bel_next HB (bel_alloc _ (.cells #[.slice p0 ss.length c0, .slice p1 us.length c1] 25))
  generalize w1.alloc (.cells #[.slice p0 ss.length c0, .slice p1 us.length c1] 25) = w2 at *
  generalize w1.heap.size = gd at *
  go_cut [6, 7] from 20 (fun s6 s7 wc => ∃ (gx : Nat) (xp xq : Option Addr) (xc xd lo hi : Nat), s6 = .pointer (some ⟨gx, 0, none⟩) ∧ s7 = .int .i64 0 ∧ Cb wc gx (.slice xp ss.length xc) (.slice xq ux.length xd) ∧ gx < wc.heap.size ∧ Own2 wc (.slice xp ss.length xc) (.slice xq ux.length xd) ss ux lo hi ∧ Cb wc gd (.slice p0 ss.length c0) (.slice p1 us.length c1) ∧ gd < wc.heap.size ∧ Below w.heap.size w wc)
  case first =>
    refine wp_region_held_drew (S := (fun w' => (w'.cell? ⟨gd, 0, none⟩ = some (.slice p0 ss.length c0) ∧ w'.cell? ⟨gd, 1, none⟩ = some (.slice p1 us.length c1)) ∧ gd < w'.heap.size ∧ w2.heap.size ≤ w'.heap.size ∧ RowV w' (.slice p0 ss.length c0) ss ∧ RowV w' (.slice p1 us.length c1) us ∧ Below w.heap.size w w')) (by kernel_rfl) ?_ (fun hHeld => ?_)
    · (try dsimp only)
      exact ⟨⟨cell_next (bel_drew _) BD.out.1 LD.out, cell_next (bel_drew _) BD.out.2 LD.out⟩, LD.out, Nat.le_refl _, HR0.out.next (bel_drew _), HR1.out.next (bel_drew _), (bel_next HB (bel_drew _)).out⟩
    refine wpAnyH_take (i := 0) (v := ?_) rfl (by kernel_rfl) (by kernel_rfl) (by kernel_rfl) (fun _ _ _ h => h) (Or.inl ⟨by rfl, ?_⟩) (by assumption) ?_
    rotate_left
    · intro w' hSw
      (try dsimp only at hSw)
      go_simp
      all_goals (try with_reducible rfl)
    (try simp only [Act.put, List.getElem_toArray, List.getElem_cons_zero, List.getElem_cons_succ, List.setIfInBounds_toArray, List.set_cons_zero, List.set_cons_succ])
    refine wpAnyH_take (i := 1) (v := ?_) rfl (by kernel_rfl) (by kernel_rfl) (by kernel_rfl) (fun _ _ _ h => h) (Or.inl ⟨by rfl, ?_⟩) (by assumption) ?_
    rotate_left
    · intro w' hSw
      (try dsimp only at hSw)
      go_simp
      all_goals (try with_reducible rfl)
    (try simp only [Act.put, List.getElem_toArray, List.getElem_cons_zero, List.getElem_cons_succ, List.setIfInBounds_toArray, List.set_cons_zero, List.set_cons_succ])
    generalize w2.drew = wd at *
    refine wpAnyH_ready (rs := [2, 7]) (by kernel_rfl) (by simp) ?_
    refine AllReadyH.cons rfl (fun K hK => ?_) (AllReadyH.cons rfl (fun K hK => ?_) AllReadyH.nil)
    · (try simp only [Act.put, List.getElem_toArray, List.getElem_cons_zero, List.getElem_cons_succ, List.setIfInBounds_toArray, List.set_cons_zero, List.set_cons_succ])
      go_simp
      go_at_call 6
      refine Calls.mono (CTX.out _ (row_below RM.out hHeld.2.2.2.2.2)) ?_
      rintro e x1 ⟨rfl, hb⟩
      refine hK.out _ _ ?_ (fun hHeld' => ?_)
      · (try dsimp only)
        exact ⟨⟨cell_next hb hHeld.1.1 hHeld.2.1, cell_next hb hHeld.1.2 hHeld.2.1⟩, Nat.lt_of_lt_of_le hHeld.2.1 (hb).size, Nat.le_trans hHeld.2.2.1 (hb).size, hHeld.2.2.2.1.next hb, hHeld.2.2.2.2.1.next hb, (bel_next (w := w) hHeld.2.2.2.2.2 hb).out⟩
      clear hK K hHeld
      have hHeld := hHeld'
      clear hHeld'
      (try simp only [Act.put, List.getElem_toArray, List.getElem_cons_zero, List.getElem_cons_succ, List.setIfInBounds_toArray, List.set_cons_zero, List.set_cons_succ])
      clear hb
      refine wpAnyH_ready (rs := [3, 7]) (by kernel_rfl) (by simp) ?_
      refine AllReadyH.cons rfl (fun K hK => ?_) (AllReadyH.cons rfl (fun K hK => ?_) AllReadyH.nil)
      · (try simp only [Act.put, List.getElem_toArray, List.getElem_cons_zero, List.getElem_cons_succ, List.setIfInBounds_toArray, List.set_cons_zero, List.set_cons_succ])
        go_simp
        go_at_call 5
        refine Calls.mono (CAP.out _ _ _ hHeld.2.2.2.1 hHeld.2.2.2.2.1 (TB.next (show TB w from HT.out) hHeld.2.2.2.2.2)) ?_
        rintro e x2 ⟨xp, xc, xq, xd, rfl, hb, hO⟩
        have EX : Hid (Own2 x2 (.slice xp ss.length xc) (.slice xq ux.length xd) ss ux x1.heap.size x2.heap.size) := hO
        refine hK.out _ _ ?_ (fun hHeld' => ?_)
        · (try dsimp only)
          exact ⟨⟨cell_next hb hHeld.1.1 hHeld.2.1, cell_next hb hHeld.1.2 hHeld.2.1⟩, Nat.lt_of_lt_of_le hHeld.2.1 (hb).size, Nat.le_trans hHeld.2.2.1 (hb).size, hHeld.2.2.2.1.next hb, hHeld.2.2.2.2.1.next hb, (bel_next (w := w) hHeld.2.2.2.2.2 hb).out⟩
        clear hK K hHeld
        have hHeld := hHeld'
        clear hHeld'
        (try simp only [Act.put, List.getElem_toArray, List.getElem_cons_zero, List.getElem_cons_succ, List.setIfInBounds_toArray, List.set_cons_zero, List.set_cons_succ])
        clear hb hO
        refine wpAnyH_take (i := 4) (v := ?_) rfl (by kernel_rfl) (by kernel_rfl) (by kernel_rfl) (fun _ _ _ h => h) (Or.inl ⟨by rfl, ?_⟩) (by assumption) ?_
        rotate_left
        · intro w' hSw
          (try dsimp only at hSw)
          go_simp
          all_goals (try with_reducible rfl)
        (try simp only [Act.put, List.getElem_toArray, List.getElem_cons_zero, List.getElem_cons_succ, List.setIfInBounds_toArray, List.set_cons_zero, List.set_cons_succ])
        refine wpAnyH_take (i := 5) (v := ?_) rfl (by kernel_rfl) (by kernel_rfl) (by kernel_rfl) (fun _ _ _ h => h) (Or.inl ⟨by rfl, ?_⟩) (by assumption) ?_
        rotate_left
        · intro w' hSw
          (try dsimp only at hSw)
          go_simp
          all_goals (try with_reducible rfl)
        (try simp only [Act.put, List.getElem_toArray, List.getElem_cons_zero, List.getElem_cons_succ, List.setIfInBounds_toArray, List.set_cons_zero, List.set_cons_succ])
        refine wpAnyH_take (i := 6) (v := ?_) rfl (by kernel_rfl) (by kernel_rfl) (by kernel_rfl) (fun _ _ _ h => h) (Or.inl ⟨by rfl, ?_⟩) (by assumption) ?_
        rotate_left
        · intro w' hSw
          (try dsimp only at hSw)
          go_simp
          all_goals (try with_reducible rfl)
        (try simp only [Act.put, List.getElem_toArray, List.getElem_cons_zero, List.getElem_cons_succ, List.setIfInBounds_toArray, List.set_cons_zero, List.set_cons_succ])
        refine wpAnyH_ready (rs := [7]) (by kernel_rfl) (by simp) ?_
        refine AllReadyH.cons rfl (fun K hK => ?_) AllReadyH.nil
        (try simp only [Act.put, List.getElem_toArray, List.getElem_cons_zero, List.getElem_cons_succ, List.setIfInBounds_toArray, List.set_cons_zero, List.set_cons_succ])
        have NG : Hid (gd < x2.heap.size) := hHeld.2.1
        have NW : Hid (w.heap.size ≤ x2.heap.size) := hHeld.2.2.2.2.2.size
        have NR : Hid (w2.heap.size ≤ x2.heap.size) := hHeld.2.2.1
        have hba := bel_alloc x2 (.cells #[.slice none 0 0, .slice none 0 0] 25)
        have TH : Hid (Th2 (x2.alloc (.cells #[.slice none 0 0, .slice none 0 0] 25)) x2.heap.size) := th2_new
        have LX : Hid (x2.heap.size < (x2.alloc (.cells #[.slice none 0 0, .slice none 0 0] 25)).heap.size) := lt_new
        have GX : Hid (x2.heap.size < x1.heap.size ∨ x2.heap.size ≤ x2.heap.size) := .inr (Nat.le_refl _)
        replace EX := o2_next EX hba
        go_simp
        (try simp only [])
        refine hK.out _ _ ?_ (fun hHeld' => ?_)
        · (try dsimp only)
          exact ⟨⟨cell_next hba hHeld.1.1 hHeld.2.1, cell_next hba hHeld.1.2 hHeld.2.1⟩, Nat.lt_of_lt_of_le hHeld.2.1 (hba).size, Nat.le_trans hHeld.2.2.1 (hba).size, hHeld.2.2.2.1.next hba, hHeld.2.2.2.2.1.next hba, (bel_next (w := w) hHeld.2.2.2.2.2 hba).out⟩
        clear hK K hHeld
        have hHeld := hHeld'
        clear hHeld'
        (try simp only [Act.put, List.getElem_toArray, List.getElem_cons_zero, List.getElem_cons_succ, List.setIfInBounds_toArray, List.set_cons_zero, List.set_cons_succ])
        clear hba
        generalize x2.alloc (.cells #[.slice none 0 0, .slice none 0 0] 25) = x3 at *
        generalize x2.heap.size = gx at *
        obtain ⟨⟨⟨u0, T0⟩, ⟨u1, T1⟩⟩, Z0, Z1⟩ := TH.out
        refine wpAnyH_ready (rs := [8]) (by kernel_rfl) (by simp) ?_
        refine AllReadyH.cons rfl (fun K hK => ?_) AllReadyH.nil
        (try simp only [Act.put, List.getElem_toArray, List.getElem_cons_zero, List.getElem_cons_succ, List.setIfInBounds_toArray, List.set_cons_zero, List.set_cons_succ])
        go_simp
        (try simp only [])
        refine hK.out _ _ ?_ (fun hHeld' => ?_)
        · (try dsimp only)
          exact ⟨⟨cell_set (cell_set hHeld.1.1 (Nat.ne_of_lt NG.out)) (Nat.ne_of_lt NG.out), cell_set (cell_set hHeld.1.2 (Nat.ne_of_lt NG.out)) (Nat.ne_of_lt NG.out)⟩, by simpa [World.setCell] using hHeld.2.1, by simpa [World.setCell] using hHeld.2.2.1, rowv_new HR0.out NR.out hHeld.2.2.2.1, rowv_new HR1.out NR.out hHeld.2.2.2.2.1, bel_set (bel_set hHeld.2.2.2.2.2 NW.out) NW.out⟩
        clear hK K hHeld
        have hHeld := hHeld'
        clear hHeld'
        (try simp only [Act.put, List.getElem_toArray, List.getElem_cons_zero, List.getElem_cons_succ, List.setIfInBounds_toArray, List.set_cons_zero, List.set_cons_succ])
        have CC := set2_cells (v0 := (.slice xp ss.length xc)) (v1 := (.slice xq ux.length xd)) TH.out
        have C9 : Hid (Cb ((x3.setCell ⟨gx, 0, none⟩ (.slice xp ss.length xc)).setCell ⟨gx, 1, none⟩ (.slice xq ux.length xd)) gx (.slice xp ss.length xc) (.slice xq ux.length xd)) := CC
        have OX : Hid (Own2 ((x3.setCell ⟨gx, 0, none⟩ (.slice xp ss.length xc)).setCell ⟨gx, 1, none⟩ (.slice xq ux.length xd)) (.slice xp ss.length xc) (.slice xq ux.length xd) ss ux _ _) := Own2.set (Own2.set EX.out GX.out) GX.out
        have HB9 : Hid (Below w.heap.size w ((x3.setCell ⟨gx, 0, none⟩ (.slice xp ss.length xc)).setCell ⟨gx, 1, none⟩ (.slice xq ux.length xd))) := hHeld.2.2.2.2.2
        have D9 : Hid (Cb ((x3.setCell ⟨gx, 0, none⟩ (.slice xp ss.length xc)).setCell ⟨gx, 1, none⟩ (.slice xq ux.length xd)) gd (.slice p0 ss.length c0) (.slice p1 us.length c1)) := hHeld.1
        have L9 : Hid (gd < ((x3.setCell ⟨gx, 0, none⟩ (.slice xp ss.length xc)).setCell ⟨gx, 1, none⟩ (.slice xq ux.length xd)).heap.size ∧ gx < ((x3.setCell ⟨gx, 0, none⟩ (.slice xp ss.length xc)).setCell ⟨gx, 1, none⟩ (.slice xq ux.length xd)).heap.size) := ⟨hHeld.2.1, by simpa [World.setCell] using LX.out⟩
        clear T0 T1 Z0 Z1 CC
        refine wpAnyH_take (i := 9) (v := ?_) rfl (by kernel_rfl) (by kernel_rfl) (by kernel_rfl) (fun _ _ _ h => h) (Or.inl ⟨by rfl, ?_⟩) (by assumption) ?_
        rotate_left
        · intro w' hSw
          (try dsimp only at hSw)
          go_simp
          all_goals (try with_reducible rfl)
        (try simp only [Act.put, List.getElem_toArray, List.getElem_cons_zero, List.getElem_cons_succ, List.setIfInBounds_toArray, List.set_cons_zero, List.set_cons_succ])
        refine wpAnyH_done (by kernel_rfl) ?_ _
        clear hHeld TH EX LX
        generalize ((x3.setCell ⟨gx, 0, none⟩ (.slice xp ss.length xc)).setCell ⟨gx, 1, none⟩ (.slice xq ux.length xd)) = wz at *
        go_wp2
        go_meet
        case rel => exact ⟨gx, xp, xq, xc, xd, _, _, rfl, rfl, C9.out, L9.out.2, OX.out, D9.out, L9.out.1, HB9.out⟩
      · (try simp only [Act.put, List.getElem_toArray, List.getElem_cons_zero, List.getElem_cons_succ, List.setIfInBounds_toArray, List.set_cons_zero, List.set_cons_succ])
        have NG : Hid (gd < x1.heap.size) := hHeld.2.1
        have NW : Hid (w.heap.size ≤ x1.heap.size) := hHeld.2.2.2.2.2.size
        have NR : Hid (w2.heap.size ≤ x1.heap.size) := hHeld.2.2.1
        have hba := bel_alloc x1 (.cells #[.slice none 0 0, .slice none 0 0] 25)
        have TH : Hid (Th2 (x1.alloc (.cells #[.slice none 0 0, .slice none 0 0] 25)) x1.heap.size) := th2_new
        have LX : Hid (x1.heap.size < (x1.alloc (.cells #[.slice none 0 0, .slice none 0 0] 25)).heap.size) := lt_new
        go_simp
        (try simp only [])
        refine hK.out _ _ ?_ (fun hHeld' => ?_)
        · (try dsimp only)
          exact ⟨⟨cell_next hba hHeld.1.1 hHeld.2.1, cell_next hba hHeld.1.2 hHeld.2.1⟩, Nat.lt_of_lt_of_le hHeld.2.1 (hba).size, Nat.le_trans hHeld.2.2.1 (hba).size, hHeld.2.2.2.1.next hba, hHeld.2.2.2.2.1.next hba, (bel_next (w := w) hHeld.2.2.2.2.2 hba).out⟩
        clear hK K hHeld
        have hHeld := hHeld'
        clear hHeld'
        (try simp only [Act.put, List.getElem_toArray, List.getElem_cons_zero, List.getElem_cons_succ, List.setIfInBounds_toArray, List.set_cons_zero, List.set_cons_succ])
        clear hba
        generalize x1.alloc (.cells #[.slice none 0 0, .slice none 0 0] 25) = x2 at *
        generalize x1.heap.size = gx at *
        refine wpAnyH_ready (rs := [3]) (by kernel_rfl) (by simp) ?_
        refine AllReadyH.cons rfl (fun K hK => ?_) AllReadyH.nil
        (try simp only [Act.put, List.getElem_toArray, List.getElem_cons_zero, List.getElem_cons_succ, List.setIfInBounds_toArray, List.set_cons_zero, List.set_cons_succ])
        go_simp
        go_at_call 5
        refine Calls.mono (CAP.out _ _ _ hHeld.2.2.2.1 hHeld.2.2.2.2.1 (TB.next (show TB w from HT.out) hHeld.2.2.2.2.2)) ?_
        rintro e x3 ⟨xp, xc, xq, xd, rfl, hb, hO⟩
        have EX : Hid (Own2 x3 (.slice xp ss.length xc) (.slice xq ux.length xd) ss ux x2.heap.size x3.heap.size) := hO
        have GX : Hid (gx < x2.heap.size ∨ x3.heap.size ≤ gx) := .inl LX.out
        replace TH : Hid _ := TH.out.next hb
        replace LX := lt_next LX hb
        refine hK.out _ _ ?_ (fun hHeld' => ?_)
        · (try dsimp only)
          exact ⟨⟨cell_next hb hHeld.1.1 hHeld.2.1, cell_next hb hHeld.1.2 hHeld.2.1⟩, Nat.lt_of_lt_of_le hHeld.2.1 (hb).size, Nat.le_trans hHeld.2.2.1 (hb).size, hHeld.2.2.2.1.next hb, hHeld.2.2.2.2.1.next hb, (bel_next (w := w) hHeld.2.2.2.2.2 hb).out⟩
        clear hK K hHeld
        have hHeld := hHeld'
        clear hHeld'
        (try simp only [Act.put, List.getElem_toArray, List.getElem_cons_zero, List.getElem_cons_succ, List.setIfInBounds_toArray, List.set_cons_zero, List.set_cons_succ])
        clear hb hO
        refine wpAnyH_take (i := 4) (v := ?_) rfl (by kernel_rfl) (by kernel_rfl) (by kernel_rfl) (fun _ _ _ h => h) (Or.inl ⟨by rfl, ?_⟩) (by assumption) ?_
        rotate_left
        · intro w' hSw
          (try dsimp only at hSw)
          go_simp
          all_goals (try with_reducible rfl)
        (try simp only [Act.put, List.getElem_toArray, List.getElem_cons_zero, List.getElem_cons_succ, List.setIfInBounds_toArray, List.set_cons_zero, List.set_cons_succ])
        refine wpAnyH_take (i := 5) (v := ?_) rfl (by kernel_rfl) (by kernel_rfl) (by kernel_rfl) (fun _ _ _ h => h) (Or.inl ⟨by rfl, ?_⟩) (by assumption) ?_
        rotate_left
        · intro w' hSw
          (try dsimp only at hSw)
          go_simp
          all_goals (try with_reducible rfl)
        (try simp only [Act.put, List.getElem_toArray, List.getElem_cons_zero, List.getElem_cons_succ, List.setIfInBounds_toArray, List.set_cons_zero, List.set_cons_succ])
        refine wpAnyH_take (i := 6) (v := ?_) rfl (by kernel_rfl) (by kernel_rfl) (by kernel_rfl) (fun _ _ _ h => h) (Or.inl ⟨by rfl, ?_⟩) (by assumption) ?_
        rotate_left
        · intro w' hSw
          (try dsimp only at hSw)
          go_simp
          all_goals (try with_reducible rfl)
        (try simp only [Act.put, List.getElem_toArray, List.getElem_cons_zero, List.getElem_cons_succ, List.setIfInBounds_toArray, List.set_cons_zero, List.set_cons_succ])
        obtain ⟨⟨⟨u0, T0⟩, ⟨u1, T1⟩⟩, Z0, Z1⟩ := TH.out
        refine wpAnyH_ready (rs := [8]) (by kernel_rfl) (by simp) ?_
        refine AllReadyH.cons rfl (fun K hK => ?_) AllReadyH.nil
        (try simp only [Act.put, List.getElem_toArray, List.getElem_cons_zero, List.getElem_cons_succ, List.setIfInBounds_toArray, List.set_cons_zero, List.set_cons_succ])
        go_simp
        (try simp only [])
        refine hK.out _ _ ?_ (fun hHeld' => ?_)
        · (try dsimp only)
          exact ⟨⟨cell_set (cell_set hHeld.1.1 (Nat.ne_of_lt NG.out)) (Nat.ne_of_lt NG.out), cell_set (cell_set hHeld.1.2 (Nat.ne_of_lt NG.out)) (Nat.ne_of_lt NG.out)⟩, by simpa [World.setCell] using hHeld.2.1, by simpa [World.setCell] using hHeld.2.2.1, rowv_new HR0.out NR.out hHeld.2.2.2.1, rowv_new HR1.out NR.out hHeld.2.2.2.2.1, bel_set (bel_set hHeld.2.2.2.2.2 NW.out) NW.out⟩
        clear hK K hHeld
        have hHeld := hHeld'
        clear hHeld'
        (try simp only [Act.put, List.getElem_toArray, List.getElem_cons_zero, List.getElem_cons_succ, List.setIfInBounds_toArray, List.set_cons_zero, List.set_cons_succ])
        have CC := set2_cells (v0 := (.slice xp ss.length xc)) (v1 := (.slice xq ux.length xd)) TH.out
        have C9 : Hid (Cb ((x3.setCell ⟨gx, 0, none⟩ (.slice xp ss.length xc)).setCell ⟨gx, 1, none⟩ (.slice xq ux.length xd)) gx (.slice xp ss.length xc) (.slice xq ux.length xd)) := CC
        have OX : Hid (Own2 ((x3.setCell ⟨gx, 0, none⟩ (.slice xp ss.length xc)).setCell ⟨gx, 1, none⟩ (.slice xq ux.length xd)) (.slice xp ss.length xc) (.slice xq ux.length xd) ss ux _ _) := Own2.set (Own2.set EX.out GX.out) GX.out
        have HB9 : Hid (Below w.heap.size w ((x3.setCell ⟨gx, 0, none⟩ (.slice xp ss.length xc)).setCell ⟨gx, 1, none⟩ (.slice xq ux.length xd))) := hHeld.2.2.2.2.2
        have D9 : Hid (Cb ((x3.setCell ⟨gx, 0, none⟩ (.slice xp ss.length xc)).setCell ⟨gx, 1, none⟩ (.slice xq ux.length xd)) gd (.slice p0 ss.length c0) (.slice p1 us.length c1)) := hHeld.1
        have L9 : Hid (gd < ((x3.setCell ⟨gx, 0, none⟩ (.slice xp ss.length xc)).setCell ⟨gx, 1, none⟩ (.slice xq ux.length xd)).heap.size ∧ gx < ((x3.setCell ⟨gx, 0, none⟩ (.slice xp ss.length xc)).setCell ⟨gx, 1, none⟩ (.slice xq ux.length xd)).heap.size) := ⟨hHeld.2.1, by simpa [World.setCell] using LX.out⟩
        clear T0 T1 Z0 Z1 CC
        refine wpAnyH_take (i := 9) (v := ?_) rfl (by kernel_rfl) (by kernel_rfl) (by kernel_rfl) (fun _ _ _ h => h) (Or.inl ⟨by rfl, ?_⟩) (by assumption) ?_
        rotate_left
        · intro w' hSw
          (try dsimp only at hSw)
          go_simp
          all_goals (try with_reducible rfl)
        (try simp only [Act.put, List.getElem_toArray, List.getElem_cons_zero, List.getElem_cons_succ, List.setIfInBounds_toArray, List.set_cons_zero, List.set_cons_succ])
        refine wpAnyH_done (by kernel_rfl) ?_ _
        clear hHeld TH EX LX
        generalize ((x3.setCell ⟨gx, 0, none⟩ (.slice xp ss.length xc)).setCell ⟨gx, 1, none⟩ (.slice xq ux.length xd)) = wz at *
        go_wp2
        go_meet
        case rel => exact ⟨gx, xp, xq, xc, xd, _, _, rfl, rfl, C9.out, L9.out.2, OX.out, D9.out, L9.out.1, HB9.out⟩
    · (try simp only [Act.put, List.getElem_toArray, List.getElem_cons_zero, List.getElem_cons_succ, List.setIfInBounds_toArray, List.set_cons_zero, List.set_cons_succ])
      have NG : Hid (gd < wd.heap.size) := hHeld.2.1
      have NW : Hid (w.heap.size ≤ wd.heap.size) := hHeld.2.2.2.2.2.size
      have NR : Hid (w2.heap.size ≤ wd.heap.size) := hHeld.2.2.1
      have hba := bel_alloc wd (.cells #[.slice none 0 0, .slice none 0 0] 25)
      have TH : Hid (Th2 (wd.alloc (.cells #[.slice none 0 0, .slice none 0 0] 25)) wd.heap.size) := th2_new
      have LX : Hid (wd.heap.size < (wd.alloc (.cells #[.slice none 0 0, .slice none 0 0] 25)).heap.size) := lt_new
      go_simp
      (try simp only [])
      refine hK.out _ _ ?_ (fun hHeld' => ?_)
      · (try dsimp only)
        exact ⟨⟨cell_next hba hHeld.1.1 hHeld.2.1, cell_next hba hHeld.1.2 hHeld.2.1⟩, Nat.lt_of_lt_of_le hHeld.2.1 (hba).size, Nat.le_trans hHeld.2.2.1 (hba).size, hHeld.2.2.2.1.next hba, hHeld.2.2.2.2.1.next hba, (bel_next (w := w) hHeld.2.2.2.2.2 hba).out⟩
      clear hK K hHeld
      have hHeld := hHeld'
      clear hHeld'
      (try simp only [Act.put, List.getElem_toArray, List.getElem_cons_zero, List.getElem_cons_succ, List.setIfInBounds_toArray, List.set_cons_zero, List.set_cons_succ])
      clear hba
      generalize wd.alloc (.cells #[.slice none 0 0, .slice none 0 0] 25) = x1 at *
      generalize wd.heap.size = gx at *
      refine wpAnyH_ready (rs := [2]) (by kernel_rfl) (by simp) ?_
      refine AllReadyH.cons rfl (fun K hK => ?_) AllReadyH.nil
      (try simp only [Act.put, List.getElem_toArray, List.getElem_cons_zero, List.getElem_cons_succ, List.setIfInBounds_toArray, List.set_cons_zero, List.set_cons_succ])
      go_simp
      go_at_call 6
      refine Calls.mono (CTX.out _ (row_below RM.out hHeld.2.2.2.2.2)) ?_
      rintro e x2 ⟨rfl, hb⟩
      replace TH : Hid _ := TH.out.next hb
      replace LX := lt_next LX hb
      refine hK.out _ _ ?_ (fun hHeld' => ?_)
      · (try dsimp only)
        exact ⟨⟨cell_next hb hHeld.1.1 hHeld.2.1, cell_next hb hHeld.1.2 hHeld.2.1⟩, Nat.lt_of_lt_of_le hHeld.2.1 (hb).size, Nat.le_trans hHeld.2.2.1 (hb).size, hHeld.2.2.2.1.next hb, hHeld.2.2.2.2.1.next hb, (bel_next (w := w) hHeld.2.2.2.2.2 hb).out⟩
      clear hK K hHeld
      have hHeld := hHeld'
      clear hHeld'
      (try simp only [Act.put, List.getElem_toArray, List.getElem_cons_zero, List.getElem_cons_succ, List.setIfInBounds_toArray, List.set_cons_zero, List.set_cons_succ])
      clear hb
      refine wpAnyH_ready (rs := [3]) (by kernel_rfl) (by simp) ?_
      refine AllReadyH.cons rfl (fun K hK => ?_) AllReadyH.nil
      (try simp only [Act.put, List.getElem_toArray, List.getElem_cons_zero, List.getElem_cons_succ, List.setIfInBounds_toArray, List.set_cons_zero, List.set_cons_succ])
      go_simp
      go_at_call 5
      refine Calls.mono (CAP.out _ _ _ hHeld.2.2.2.1 hHeld.2.2.2.2.1 (TB.next (show TB w from HT.out) hHeld.2.2.2.2.2)) ?_
      rintro e x3 ⟨xp, xc, xq, xd, rfl, hb, hO⟩
      have EX : Hid (Own2 x3 (.slice xp ss.length xc) (.slice xq ux.length xd) ss ux x2.heap.size x3.heap.size) := hO
      have GX : Hid (gx < x2.heap.size ∨ x3.heap.size ≤ gx) := .inl LX.out
      replace TH : Hid _ := TH.out.next hb
      replace LX := lt_next LX hb
      refine hK.out _ _ ?_ (fun hHeld' => ?_)
      · (try dsimp only)
        exact ⟨⟨cell_next hb hHeld.1.1 hHeld.2.1, cell_next hb hHeld.1.2 hHeld.2.1⟩, Nat.lt_of_lt_of_le hHeld.2.1 (hb).size, Nat.le_trans hHeld.2.2.1 (hb).size, hHeld.2.2.2.1.next hb, hHeld.2.2.2.2.1.next hb, (bel_next (w := w) hHeld.2.2.2.2.2 hb).out⟩
      clear hK K hHeld
      have hHeld := hHeld'
      clear hHeld'
      (try simp only [Act.put, List.getElem_toArray, List.getElem_cons_zero, List.getElem_cons_succ, List.setIfInBounds_toArray, List.set_cons_zero, List.set_cons_succ])
      clear hb hO
      refine wpAnyH_take (i := 4) (v := ?_) rfl (by kernel_rfl) (by kernel_rfl) (by kernel_rfl) (fun _ _ _ h => h) (Or.inl ⟨by rfl, ?_⟩) (by assumption) ?_
      rotate_left
      · intro w' hSw
        (try dsimp only at hSw)
        go_simp
        all_goals (try with_reducible rfl)
      (try simp only [Act.put, List.getElem_toArray, List.getElem_cons_zero, List.getElem_cons_succ, List.setIfInBounds_toArray, List.set_cons_zero, List.set_cons_succ])
      refine wpAnyH_take (i := 5) (v := ?_) rfl (by kernel_rfl) (by kernel_rfl) (by kernel_rfl) (fun _ _ _ h => h) (Or.inl ⟨by rfl, ?_⟩) (by assumption) ?_
      rotate_left
      · intro w' hSw
        (try dsimp only at hSw)
        go_simp
        all_goals (try with_reducible rfl)
      (try simp only [Act.put, List.getElem_toArray, List.getElem_cons_zero, List.getElem_cons_succ, List.setIfInBounds_toArray, List.set_cons_zero, List.set_cons_succ])
      refine wpAnyH_take (i := 6) (v := ?_) rfl (by kernel_rfl) (by kernel_rfl) (by kernel_rfl) (fun _ _ _ h => h) (Or.inl ⟨by rfl, ?_⟩) (by assumption) ?_
      rotate_left
      · intro w' hSw
        (try dsimp only at hSw)
        go_simp
        all_goals (try with_reducible rfl)
      (try simp only [Act.put, List.getElem_toArray, List.getElem_cons_zero, List.getElem_cons_succ, List.setIfInBounds_toArray, List.set_cons_zero, List.set_cons_succ])
      obtain ⟨⟨⟨u0, T0⟩, ⟨u1, T1⟩⟩, Z0, Z1⟩ := TH.out
      refine wpAnyH_ready (rs := [8]) (by kernel_rfl) (by simp) ?_
      refine AllReadyH.cons rfl (fun K hK => ?_) AllReadyH.nil
      (try simp only [Act.put, List.getElem_toArray, List.getElem_cons_zero, List.getElem_cons_succ, List.setIfInBounds_toArray, List.set_cons_zero, List.set_cons_succ])
      go_simp
      (try simp only [])
      refine hK.out _ _ ?_ (fun hHeld' => ?_)
      · (try dsimp only)
        exact ⟨⟨cell_set (cell_set hHeld.1.1 (Nat.ne_of_lt NG.out)) (Nat.ne_of_lt NG.out), cell_set (cell_set hHeld.1.2 (Nat.ne_of_lt NG.out)) (Nat.ne_of_lt NG.out)⟩, by simpa [World.setCell] using hHeld.2.1, by simpa [World.setCell] using hHeld.2.2.1, rowv_new HR0.out NR.out hHeld.2.2.2.1, rowv_new HR1.out NR.out hHeld.2.2.2.2.1, bel_set (bel_set hHeld.2.2.2.2.2 NW.out) NW.out⟩
      clear hK K hHeld
      have hHeld := hHeld'
      clear hHeld'
      (try simp only [Act.put, List.getElem_toArray, List.getElem_cons_zero, List.getElem_cons_succ, List.setIfInBounds_toArray, List.set_cons_zero, List.set_cons_succ])
      have CC := set2_cells (v0 := (.slice xp ss.length xc)) (v1 := (.slice xq ux.length xd)) TH.out
      have C9 : Hid (Cb ((x3.setCell ⟨gx, 0, none⟩ (.slice xp ss.length xc)).setCell ⟨gx, 1, none⟩ (.slice xq ux.length xd)) gx (.slice xp ss.length xc) (.slice xq ux.length xd)) := CC
      have OX : Hid (Own2 ((x3.setCell ⟨gx, 0, none⟩ (.slice xp ss.length xc)).setCell ⟨gx, 1, none⟩ (.slice xq ux.length xd)) (.slice xp ss.length xc) (.slice xq ux.length xd) ss ux _ _) := Own2.set (Own2.set EX.out GX.out) GX.out
      have HB9 : Hid (Below w.heap.size w ((x3.setCell ⟨gx, 0, none⟩ (.slice xp ss.length xc)).setCell ⟨gx, 1, none⟩ (.slice xq ux.length xd))) := hHeld.2.2.2.2.2
      have D9 : Hid (Cb ((x3.setCell ⟨gx, 0, none⟩ (.slice xp ss.length xc)).setCell ⟨gx, 1, none⟩ (.slice xq ux.length xd)) gd (.slice p0 ss.length c0) (.slice p1 us.length c1)) := hHeld.1
      have L9 : Hid (gd < ((x3.setCell ⟨gx, 0, none⟩ (.slice xp ss.length xc)).setCell ⟨gx, 1, none⟩ (.slice xq ux.length xd)).heap.size ∧ gx < ((x3.setCell ⟨gx, 0, none⟩ (.slice xp ss.length xc)).setCell ⟨gx, 1, none⟩ (.slice xq ux.length xd)).heap.size) := ⟨hHeld.2.1, by simpa [World.setCell] using LX.out⟩
      clear T0 T1 Z0 Z1 CC
      refine wpAnyH_take (i := 9) (v := ?_) rfl (by kernel_rfl) (by kernel_rfl) (by kernel_rfl) (fun _ _ _ h => h) (Or.inl ⟨by rfl, ?_⟩) (by assumption) ?_
      rotate_left
      · intro w' hSw
        (try dsimp only at hSw)
        go_simp
        all_goals (try with_reducible rfl)
      (try simp only [Act.put, List.getElem_toArray, List.getElem_cons_zero, List.getElem_cons_succ, List.setIfInBounds_toArray, List.set_cons_zero, List.set_cons_succ])
      refine wpAnyH_done (by kernel_rfl) ?_ _
      clear hHeld TH EX LX
      generalize ((x3.setCell ⟨gx, 0, none⟩ (.slice xp ss.length xc)).setCell ⟨gx, 1, none⟩ (.slice xq ux.length xd)) = wz at *
      go_wp2
      go_meet
      case rel => exact ⟨gx, xp, xq, xc, xd, _, _, rfl, rfl, C9.out, L9.out.2, OX.out, D9.out, L9.out.1, HB9.out⟩
  case rest =>
    obtain ⟨gx, xp, xq, xc, xd, lo, hi, rfl, rfl, hC, hLx, hO, hD, hLd, hb⟩ := hcut
    clear BD LD HB HR0 HR1
    have BX : Hid (Cb wc gx (.slice xp ss.length xc) (.slice xq ux.length xd)) := hC
    have LX : Hid (gx < wc.heap.size) := hLx
    have EX : Hid (Own2 wc (.slice xp ss.length xc) (.slice xq ux.length xd) ss ux lo hi) := hO
    have BD : Hid (Cb wc gd (.slice p0 ss.length c0) (.slice p1 us.length c1)) := hD
    have LD : Hid (gd < wc.heap.size) := hLd
    have HB : Hid (Below w.heap.size w wc) := hb
    clear hC hLx hO hD hLd hb
    obtain ⟨bX0, bX1⟩ := BX.out
    go_wp2_with fail
    clear bX0 bX1
    refine Calls.mono (CSY.out _ _ _ (own_rowV EX.out.r0) (own_rowV EX.out.r1)) ?_
    rintro e w3 ⟨yp, yc, yq, yd, rfl, hb, hO⟩
    replace BD := cb_next BD hb LD
    replace BX := cb_next BX hb LX
    replace LD := lt_next LD hb
    replace LX := lt_next LX hb
    replace EX := o2_next EX hb
    replace HB := bel_next HB hb
    have EY : Hid (Own2 w3 (.slice yp al_.length yc) (.slice yq 0 yd) al_ [] _ _) := hO
    clear hb hO
    go_wp2_with fail
    refine Calls.mono (CRA.out _ _ _ (own_rowV (o2_next EY (bel_alloc _ _)).out.r0) (own_rowV (o2_next EY (bel_alloc _ _)).out.r1) (TB.next (show TB w from HT.out) (bel_next HB (bel_alloc _ _)).out) (MX.next (show MX w from HMX.out) (bel_next HB (bel_alloc _ _)).out)) ?_
    rintro e w4 ⟨rp, rc, rfl, hb, hO⟩
    have BY := cb_next box_new hb lt_new
    have LY := lt_next lt_new hb
    replace BD := cb_next (cb_next BD (bel_alloc _ _) LD) hb (lt_next LD (bel_alloc _ _))
    replace BX := cb_next (cb_next BX (bel_alloc _ _) LX) hb (lt_next LX (bel_alloc _ _))
    replace LD := lt_next (lt_next LD (bel_alloc _ _)) hb
    replace LX := lt_next (lt_next LX (bel_alloc _ _)) hb
    replace EX := o2_next (o2_next EX (bel_alloc _ _)) hb
    replace HB := bel_next (bel_next HB (bel_alloc _ _)) hb
    have RA : Hid (RowV w4 (.slice rp rl.length rc) rl) := own_rowX hO.own
    clear hb hO EY
    go_wp2_with fail
    refine (at_any bo ln2 cp2 ys 0 6 _ (by omega) (by omega) (by omega) (by omega) (row_below RM.out HB.out)).mono ?_
    rintro e w5 ⟨r, rfl, hb, hr⟩
    replace BD := cb_next BD hb LD
    replace BX := cb_next BX hb LX
    replace BY := cb_next BY hb LY
    replace LD := lt_next LD hb
    replace LX := lt_next LX hb
    replace LY := lt_next LY hb
    replace EX := o2_next EX hb
    replace HB := bel_next HB hb
    replace RA := rv_next RA hb
    clear hb
    have hr6 : r ≤ 6 := by omega
    clear hr
    obtain ⟨zl, hzl⟩ : ∃ zl, zl = ss ++ ux.take r := ⟨_, rfl⟩
    obtain ⟨rz, hrz⟩ : ∃ rz, rz = rl.take (ss.length + min r ux.length) := ⟨_, rfl⟩
    have lrz : rz.length = ss.length + min r ux.length := by
      have := LUX.out
      rw [hrz, List.length_take]
      omega
    have hzl300 : zl.length ≤ 300 := by
      have := LUX.out
      rw [hzl]
      simp
      omega
    have CCR' : Hid (∀ (W : World) (x0 x1 : Value), RowV W x0 ss → RowV W x1 ux → Calls Tryd.prog 10 #[.agg #[x0, x1], .int .i64 (r : Int), .int .i64 0] W (DP W 0 zl [])) := fun W x0 x1 h0 h1 => by rw [hzl]; exact CCR.out W x0 x1 r hr6 h0 h1
    have CSC' : Hid (∀ (W : World) (x0 x1 : Value), RowV W x0 ss → RowV W x1 ux → Calls Tryd.prog 11 #[.agg #[x0, x1], .int .i64 (r : Int), .int .i64 0] W (DP W 0 zl [])) := fun W x0 x1 h0 h1 => by rw [hzl]; exact CSC.out W x0 x1 r hr6 h0 h1
    have CRZ' : Hid (∀ (W : World) (x0 x1 : Value), RowV W x0 zl → RowV W x1 [] → TB W → MX W → Calls Tryd.prog 8 #[.agg #[x0, x1]] W (RP W 0 rz)) := fun W x0 x1 h0 h1 hT hM => by rw [hrz]; rw [hzl] at h0; exact CRZ.out W x0 x1 r h0 h1 hT hM
    have HRZ : Hid (rz = rl.take rz.length ∧ rz.length ≤ rl.length ∧ zl.length ≤ 300) := ⟨by rw [lrz]; exact hrz, by have := LUX.out; omega, hzl300⟩
    have LRZ : Hid (rz.length = ss.length + min r ux.length) := lrz
    clear hzl hrz lrz hzl300 CCR CSC CRZ CSY CRA CAP
    obtain ⟨bX0, bX1⟩ := BX.out
    go_wp2_with fail
    clear bX0 bX1
    refine Calls.mono (CCR'.out _ _ _ (own_rowV EX.out.r0) (own_rowV EX.out.r1)) ?_
    rintro e w6 ⟨zp, zc, zq, zd, rfl, hb, hO⟩
    replace BD := cb_next BD hb LD
    replace BX := cb_next BX hb LX
    replace BY := cb_next BY hb LY
    replace LD := lt_next LD hb
    replace LX := lt_next LX hb
    replace LY := lt_next LY hb
    replace EX := o2_next EX hb
    replace HB := bel_next HB hb
    replace RA := rv_next RA hb
    have EZ : Hid (Own2 w6 (.slice zp zl.length zc) (.slice zq 0 zd) zl [] w5.heap.size w6.heap.size) := hO
    clear hb hO
    go_wp2_with fail
    refine Calls.mono (CRZ'.out _ _ _ (own_rowV (o2_next EZ (bel_alloc _ _)).out.r0) (own_rowV (o2_next EZ (bel_alloc _ _)).out.r1) (TB.next (show TB w from HT.out) (bel_next HB (bel_alloc _ _)).out) (MX.next (show MX w from HMX.out) (bel_next HB (bel_alloc _ _)).out)) ?_
    rintro e w7 ⟨sp, sc, rfl, hb, hO⟩
    have BZ := cb_next box_new hb lt_new
    have LZ := lt_next lt_new hb
    replace BD := cb_next (cb_next BD (bel_alloc _ _) LD) hb (lt_next LD (bel_alloc _ _))
    replace BX := cb_next (cb_next BX (bel_alloc _ _) LX) hb (lt_next LX (bel_alloc _ _))
    replace BY := cb_next (cb_next BY (bel_alloc _ _) LY) hb (lt_next LY (bel_alloc _ _))
    replace LD := lt_next (lt_next LD (bel_alloc _ _)) hb
    replace LX := lt_next (lt_next LX (bel_alloc _ _)) hb
    replace LY := lt_next (lt_next LY (bel_alloc _ _)) hb
    replace EX := o2_next (o2_next EX (bel_alloc _ _)) hb
    replace EZ := o2_next (o2_next EZ (bel_alloc _ _)) hb
    replace HB := bel_next (bel_next HB (bel_alloc _ _)) hb
    replace RA := rv_next (rv_next RA (bel_alloc _ _)) hb
    have RS : Hid (RowV w7 (.slice sp rz.length sc) rz) := own_rowX hO.own
    clear hb hO
    obtain ⟨bX0, bX1⟩ := BX.out
    go_wp2_with fail
    clear bX0 bX1
    refine Calls.mono (CSC'.out _ _ _ (own_rowV EX.out.r0) (own_rowV EX.out.r1)) ?_
    rintro e w8 ⟨tp, tc, tq, td, rfl, hb, hO⟩
    replace BD := cb_next BD hb LD
    replace BX := cb_next BX hb LX
    replace BY := cb_next BY hb LY
    replace BZ := cb_next BZ hb LZ
    replace LD := lt_next LD hb
    replace LX := lt_next LX hb
    replace LY := lt_next LY hb
    replace LZ := lt_next LZ hb
    replace EX := o2_next EX hb
    replace EZ := o2_next EZ hb
    replace HB := bel_next HB hb
    replace RA := rv_next RA hb
    replace RS := rv_next RS hb
    have ET : Hid (Own2 w8 (.slice tp zl.length tc) (.slice tq 0 td) zl [] w7.heap.size w8.heap.size) := hO
    clear hb hO EX CCR' CSC' CRZ'
    obtain ⟨lu, la, ll⟩ := LUX.out
    have LU : Hid (ux.length = us.length + 1 ∧ al_.length = ss.length + ux.length ∧ rl.length = ss.length + us.length + 1) := ⟨lu, la, ll⟩
    have c1_ : ((ux.length : Int) == (us.length : Int) + 1) = true := by rw [beq_iff_eq]; omega
    have c2_ : ((rl.length : Int) == (ss.length : Int) + (us.length : Int) + 1) = true := by rw [beq_iff_eq]; omega
    have k1_ : IntKind.i64.wrap ((us.length : Int) + 1) = (us.length : Int) + 1 := by rw [IntKind.wrap_i64]; omega
    have k2_ : IntKind.i64.wrap ((ss.length : Int) + (us.length : Int)) = (ss.length : Int) + (us.length : Int) := by rw [IntKind.wrap_i64]; omega
    have k3_ : IntKind.i64.wrap ((ss.length : Int) + (us.length : Int) + 1) = (ss.length : Int) + (us.length : Int) + 1 := by rw [IntKind.wrap_i64]; omega
    obtain ⟨jj, hjj⟩ : ∃ jj : Nat, jj = ss.length + us.length := ⟨_, rfl⟩
    have k4_ : (rl.length : Int) - 1 = (jj : Int) := by omega
    have k5_ : IntKind.i64.wrap (jj : Int) = (jj : Int) := by rw [IntKind.wrap_i64]; omega
    have k6_ : (0 : Int) ≤ (jj : Int) := by omega
    have k7_ : (jj : Int) < (rl.length : Int) := by omega
    have hlast : ∀ h : jj < rl.length, rl[jj] = t5 := fun h => by
      have := HLAST.out
      rw [← hjj, List.getElem?_eq_getElem h] at this
      exact Option.some.inj this
    obtain ⟨rao, rcap, hre, hrcap, hrow⟩ := RA.out
    obtain ⟨e1_, e2_, e3_⟩ := Value.slice.inj hre
    subst e1_
    subst e3_
    have hrcapI : (rz.length : Int) ≤ (rc : Int) := by have := HRZ.out.2.1; omega
    have z0_ : (0 : Int) ≤ (rz.length : Int) := by omega
    obtain ⟨rb, roff, rfl, hcells⟩ : ∃ rb roff, rp = some ⟨rb, roff, none⟩ ∧ ∀ i (h : i < rl.length), w8.cell? ⟨rb, roff + i, none⟩ = some (.string rl[i]) := by
      rcases hrow with h0 | h0
      · rw [h0] at ll; simp at ll
      · exact h0
    have xl := hcells jj (by omega)
    rw [hlast (by omega)] at xl
    have xl' : ∀ o, (w8.alloc o).cell? ⟨rb, roff + jj, none⟩ = some (.string t5) := fun o => box_alloc xl (cell_lt' xl)
    have SLZ : Hid (∀ W : World, RowV W (.slice (some ⟨rb, roff, none⟩) rl.length rc) rl → TRow W (some ⟨rb, roff, none⟩) rz) := fun W h => by
      obtain ⟨a_, c_, e_, _, ht⟩ := h
      obtain ⟨f1_, f2_, f3_⟩ := Value.slice.inj e_
      subst f1_
      rw [HRZ.out.1]
      rcases ht with h0 | ⟨b2, o2, e2, h2⟩
      · rw [h0]; exact .inl (by simp)
      · refine .inr ⟨b2, o2, e2, fun i hi => ?_⟩
        rw [List.getElem_take]
        exact h2 i (by simp at hi; omega)
    have lm : rz.length = ss.length + min r ux.length := LRZ.out
    clear hcells xl hrow hre hrcap lu la ll hlast hjj HLAST LUX LRZ
    have nm_ : (ss.length : Int) + min (r : Int) (ux.length : Int) = (rz.length : Int) := by omega
    have nw_ : IntKind.i64.wrap (rz.length : Int) = (rz.length : Int) := by rw [IntKind.wrap_i64]; have := HRZ.out.2.1; have := LU.out; omega
    clear lm
    obtain ⟨bX0, bX1⟩ := BX.out
    have bX0' : ∀ o, (w8.alloc o).cell? ⟨gx, 0, none⟩ = _ := fun o => box_alloc bX0 LX.out
    have bX1' : ∀ o, (w8.alloc o).cell? ⟨gx, 1, none⟩ = _ := fun o => box_alloc bX1 LX.out
    obtain ⟨bD0, bD1⟩ := BD.out
    have bD0' : ∀ o, (w8.alloc o).cell? ⟨gd, 0, none⟩ = _ := fun o => box_alloc bD0 LD.out
    have bD1' : ∀ o, (w8.alloc o).cell? ⟨gd, 1, none⟩ = _ := fun o => box_alloc bD1 LD.out
    obtain ⟨bY0, bY1⟩ := BY.out
    have bY0' : ∀ o, (w8.alloc o).cell? ⟨w3.heap.size, 0, none⟩ = _ := fun o => box_alloc bY0 LY.out
    have bY1' : ∀ o, (w8.alloc o).cell? ⟨w3.heap.size, 1, none⟩ = _ := fun o => box_alloc bY1 LY.out
    go_wp2_with fail
    clear bX0 bX0' bX1 bX1'
    clear bD0 bD0' bD1 bD1'
    clear bY0 bY0' bY1 bY1'
    have BT : Hid (Cb (w8.alloc (.cells #[.slice tp zl.length tc, .slice tq 0 td] 25)) w8.heap.size (.slice tp zl.length tc) (.slice tq 0 td)) := box_new
    have LT : Hid (w8.heap.size < (w8.alloc (.cells #[.slice tp zl.length tc, .slice tq 0 td] 25)).heap.size) := lt_new
    replace BD := cb_next BD (bel_alloc _ (.cells #[.slice tp zl.length tc, .slice tq 0 td] 25)) LD
    replace BX := cb_next BX (bel_alloc _ (.cells #[.slice tp zl.length tc, .slice tq 0 td] 25)) LX
    replace BY := cb_next BY (bel_alloc _ (.cells #[.slice tp zl.length tc, .slice tq 0 td] 25)) LY
    replace BZ := cb_next BZ (bel_alloc _ (.cells #[.slice tp zl.length tc, .slice tq 0 td] 25)) LZ
    replace LD := lt_next LD (bel_alloc _ (.cells #[.slice tp zl.length tc, .slice tq 0 td] 25))
    replace LX := lt_next LX (bel_alloc _ (.cells #[.slice tp zl.length tc, .slice tq 0 td] 25))
    replace LY := lt_next LY (bel_alloc _ (.cells #[.slice tp zl.length tc, .slice tq 0 td] 25))
    replace LZ := lt_next LZ (bel_alloc _ (.cells #[.slice tp zl.length tc, .slice tq 0 td] 25))
    replace EZ := o2_next EZ (bel_alloc _ (.cells #[.slice tp zl.length tc, .slice tq 0 td] 25))
    replace ET := o2_next ET (bel_alloc _ (.cells #[.slice tp zl.length tc, .slice tq 0 td] 25))
    replace HB := bel_next HB (bel_alloc _ (.cells #[.slice tp zl.length tc, .slice tq 0 td] 25))
    replace RA := rv_next RA (bel_alloc _ (.cells #[.slice tp zl.length tc, .slice tq 0 td] 25))
    replace RS := rv_next RS (bel_alloc _ (.cells #[.slice tp zl.length tc, .slice tq 0 td] 25))
    have CL : Hid ((w8.alloc (.cells #[.slice tp zl.length tc, .slice tq 0 td] 25)).cell? ⟨rb, roff + jj, none⟩ = some (.string t5)) := xl' _
    clear xl'
    generalize w8.alloc (.cells #[.slice tp zl.length tc, .slice tq 0 td] 25) = w9 at *
    have hdz : decide (zl.length + ([] : List ByteArray).length ≤ 300) = true := decide_eq_true (by have := HRZ.out.2.2; simpa using this)
    refine wp_region_held_drew (S := (fun w' => (w'.cell? ⟨gd, 0, none⟩ = some ((.slice p0 ss.length c0)) ∧ w'.cell? ⟨gd, 1, none⟩ = some ((.slice p1 us.length c1))) ∧ (w'.cell? ⟨gx, 0, none⟩ = some ((.slice xp ss.length xc)) ∧ w'.cell? ⟨gx, 1, none⟩ = some ((.slice xq ux.length xd))) ∧ (w'.cell? ⟨w3.heap.size, 0, none⟩ = some ((.slice yp al_.length yc)) ∧ w'.cell? ⟨w3.heap.size, 1, none⟩ = some ((.slice yq 0 yd))) ∧ (w'.cell? ⟨w6.heap.size, 0, none⟩ = some ((.slice zp zl.length zc)) ∧ w'.cell? ⟨w6.heap.size, 1, none⟩ = some ((.slice zq 0 zd))) ∧ (w'.cell? ⟨w8.heap.size, 0, none⟩ = some ((.slice tp zl.length tc)) ∧ w'.cell? ⟨w8.heap.size, 1, none⟩ = some ((.slice tq 0 td))) ∧ (gd < w'.heap.size) ∧ (gx < w'.heap.size) ∧ (w3.heap.size < w'.heap.size) ∧ (w6.heap.size < w'.heap.size) ∧ (w8.heap.size < w'.heap.size) ∧ Own2 w' (.slice zp zl.length zc) (.slice zq 0 zd) zl [] w5.heap.size w6.heap.size ∧ Own2 w' (.slice tp zl.length tc) (.slice tq 0 td) zl [] w7.heap.size w8.heap.size ∧ RowV w' (.slice (some ⟨rb, roff, none⟩) rl.length rc) rl ∧ RowV w' (.slice sp rz.length sc) rz ∧ w'.cell? ⟨rb, roff + jj, none⟩ = some (.string t5) ∧ Below w.heap.size w w')) (by kernel_rfl) ?_ (fun hHeld => ?_)
    · (try dsimp only)
      exact ⟨(cb_next BD (bel_drew _) LD).out, (cb_next BX (bel_drew _) LX).out, (cb_next BY (bel_drew _) LY).out, (cb_next BZ (bel_drew _) LZ).out, (cb_next BT (bel_drew _) LT).out, (lt_next LD (bel_drew _)).out, (lt_next LX (bel_drew _)).out, (lt_next LY (bel_drew _)).out, (lt_next LZ (bel_drew _)).out, (lt_next LT (bel_drew _)).out, (o2_next EZ (bel_drew _)).out, (o2_next ET (bel_drew _)).out, (rv_next RA (bel_drew _)).out, (rv_next RS (bel_drew _)).out, (cell_hid CL (bel_drew _)).out, (bel_next HB (bel_drew _)).out⟩
    refine wpAnyH_take (i := 0) (v := ?_) rfl (by kernel_rfl) (by kernel_rfl) (by kernel_rfl) (fun _ _ _ h => h) (Or.inl ⟨by kernel_rfl, ?_⟩) (by assumption) ?_
    rotate_left
    · intro w' hSw
      (try dsimp only at hSw)
      go_simp
      all_goals (try with_reducible rfl)
    (try simp only [Act.put, List.getElem_toArray, List.getElem_cons_zero, List.getElem_cons_succ, List.setIfInBounds_toArray, List.set_cons_zero, List.set_cons_succ])
    refine wpAnyH_take (i := 1) (v := ?_) rfl (by kernel_rfl) (by kernel_rfl) (by kernel_rfl) (fun _ _ _ h => h) (Or.inl ⟨by kernel_rfl, ?_⟩) (by assumption) ?_
    rotate_left
    · intro w' hSw
      (try dsimp only at hSw)
      go_simp
      all_goals (try with_reducible rfl)
    (try simp only [Act.put, List.getElem_toArray, List.getElem_cons_zero, List.getElem_cons_succ, List.setIfInBounds_toArray, List.set_cons_zero, List.set_cons_succ])
    refine wpAnyH_take (i := 2) (v := ?_) rfl (by kernel_rfl) (by kernel_rfl) (by kernel_rfl) (fun _ _ _ h => h) (Or.inl ⟨by kernel_rfl, ?_⟩) (by assumption) ?_
    rotate_left
    · intro w' hSw
      (try dsimp only at hSw)
      go_simp
      all_goals (try with_reducible rfl)
    (try simp only [Act.put, List.getElem_toArray, List.getElem_cons_zero, List.getElem_cons_succ, List.setIfInBounds_toArray, List.set_cons_zero, List.set_cons_succ])
    refine wpAnyH_take (i := 3) (v := ?_) rfl (by kernel_rfl) (by kernel_rfl) (by kernel_rfl) (fun _ _ _ h => h) (Or.inl ⟨by kernel_rfl, ?_⟩) (by assumption) ?_
    rotate_left
    · intro w' hSw
      (try dsimp only at hSw)
      go_simp
      all_goals (try with_reducible rfl)
    (try simp only [Act.put, List.getElem_toArray, List.getElem_cons_zero, List.getElem_cons_succ, List.setIfInBounds_toArray, List.set_cons_zero, List.set_cons_succ])
    refine wpAnyH_take (i := 4) (v := ?_) rfl (by kernel_rfl) (by kernel_rfl) (by kernel_rfl) (fun _ _ _ h => h) (Or.inl ⟨by kernel_rfl, ?_⟩) (by assumption) ?_
    rotate_left
    · intro w' hSw
      (try dsimp only at hSw)
      go_simp
      all_goals (try with_reducible rfl)
    (try simp only [Act.put, List.getElem_toArray, List.getElem_cons_zero, List.getElem_cons_succ, List.setIfInBounds_toArray, List.set_cons_zero, List.set_cons_succ])
    refine wpAnyH_take (i := 5) (v := ?_) rfl (by kernel_rfl) (by kernel_rfl) (by kernel_rfl) (fun _ _ _ h => h) (Or.inl ⟨by kernel_rfl, ?_⟩) (by assumption) ?_
    rotate_left
    · intro w' hSw
      (try dsimp only at hSw)
      go_simp
      all_goals (try with_reducible rfl)
    (try simp only [Act.put, List.getElem_toArray, List.getElem_cons_zero, List.getElem_cons_succ, List.setIfInBounds_toArray, List.set_cons_zero, List.set_cons_succ])
    refine wpAnyH_take (i := 6) (v := ?_) rfl (by kernel_rfl) (by kernel_rfl) (by kernel_rfl) (fun _ _ _ h => h) (Or.inl ⟨by kernel_rfl, ?_⟩) (by assumption) ?_
    rotate_left
    · intro w' hSw
      (try dsimp only at hSw)
      go_simp
      all_goals (try with_reducible rfl)
    (try simp only [Act.put, List.getElem_toArray, List.getElem_cons_zero, List.getElem_cons_succ, List.setIfInBounds_toArray, List.set_cons_zero, List.set_cons_succ])
    refine wpAnyH_take (i := 7) (v := ?_) rfl (by kernel_rfl) (by kernel_rfl) (by kernel_rfl) (fun _ _ _ h => h) (Or.inl ⟨by kernel_rfl, ?_⟩) (by assumption) ?_
    rotate_left
    · intro w' hSw
      (try dsimp only at hSw)
      go_simp
      all_goals (try with_reducible rfl)
    (try simp only [Act.put, List.getElem_toArray, List.getElem_cons_zero, List.getElem_cons_succ, List.setIfInBounds_toArray, List.set_cons_zero, List.set_cons_succ])
    refine wpAnyH_take (i := 8) (v := ?_) rfl (by kernel_rfl) (by kernel_rfl) (by kernel_rfl) (fun _ _ _ h => h) (Or.inl ⟨by kernel_rfl, ?_⟩) (by assumption) ?_
    rotate_left
    · intro w' hSw
      (try dsimp only at hSw)
      go_simp
      all_goals (try with_reducible rfl)
    (try simp only [Act.put, List.getElem_toArray, List.getElem_cons_zero, List.getElem_cons_succ, List.setIfInBounds_toArray, List.set_cons_zero, List.set_cons_succ])
    refine wpAnyH_take (i := 9) (v := ?_) rfl (by kernel_rfl) (by kernel_rfl) (by kernel_rfl) (fun _ _ _ h => h) (Or.inl ⟨by kernel_rfl, ?_⟩) (by assumption) ?_
    rotate_left
    · intro w' hSw
      (try dsimp only at hSw)
      go_simp
      all_goals (try with_reducible rfl)
    (try simp only [Act.put, List.getElem_toArray, List.getElem_cons_zero, List.getElem_cons_succ, List.setIfInBounds_toArray, List.set_cons_zero, List.set_cons_succ])
    refine wpAnyH_take (i := 10) (v := ?_) rfl (by kernel_rfl) (by kernel_rfl) (by kernel_rfl) (fun _ _ _ h => h) (Or.inl ⟨by kernel_rfl, ?_⟩) (by assumption) ?_
    rotate_left
    · intro w' hSw
      (try dsimp only at hSw)
      go_simp
      all_goals (try with_reducible rfl)
    (try simp only [Act.put, List.getElem_toArray, List.getElem_cons_zero, List.getElem_cons_succ, List.setIfInBounds_toArray, List.set_cons_zero, List.set_cons_succ])
    refine wpAnyH_take (i := 11) (v := ?_) rfl (by kernel_rfl) (by kernel_rfl) (by kernel_rfl) (fun _ _ _ h => h) (Or.inl ⟨by kernel_rfl, ?_⟩) (by assumption) ?_
    rotate_left
    · intro w' hSw
      (try dsimp only at hSw)
      go_simp
      all_goals (try with_reducible rfl)
    (try simp only [Act.put, List.getElem_toArray, List.getElem_cons_zero, List.getElem_cons_succ, List.setIfInBounds_toArray, List.set_cons_zero, List.set_cons_succ])
    refine wpAnyH_take (i := 12) (v := ?_) rfl (by kernel_rfl) (by kernel_rfl) (by kernel_rfl) (fun _ _ _ h => h) (Or.inl ⟨by kernel_rfl, ?_⟩) (by assumption) ?_
    rotate_left
    · intro w' hSw
      (try dsimp only at hSw)
      go_simp
      all_goals (try with_reducible rfl)
    (try simp only [Act.put, List.getElem_toArray, List.getElem_cons_zero, List.getElem_cons_succ, List.setIfInBounds_toArray, List.set_cons_zero, List.set_cons_succ])
    refine wpAnyH_take (i := 13) (v := ?_) rfl (by kernel_rfl) (by kernel_rfl) (by kernel_rfl) (fun _ _ _ h => h) (Or.inl ⟨by kernel_rfl, ?_⟩) (by assumption) ?_
    rotate_left
    · intro w' hSw
      (try dsimp only at hSw)
      go_simp
      all_goals (try with_reducible rfl)
    (try simp only [Act.put, List.getElem_toArray, List.getElem_cons_zero, List.getElem_cons_succ, List.setIfInBounds_toArray, List.set_cons_zero, List.set_cons_succ])
    refine wpAnyH_take (i := 14) (v := ?_) rfl (by kernel_rfl) (by kernel_rfl) (by kernel_rfl) (fun _ _ _ h => h) (Or.inl ⟨by kernel_rfl, ?_⟩) (by assumption) ?_
    rotate_left
    · intro w' hSw
      (try dsimp only at hSw)
      go_simp
      all_goals (try with_reducible rfl)
    (try simp only [Act.put, List.getElem_toArray, List.getElem_cons_zero, List.getElem_cons_succ, List.setIfInBounds_toArray, List.set_cons_zero, List.set_cons_succ])
    refine wpAnyH_take (i := 15) (v := ?_) rfl (by kernel_rfl) (by kernel_rfl) (by kernel_rfl) (fun _ _ _ h => h) (Or.inl ⟨by kernel_rfl, ?_⟩) (by assumption) ?_
    rotate_left
    · intro w' hSw
      (try dsimp only at hSw)
      go_simp
      all_goals (try with_reducible rfl)
    (try simp only [Act.put, List.getElem_toArray, List.getElem_cons_zero, List.getElem_cons_succ, List.setIfInBounds_toArray, List.set_cons_zero, List.set_cons_succ])
    refine wpAnyH_take (i := 16) (v := ?_) rfl (by kernel_rfl) (by kernel_rfl) (by kernel_rfl) (fun _ _ _ h => h) (Or.inl ⟨by kernel_rfl, ?_⟩) (by assumption) ?_
    rotate_left
    · intro w' hSw
      (try dsimp only at hSw)
      go_simp
      all_goals (try with_reducible rfl)
    (try simp only [Act.put, List.getElem_toArray, List.getElem_cons_zero, List.getElem_cons_succ, List.setIfInBounds_toArray, List.set_cons_zero, List.set_cons_succ])
    refine wpAnyH_take (i := 17) (v := ?_) rfl (by kernel_rfl) (by kernel_rfl) (by kernel_rfl) (fun _ _ _ h => h) (Or.inl ⟨by kernel_rfl, ?_⟩) (by assumption) ?_
    rotate_left
    · intro w' hSw
      (try dsimp only at hSw)
      go_simp
      all_goals (try with_reducible rfl)
    (try simp only [Act.put, List.getElem_toArray, List.getElem_cons_zero, List.getElem_cons_succ, List.setIfInBounds_toArray, List.set_cons_zero, List.set_cons_succ])
    refine wpAnyH_take (i := 18) (v := ?_) rfl (by kernel_rfl) (by kernel_rfl) (by kernel_rfl) (fun _ _ _ h => h) (Or.inl ⟨by kernel_rfl, ?_⟩) (by assumption) ?_
    rotate_left
    · intro w' hSw
      (try dsimp only at hSw)
      go_simp
      all_goals (try with_reducible rfl)
    (try simp only [Act.put, List.getElem_toArray, List.getElem_cons_zero, List.getElem_cons_succ, List.setIfInBounds_toArray, List.set_cons_zero, List.set_cons_succ])
    refine wpAnyH_take (i := 19) (v := ?_) rfl (by kernel_rfl) (by kernel_rfl) (by kernel_rfl) (fun _ _ _ h => h) (Or.inl ⟨by kernel_rfl, ?_⟩) (by assumption) ?_
    rotate_left
    · intro w' hSw
      (try dsimp only at hSw)
      go_simp
      all_goals (try with_reducible rfl)
    (try simp only [Act.put, List.getElem_toArray, List.getElem_cons_zero, List.getElem_cons_succ, List.setIfInBounds_toArray, List.set_cons_zero, List.set_cons_succ])
    refine wpAnyH_take (i := 20) (v := ?_) rfl (by kernel_rfl) (by kernel_rfl) (by kernel_rfl) (fun _ _ _ h => h) (Or.inl ⟨by kernel_rfl, ?_⟩) (by assumption) ?_
    rotate_left
    · intro w' hSw
      (try dsimp only at hSw)
      go_simp
      all_goals (try with_reducible rfl)
    (try simp only [Act.put, List.getElem_toArray, List.getElem_cons_zero, List.getElem_cons_succ, List.setIfInBounds_toArray, List.set_cons_zero, List.set_cons_succ])
    refine wpAnyH_take (i := 21) (v := ?_) rfl (by kernel_rfl) (by kernel_rfl) (by kernel_rfl) (fun _ _ _ h => h) (Or.inl ⟨by kernel_rfl, ?_⟩) (by assumption) ?_
    rotate_left
    · intro w' hSw
      (try dsimp only at hSw)
      go_simp
      all_goals (try with_reducible rfl)
    (try simp only [Act.put, List.getElem_toArray, List.getElem_cons_zero, List.getElem_cons_succ, List.setIfInBounds_toArray, List.set_cons_zero, List.set_cons_succ])
    refine wpAnyH_take (i := 22) (v := ?_) rfl (by kernel_rfl) (by kernel_rfl) (by kernel_rfl) (fun _ _ _ h => h) (Or.inl ⟨by kernel_rfl, ?_⟩) (by assumption) ?_
    rotate_left
    · intro w' hSw
      (try dsimp only at hSw)
      go_simp
      all_goals (try with_reducible rfl)
    (try simp only [Act.put, List.getElem_toArray, List.getElem_cons_zero, List.getElem_cons_succ, List.setIfInBounds_toArray, List.set_cons_zero, List.set_cons_succ])
    refine wpAnyH_take (i := 23) (v := ?_) rfl (by kernel_rfl) (by kernel_rfl) (by kernel_rfl) (fun _ _ _ h => h) (Or.inl ⟨by kernel_rfl, ?_⟩) (by assumption) ?_
    rotate_left
    · intro w' hSw
      (try dsimp only at hSw)
      go_simp
      all_goals (try with_reducible rfl)
    (try simp only [Act.put, List.getElem_toArray, List.getElem_cons_zero, List.getElem_cons_succ, List.setIfInBounds_toArray, List.set_cons_zero, List.set_cons_succ])
    refine wpAnyH_take (i := 24) (v := ?_) rfl (by kernel_rfl) (by kernel_rfl) (by kernel_rfl) (fun _ _ _ h => h) (Or.inl ⟨by kernel_rfl, ?_⟩) (by assumption) ?_
    rotate_left
    · intro w' hSw
      (try dsimp only at hSw)
      go_simp
      all_goals (try with_reducible rfl)
    (try simp only [Act.put, List.getElem_toArray, List.getElem_cons_zero, List.getElem_cons_succ, List.setIfInBounds_toArray, List.set_cons_zero, List.set_cons_succ])
    refine wpAnyH_take (i := 25) (v := ?_) rfl (by kernel_rfl) (by kernel_rfl) (by kernel_rfl) (fun _ _ _ h => h) (Or.inl ⟨by kernel_rfl, ?_⟩) (by assumption) ?_
    rotate_left
    · intro w' hSw
      (try dsimp only at hSw)
      go_simp
      all_goals (try with_reducible rfl)
    (try simp only [Act.put, List.getElem_toArray, List.getElem_cons_zero, List.getElem_cons_succ, List.setIfInBounds_toArray, List.set_cons_zero, List.set_cons_succ])
    refine wpAnyH_take (i := 26) (v := ?_) rfl (by kernel_rfl) (by kernel_rfl) (by kernel_rfl) (fun _ _ _ h => h) (Or.inl ⟨by kernel_rfl, ?_⟩) (by assumption) ?_
    rotate_left
    · intro w' hSw
      (try dsimp only at hSw)
      go_simp
      all_goals (try with_reducible rfl)
    (try simp only [Act.put, List.getElem_toArray, List.getElem_cons_zero, List.getElem_cons_succ, List.setIfInBounds_toArray, List.set_cons_zero, List.set_cons_succ])
    refine wpAnyH_take (i := 27) (v := ?_) rfl (by kernel_rfl) (by kernel_rfl) (by kernel_rfl) (fun _ _ _ h => h) (Or.inl ⟨by kernel_rfl, ?_⟩) (by assumption) ?_
    rotate_left
    · intro w' hSw
      (try dsimp only at hSw)
      go_simp
      all_goals (try with_reducible rfl)
    (try simp only [Act.put, List.getElem_toArray, List.getElem_cons_zero, List.getElem_cons_succ, List.setIfInBounds_toArray, List.set_cons_zero, List.set_cons_succ])
    refine wpAnyH_take (i := 28) (v := ?_) rfl (by kernel_rfl) (by kernel_rfl) (by kernel_rfl) (fun _ _ _ h => h) (Or.inl ⟨by kernel_rfl, ?_⟩) (by assumption) ?_
    rotate_left
    · intro w' hSw
      (try dsimp only at hSw)
      go_simp
      all_goals (try with_reducible rfl)
    (try simp only [Act.put, List.getElem_toArray, List.getElem_cons_zero, List.getElem_cons_succ, List.setIfInBounds_toArray, List.set_cons_zero, List.set_cons_succ])
    refine wpAnyH_take (i := 29) (v := ?_) rfl (by kernel_rfl) (by kernel_rfl) (by kernel_rfl) (fun _ _ _ h => h) (Or.inl ⟨by kernel_rfl, ?_⟩) (by assumption) ?_
    rotate_left
    · intro w' hSw
      (try dsimp only at hSw)
      go_simp
      all_goals (try with_reducible rfl)
    (try simp only [Act.put, List.getElem_toArray, List.getElem_cons_zero, List.getElem_cons_succ, List.setIfInBounds_toArray, List.set_cons_zero, List.set_cons_succ])
    refine wpAnyH_take (i := 30) (v := ?_) rfl (by kernel_rfl) (by kernel_rfl) (by kernel_rfl) (fun _ _ _ h => h) (Or.inl ⟨by kernel_rfl, ?_⟩) (by assumption) ?_
    rotate_left
    · intro w' hSw
      (try dsimp only at hSw)
      go_simp
      all_goals (try with_reducible rfl)
    (try simp only [Act.put, List.getElem_toArray, List.getElem_cons_zero, List.getElem_cons_succ, List.setIfInBounds_toArray, List.set_cons_zero, List.set_cons_succ])
    refine wpAnyH_take (i := 31) (v := ?_) rfl (by kernel_rfl) (by kernel_rfl) (by kernel_rfl) (fun _ _ _ h => h) (Or.inl ⟨by kernel_rfl, ?_⟩) (by assumption) ?_
    rotate_left
    · intro w' hSw
      (try dsimp only at hSw)
      go_simp
      all_goals (try with_reducible rfl)
    (try simp only [Act.put, List.getElem_toArray, List.getElem_cons_zero, List.getElem_cons_succ, List.setIfInBounds_toArray, List.set_cons_zero, List.set_cons_succ])
    refine wpAnyH_take (i := 32) (v := ?_) rfl (by kernel_rfl) (by kernel_rfl) (by kernel_rfl) (fun _ _ _ h => h) (Or.inl ⟨by kernel_rfl, ?_⟩) (by assumption) ?_
    rotate_left
    · intro w' hSw
      (try dsimp only at hSw)
      go_simp
      all_goals (try with_reducible rfl)
    (try simp only [Act.put, List.getElem_toArray, List.getElem_cons_zero, List.getElem_cons_succ, List.setIfInBounds_toArray, List.set_cons_zero, List.set_cons_succ])
    refine wpAnyH_take (i := 33) (v := ?_) rfl (by kernel_rfl) (by kernel_rfl) (by kernel_rfl) (fun _ _ _ h => h) (Or.inl ⟨by kernel_rfl, ?_⟩) (by assumption) ?_
    rotate_left
    · intro w' hSw
      (try dsimp only at hSw)
      go_simp
      all_goals (try with_reducible rfl)
    (try simp only [Act.put, List.getElem_toArray, List.getElem_cons_zero, List.getElem_cons_succ, List.setIfInBounds_toArray, List.set_cons_zero, List.set_cons_succ])
    refine wpAnyH_take (i := 34) (v := ?_) rfl (by kernel_rfl) (by kernel_rfl) (by kernel_rfl) (fun _ _ _ h => h) (Or.inl ⟨by kernel_rfl, ?_⟩) (by assumption) ?_
    rotate_left
    · intro w' hSw
      (try dsimp only at hSw)
      go_simp
      all_goals (try with_reducible rfl)
    (try simp only [Act.put, List.getElem_toArray, List.getElem_cons_zero, List.getElem_cons_succ, List.setIfInBounds_toArray, List.set_cons_zero, List.set_cons_succ])
    refine wpAnyH_take (i := 35) (v := ?_) rfl (by kernel_rfl) (by kernel_rfl) (by kernel_rfl) (fun _ _ _ h => h) (Or.inl ⟨by kernel_rfl, ?_⟩) (by assumption) ?_
    rotate_left
    · intro w' hSw
      (try dsimp only at hSw)
      go_simp
      all_goals (try with_reducible rfl)
    (try simp only [Act.put, List.getElem_toArray, List.getElem_cons_zero, List.getElem_cons_succ, List.setIfInBounds_toArray, List.set_cons_zero, List.set_cons_succ])
    refine wpAnyH_take (i := 36) (v := ?_) rfl (by kernel_rfl) (by kernel_rfl) (by kernel_rfl) (fun _ _ _ h => h) (Or.inl ⟨by kernel_rfl, ?_⟩) (by assumption) ?_
    rotate_left
    · intro w' hSw
      (try dsimp only at hSw)
      go_simp
      all_goals (try with_reducible rfl)
    (try simp only [Act.put, List.getElem_toArray, List.getElem_cons_zero, List.getElem_cons_succ, List.setIfInBounds_toArray, List.set_cons_zero, List.set_cons_succ])
    refine wpAnyH_take (i := 37) (v := ?_) rfl (by kernel_rfl) (by kernel_rfl) (by kernel_rfl) (fun _ _ _ h => h) (Or.inl ⟨by kernel_rfl, ?_⟩) (by assumption) ?_
    rotate_left
    · intro w' hSw
      (try dsimp only at hSw)
      go_simp
      all_goals (try with_reducible rfl)
    (try simp only [Act.put, List.getElem_toArray, List.getElem_cons_zero, List.getElem_cons_succ, List.setIfInBounds_toArray, List.set_cons_zero, List.set_cons_succ])
    refine wpAnyH_take (i := 38) (v := ?_) rfl (by kernel_rfl) (by kernel_rfl) (by kernel_rfl) (fun _ _ _ h => h) (Or.inl ⟨by kernel_rfl, ?_⟩) (by assumption) ?_
    rotate_left
    · intro w' hSw
      (try dsimp only at hSw)
      go_simp
      all_goals (try with_reducible rfl)
    (try simp only [Act.put, List.getElem_toArray, List.getElem_cons_zero, List.getElem_cons_succ, List.setIfInBounds_toArray, List.set_cons_zero, List.set_cons_succ])
    refine wpAnyH_take (i := 39) (v := ?_) rfl (by kernel_rfl) (by kernel_rfl) (by kernel_rfl) (fun _ _ _ h => h) (Or.inl ⟨by kernel_rfl, ?_⟩) (by assumption) ?_
    rotate_left
    · intro w' hSw
      (try dsimp only at hSw)
      go_simp
      all_goals (try with_reducible rfl)
    (try simp only [Act.put, List.getElem_toArray, List.getElem_cons_zero, List.getElem_cons_succ, List.setIfInBounds_toArray, List.set_cons_zero, List.set_cons_succ])
    refine wpAnyH_take (i := 40) (v := ?_) rfl (by kernel_rfl) (by kernel_rfl) (by kernel_rfl) (fun _ _ _ h => h) (Or.inl ⟨by kernel_rfl, ?_⟩) (by assumption) ?_
    rotate_left
    · intro w' hSw
      (try dsimp only at hSw)
      go_simp
      all_goals (try with_reducible rfl)
    (try simp only [Act.put, List.getElem_toArray, List.getElem_cons_zero, List.getElem_cons_succ, List.setIfInBounds_toArray, List.set_cons_zero, List.set_cons_succ])
    refine wpAnyH_take (i := 41) (v := ?_) rfl (by kernel_rfl) (by kernel_rfl) (by kernel_rfl) (fun _ _ _ h => h) (Or.inl ⟨by kernel_rfl, ?_⟩) (by assumption) ?_
    rotate_left
    · intro w' hSw
      (try dsimp only at hSw)
      go_simp
      all_goals (try with_reducible rfl)
    (try simp only [Act.put, List.getElem_toArray, List.getElem_cons_zero, List.getElem_cons_succ, List.setIfInBounds_toArray, List.set_cons_zero, List.set_cons_succ])
    refine wpAnyH_take (i := 42) (v := ?_) rfl (by kernel_rfl) (by kernel_rfl) (by kernel_rfl) (fun _ _ _ h => h) (Or.inl ⟨by kernel_rfl, ?_⟩) (by assumption) ?_
    rotate_left
    · intro w' hSw
      (try dsimp only at hSw)
      go_simp
      all_goals (try with_reducible rfl)
    (try simp only [Act.put, List.getElem_toArray, List.getElem_cons_zero, List.getElem_cons_succ, List.setIfInBounds_toArray, List.set_cons_zero, List.set_cons_succ])
    refine wpAnyH_take (i := 43) (v := ?_) rfl (by kernel_rfl) (by kernel_rfl) (by kernel_rfl) (fun _ _ _ h => h) (Or.inl ⟨by kernel_rfl, ?_⟩) (by assumption) ?_
    rotate_left
    · intro w' hSw
      (try dsimp only at hSw)
      go_simp
      all_goals (try with_reducible rfl)
    (try simp only [Act.put, List.getElem_toArray, List.getElem_cons_zero, List.getElem_cons_succ, List.setIfInBounds_toArray, List.set_cons_zero, List.set_cons_succ])
    refine wpAnyH_take (i := 44) (v := ?_) rfl (by kernel_rfl) (by kernel_rfl) (by kernel_rfl) (fun _ _ _ h => h) (Or.inl ⟨by kernel_rfl, ?_⟩) (by assumption) ?_
    rotate_left
    · intro w' hSw
      (try dsimp only at hSw)
      go_simp
      all_goals (try with_reducible rfl)
    (try simp only [Act.put, List.getElem_toArray, List.getElem_cons_zero, List.getElem_cons_succ, List.setIfInBounds_toArray, List.set_cons_zero, List.set_cons_succ])
    refine wpAnyH_take (i := 45) (v := ?_) rfl (by kernel_rfl) (by kernel_rfl) (by kernel_rfl) (fun _ _ _ h => h) (Or.inl ⟨by kernel_rfl, ?_⟩) (by assumption) ?_
    rotate_left
    · intro w' hSw
      (try dsimp only at hSw)
      go_simp
      all_goals (try with_reducible rfl)
    (try simp only [Act.put, List.getElem_toArray, List.getElem_cons_zero, List.getElem_cons_succ, List.setIfInBounds_toArray, List.set_cons_zero, List.set_cons_succ])
    refine wpAnyH_take (i := 46) (v := ?_) rfl (by kernel_rfl) (by kernel_rfl) (by kernel_rfl) (fun _ _ _ h => h) (Or.inl ⟨by kernel_rfl, ?_⟩) (by assumption) ?_
    rotate_left
    · intro w' hSw
      (try dsimp only at hSw)
      go_simp
      all_goals (try with_reducible rfl)
    (try simp only [Act.put, List.getElem_toArray, List.getElem_cons_zero, List.getElem_cons_succ, List.setIfInBounds_toArray, List.set_cons_zero, List.set_cons_succ])
    refine wpAnyH_ready (rs := [47]) (by kernel_rfl) (by simp) ?_
    refine AllReadyH.cons rfl (fun K hK => ?_) AllReadyH.nil
    (try simp only [Act.put, List.getElem_toArray, List.getElem_cons_zero, List.getElem_cons_succ, List.setIfInBounds_toArray, List.set_cons_zero, List.set_cons_succ])
    go_simp
    (go_at_call 6; refine Calls.mono (CTX.out _ (row_below RM.out hHeld.2.2.2.2.2.2.2.2.2.2.2.2.2.2.2)) ?_; rintro e w10 ⟨rfl, hb⟩)
    (try simp only [])
    refine hK.out _ _ ?_ (fun hHeld' => ?_)
    · (try dsimp only)
      exact ⟨cb_next hHeld.1 hb hHeld.2.2.2.2.2.1, cb_next hHeld.2.1 hb hHeld.2.2.2.2.2.2.1, cb_next hHeld.2.2.1 hb hHeld.2.2.2.2.2.2.2.1, cb_next hHeld.2.2.2.1 hb hHeld.2.2.2.2.2.2.2.2.1, cb_next hHeld.2.2.2.2.1 hb hHeld.2.2.2.2.2.2.2.2.2.1, lt_next hHeld.2.2.2.2.2.1 hb, lt_next hHeld.2.2.2.2.2.2.1 hb, lt_next hHeld.2.2.2.2.2.2.2.1 hb, lt_next hHeld.2.2.2.2.2.2.2.2.1 hb, lt_next hHeld.2.2.2.2.2.2.2.2.2.1 hb, o2_next hHeld.2.2.2.2.2.2.2.2.2.2.1 hb, o2_next hHeld.2.2.2.2.2.2.2.2.2.2.2.1 hb, rv_next hHeld.2.2.2.2.2.2.2.2.2.2.2.2.1 hb, rv_next hHeld.2.2.2.2.2.2.2.2.2.2.2.2.2.1 hb, cell_hid hHeld.2.2.2.2.2.2.2.2.2.2.2.2.2.2.1 hb, bel_next hHeld.2.2.2.2.2.2.2.2.2.2.2.2.2.2.2 hb⟩
    clear hK K
    clear hHeld
    have hHeld := hHeld'
    clear hHeld'
    clear hb
    (try simp only [Act.put, List.getElem_toArray, List.getElem_cons_zero, List.getElem_cons_succ, List.setIfInBounds_toArray, List.set_cons_zero, List.set_cons_succ])
    refine wpAnyH_take (i := 48) (v := ?_) rfl (by kernel_rfl) (by kernel_rfl) (by kernel_rfl) (fun _ _ _ h => h) (Or.inl ⟨by kernel_rfl, ?_⟩) (by assumption) ?_
    rotate_left
    · intro w' hSw
      (try dsimp only at hSw)
      go_simp
      all_goals (try with_reducible rfl)
    (try simp only [Act.put, List.getElem_toArray, List.getElem_cons_zero, List.getElem_cons_succ, List.setIfInBounds_toArray, List.set_cons_zero, List.set_cons_succ])
    refine wpAnyH_take (i := 49) (v := ?_) rfl (by kernel_rfl) (by kernel_rfl) (by kernel_rfl) (fun _ _ _ h => h) (Or.inl ⟨by kernel_rfl, ?_⟩) (by assumption) ?_
    rotate_left
    · intro w' hSw
      (try dsimp only at hSw)
      go_simp
      all_goals (try with_reducible rfl)
    (try simp only [Act.put, List.getElem_toArray, List.getElem_cons_zero, List.getElem_cons_succ, List.setIfInBounds_toArray, List.set_cons_zero, List.set_cons_succ])
    refine wpAnyH_take (i := 50) (v := ?_) rfl (by kernel_rfl) (by kernel_rfl) (by kernel_rfl) (fun _ _ _ h => h) (Or.inl ⟨by kernel_rfl, ?_⟩) (by assumption) ?_
    rotate_left
    · intro w' hSw
      (try dsimp only at hSw)
      go_simp
      all_goals (try with_reducible rfl)
    (try simp only [Act.put, List.getElem_toArray, List.getElem_cons_zero, List.getElem_cons_succ, List.setIfInBounds_toArray, List.set_cons_zero, List.set_cons_succ])
    refine wpAnyH_take (i := 51) (v := ?_) rfl (by kernel_rfl) (by kernel_rfl) (by kernel_rfl) (fun _ _ _ h => h) (Or.inl ⟨by kernel_rfl, ?_⟩) (by assumption) ?_
    rotate_left
    · intro w' hSw
      (try dsimp only at hSw)
      go_simp
      all_goals (try with_reducible rfl)
    (try simp only [Act.put, List.getElem_toArray, List.getElem_cons_zero, List.getElem_cons_succ, List.setIfInBounds_toArray, List.set_cons_zero, List.set_cons_succ])
    refine wpAnyH_take (i := 52) (v := ?_) rfl (by kernel_rfl) (by kernel_rfl) (by kernel_rfl) (fun _ _ _ h => h) (Or.inl ⟨by kernel_rfl, ?_⟩) (by assumption) ?_
    rotate_left
    · intro w' hSw
      (try dsimp only at hSw)
      go_simp
      all_goals (try with_reducible rfl)
    (try simp only [Act.put, List.getElem_toArray, List.getElem_cons_zero, List.getElem_cons_succ, List.setIfInBounds_toArray, List.set_cons_zero, List.set_cons_succ])
    refine wpAnyH_take (i := 53) (v := ?_) rfl (by kernel_rfl) (by kernel_rfl) (by kernel_rfl) (fun _ _ _ h => h) (Or.inl ⟨by kernel_rfl, ?_⟩) (by assumption) ?_
    rotate_left
    · intro w' hSw
      (try dsimp only at hSw)
      go_simp
      all_goals (try with_reducible rfl)
    (try simp only [Act.put, List.getElem_toArray, List.getElem_cons_zero, List.getElem_cons_succ, List.setIfInBounds_toArray, List.set_cons_zero, List.set_cons_succ])
    refine wpAnyH_take (i := 54) (v := ?_) rfl (by kernel_rfl) (by kernel_rfl) (by kernel_rfl) (fun _ _ _ h => h) (Or.inl ⟨by kernel_rfl, ?_⟩) (by assumption) ?_
    rotate_left
    · intro w' hSw
      (try dsimp only at hSw)
      go_simp
      all_goals (try with_reducible rfl)
    (try simp only [Act.put, List.getElem_toArray, List.getElem_cons_zero, List.getElem_cons_succ, List.setIfInBounds_toArray, List.set_cons_zero, List.set_cons_succ])
    refine wpAnyH_take (i := 55) (v := ?_) rfl (by kernel_rfl) (by kernel_rfl) (by kernel_rfl) (fun _ _ _ h => h) (Or.inl ⟨by kernel_rfl, ?_⟩) (by assumption) ?_
    rotate_left
    · intro w' hSw
      (try dsimp only at hSw)
      go_simp
      all_goals (try with_reducible rfl)
    (try simp only [Act.put, List.getElem_toArray, List.getElem_cons_zero, List.getElem_cons_succ, List.setIfInBounds_toArray, List.set_cons_zero, List.set_cons_succ])
    refine wpAnyH_take (i := 56) (v := ?_) rfl (by kernel_rfl) (by kernel_rfl) (by kernel_rfl) (fun _ _ _ h => h) (Or.inl ⟨by kernel_rfl, ?_⟩) (by assumption) ?_
    rotate_left
    · intro w' hSw
      (try dsimp only at hSw)
      go_simp
      all_goals (try with_reducible rfl)
    (try simp only [Act.put, List.getElem_toArray, List.getElem_cons_zero, List.getElem_cons_succ, List.setIfInBounds_toArray, List.set_cons_zero, List.set_cons_succ])
    refine wpAnyH_take (i := 57) (v := ?_) rfl (by kernel_rfl) (by kernel_rfl) (by kernel_rfl) (fun _ _ _ h => h) (Or.inl ⟨by kernel_rfl, ?_⟩) (by assumption) ?_
    rotate_left
    · intro w' hSw
      (try dsimp only at hSw)
      go_simp
      all_goals (try with_reducible rfl)
    (try simp only [Act.put, List.getElem_toArray, List.getElem_cons_zero, List.getElem_cons_succ, List.setIfInBounds_toArray, List.set_cons_zero, List.set_cons_succ])
    refine wpAnyH_take (i := 58) (v := ?_) rfl (by kernel_rfl) (by kernel_rfl) (by kernel_rfl) (fun _ _ _ h => h) (Or.inl ⟨by kernel_rfl, ?_⟩) (by assumption) ?_
    rotate_left
    · intro w' hSw
      (try dsimp only at hSw)
      go_simp
      all_goals (try with_reducible rfl)
    (try simp only [Act.put, List.getElem_toArray, List.getElem_cons_zero, List.getElem_cons_succ, List.setIfInBounds_toArray, List.set_cons_zero, List.set_cons_succ])
    refine wpAnyH_ready (rs := [59]) (by kernel_rfl) (by simp) ?_
    refine AllReadyH.cons rfl (fun K hK => ?_) AllReadyH.nil
    (try simp only [Act.put, List.getElem_toArray, List.getElem_cons_zero, List.getElem_cons_succ, List.setIfInBounds_toArray, List.set_cons_zero, List.set_cons_succ])
    go_simp
    (go_at_call 12; refine (sameTexts_same zc tc zp tp zl _ (by have := HRZ.out.2.2; omega) (own_trow hHeld.2.2.2.2.2.2.2.2.2.2.1.r0) (own_trow hHeld.2.2.2.2.2.2.2.2.2.2.2.1.r0)).mono ?_; rintro e w11 ⟨rfl, hb⟩)
    (try simp only [])
    refine hK.out _ _ ?_ (fun hHeld' => ?_)
    · (try dsimp only)
      exact ⟨cb_next hHeld.1 hb hHeld.2.2.2.2.2.1, cb_next hHeld.2.1 hb hHeld.2.2.2.2.2.2.1, cb_next hHeld.2.2.1 hb hHeld.2.2.2.2.2.2.2.1, cb_next hHeld.2.2.2.1 hb hHeld.2.2.2.2.2.2.2.2.1, cb_next hHeld.2.2.2.2.1 hb hHeld.2.2.2.2.2.2.2.2.2.1, lt_next hHeld.2.2.2.2.2.1 hb, lt_next hHeld.2.2.2.2.2.2.1 hb, lt_next hHeld.2.2.2.2.2.2.2.1 hb, lt_next hHeld.2.2.2.2.2.2.2.2.1 hb, lt_next hHeld.2.2.2.2.2.2.2.2.2.1 hb, o2_next hHeld.2.2.2.2.2.2.2.2.2.2.1 hb, o2_next hHeld.2.2.2.2.2.2.2.2.2.2.2.1 hb, rv_next hHeld.2.2.2.2.2.2.2.2.2.2.2.2.1 hb, rv_next hHeld.2.2.2.2.2.2.2.2.2.2.2.2.2.1 hb, cell_hid hHeld.2.2.2.2.2.2.2.2.2.2.2.2.2.2.1 hb, bel_next hHeld.2.2.2.2.2.2.2.2.2.2.2.2.2.2.2 hb⟩
    clear hK K
    clear hHeld
    have hHeld := hHeld'
    clear hHeld'
    clear hb
    (try simp only [Act.put, List.getElem_toArray, List.getElem_cons_zero, List.getElem_cons_succ, List.setIfInBounds_toArray, List.set_cons_zero, List.set_cons_succ])
    refine wpAnyH_take (i := 60) (v := ?_) rfl (by kernel_rfl) (by kernel_rfl) (by kernel_rfl) (fun _ _ _ h => h) (Or.inl ⟨by kernel_rfl, ?_⟩) (by assumption) ?_
    rotate_left
    · intro w' hSw
      (try dsimp only at hSw)
      go_simp
      all_goals (try with_reducible rfl)
    (try simp only [Act.put, List.getElem_toArray, List.getElem_cons_zero, List.getElem_cons_succ, List.setIfInBounds_toArray, List.set_cons_zero, List.set_cons_succ])
    refine wpAnyH_take (i := 61) (v := ?_) rfl (by kernel_rfl) (by kernel_rfl) (by kernel_rfl) (fun _ _ _ h => h) (Or.inl ⟨by kernel_rfl, ?_⟩) (by assumption) ?_
    rotate_left
    · intro w' hSw
      (try dsimp only at hSw)
      go_simp
      all_goals (try with_reducible rfl)
    (try simp only [Act.put, List.getElem_toArray, List.getElem_cons_zero, List.getElem_cons_succ, List.setIfInBounds_toArray, List.set_cons_zero, List.set_cons_succ])
    refine wpAnyH_take (i := 62) (v := ?_) rfl (by kernel_rfl) (by kernel_rfl) (by kernel_rfl) (fun _ _ _ h => h) (Or.inl ⟨by kernel_rfl, ?_⟩) (by assumption) ?_
    rotate_left
    · intro w' hSw
      (try dsimp only at hSw)
      go_simp
      all_goals (try with_reducible rfl)
    (try simp only [Act.put, List.getElem_toArray, List.getElem_cons_zero, List.getElem_cons_succ, List.setIfInBounds_toArray, List.set_cons_zero, List.set_cons_succ])
    refine wpAnyH_take (i := 63) (v := ?_) rfl (by kernel_rfl) (by kernel_rfl) (by kernel_rfl) (fun _ _ _ h => h) (Or.inl ⟨by kernel_rfl, ?_⟩) (by assumption) ?_
    rotate_left
    · intro w' hSw
      (try dsimp only at hSw)
      go_simp
      all_goals (try with_reducible rfl)
    (try simp only [Act.put, List.getElem_toArray, List.getElem_cons_zero, List.getElem_cons_succ, List.setIfInBounds_toArray, List.set_cons_zero, List.set_cons_succ])
    refine wpAnyH_take (i := 64) (v := ?_) rfl (by kernel_rfl) (by kernel_rfl) (by kernel_rfl) (fun _ _ _ h => h) (Or.inl ⟨by kernel_rfl, ?_⟩) (by assumption) ?_
    rotate_left
    · intro w' hSw
      (try dsimp only at hSw)
      go_simp
      all_goals (try with_reducible rfl)
    (try simp only [Act.put, List.getElem_toArray, List.getElem_cons_zero, List.getElem_cons_succ, List.setIfInBounds_toArray, List.set_cons_zero, List.set_cons_succ])
    refine wpAnyH_take (i := 65) (v := ?_) rfl (by kernel_rfl) (by kernel_rfl) (by kernel_rfl) (fun _ _ _ h => h) (Or.inl ⟨by kernel_rfl, ?_⟩) (by assumption) ?_
    rotate_left
    · intro w' hSw
      (try dsimp only at hSw)
      go_simp
      all_goals (try with_reducible rfl)
    (try simp only [Act.put, List.getElem_toArray, List.getElem_cons_zero, List.getElem_cons_succ, List.setIfInBounds_toArray, List.set_cons_zero, List.set_cons_succ])
    refine wpAnyH_take (i := 66) (v := ?_) rfl (by kernel_rfl) (by kernel_rfl) (by kernel_rfl) (fun _ _ _ h => h) (Or.inl ⟨by kernel_rfl, ?_⟩) (by assumption) ?_
    rotate_left
    · intro w' hSw
      (try dsimp only at hSw)
      go_simp
      all_goals (try with_reducible rfl)
    (try simp only [Act.put, List.getElem_toArray, List.getElem_cons_zero, List.getElem_cons_succ, List.setIfInBounds_toArray, List.set_cons_zero, List.set_cons_succ])
    refine wpAnyH_take (i := 67) (v := ?_) rfl (by kernel_rfl) (by kernel_rfl) (by kernel_rfl) (fun _ _ _ h => h) (Or.inl ⟨by kernel_rfl, ?_⟩) (by assumption) ?_
    rotate_left
    · intro w' hSw
      (try dsimp only at hSw)
      go_simp
      all_goals (try with_reducible rfl)
    (try simp only [Act.put, List.getElem_toArray, List.getElem_cons_zero, List.getElem_cons_succ, List.setIfInBounds_toArray, List.set_cons_zero, List.set_cons_succ])
    refine wpAnyH_take (i := 68) (v := ?_) rfl (by kernel_rfl) (by kernel_rfl) (by kernel_rfl) (fun _ _ _ h => h) (Or.inl ⟨by kernel_rfl, ?_⟩) (by assumption) ?_
    rotate_left
    · intro w' hSw
      (try dsimp only at hSw)
      go_simp
      all_goals (try with_reducible rfl)
    (try simp only [Act.put, List.getElem_toArray, List.getElem_cons_zero, List.getElem_cons_succ, List.setIfInBounds_toArray, List.set_cons_zero, List.set_cons_succ])
    refine wpAnyH_take (i := 69) (v := ?_) rfl (by kernel_rfl) (by kernel_rfl) (by kernel_rfl) (fun _ _ _ h => h) (Or.inl ⟨by kernel_rfl, ?_⟩) (by assumption) ?_
    rotate_left
    · intro w' hSw
      (try dsimp only at hSw)
      go_simp
      all_goals (try with_reducible rfl)
    (try simp only [Act.put, List.getElem_toArray, List.getElem_cons_zero, List.getElem_cons_succ, List.setIfInBounds_toArray, List.set_cons_zero, List.set_cons_succ])
    refine wpAnyH_take (i := 70) (v := ?_) rfl (by kernel_rfl) (by kernel_rfl) (by kernel_rfl) (fun _ _ _ h => h) (Or.inl ⟨by kernel_rfl, ?_⟩) (by assumption) ?_
    rotate_left
    · intro w' hSw
      (try dsimp only at hSw)
      go_simp
      all_goals (try with_reducible rfl)
    (try simp only [Act.put, List.getElem_toArray, List.getElem_cons_zero, List.getElem_cons_succ, List.setIfInBounds_toArray, List.set_cons_zero, List.set_cons_succ])
    refine wpAnyH_take (i := 71) (v := ?_) rfl (by kernel_rfl) (by kernel_rfl) (by kernel_rfl) (fun _ _ _ h => h) (Or.inl ⟨by kernel_rfl, ?_⟩) (by assumption) ?_
    rotate_left
    · intro w' hSw
      (try dsimp only at hSw)
      go_simp
      all_goals (try with_reducible rfl)
    (try simp only [Act.put, List.getElem_toArray, List.getElem_cons_zero, List.getElem_cons_succ, List.setIfInBounds_toArray, List.set_cons_zero, List.set_cons_succ])
    refine wpAnyH_take (i := 72) (v := ?_) rfl (by kernel_rfl) (by kernel_rfl) (by kernel_rfl) (fun _ _ _ h => h) (Or.inl ⟨by kernel_rfl, ?_⟩) (by assumption) ?_
    rotate_left
    · intro w' hSw
      (try dsimp only at hSw)
      go_simp
      all_goals (try with_reducible rfl)
    (try simp only [Act.put, List.getElem_toArray, List.getElem_cons_zero, List.getElem_cons_succ, List.setIfInBounds_toArray, List.set_cons_zero, List.set_cons_succ])
    refine wpAnyH_take (i := 73) (v := ?_) rfl (by kernel_rfl) (by kernel_rfl) (by kernel_rfl) (fun _ _ _ h => h) (Or.inl ⟨by kernel_rfl, ?_⟩) (by assumption) ?_
    rotate_left
    · intro w' hSw
      (try dsimp only at hSw)
      go_simp
      all_goals (try with_reducible rfl)
    (try simp only [Act.put, List.getElem_toArray, List.getElem_cons_zero, List.getElem_cons_succ, List.setIfInBounds_toArray, List.set_cons_zero, List.set_cons_succ])
    refine wpAnyH_take (i := 74) (v := ?_) rfl (by kernel_rfl) (by kernel_rfl) (by kernel_rfl) (fun _ _ _ h => h) (Or.inl ⟨by kernel_rfl, ?_⟩) (by assumption) ?_
    rotate_left
    · intro w' hSw
      (try dsimp only at hSw)
      go_simp
      all_goals (try with_reducible rfl)
    (try simp only [Act.put, List.getElem_toArray, List.getElem_cons_zero, List.getElem_cons_succ, List.setIfInBounds_toArray, List.set_cons_zero, List.set_cons_succ])
    refine wpAnyH_take (i := 75) (v := ?_) rfl (by kernel_rfl) (by kernel_rfl) (by kernel_rfl) (fun _ _ _ h => h) (Or.inl ⟨by kernel_rfl, ?_⟩) (by assumption) ?_
    rotate_left
    · intro w' hSw
      (try dsimp only at hSw)
      go_simp
      all_goals (try with_reducible rfl)
    (try simp only [Act.put, List.getElem_toArray, List.getElem_cons_zero, List.getElem_cons_succ, List.setIfInBounds_toArray, List.set_cons_zero, List.set_cons_succ])
    refine wpAnyH_ready (rs := [76]) (by kernel_rfl) (by simp) ?_
    refine AllReadyH.cons rfl (fun K hK => ?_) AllReadyH.nil
    (try simp only [Act.put, List.getElem_toArray, List.getElem_cons_zero, List.getElem_cons_succ, List.setIfInBounds_toArray, List.set_cons_zero, List.set_cons_succ])
    go_simp
    (go_at_call 12; refine (sameTexts_same sc rc sp (some ⟨rb, roff, none⟩) rz _ (by have := HRZ.out.2.1; have := LU.out; omega) (rowv_trow hHeld.2.2.2.2.2.2.2.2.2.2.2.2.2.1) (SLZ.out _ hHeld.2.2.2.2.2.2.2.2.2.2.2.2.1)).mono ?_; rintro e w12 ⟨rfl, hb⟩)
    (try simp only [])
    refine hK.out _ _ ?_ (fun hHeld' => ?_)
    · (try dsimp only)
      exact ⟨cb_next hHeld.1 hb hHeld.2.2.2.2.2.1, cb_next hHeld.2.1 hb hHeld.2.2.2.2.2.2.1, cb_next hHeld.2.2.1 hb hHeld.2.2.2.2.2.2.2.1, cb_next hHeld.2.2.2.1 hb hHeld.2.2.2.2.2.2.2.2.1, cb_next hHeld.2.2.2.2.1 hb hHeld.2.2.2.2.2.2.2.2.2.1, lt_next hHeld.2.2.2.2.2.1 hb, lt_next hHeld.2.2.2.2.2.2.1 hb, lt_next hHeld.2.2.2.2.2.2.2.1 hb, lt_next hHeld.2.2.2.2.2.2.2.2.1 hb, lt_next hHeld.2.2.2.2.2.2.2.2.2.1 hb, o2_next hHeld.2.2.2.2.2.2.2.2.2.2.1 hb, o2_next hHeld.2.2.2.2.2.2.2.2.2.2.2.1 hb, rv_next hHeld.2.2.2.2.2.2.2.2.2.2.2.2.1 hb, rv_next hHeld.2.2.2.2.2.2.2.2.2.2.2.2.2.1 hb, cell_hid hHeld.2.2.2.2.2.2.2.2.2.2.2.2.2.2.1 hb, bel_next hHeld.2.2.2.2.2.2.2.2.2.2.2.2.2.2.2 hb⟩
    clear hK K
    clear hHeld
    have hHeld := hHeld'
    clear hHeld'
    clear hb
    (try simp only [Act.put, List.getElem_toArray, List.getElem_cons_zero, List.getElem_cons_succ, List.setIfInBounds_toArray, List.set_cons_zero, List.set_cons_succ])
    refine wpAnyH_take (i := 77) (v := ?_) rfl (by kernel_rfl) (by kernel_rfl) (by kernel_rfl) (fun _ _ _ h => h) (Or.inl ⟨by kernel_rfl, ?_⟩) (by assumption) ?_
    rotate_left
    · intro w' hSw
      (try dsimp only at hSw)
      go_simp
      all_goals (try with_reducible rfl)
    (try simp only [Act.put, List.getElem_toArray, List.getElem_cons_zero, List.getElem_cons_succ, List.setIfInBounds_toArray, List.set_cons_zero, List.set_cons_succ])
    refine wpAnyH_take (i := 78) (v := ?_) rfl (by kernel_rfl) (by kernel_rfl) (by kernel_rfl) (fun _ _ _ h => h) (Or.inl ⟨by kernel_rfl, ?_⟩) (by assumption) ?_
    rotate_left
    · intro w' hSw
      (try dsimp only at hSw)
      go_simp
      all_goals (try with_reducible rfl)
    (try simp only [Act.put, List.getElem_toArray, List.getElem_cons_zero, List.getElem_cons_succ, List.setIfInBounds_toArray, List.set_cons_zero, List.set_cons_succ])
    refine wpAnyH_take (i := 79) (v := ?_) rfl (by kernel_rfl) (by kernel_rfl) (by kernel_rfl) (fun _ _ _ h => h) (Or.inl ⟨by kernel_rfl, ?_⟩) (by assumption) ?_
    rotate_left
    · intro w' hSw
      (try dsimp only at hSw)
      go_simp
      all_goals (try with_reducible rfl)
    (try simp only [Act.put, List.getElem_toArray, List.getElem_cons_zero, List.getElem_cons_succ, List.setIfInBounds_toArray, List.set_cons_zero, List.set_cons_succ])
    refine wpAnyH_ready (rs := [80]) (by kernel_rfl) (by simp) ?_
    refine AllReadyH.cons rfl (fun K hK => ?_) AllReadyH.nil
    (try simp only [Act.put, List.getElem_toArray, List.getElem_cons_zero, List.getElem_cons_succ, List.setIfInBounds_toArray, List.set_cons_zero, List.set_cons_succ])
    go_simp
    (go_at_call 13; refine (implOK_any _ _ zl [] _ (by have := HRZ.out.2.2; omega) (by simp) (own_rowV hHeld.2.2.2.2.2.2.2.2.2.2.1.r0) (own_rowV hHeld.2.2.2.2.2.2.2.2.2.2.1.r1)).mono ?_; rintro e w13 ⟨rfl, hb⟩; rw [hdz])
    (try simp only [])
    refine hK.out _ _ ?_ (fun hHeld' => ?_)
    · (try dsimp only)
      exact ⟨cb_next hHeld.1 hb hHeld.2.2.2.2.2.1, cb_next hHeld.2.1 hb hHeld.2.2.2.2.2.2.1, cb_next hHeld.2.2.1 hb hHeld.2.2.2.2.2.2.2.1, cb_next hHeld.2.2.2.1 hb hHeld.2.2.2.2.2.2.2.2.1, cb_next hHeld.2.2.2.2.1 hb hHeld.2.2.2.2.2.2.2.2.2.1, lt_next hHeld.2.2.2.2.2.1 hb, lt_next hHeld.2.2.2.2.2.2.1 hb, lt_next hHeld.2.2.2.2.2.2.2.1 hb, lt_next hHeld.2.2.2.2.2.2.2.2.1 hb, lt_next hHeld.2.2.2.2.2.2.2.2.2.1 hb, o2_next hHeld.2.2.2.2.2.2.2.2.2.2.1 hb, o2_next hHeld.2.2.2.2.2.2.2.2.2.2.2.1 hb, rv_next hHeld.2.2.2.2.2.2.2.2.2.2.2.2.1 hb, rv_next hHeld.2.2.2.2.2.2.2.2.2.2.2.2.2.1 hb, cell_hid hHeld.2.2.2.2.2.2.2.2.2.2.2.2.2.2.1 hb, bel_next hHeld.2.2.2.2.2.2.2.2.2.2.2.2.2.2.2 hb⟩
    clear hK K
    clear hHeld
    have hHeld := hHeld'
    clear hHeld'
    clear hb
    (try simp only [Act.put, List.getElem_toArray, List.getElem_cons_zero, List.getElem_cons_succ, List.setIfInBounds_toArray, List.set_cons_zero, List.set_cons_succ])
    refine take_d (i := 81) (d := 156) (v := ?_) (by rfl) rfl (by kernel_rfl) (by kernel_rfl) (by kernel_rfl) (fun _ _ _ h => h) (Or.inl ⟨by kernel_rfl, ?_⟩) (by assumption) ?_
    rotate_left
    · intro w' hSw
      (try dsimp only at hSw)
      go_simp
      all_goals (try with_reducible rfl)
    (try simp only [Act.put, List.getElem_toArray, List.getElem_cons_zero, List.getElem_cons_succ, List.setIfInBounds_toArray, List.set_cons_zero, List.set_cons_succ])
    refine take_d (i := 82) (d := 4) (v := ?_) (by rfl) rfl (by kernel_rfl) (by kernel_rfl) (by kernel_rfl) (fun _ _ _ h => h) (Or.inl ⟨by kernel_rfl, ?_⟩) (by assumption) ?_
    rotate_left
    · intro w' hSw
      (try dsimp only at hSw)
      go_simp
      all_goals (try with_reducible rfl)
    (try simp only [Act.put, List.getElem_toArray, List.getElem_cons_zero, List.getElem_cons_succ, List.setIfInBounds_toArray, List.set_cons_zero, List.set_cons_succ])
    refine wpAnyH_done (by kernel_rfl) ?_ _
    replace HB : Hid _ := hHeld.2.2.2.2.2.2.2.2.2.2.2.2.2.2.2
    clear hHeld
    go_wp2
    go_ret
    exact ⟨rfl, HB.out⟩
end Go.Proofs.YthblnifapkfbcaaDoor
