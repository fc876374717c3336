/- The law of CrashDisk. -/
import Derived.Test.YtmogmamijnkpdaaRows
import Derived.WalkKit
import Derived.WalkSpells
import Derived.WalkLawsBesides
import Derived.Deep.QuietTactic
import Derived.BigQuiet
import Derived.Deep.RegionHeld3
import Derived.Test.YtmogmamijnkpdaaCd
import Derived.Test.YtmogmamijnkpdaaTm
import Derived.LoopN
namespace Go.Proofs.Ytmogmamijnkpdaa
open Go.RowKit
set_option linter.unusedSimpArgs false
set_option linter.unusedVariables false

theorem cb_mark {W W' : World} {g lo hi : Nat} {v0 v1 : Value} (h : Hid (Cb W g v0 v1)) (hg : Chg lo hi W W') (hne : g < lo ∨ hi ≤ g) : Hid (Cb W' g v0 v1) := ⟨hg.cell h.out.1 hne, hg.cell h.out.2 hne⟩
theorem lt_mark {W W' : World} {g lo hi : Nat} (hl : Hid (g < W.heap.size)) (hg : Chg lo hi W W') : Hid (g < W'.heap.size) := Nat.lt_of_lt_of_le hl.out hg.size
theorem o2_mark {W W' : World} {v0 v1 : Value} {rs ru : List ByteArray} {lo hi lo' hi' : Nat} (h : Hid (Own2 W v0 v1 rs ru lo' hi')) (hg : Chg lo hi W W') (hne : hi' ≤ lo ∨ hi ≤ lo') : Hid (Own2 W' v0 v1 rs ru lo' hi') :=
  ⟨hg.own h.out.r0 (fun k hk => by have := h.out.b0 k hk; omega), hg.own h.out.r1 (fun k hk => by have := h.out.b1 k hk; omega), h.out.b0, h.out.b1, h.out.ne⟩
theorem bel_mark {w W W' : World} {lo hi : Nat} (h : Hid (Below w.heap.size w W)) (hg : Chg lo hi W W') (hr : w.heap.size ≤ lo) : Hid (Below w.heap.size w W') :=
  ⟨hg.os.trans h.out.os, hg.tape.trans h.out.tape, hg.output.trans h.out.output, Nat.le_trans h.out.size hg.size, fun b hb => (hg.block b (Nat.lt_of_lt_of_le hb h.out.size) (by omega)).trans (h.out.block b hb)⟩

set_option maxRecDepth 20000 in
set_option maxHeartbeats 8000000 in
theorem law_crash (a0 a1 : Value) (ss us : List ByteArray) (keep torn : Int) (w : World) (hm : ss.length ≤ maxLen) (hm' : us.length ≤ maxLen) (hw : ∀ s ∈ ss, s.size ≤ maxLen) (hw' : ∀ s ∈ us, s.size ≤ maxLen) (hr0 : RowV w a0 ss) (hs0 : RowV w a1 us) :
    Calls Try.prog 3 #[.agg #[a0, a1], .int .i64 keep, .int .i64 torn] w fun e w' => e = .returned (.bool true) ∧ Below w.heap.size w w' := by
  obtain ⟨code, rs, ru, CS, CI, hR, hR'⟩ : ∃ (code : Int) (rs ru : List ByteArray), (ss.length ≤ 1048576 → us.length ≤ 1048576 → tot ss + tot us ≤ 1048576 → ∀ W x0 x1, RowV W x0 ss → RowV W x1 us → Calls Try.prog 5 #[.agg #[x0, x1], .int .i64 keep, .int .i64 torn] W (DP W code rs ru)) ∧ (ss.length ≤ 1048576 → us.length ≤ 1048576 → tot ss + tot us ≤ 1048576 → ∀ W x0 x1, RowV W x0 ss → RowV W x1 us → Calls Try.prog 7 #[.agg #[x0, x1], .int .i64 keep, .int .i64 torn] W (DP W code rs ru)) ∧ rs.length ≤ 1048576 ∧ ru.length ≤ 1048576 := ⟨crC ss us keep torn, crL ss us keep torn, [], fun hn hn' ht W x0 x1 h0 h1 => specCrash_any x0 x1 ss us keep torn W hn hn' (fun s hs => by have := tot_mem us s hs; omega) h0 h1, fun hn hn' ht W x0 x1 h0 h1 => implCrash_any x0 x1 ss us keep torn W hn hn' (fun s hs => by have := tot_mem us s hs; omega) h0 h1, by have := crL_len ss us keep torn; omega, by simp⟩
  have HCS : Hid _ := CS
  have HCI : Hid _ := CI
  clear CS CI
  have RA : Hid (RowV w a0 ss) := hr0
  have RU : Hid (RowV w a1 us) := hs0
  clear hr0 hs0
  have HW : Hid ((∀ s ∈ ss, s.size ≤ maxLen) ∧ (∀ s ∈ us, s.size ≤ maxLen)) := ⟨hw, hw'⟩
  clear hw hw'
  go_enter Try.func3, Try.ntmps3
  go_wp2_with fail
  have HB : Hid (Below w.heap.size w _) := bel_alloc w (.cells #[a0, a1] 24)
  have BA := box_new (W := w) (v0 := a0) (v1 := a1) (t := 24)
  have LA := lt_new (W := w) (o := .cells #[a0, a1] 24)
  refine (szDisk_any a0 a1 ss us 1048576 _ (by omega) (by omega) hm hm' HW.out.1 HW.out.2 (RA.out.next HB.out) (RU.out.next HB.out)).mono ?_
  rintro e w1 ⟨rfl, hb⟩
  replace BA := cb_next BA hb LA
  replace LA := lt_next LA hb
  replace HB := bel_next HB hb
  clear hb
  obtain ⟨z, hz⟩ : ∃ z, z = szD ss us 1048576 := ⟨_, rfl⟩
  rw [← hz]
  by_cases h0 : z < 0
  · go_wp2
    go_ret
    exact ⟨rfl, HB.out⟩
  have hle := szD_ok (by rw [← hz]; exact h0)
  clear hz
  have hn : ss.length ≤ 1048576 := by omega
  have hn' : us.length ≤ 1048576 := by omega
  have ht : tot ss + tot us ≤ 1048576 := by omega
  clear hle hm hm'
  have SZ1 : Hid (w.heap.size < w1.heap.size) := LA.out
  obtain ⟨bA0, bA1⟩ := BA.out
  go_wp2_with fail
  clear bA0 bA1
  refine (toDisk_any a0 a1 ss us _ hn hn' (RA.out.next HB.out) (RU.out.next HB.out)).mono ?_
  rintro e w2 ⟨y0, y1, rfl, hb, hO⟩
  obtain ⟨yp, yc, rfl⟩ := own_slice hO.r0
  obtain ⟨yq, yd, rfl⟩ := own_slice hO.r1
  have SZ2 : Hid (w1.heap.size ≤ w2.heap.size) := hb.size
  replace BA := cb_next BA hb LA
  replace LA := lt_next LA hb
  replace HB := bel_next HB hb
  have EY : Hid (Own2 w2 _ _ ss us w1.heap.size w2.heap.size) := hO
  clear hb hO
  go_wp2_with fail
  refine Calls.mono (HCS.out hn hn' ht _ _ _ (own_rowV EY.out.r0) (own_rowV EY.out.r1)) ?_
  rintro e w3 ⟨vp, vc, vq, vd, rfl, hb, hO⟩
  have SZ3 : Hid (w2.heap.size ≤ w3.heap.size) := hb.size
  replace BA := cb_next BA hb LA
  replace LA := lt_next LA hb
  replace HB := bel_next HB hb
  have EW : Hid (Own2 w3 _ _ rs ru w2.heap.size w3.heap.size) := hO
  clear hb hO EY
  obtain ⟨bA0, bA1⟩ := BA.out
  have bA0' : ∀ o, (w3.alloc o).cell? ⟨w.heap.size, 0, none⟩ = _ := fun o => box_alloc bA0 LA.out
  have bA1' : ∀ o, (w3.alloc o).cell? ⟨w.heap.size, 1, none⟩ = _ := fun o => box_alloc bA1 LA.out
  go_wp2_with fail
  clear bA0 bA0' bA1 bA1'
  refine (toDisk_any a0 a1 ss us _ hn hn' (RA.out.next (bel_next HB (bel_alloc _ _)).out) (RU.out.next (bel_next HB (bel_alloc _ _)).out)).mono ?_
  rintro e w4 ⟨x0, x1, rfl, hb, hO⟩
  obtain ⟨xp, xc, rfl⟩ := own_slice hO.r0
  obtain ⟨xq, xd, rfl⟩ := own_slice hO.r1
  have BW := cb_next box_new hb lt_new
  have LW := lt_next lt_new hb
  have SZ4 : Hid (w3.heap.size + 1 ≤ w4.heap.size) := (show _ ≤ _ by have := hb.size; simpa using this)
  replace BA := cb_next (cb_next BA (bel_alloc _ _) LA) hb (lt_next LA (bel_alloc _ _))
  replace LA := lt_next (lt_next LA (bel_alloc _ _)) hb
  replace EW := o2_next (o2_next EW (bel_alloc _ _)) hb
  replace HB := bel_next (bel_next HB (bel_alloc _ _)) hb
  have Ex : Hid (Own2 w4 _ _ ss us (w3.heap.size + 1) w4.heap.size) := hO.weak (by simp) (Nat.le_refl _)
  clear hb hO
  go_wp2_with fail
  refine Calls.mono (HCI.out hn hn' ht _ _ _ (own_rowV (o2_next Ex (bel_alloc _ _)).out.r0) (own_rowV (o2_next Ex (bel_alloc _ _)).out.r1)) ?_
  rintro e w5 ⟨gp, gc, gq, gd, rfl, hb, hO⟩
  have Bx := cb_next box_new hb lt_new
  have Lx := lt_next lt_new hb
  have SZ5 : Hid (w4.heap.size + 1 ≤ w5.heap.size) := (show _ ≤ _ by have := hb.size; simpa using this)
  replace BA := cb_next (cb_next BA (bel_alloc _ _) LA) hb (lt_next LA (bel_alloc _ _))
  replace BW := cb_next (cb_next BW (bel_alloc _ _) LW) hb (lt_next LW (bel_alloc _ _))
  replace LA := lt_next (lt_next LA (bel_alloc _ _)) hb
  replace LW := lt_next (lt_next LW (bel_alloc _ _)) hb
  replace EW := o2_next (o2_next EW (bel_alloc _ _)) hb
  replace Ex := o2_next (o2_next Ex (bel_alloc _ _)) hb
  replace HB := bel_next (bel_next HB (bel_alloc _ _)) hb
  have EG : Hid (Own2 w5 _ _ rs ru (w4.heap.size + 1) w5.heap.size) := hO.weak (by simp) (Nat.le_refl _)
  clear hb hO
  obtain ⟨bW0, bW1⟩ := BW.out
  have bW0' : ∀ o, (w5.alloc o).cell? ⟨w3.heap.size, 0, none⟩ = _ := fun o => box_alloc bW0 LW.out
  have bW1' : ∀ o, (w5.alloc o).cell? ⟨w3.heap.size, 1, none⟩ = _ := fun o => box_alloc bW1 LW.out
  go_wp2_with fail
  clear bW0 bW0' bW1 bW1'
  refine (eqDisk_same _ _ _ _ rs ru _ hR hR' (own_rowV (o2_next EG (bel_alloc _ _)).out.r0) (own_rowV (o2_next EG (bel_alloc _ _)).out.r1) (own_rowV (o2_next EW (bel_alloc _ _)).out.r0) (own_rowV (o2_next EW (bel_alloc _ _)).out.r1)).mono ?_
  rintro e w6 ⟨rfl, hb⟩
  have BG := cb_next box_new hb lt_new
  have LG := lt_next lt_new hb
  have SZ6 : Hid (w5.heap.size + 1 ≤ w6.heap.size) := (show _ ≤ _ by have := hb.size; simpa using this)
  replace BA := cb_next (cb_next BA (bel_alloc _ _) LA) hb (lt_next LA (bel_alloc _ _))
  replace BW := cb_next (cb_next BW (bel_alloc _ _) LW) hb (lt_next LW (bel_alloc _ _))
  replace Bx := cb_next (cb_next Bx (bel_alloc _ _) Lx) hb (lt_next Lx (bel_alloc _ _))
  replace LA := lt_next (lt_next LA (bel_alloc _ _)) hb
  replace LW := lt_next (lt_next LW (bel_alloc _ _)) hb
  replace Lx := lt_next (lt_next Lx (bel_alloc _ _)) hb
  replace EW := o2_next (o2_next EW (bel_alloc _ _)) hb
  replace Ex := o2_next (o2_next Ex (bel_alloc _ _)) hb
  replace EG := o2_next (o2_next EG (bel_alloc _ _)) hb
  replace HB := bel_next (bel_next HB (bel_alloc _ _)) hb
  clear hb
  go_wp2_with fail
  refine wp_region_held_drew (S := (fun w' => (w'.cell? ⟨w.heap.size, 0, none⟩ = some (a0) ∧ w'.cell? ⟨w.heap.size, 1, none⟩ = some (a1)) ∧ (w'.cell? ⟨w3.heap.size, 0, none⟩ = some ((.slice vp rs.length vc)) ∧ w'.cell? ⟨w3.heap.size, 1, none⟩ = some ((.slice vq ru.length vd))) ∧ (w'.cell? ⟨w4.heap.size, 0, none⟩ = some ((.slice xp ss.length xc)) ∧ w'.cell? ⟨w4.heap.size, 1, none⟩ = some ((.slice xq us.length xd))) ∧ (w'.cell? ⟨w5.heap.size, 0, none⟩ = some ((.slice gp rs.length gc)) ∧ w'.cell? ⟨w5.heap.size, 1, none⟩ = some ((.slice gq ru.length gd))) ∧ (w.heap.size < w'.heap.size) ∧ (w3.heap.size < w'.heap.size) ∧ (w4.heap.size < w'.heap.size) ∧ (w5.heap.size < w'.heap.size) ∧ Own2 w' (.slice vp rs.length vc) (.slice vq ru.length vd) rs ru w2.heap.size w3.heap.size ∧ Own2 w' (.slice xp ss.length xc) (.slice xq us.length xd) ss us (w3.heap.size + 1) w4.heap.size ∧ Own2 w' (.slice gp rs.length gc) (.slice gq ru.length gd) rs ru (w4.heap.size + 1) w5.heap.size ∧ Below w.heap.size w w')) (by kernel_rfl) ?_ (fun hHeld => ?_)
  · (try dsimp only)
    exact ⟨(cb_next BA (bel_drew _) LA).out, (cb_next BW (bel_drew _) LW).out, (cb_next Bx (bel_drew _) Lx).out, (cb_next BG (bel_drew _) LG).out, (lt_next LA (bel_drew _)).out, (lt_next LW (bel_drew _)).out, (lt_next Lx (bel_drew _)).out, (lt_next LG (bel_drew _)).out, (o2_next EW (bel_drew _)).out, (o2_next Ex (bel_drew _)).out, (o2_next EG (bel_drew _)).out, (bel_next HB (bel_drew _)).out⟩
  refine wpAnyH_take (i := 0) (v := ?_) rfl (by kernel_rfl) (by kernel_rfl) (by kernel_rfl) (fun _ _ _ h => h) (Or.inl ⟨by rfl, ?_⟩) (by assumption) ?_
  rotate_left
  · intro w' hSw
    (try dsimp only at hSw)
    go_simp
    all_goals (try with_reducible rfl)
  (try simp only [Act.put, List.getElem_toArray, List.getElem_cons_zero, List.getElem_cons_succ, List.setIfInBounds_toArray, List.set_cons_zero, List.set_cons_succ])
  refine wpAnyH_take (i := 1) (v := ?_) rfl (by kernel_rfl) (by kernel_rfl) (by kernel_rfl) (fun _ _ _ h => h) (Or.inl ⟨by rfl, ?_⟩) (by assumption) ?_
  rotate_left
  · intro w' hSw
    (try dsimp only at hSw)
    go_simp
    all_goals (try with_reducible rfl)
  (try simp only [Act.put, List.getElem_toArray, List.getElem_cons_zero, List.getElem_cons_succ, List.setIfInBounds_toArray, List.set_cons_zero, List.set_cons_succ])
  refine wpAnyH_ready (rs := [2]) (by kernel_rfl) (by simp) ?_
  refine AllReadyH.cons rfl (fun K hK => ?_) AllReadyH.nil
  (try simp only [Act.put, List.getElem_toArray, List.getElem_cons_zero, List.getElem_cons_succ, List.setIfInBounds_toArray, List.set_cons_zero, List.set_cons_succ])
  go_simp
  (go_at_call 6; refine (toDisk_any a0 a1 ss us _ hn hn' (RA.out.next hHeld.2.2.2.2.2.2.2.2.2.2.2) (RU.out.next hHeld.2.2.2.2.2.2.2.2.2.2.2)).mono ?_; rintro e w7 ⟨t0, t1, rfl, hb, hO⟩; have ET : Hid (Own2 w7 t0 t1 ss us _ _) := hO; clear hO)
  (try simp only [])
  refine hK.out _ _ ?_ (fun hHeld' => ?_)
  · (try dsimp only)
    exact ⟨cb_next hHeld.1 hb hHeld.2.2.2.2.1, cb_next hHeld.2.1 hb hHeld.2.2.2.2.2.1, cb_next hHeld.2.2.1 hb hHeld.2.2.2.2.2.2.1, cb_next hHeld.2.2.2.1 hb hHeld.2.2.2.2.2.2.2.1, lt_next hHeld.2.2.2.2.1 hb, lt_next hHeld.2.2.2.2.2.1 hb, lt_next hHeld.2.2.2.2.2.2.1 hb, lt_next hHeld.2.2.2.2.2.2.2.1 hb, o2_next hHeld.2.2.2.2.2.2.2.2.1 hb, o2_next hHeld.2.2.2.2.2.2.2.2.2.1 hb, o2_next hHeld.2.2.2.2.2.2.2.2.2.2.1 hb, bel_next hHeld.2.2.2.2.2.2.2.2.2.2.2 hb⟩
  clear hK K
  clear hHeld
  have hHeld := hHeld'
  clear hHeld'
  clear hb
  (try simp only [Act.put, List.getElem_toArray, List.getElem_cons_zero, List.getElem_cons_succ, List.setIfInBounds_toArray, List.set_cons_zero, List.set_cons_succ])
  refine wpAnyH_ready (rs := [3]) (by kernel_rfl) (by simp) ?_
  refine AllReadyH.cons rfl (fun K hK => ?_) AllReadyH.nil
  (try simp only [Act.put, List.getElem_toArray, List.getElem_cons_zero, List.getElem_cons_succ, List.setIfInBounds_toArray, List.set_cons_zero, List.set_cons_succ])
  go_simp
  (go_at_call 8; refine (eqDisk_same (.slice xp ss.length xc) (.slice xq us.length xd) t0 t1 ss us _ hn hn' (own_rowV hHeld.2.2.2.2.2.2.2.2.2.1.r0) (own_rowV hHeld.2.2.2.2.2.2.2.2.2.1.r1) (own_rowV ET.out.r0) (own_rowV ET.out.r1)).mono ?_; rintro e w8 ⟨rfl, hb⟩)
  (try simp only [])
  refine hK.out _ _ ?_ (fun hHeld' => ?_)
  · (try dsimp only)
    exact ⟨cb_next hHeld.1 hb hHeld.2.2.2.2.1, cb_next hHeld.2.1 hb hHeld.2.2.2.2.2.1, cb_next hHeld.2.2.1 hb hHeld.2.2.2.2.2.2.1, cb_next hHeld.2.2.2.1 hb hHeld.2.2.2.2.2.2.2.1, lt_next hHeld.2.2.2.2.1 hb, lt_next hHeld.2.2.2.2.2.1 hb, lt_next hHeld.2.2.2.2.2.2.1 hb, lt_next hHeld.2.2.2.2.2.2.2.1 hb, o2_next hHeld.2.2.2.2.2.2.2.2.1 hb, o2_next hHeld.2.2.2.2.2.2.2.2.2.1 hb, o2_next hHeld.2.2.2.2.2.2.2.2.2.2.1 hb, bel_next hHeld.2.2.2.2.2.2.2.2.2.2.2 hb⟩
  clear hK K
  clear hHeld
  have hHeld := hHeld'
  clear hHeld'
  clear hb
  (try simp only [Act.put, List.getElem_toArray, List.getElem_cons_zero, List.getElem_cons_succ, List.setIfInBounds_toArray, List.set_cons_zero, List.set_cons_succ])
  refine wpAnyH_take (i := 4) (v := ?_) rfl (by kernel_rfl) (by kernel_rfl) (by kernel_rfl) (fun _ _ _ h => h) (Or.inl ⟨by rfl, ?_⟩) (by assumption) ?_
  rotate_left
  · intro w' hSw
    (try dsimp only at hSw)
    go_simp
    all_goals (try with_reducible rfl)
  (try simp only [Act.put, List.getElem_toArray, List.getElem_cons_zero, List.getElem_cons_succ, List.setIfInBounds_toArray, List.set_cons_zero, List.set_cons_succ])
  refine wpAnyH_done (by kernel_rfl) ?_ _
  replace BA : Hid _ := hHeld.1
  replace BW : Hid _ := hHeld.2.1
  replace Bx : Hid _ := hHeld.2.2.1
  replace BG : Hid _ := hHeld.2.2.2.1
  replace LA : Hid _ := hHeld.2.2.2.2.1
  replace LW : Hid _ := hHeld.2.2.2.2.2.1
  replace Lx : Hid _ := hHeld.2.2.2.2.2.2.1
  replace LG : Hid _ := hHeld.2.2.2.2.2.2.2.1
  replace EW : Hid _ := hHeld.2.2.2.2.2.2.2.2.1
  replace Ex : Hid _ := hHeld.2.2.2.2.2.2.2.2.2.1
  replace EG : Hid _ := hHeld.2.2.2.2.2.2.2.2.2.2.1
  replace HB : Hid _ := hHeld.2.2.2.2.2.2.2.2.2.2.2
  clear hHeld
  clear ET
  obtain ⟨bx0, bx1⟩ := Bx.out
  go_wp2_with fail
  clear bx0 bx1
  have hsz := Lx.out
  refine (markDisk_any _ _ ss us 1 (w3.heap.size + 1) w4.heap.size _ hn hn' (by omega) (by omega) Ex.out (by have SZ1' := SZ1.out; have SZ2' := SZ2.out; have SZ3' := SZ3.out; have SZ4' := SZ4.out; have SZ5' := SZ5.out; have SZ6' := SZ6.out; omega)).mono ?_
  rintro e w9 ⟨rfl, hg, hM⟩
  clear hsz
  replace BA := cb_mark BA hg (by have SZ1' := SZ1.out; have SZ2' := SZ2.out; have SZ3' := SZ3.out; have SZ4' := SZ4.out; have SZ5' := SZ5.out; have SZ6' := SZ6.out; omega)
  replace LA := lt_mark LA hg
  replace BW := cb_mark BW hg (by have SZ1' := SZ1.out; have SZ2' := SZ2.out; have SZ3' := SZ3.out; have SZ4' := SZ4.out; have SZ5' := SZ5.out; have SZ6' := SZ6.out; omega)
  replace LW := lt_mark LW hg
  replace Bx := cb_mark Bx hg (by have SZ1' := SZ1.out; have SZ2' := SZ2.out; have SZ3' := SZ3.out; have SZ4' := SZ4.out; have SZ5' := SZ5.out; have SZ6' := SZ6.out; omega)
  replace Lx := lt_mark Lx hg
  replace BG := cb_mark BG hg (by have SZ1' := SZ1.out; have SZ2' := SZ2.out; have SZ3' := SZ3.out; have SZ4' := SZ4.out; have SZ5' := SZ5.out; have SZ6' := SZ6.out; omega)
  replace LG := lt_mark LG hg
  replace EW := o2_mark EW hg (by have SZ1' := SZ1.out; have SZ2' := SZ2.out; have SZ3' := SZ3.out; have SZ4' := SZ4.out; have SZ5' := SZ5.out; have SZ6' := SZ6.out; omega)
  replace EG := o2_mark EG hg (by have SZ1' := SZ1.out; have SZ2' := SZ2.out; have SZ3' := SZ3.out; have SZ4' := SZ4.out; have SZ5' := SZ5.out; have SZ6' := SZ6.out; omega)
  replace HB := bel_mark HB hg (by have SZ1' := SZ1.out; have SZ2' := SZ2.out; have SZ3' := SZ3.out; have SZ4' := SZ4.out; have SZ5' := SZ5.out; have SZ6' := SZ6.out; omega)
  clear hg
  clear hM Ex Bx Lx
  have hkn : ¬ (((1 + ss.length + us.length : Nat) : Int)) < 0 := by omega
  generalize (((1 + ss.length + us.length : Nat) : Int)) = kk at *
  obtain ⟨bG0, bG1⟩ := BG.out
  obtain ⟨bW0, bW1⟩ := BW.out
  go_wp2_with fail
  clear bG0 bG1
  clear bW0 bW1
  refine (eqDisk_same _ _ _ _ rs ru _ hR hR' (own_rowV EG.out.r0) (own_rowV EG.out.r1) (own_rowV EW.out.r0) (own_rowV EW.out.r1)).mono ?_
  rintro e w10 ⟨rfl, hb⟩
  replace BA := cb_next BA hb LA
  replace BW := cb_next BW hb LW
  replace BG := cb_next BG hb LG
  replace LA := lt_next LA hb
  replace LW := lt_next LW hb
  replace LG := lt_next LG hb
  replace EW := o2_next EW hb
  replace EG := o2_next EG hb
  replace HB := bel_next HB hb
  clear hb
  obtain ⟨bG0, bG1⟩ := BG.out
  go_wp2_with fail
  clear bG0 bG1
  have hsz := LG.out
  refine (markDisk_any _ _ rs ru 1 (w4.heap.size + 1) w5.heap.size _ hR hR' (by omega) (by omega) EG.out (by have SZ1' := SZ1.out; have SZ2' := SZ2.out; have SZ3' := SZ3.out; have SZ4' := SZ4.out; have SZ5' := SZ5.out; have SZ6' := SZ6.out; omega)).mono ?_
  rintro e w11 ⟨rfl, hg, hM⟩
  clear hsz
  replace BA := cb_mark BA hg (by have SZ1' := SZ1.out; have SZ2' := SZ2.out; have SZ3' := SZ3.out; have SZ4' := SZ4.out; have SZ5' := SZ5.out; have SZ6' := SZ6.out; omega)
  replace LA := lt_mark LA hg
  replace BW := cb_mark BW hg (by have SZ1' := SZ1.out; have SZ2' := SZ2.out; have SZ3' := SZ3.out; have SZ4' := SZ4.out; have SZ5' := SZ5.out; have SZ6' := SZ6.out; omega)
  replace LW := lt_mark LW hg
  replace BG := cb_mark BG hg (by have SZ1' := SZ1.out; have SZ2' := SZ2.out; have SZ3' := SZ3.out; have SZ4' := SZ4.out; have SZ5' := SZ5.out; have SZ6' := SZ6.out; omega)
  replace LG := lt_mark LG hg
  replace EW := o2_mark EW hg (by have SZ1' := SZ1.out; have SZ2' := SZ2.out; have SZ3' := SZ3.out; have SZ4' := SZ4.out; have SZ5' := SZ5.out; have SZ6' := SZ6.out; omega)
  replace HB := bel_mark HB hg (by have SZ1' := SZ1.out; have SZ2' := SZ2.out; have SZ3' := SZ3.out; have SZ4' := SZ4.out; have SZ5' := SZ5.out; have SZ6' := SZ6.out; omega)
  clear hg
  have EM : Hid (Mkd w11 _ _ rs.length ru.length 1 (w4.heap.size + 1) w5.heap.size) := hM
  clear hM EG
  clear hkn
  have hkn : ¬ (((1 + rs.length + ru.length : Nat) : Int)) < 0 := by omega
  obtain ⟨kq, hkq⟩ : ∃ kq : Int, kq = (((1 + rs.length + ru.length : Nat) : Int)) := ⟨_, rfl⟩
  rw [← hkq] at hkn
  rw [← hkq]
  have HKQ : Hid _ := hkq
  clear hkq
  obtain ⟨bG0, bG1⟩ := BG.out
  go_wp2_with fail
  clear bG0 bG1
  refine (heldDisk_any _ _ rs.length ru.length 1 (w4.heap.size + 1) w5.heap.size _ hR hR' (by omega) (by omega) EM.out).mono ?_
  rintro e w12 ⟨rfl, hb⟩
  replace BA := cb_next BA hb LA
  replace BW := cb_next BW hb LW
  replace BG := cb_next BG hb LG
  replace LA := lt_next LA hb
  replace LW := lt_next LW hb
  replace LG := lt_next LG hb
  replace EW := o2_next EW hb
  replace HB := bel_next HB hb
  replace EM := mkd_next EM hb
  clear hb
  rw [← HKQ.out]
  obtain ⟨bA0, bA1⟩ := BA.out
  go_wp2_with fail
  clear bA0 bA1
  refine (toDisk_any a0 a1 ss us _ hn hn' (RA.out.next HB.out) (RU.out.next HB.out)).mono ?_
  rintro e w13 ⟨y0, y1, rfl, hb, hO⟩
  obtain ⟨yp, yc, rfl⟩ := own_slice hO.r0
  obtain ⟨yq, yd, rfl⟩ := own_slice hO.r1
  replace BA := cb_next BA hb LA
  replace BW := cb_next BW hb LW
  replace BG := cb_next BG hb LG
  replace LA := lt_next LA hb
  replace LW := lt_next LW hb
  replace LG := lt_next LG hb
  replace EW := o2_next EW hb
  replace HB := bel_next HB hb
  replace EM := mkd_next EM hb
  have EY : Hid (Own2 w13 _ _ ss us _ _) := hO
  clear hb hO
  go_wp2_with fail
  refine Calls.mono (HCI.out hn hn' ht _ _ _ (own_rowV EY.out.r0) (own_rowV EY.out.r1)) ?_
  rintro e w14 ⟨hp, hc, hq, hd, rfl, hb, hO⟩
  replace BA := cb_next BA hb LA
  replace BW := cb_next BW hb LW
  replace BG := cb_next BG hb LG
  replace LA := lt_next LA hb
  replace LW := lt_next LW hb
  replace LG := lt_next LG hb
  replace EW := o2_next EW hb
  replace HB := bel_next HB hb
  replace EM := mkd_next EM hb
  have EH : Hid (Own2 w14 _ _ rs ru _ _) := hO
  clear hb hO EY
  obtain ⟨bW0, bW1⟩ := BW.out
  have bW0' : ∀ o, (w14.alloc o).cell? ⟨w3.heap.size, 0, none⟩ = _ := fun o => box_alloc bW0 LW.out
  have bW1' : ∀ o, (w14.alloc o).cell? ⟨w3.heap.size, 1, none⟩ = _ := fun o => box_alloc bW1 LW.out
  go_wp2_with fail
  clear bW0 bW0' bW1 bW1'
  refine (eqDisk_same _ _ _ _ rs ru _ hR hR' (own_rowV (o2_next EH (bel_alloc _ _)).out.r0) (own_rowV (o2_next EH (bel_alloc _ _)).out.r1) (own_rowV (o2_next EW (bel_alloc _ _)).out.r0) (own_rowV (o2_next EW (bel_alloc _ _)).out.r1)).mono ?_
  rintro e w15 ⟨rfl, hb⟩
  replace BA := cb_next (cb_next BA (bel_alloc _ _) LA) hb (lt_next LA (bel_alloc _ _))
  replace BW := cb_next (cb_next BW (bel_alloc _ _) LW) hb (lt_next LW (bel_alloc _ _))
  replace BG := cb_next (cb_next BG (bel_alloc _ _) LG) hb (lt_next LG (bel_alloc _ _))
  replace LA := lt_next (lt_next LA (bel_alloc _ _)) hb
  replace LW := lt_next (lt_next LW (bel_alloc _ _)) hb
  replace LG := lt_next (lt_next LG (bel_alloc _ _)) hb
  replace EW := o2_next (o2_next EW (bel_alloc _ _)) hb
  replace HB := bel_next (bel_next HB (bel_alloc _ _)) hb
  replace EM := mkd_next (mkd_next EM (bel_alloc _ _)) hb
  clear hb EH
  obtain ⟨bG0, bG1⟩ := BG.out
  go_wp2_with fail
  clear bG0 bG1
  refine (heldDisk_any _ _ rs.length ru.length 1 (w4.heap.size + 1) w5.heap.size _ hR hR' (by omega) (by omega) EM.out).mono ?_
  rintro e w16 ⟨rfl, hb⟩
  replace HB := bel_next HB hb
  clear hb EM EW BA BW BG LA LW LG
  rw [← HKQ.out]
  go_wp2
  go_ret
  exact ⟨rfl, HB.out⟩
end Go.Proofs.Ytmogmamijnkpdaa
