/- The law of MergeAll. -/
import Derived.Test.YtjjgodnbfflepaaRows
import Derived.WalkKit
import Derived.WalkSpells
import Derived.WalkLawsBesides
import Derived.Deep.QuietTactic
import Derived.BigQuiet
import Derived.Deep.RegionHeld3
import Derived.Test.YtjjgodnbfflepaaLx
import Derived.LoopN
namespace Go.Proofs.Ytjjgodnbfflepaa
open Go.RowKit
set_option linter.unusedSimpArgs false
set_option linter.unusedVariables false

set_option maxRecDepth 100000 in
set_option maxHeartbeats 8000000 in
theorem law_merge (cap : Nat) (ao : Option Addr) (os : List Ov) (w : World) (hn : (os.length : Int) ≤ 9223372036854775807) (hL : Lens os) (hr0 : ARow w ao os) :
    Calls Try.prog 3 #[.slice ao os.length cap] w fun e w' => e = .returned (.bool true) ∧ Below w.heap.size w w' := by
  obtain ⟨J, p, q, r, code, hJ, hJ100⟩ := mr_of os
  have hJm : (J.length : Int) ≤ 1048576 := by omega
  have AR : Hid (ARow w ao os) := hr0
  clear hr0
  go_enter Try.func3, Try.ntmps3
  go_wp2_with fail
  refine (szObjS_any cap ao os _ hn hL AR.out).mono ?_
  rintro e w1 ⟨k, rfl, hb, hk⟩
  have HB : Hid (Below w.heap.size w w1) := hb
  clear hb hn hL
  by_cases hneg : k < 0
  · clear hk
    go_wp2
    go_ret
    exact ⟨rfl, HB.out⟩
  have hm : os.length + tot os ≤ 1048576 := hk hneg
  have HM : Hid (os.length + tot os ≤ 1048576) := hm
  have hm1 : (os.length : Int) ≤ 1048576 := by omega
  clear hk hm
  go_wp2_with fail
  refine (toObjS_any cap ao os _ HM.out (AR.out.next HB.out)).mono ?_
  rintro e w2 ⟨g1, gs1, rfl, hX⟩
  have X1 : Hid (XR w1 w2 g1 os gs1 os.length) := hX
  have HS2 : Hid (w.heap.size ≤ w2.heap.size) := (bel_next HB hX.bel).out.size
  replace HB := bel_next HB hX.bel
  clear hX
  go_wp2_with fail
  refine (specMerge_x X1.out HM.out hJ.out).mono ?_
  rintro e w3 ⟨aw, cw, rfl, hb, OW, FW⟩
  have HS23 : Hid (w2.heap.size ≤ w3.heap.size) := hb.size
  replace HB := bel_next HB hb
  clear hb X1
  have HW : Hid (∀ k, Value.ownBlock (.slice aw J.length cw) = some k → w.heap.size ≤ k ∧ k < w3.heap.size) := fun k hk => ⟨Nat.le_trans HS2.out (FW.out k hk).1, (FW.out k hk).2⟩
  clear FW
  go_wp2_with fail
  refine (toObjS_any cap ao os _ HM.out (AR.out.next (bel_next HB (bel_alloc _ _)).out)).mono ?_
  rintro e w4 ⟨gx, gsx, rfl, hX⟩
  have XX : Hid (XR _ w4 gx os gsx os.length) := hX
  have BW := c4_next box_new hX.bel lt_new
  have LW := lt_next lt_new hX.bel
  have HLO : Hid (w3.heap.size < gx ∧ gx < w4.heap.size) := ⟨Nat.lt_of_lt_of_le (by simp) hX.ge, hX.lt⟩
  have HHI : Hid (∀ i, i < os.length → gsx i < w4.heap.size) := fun i hi => (hX.row i hi hi).2.2.2
  replace OW := own_hnext (own_hnext OW (bel_alloc _ _)) hX.bel
  replace HB := bel_next (bel_next HB (bel_alloc _ _)) hX.bel
  clear hX
  go_wp2_with fail
  refine (implMerge_x XX.out HM.out hJ.out).mono ?_
  rintro e w5 ⟨ag, cg, rfl, hb, OG, FG⟩
  have HG : Hid (∀ k, Value.ownBlock (.slice ag J.length cg) = some k → w4.heap.size ≤ k ∧ k < w5.heap.size) := FG
  clear FG
  replace BW := c4_next BW hb LW
  replace LW := lt_next LW hb
  replace OW := own_hnext OW hb
  replace XX : Hid _ := XX.out.next hb
  replace HB := bel_next HB hb
  have HS5 : Hid (w4.heap.size ≤ w5.heap.size) := hb.size
  clear hb
  obtain ⟨bW0, bW1, bW2, bW3⟩ := BW.out
  have e0 : ∀ o, (w5.alloc o).cell? ⟨w3.heap.size, 0, none⟩ = _ := fun o => box_alloc bW0 LW.out
  have e1 : ∀ o, (w5.alloc o).cell? ⟨w3.heap.size, 1, none⟩ = _ := fun o => box_alloc bW1 LW.out
  have e2 : ∀ o, (w5.alloc o).cell? ⟨w3.heap.size, 2, none⟩ = _ := fun o => box_alloc bW2 LW.out
  have e3 : ∀ o, (w5.alloc o).cell? ⟨w3.heap.size, 3, none⟩ = _ := fun o => box_alloc bW3 LW.out
  clear bW0 bW1 bW2 bW3
  go_wp2_with fail
  clear e0 e1 e2 e3
  refine (eqObj_same cg cw ag aw J p q r _ hJm (own_srow (own_hnext OG (bel_alloc _ _))) (own_srow (own_hnext OW (bel_alloc _ _)))).mono ?_
  rintro e w6 ⟨rfl, hb⟩
  have BG := c4_next box_new hb lt_new
  have LG := lt_next lt_new hb
  replace BW := c4_next (c4_next BW (bel_alloc _ _) LW) hb (lt_next LW (bel_alloc _ _))
  replace LW := lt_next (lt_next LW (bel_alloc _ _)) hb
  replace OW := own_hnext (own_hnext OW (bel_alloc _ _)) hb
  replace OG := own_hnext (own_hnext OG (bel_alloc _ _)) hb
  replace XX : Hid _ := (XX.out.next (bel_alloc _ _)).next hb
  replace HB := bel_next (bel_next HB (bel_alloc _ _)) hb
  clear hb
  go_wp2_with fail
  refine (toObjS_any cap ao os _ HM.out (AR.out.next HB.out)).mono ?_
  rintro e w7 ⟨g7, gs7, rfl, hX⟩
  have X7 : Hid (XR w6 w7 g7 os gs7 os.length) := hX
  replace BW := c4_next BW hX.bel LW
  replace LW := lt_next LW hX.bel
  replace BG := c4_next BG hX.bel LG
  replace LG := lt_next LG hX.bel
  replace OW := own_hnext OW hX.bel
  replace OG := own_hnext OG hX.bel
  replace XX : Hid _ := XX.out.next hX.bel
  replace HB := bel_next HB hX.bel
  clear hX
  go_wp2_with fail
  refine (eqObjS_same gx g7 os gsx gs7 _ _ _ HM.out XX.out X7.out).mono ?_
  rintro e w8 ⟨rfl, hb⟩
  replace BW := c4_next BW hb LW
  replace LW := lt_next LW hb
  replace BG := c4_next BG hb LG
  replace LG := lt_next LG hb
  replace OW := own_hnext OW hb
  replace OG := own_hnext OG hb
  replace XX : Hid _ := XX.out.next hb
  replace HB := bel_next HB hb
  clear hb X7
  go_wp2_with fail
  refine (markObjS_any gx w4.heap.size os gsx _ HM.out (XX.out.mx HHI.out HLO.out.2)).mono ?_
  rintro e w9 ⟨k9, rfl, hk9, hC⟩
  replace BW := c4_chg BW hC (.inl HLO.out.1)
  replace LW : Hid _ := Nat.lt_of_lt_of_le LW.out hC.size
  replace BG := c4_chg BG hC (.inr HS5.out)
  replace LG : Hid _ := Nat.lt_of_lt_of_le LG.out hC.size
  replace OW : Hid _ := hC.own OW.out (fun k hk => .inl (Nat.lt_trans (HW.out k hk).2 HLO.out.1))
  replace OG : Hid _ := hC.own OG.out (fun k hk => .inr (HG.out k hk).1)
  replace HB : Hid _ := hC.below HB.out (Nat.le_trans (Nat.le_trans HS2.out HS23.out) (Nat.le_of_lt HLO.out.1))
  have hk9' : ¬ k9 < 0 := by omega
  clear hC XX HHI hk9
  obtain ⟨bW0, bW1, bW2, bW3⟩ := BW.out
  obtain ⟨bG0, bG1, bG2, bG3⟩ := BG.out
  go_wp2_with fail
  clear bW0 bW1 bW2 bW3
  clear bG0 bG1 bG2 bG3
  refine (eqObj_same cg cw ag aw J p q r _ hJm (own_srow OG) (own_srow OW)).mono ?_
  rintro e w10 ⟨rfl, hb⟩
  replace BW := c4_next BW hb LW
  replace LW := lt_next LW hb
  replace BG := c4_next BG hb LG
  replace LG := lt_next LG hb
  replace OW := own_hnext OW hb
  replace OG := own_hnext OG hb
  replace HB := bel_next HB hb
  clear hb
  obtain ⟨bG0, bG1, bG2, bG3⟩ := BG.out
  go_wp2_with fail
  clear bG0 bG1 bG2 bG3
  refine (markO_any J.length cg ag p q r 1 _ (by omega) (by omega) (by omega) (own_mrow OG).out).mono ?_
  rintro e w11 ⟨rfl, hg, hM⟩
  have EM : Hid (MkRow w11 ag 1 J.length) := hM
  replace BW := c4_mark BW hg (fun e => by have := HG.out _ e; have := HLO.out; omega)
  replace LW := lt_mark LW hg
  replace BG := c4_mark BG hg (fun e => by have := HG.out _ e; omega)
  replace LG := lt_mark LG hg
  replace OW := own_mark OW hg (fun k hk e => by have := HG.out _ e; have := HLO.out; have := HW.out _ hk; omega)
  replace HB := bel_mark HB hg (fun k hk => by have := HG.out _ hk; have := HLO.out; have := HS2.out; have := HS23.out; omega)
  clear hg hM OG
  obtain ⟨bG0, bG1, bG2, bG3⟩ := BG.out
  go_wp2_with fail
  clear bG0 bG1 bG2 bG3
  refine (heldO_any J.length cg ag p q r 1 _ (by omega) (by omega) (by omega) EM.out).mono ?_
  rintro e w12 ⟨rfl, hb⟩
  replace BW := c4_next BW hb LW
  replace LW := lt_next LW hb
  replace BG := c4_next BG hb LG
  replace LG := lt_next LG hb
  replace OW := own_hnext OW hb
  replace EM := mkrow_next EM hb
  replace HB := bel_next HB hb
  clear hb
  go_wp2_with fail
  refine (toObjS_any cap ao os _ HM.out (AR.out.next HB.out)).mono ?_
  rintro e w13 ⟨g13, gs13, rfl, hX⟩
  have X13 : Hid (XR w12 w13 g13 os gs13 os.length) := hX
  replace BW := c4_next BW hX.bel LW
  replace LW := lt_next LW hX.bel
  replace BG := c4_next BG hX.bel LG
  replace LG := lt_next LG hX.bel
  replace OW := own_hnext OW hX.bel
  replace EM := mkrow_next EM hX.bel
  replace HB := bel_next HB hX.bel
  clear hX
  go_wp2_with fail
  refine (implMerge_x X13.out HM.out hJ.out).mono ?_
  rintro e w14 ⟨ah, ch, rfl, hb, OH, FH⟩
  replace BW := c4_next BW hb LW
  replace LW := lt_next LW hb
  replace BG := c4_next BG hb LG
  replace LG := lt_next LG hb
  replace OW := own_hnext OW hb
  replace EM := mkrow_next EM hb
  replace HB := bel_next HB hb
  clear hb X13 FH
  obtain ⟨bW0, bW1, bW2, bW3⟩ := BW.out
  have e0 : ∀ o, (w14.alloc o).cell? ⟨w3.heap.size, 0, none⟩ = _ := fun o => box_alloc bW0 LW.out
  have e1 : ∀ o, (w14.alloc o).cell? ⟨w3.heap.size, 1, none⟩ = _ := fun o => box_alloc bW1 LW.out
  have e2 : ∀ o, (w14.alloc o).cell? ⟨w3.heap.size, 2, none⟩ = _ := fun o => box_alloc bW2 LW.out
  have e3 : ∀ o, (w14.alloc o).cell? ⟨w3.heap.size, 3, none⟩ = _ := fun o => box_alloc bW3 LW.out
  clear bW0 bW1 bW2 bW3
  go_wp2_with fail
  clear e0 e1 e2 e3
  refine (eqObj_same ch cw ah aw J p q r _ hJm (own_srow (own_hnext OH (bel_alloc _ _))) (own_srow (own_hnext OW (bel_alloc _ _)))).mono ?_
  rintro e w15 ⟨rfl, hb⟩
  replace BW := c4_next (c4_next BW (bel_alloc _ _) LW) hb (lt_next LW (bel_alloc _ _))
  replace LW := lt_next (lt_next LW (bel_alloc _ _)) hb
  replace BG := c4_next (c4_next BG (bel_alloc _ _) LG) hb (lt_next LG (bel_alloc _ _))
  replace LG := lt_next (lt_next LG (bel_alloc _ _)) hb
  replace OW := own_hnext (own_hnext OW (bel_alloc _ _)) hb
  replace OH := own_hnext (own_hnext OH (bel_alloc _ _)) hb
  replace EM := mkrow_next (mkrow_next EM (bel_alloc _ _)) hb
  replace HB := bel_next (bel_next HB (bel_alloc _ _)) hb
  clear hb OH OW
  obtain ⟨bG0, bG1, bG2, bG3⟩ := BG.out
  go_wp2_with fail
  clear bG0 bG1 bG2 bG3
  refine (heldO_any J.length cg ag p q r 1 _ (by omega) (by omega) (by omega) EM.out).mono ?_
  rintro e w16 ⟨rfl, hb⟩
  replace HB := bel_next HB hb
  clear hb BW LW BG LG EM
  go_wp2
  go_ret
  exact ⟨rfl, HB.out⟩
end Go.Proofs.Ytjjgodnbfflepaa
