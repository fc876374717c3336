/- The law of StaleOf. -/
import Derived.Test.YtjjgodnbfflepaaRows
import Derived.WalkKit
import Derived.WalkSpells
import Derived.WalkLawsBesides
import Derived.Deep.QuietTactic
import Derived.BigQuiet
import Derived.Deep.RegionHeld3
import Derived.Test.YtjjgodnbfflepaaLx
import Derived.Test.YtjjgodnbfflepaaSl
import Derived.LoopN
namespace Go.Proofs.Ytjjgodnbfflepaa
open Go.RowKit
set_option linter.unusedSimpArgs false
set_option linter.unusedVariables false

theorem smb_cp {os : List Ov} {J : List Sib} {p q r : Int} {sB : Nat → Bool} (gs : Nat → Nat) (h : SmB os J p q r sB) : SmB (cpL os gs) J p q r sB := fun i hi => by
  have hi' : i < os.length := by rw [cpL_len] at hi; exact hi
  rw [cpL_at]
  exact h i hi'
theorem srl_cp (sB : Nat → Bool) (os : List Ov) (gs : Nat → Nat) (code : Int) : SrL sB (cpL os gs) code = SrL sB os code := by unfold SrL; rw [cpL_len]

theorem implStale_x {w0 W : World} {g : Nat} {os : List Ov} {gs : Nat → Nat} {J : List Sib} {p q r code : Int} {sB : Nat → Bool} {zs : List Int} (h : XR w0 W g os gs os.length) (hm : os.length + tot os ≤ 1048576) (hJ : MR os J p q r code) (hS : SmB os J p q r sB) (hz : zs = SrL sB os code) :
    Calls Try.prog 15 #[.slice (some ⟨g, 0, none⟩) os.length os.length] W (InQ zs code W) := by
  have := implStale_any os.length (some ⟨g, 0, none⟩) (cpL os gs) J p q r code sB (mr_cp gs hJ) (smb_cp gs hS) W (by rw [cpL_len]; omega) (sml_cp gs hm) h.orow
  rw [cpL_len, srl_cp, ← hz] at this
  exact this

theorem specStale_x {w0 W : World} {g : Nat} {os : List Ov} {gs : Nat → Nat} {J : List Sib} {p q r code : Int} {sB : Nat → Bool} {zs : List Int} (h : XR w0 W g os gs os.length) (hm : os.length + tot os ≤ 1048576) (hJ : MR os J p q r code) (hS : SmB os J p q r sB) (hz : zs = SrL sB os code) :
    Calls Try.prog 14 #[.slice (some ⟨g, 0, none⟩) os.length os.length] W (InQ zs code W) := by
  have := specStale_any os.length (some ⟨g, 0, none⟩) (cpL os gs) J p q r code sB (mr_cp gs hJ) (smb_cp gs hS) W (by rw [cpL_len]; omega) (sml_cp gs hm) h.orow
  rw [cpL_len, srl_cp, ← hz] at this
  exact this

set_option maxRecDepth 100000 in
set_option maxHeartbeats 8000000 in
theorem law_stale (cap : Nat) (ao : Option Addr) (os : List Ov) (w : World) (hn : (os.length : Int) ≤ 9223372036854775807) (hL : Lens os) (hr0 : ARow w ao os) :
    Calls Try.prog 4 #[.slice ao os.length cap] w fun e w' => e = .returned (.bool true) ∧ Below w.heap.size w w' := by
  obtain ⟨J, p, q, r, code, hJ, hJ100⟩ := mr_of os
  obtain ⟨sB, hSB0⟩ := smb_is os J p q r
  have hSB : Hid (SmB os J p q r sB) := hSB0
  obtain ⟨zs, hzs0⟩ : ∃ zs, zs = SrL sB os code := ⟨_, rfl⟩
  have hzl : (zs.length : Int) ≤ 1048576 := by
    rw [hzs0]
    unfold SrL
    split
    · rename_i hc
      have h3 : os.length ≤ 3 := by
        rcases hJ.out with ⟨_, _, e⟩ | ⟨_, _, _, e⟩ | ⟨_, _, _, e⟩ | ⟨_, _, _, _, e⟩ | ⟨h3, _, _, _, _⟩
        · omega
        · omega
        · omega
        · omega
        · exact h3
      have := stl_len sB os.length
      omega
    · simp
  have hzs : Hid (zs = SrL sB os code) := hzs0
  have AR : Hid (ARow w ao os) := hr0
  clear hr0 hSB0 hzs0
  go_enter Try.func4, Try.ntmps4
  go_wp2_with fail
  refine (szObjS_any cap ao os _ hn hL AR.out).mono ?_
  rintro e w1 ⟨k, rfl, hb, hk⟩
  have HB : Hid (Below w.heap.size w w1) := hb
  clear hb hn hL
  by_cases hneg : k < 0
  · clear hk
    go_wp2
    go_ret
    exact ⟨rfl, HB.out⟩
  have hm : os.length + tot os ≤ 1048576 := hk hneg
  have HM : Hid (os.length + tot os ≤ 1048576) := hm
  have hm1 : (os.length : Int) ≤ 1048576 := by omega
  clear hk hm
  go_wp2_with fail
  refine (toObjS_any cap ao os _ HM.out (AR.out.next HB.out)).mono ?_
  rintro e w2 ⟨g1, gs1, rfl, hX⟩
  have X1 : Hid (XR w1 w2 g1 os gs1 os.length) := hX
  have HS2 : Hid (w.heap.size ≤ w2.heap.size) := (bel_next HB hX.bel).out.size
  replace HB := bel_next HB hX.bel
  clear hX
  go_wp2_with fail
  refine (specStale_x X1.out HM.out hJ.out hSB.out hzs.out).mono ?_
  rintro e w3 ⟨aw, cw, rfl, hb, OW, FW⟩
  have HS23 : Hid (w2.heap.size ≤ w3.heap.size) := hb.size
  replace HB := bel_next HB hb
  clear hb X1
  have HW : Hid (∀ k, Value.ownBlock (.slice aw zs.length cw) = some k → w.heap.size ≤ k ∧ k < w3.heap.size) := fun k hk => ⟨Nat.le_trans HS2.out (FW.out k hk).1, (FW.out k hk).2⟩
  clear FW
  go_wp2_with fail
  refine (toObjS_any cap ao os _ HM.out (AR.out.next HB.out)).mono ?_
  rintro e w4 ⟨gx, gsx, rfl, hX⟩
  have XX : Hid (XR _ w4 gx os gsx os.length) := hX
  have HLO : Hid (w3.heap.size ≤ gx ∧ gx < w4.heap.size) := ⟨hX.ge, hX.lt⟩
  have HHI : Hid (∀ i, i < os.length → gsx i < w4.heap.size) := fun i hi => (hX.row i hi hi).2.2.2
  replace OW := own_hnext OW hX.bel
  replace HB := bel_next HB hX.bel
  clear hX
  go_wp2_with fail
  refine (implStale_x XX.out HM.out hJ.out hSB.out hzs.out).mono ?_
  rintro e w5 ⟨ag, cg, rfl, hb, OG, FG⟩
  have HG : Hid (∀ k, Value.ownBlock (.slice ag zs.length cg) = some k → w4.heap.size ≤ k ∧ k < w5.heap.size) := FG
  clear FG
  replace OW := own_hnext OW hb
  replace XX : Hid _ := XX.out.next hb
  replace HB := bel_next HB hb
  clear hb
  go_wp2_with fail
  refine (eqInts_same cg cw zs.length ag aw zs _ rfl hzl (owned_ints OG.out rfl) (owned_ints OW.out rfl)).mono ?_
  rintro e w6 ⟨rfl, hb⟩
  replace OW := own_hnext OW hb
  replace OG := own_hnext OG hb
  replace XX : Hid _ := XX.out.next hb
  replace HB := bel_next HB hb
  clear hb
  go_wp2_with fail
  refine (toObjS_any cap ao os _ HM.out (AR.out.next HB.out)).mono ?_
  rintro e w7 ⟨g7, gs7, rfl, hX⟩
  have X7 : Hid (XR w6 w7 g7 os gs7 os.length) := hX
  replace OW := own_hnext OW hX.bel
  replace OG := own_hnext OG hX.bel
  replace XX : Hid _ := XX.out.next hX.bel
  replace HB := bel_next HB hX.bel
  clear hX
  go_wp2_with fail
  refine (eqObjS_same gx g7 os gsx gs7 _ _ _ HM.out XX.out X7.out).mono ?_
  rintro e w8 ⟨rfl, hb⟩
  replace OW := own_hnext OW hb
  replace OG := own_hnext OG hb
  replace XX : Hid _ := XX.out.next hb
  replace HB := bel_next HB hb
  clear hb X7
  go_wp2_with fail
  refine (markObjS_any gx w4.heap.size os gsx _ HM.out (XX.out.mx HHI.out HLO.out.2)).mono ?_
  rintro e w9 ⟨k9, rfl, hk9, hC⟩
  replace OW : Hid (w9.ownsRow 0 3 1 (.slice aw zs.length cw) zs.length (zs.map (Value.int .i64))) := hC.own OW.out (fun k hk => .inl (Nat.lt_of_lt_of_le (HW.out k hk).2 HLO.out.1))
  replace OG : Hid (w9.ownsRow 0 3 1 (.slice ag zs.length cg) zs.length (zs.map (Value.int .i64))) := hC.own OG.out (fun k hk => .inr (HG.out k hk).1)
  replace HB : Hid _ := hC.below HB.out (Nat.le_trans (Nat.le_trans HS2.out HS23.out) HLO.out.1)
  have hk9' : ¬ k9 < 0 := by omega
  clear hC XX HHI hk9
  go_wp2_with fail
  refine (eqInts_same cg cw zs.length ag aw zs _ rfl hzl (owned_ints OG.out rfl) (owned_ints OW.out rfl)).mono ?_
  rintro e w10 ⟨rfl, hb⟩
  replace OW := own_hnext OW hb
  replace OG := own_hnext OG hb
  replace HB := bel_next HB hb
  clear hb
  go_wp2_with fail
  refine (markInts_any cg zs.length ag 1 _ _ (by omega) (by omega) (by omega) OG.out).mono ?_
  rintro e w11 ⟨rfl, hg, og⟩
  replace OG : Hid (w11.ownsRow 0 3 1 (.slice ag zs.length cg) zs.length (seqI 1 zs.length)) := og
  replace OW := own_mark OW hg (fun k hk e => by have := HG.out _ e; have := HLO.out; have := HW.out _ hk; omega)
  replace HB := bel_mark HB hg (fun k hk => by have := HG.out _ hk; have := HLO.out; have := HS2.out; have := HS23.out; omega)
  clear hg og
  go_wp2_with fail
  refine (heldInts_any cg zs.length ag 1 _ (by omega) (by omega) (by omega) OG.out).mono ?_
  rintro e w12 ⟨rfl, hb⟩
  replace OW := own_hnext OW hb
  replace OG := own_hnext OG hb
  replace HB := bel_next HB hb
  clear hb
  go_wp2_with fail
  refine (toObjS_any cap ao os _ HM.out (AR.out.next HB.out)).mono ?_
  rintro e w13 ⟨g13, gs13, rfl, hX⟩
  have X13 : Hid (XR w12 w13 g13 os gs13 os.length) := hX
  replace OW := own_hnext OW hX.bel
  replace OG := own_hnext OG hX.bel
  replace HB := bel_next HB hX.bel
  clear hX
  go_wp2_with fail
  refine (implStale_x X13.out HM.out hJ.out hSB.out hzs.out).mono ?_
  rintro e w14 ⟨ah, ch, rfl, hb, OH, FH⟩
  replace OW := own_hnext OW hb
  replace OG := own_hnext OG hb
  replace HB := bel_next HB hb
  clear hb X13 FH
  go_wp2_with fail
  refine (eqInts_same ch cw zs.length ah aw zs _ rfl hzl (owned_ints OH.out rfl) (owned_ints OW.out rfl)).mono ?_
  rintro e w15 ⟨rfl, hb⟩
  replace OG := own_hnext OG hb
  replace HB := bel_next HB hb
  clear hb OH OW
  go_wp2_with fail
  refine (heldInts_any cg zs.length ag 1 _ (by omega) (by omega) (by omega) OG.out).mono ?_
  rintro e w16 ⟨rfl, hb⟩
  replace HB := bel_next HB hb
  clear hb OG
  go_wp2
  go_ret
  exact ⟨rfl, HB.out⟩
end Go.Proofs.Ytjjgodnbfflepaa
