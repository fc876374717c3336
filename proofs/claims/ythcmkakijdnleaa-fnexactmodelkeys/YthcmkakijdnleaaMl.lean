/- The law of ModelKeys. -/
import Derived.Test.YthcmkakijdnleaaRows
import Derived.WalkKit
import Derived.WalkSpells
import Derived.WalkLawsBesides
import Derived.Deep.QuietTactic
import Derived.BigQuiet
import Derived.Deep.RegionHeld3
import Derived.Test.YthcmkakijdnleaaMj
import Derived.Test.YthcmkakijdnleaaMr
import Derived.Test.YthcmkakijdnleaaEb
import Derived.LoopN
import Derived.OwnWalk
import Derived.Laws.StructEq
namespace Go.Proofs.Ythcmkakijdnleaa
open Go.RowKit
set_option linter.unusedSimpArgs false
set_option linter.unusedVariables false

theorem key_lt3 {l : List Ev} (h : ∀ x ∈ l, x.key.size ≤ 1048576) : ∀ x ∈ l, x.key.size < 1099511627776 := fun x hx => by have := h x hx; omega
theorem mkP_len {l : List Ev} {rs : List (List UInt8)} {c : Int} (h : mkP l rs c) : rs.length ≤ 4096 := by
  rcases h with ⟨_, rfl, _⟩ | ⟨_, _, rfl, _⟩ | ⟨h, _, rfl, _⟩
  · simp
  · simp
  · exact Nat.le_trans (risen_len _) (by rw [keysE_len]; exact h)
theorem markStrs_one (lo q n : Nat) (p : Option Addr) (w : World) (hn : n ≤ 1048576) (hT0 : MI lo w p n 1 0) :
    Calls Try.prog 24 #[.slice p n q, .int .i64 1] w fun e w' => e = .returned (.int .i64 (1 + (n : Int))) ∧ Kp (fun b => lo ≤ b) w w' ∧ MI lo w' p n 1 n := markStrs_any lo q n 1 p w hn (by omega) (by omega) hT0
theorem heldStrs_one (lo q n : Nat) (p : Option Addr) (w : World) (hn : n ≤ 1048576) (hT0 : MI lo w p n 1 n) :
    Calls Try.prog 25 #[.slice p n q, .int .i64 1] w fun e w' => e = .returned (.int .i64 (1 + (n : Int))) ∧ Below w.heap.size w w' := heldStrs_any lo q n 1 p w hn (by omega) (by omega) hT0
set_option maxRecDepth 20000 in
set_option maxHeartbeats 8000000 in
theorem law_mk (q : Nat) (p : Option Addr) (l : List Ev) (w : World) (hm : (l.length : Int) ≤ 9223372036854775807) (hx : ∀ x ∈ l, (x.key.size : Int) ≤ 9223372036854775807) (hr0 : GRow 0 w p (flatE l)) :
    Calls Try.prog 6 #[.slice p l.length q] w fun r w' => r = .returned (.bool true) ∧ Below w.heap.size w w' := by
  have RA : Hid (GRow 0 w p (flatE l)) := hr0
  clear hr0
  go_enter Try.func6, Try.ntmps6
  go_wp2_with fail
  refine (szEs_any 0 q p l 1048576 w (by omega) (by omega) hm hx RA.out).mono ?_
  rintro e W1 ⟨rfl, hb⟩
  have HB : Hid (Below w.heap.size w W1) := hb
  clear hb
  have Z1 : Hid (¬ szEs l 1048576 < 0 → ((l.length : Int) ≤ 1048576 ∧ ∀ x ∈ l, x.key.size ≤ 1048576)) := szEs_le
  generalize szEs l 1048576 = m1 at *
  by_cases hz : m1 < 0
  case pos =>
    clear Z1
    go_wp2
    go_ret
    exact ⟨rfl, HB.out⟩
  obtain ⟨hn1, hka0⟩ := Z1.out hz
  have HK : Hid (∀ x ∈ l, x.key.size < 1099511627776) := key_lt3 hka0
  clear Z1 hka0
  go_wp2_with fail
  refine (toEs_any 0 q p l W1 hn1 (RA.out.next HB.out)).mono ?_
  rintro e W2 ⟨rfl, hb, hA⟩
  replace HB : Hid (Below w.heap.size w W2) := bel_next HB hb
  have A1 : Hid (EW W1.heap.size W2 W1.heap.size l.length l) := hA
  clear hb hA
  go_wp2_with fail
  refine (specMk _ _ _ l W2 hn1 HK.out A1.out.row).mono ?_
  rintro e VB ⟨pw, qw, rs, cw, rfl, hq, hT, hb⟩
  replace HB : Hid (Below w.heap.size w VB) := bel_next HB hb
  have Q1 : Hid (mkP l rs cw) := hq
  have T1 : Hid (TR 0 VB pw rs) := hT.weak (Nat.zero_le _)
  clear hb hq hT A1
  go_wp2_with fail
  refine (toEs_any 0 q p l VB hn1 (RA.out.next HB.out)).mono ?_
  rintro e W4 ⟨rfl, hb, hA⟩
  have YB : Hid (Below VB.heap.size VB W4) := hb
  have A2 : Hid (EW VB.heap.size W4 VB.heap.size l.length l) := hA
  have HG0 : Hid (VB.heap.size < W4.heap.size ∧ VB.heap.size ≤ W4.heap.size) := ⟨A2.out.up, Nat.le_of_lt A2.out.up⟩
  clear hb hA
  go_wp2_with fail
  refine (implKeys _ _ _ l W4 HK.out A2.out.row).mono ?_
  rintro e W5 ⟨pg, qg, rs', cg, rfl, hq, hT, hb⟩
  obtain ⟨rfl, rfl⟩ := mkP_one hq Q1.out
  have HL : Hid (rs'.length ≤ 4096) := mkP_len hq
  replace YB : Hid (Below VB.heap.size VB W5) := bel_next YB hb
  replace A2 : Hid (EW VB.heap.size W5 VB.heap.size l.length l) := A2.out.next hb
  have TG : Hid (TR W4.heap.size W5 pg rs') := hT
  clear hb hq hT
  go_wp2_with fail
  refine (eqStrs_same _ _ _ _ rs'.length _ _ rs' W5 rfl (by have := HL.out; omega) TG.out.row (T1.out.next YB.out).row).mono ?_
  rintro e W6 ⟨rfl, hb⟩
  replace YB : Hid (Below VB.heap.size VB W6) := bel_next YB hb
  replace A2 : Hid (EW VB.heap.size W6 VB.heap.size l.length l) := A2.out.next hb
  replace TG : Hid (TR W4.heap.size W6 pg rs') := TG.out.next hb
  clear hb
  go_wp2_with fail
  refine (toEs_any 0 q p l W6 hn1 (RA.out.next (HB.out.trans (YB.out.mono HB.out.size)))).mono ?_
  rintro e W7 ⟨rfl, hb, hA⟩
  replace YB : Hid (Below VB.heap.size VB W7) := bel_next YB hb
  replace A2 : Hid (EW VB.heap.size W7 VB.heap.size l.length l) := A2.out.next hb
  replace TG : Hid (TR W4.heap.size W7 pg rs') := TG.out.next hb
  have A3 : Hid (EW W6.heap.size W7 W6.heap.size l.length l) := hA
  clear hb hA
  go_wp2_with fail
  refine (eqEs_same _ _ _ _ l.length _ _ l W7 rfl hn1 A2.out.row A3.out.row).mono ?_
  rintro e W8 ⟨rfl, hb⟩
  replace YB : Hid (Below VB.heap.size VB W8) := bel_next YB hb
  replace A2 : Hid (EW VB.heap.size W8 VB.heap.size l.length l) := A2.out.next hb
  replace TG : Hid (TR W4.heap.size W8 pg rs') := TG.out.next hb
  clear hb A3
  go_wp2_with fail
  refine (markEs_any VB.heap.size l.length l.length 1 W8 (by omega) (by omega) (by omega) A2.out.wr A2.out.up).mono ?_
  rintro e W9 ⟨c, rfl, hc0, hg⟩
  have hcn : ¬ c < 0 := by omega
  replace YB : Hid (Below VB.heap.size VB W9) := YB.out.trans ((Kp.of_grown hg).below YB.out.size (fun b hb he => by omega))
  replace TG : Hid (TR W4.heap.size W9 pg rs') := TG.out.kp (Kp.of_grown hg) (fun b hb he => by have := HG0.out.1; omega)
  clear hg hc0 A2
  go_wp2_with fail
  refine (eqStrs_same _ _ _ _ rs'.length _ _ rs' W9 rfl (by have := HL.out; omega) TG.out.row (T1.out.next YB.out).row).mono ?_
  rintro e W10 ⟨rfl, hb⟩
  replace YB : Hid (Below VB.heap.size VB W10) := bel_next YB hb
  replace TG : Hid (TR W4.heap.size W10 pg rs') := TG.out.next hb
  clear hb
  go_wp2_with fail
  refine (markStrs_one W4.heap.size _ rs'.length pg W10 (by have := HL.out; omega) (TG.out.mi 1)).mono ?_
  rintro e W11 ⟨rfl, hk, hM⟩
  have MG : Hid (MI W4.heap.size W11 pg rs'.length 1 rs'.length) := hM
  replace YB : Hid (Below VB.heap.size VB W11) := YB.out.trans (hk.below YB.out.size (fun b hb he => by have := HG0.out.2; omega))
  clear hk hM TG
  obtain ⟨M, hM⟩ : ∃ M : Int, M = 1 + (rs'.length : Int) := ⟨_, rfl⟩
  have HM : Hid (1 + (rs'.length : Int) = M) := hM.symm
  have hMn : ¬ M < 0 := by omega
  rw [← hM]
  clear hM
  go_wp2_with fail
  refine (heldStrs_one W4.heap.size _ rs'.length pg W11 (by have := HL.out; omega) MG.out).mono ?_
  rw [HM.out]
  rintro e W12 ⟨rfl, hb⟩
  replace YB : Hid (Below VB.heap.size VB W12) := bel_next YB hb
  replace MG : Hid (MI W4.heap.size W12 pg rs'.length 1 rs'.length) := MG.out.next hb
  clear hb
  go_wp2_with fail
  refine (toEs_any 0 q p l W12 hn1 (RA.out.next (HB.out.trans (YB.out.mono HB.out.size)))).mono ?_
  rintro e W13 ⟨rfl, hb, hA⟩
  replace YB : Hid (Below VB.heap.size VB W13) := bel_next YB hb
  replace MG : Hid (MI W4.heap.size W13 pg rs'.length 1 rs'.length) := MG.out.next hb
  have A3 : Hid (EW W12.heap.size W13 W12.heap.size l.length l) := hA
  clear hb hA
  go_wp2_with fail
  refine (implKeys _ _ _ l W13 HK.out A3.out.row).mono ?_
  rintro e W14 ⟨ph, qh, rs2, ch, rfl, hq, hT, hb⟩
  obtain ⟨rfl, rfl⟩ := mkP_one hq Q1.out
  replace YB : Hid (Below VB.heap.size VB W14) := bel_next YB hb
  replace MG : Hid (MI W4.heap.size W14 pg rs2.length 1 rs2.length) := MG.out.next hb
  have TH : Hid (TR W13.heap.size W14 ph rs2) := hT
  clear hb hq hT A3 Q1
  go_wp2_with fail
  refine (eqStrs_same _ _ _ _ rs2.length _ _ rs2 W14 rfl (by have := HL.out; omega) TH.out.row (T1.out.next YB.out).row).mono ?_
  rintro e W15 ⟨rfl, hb⟩
  replace YB : Hid (Below VB.heap.size VB W15) := bel_next YB hb
  replace MG : Hid (MI W4.heap.size W15 pg rs2.length 1 rs2.length) := MG.out.next hb
  clear hb TH T1
  go_wp2_with fail
  refine (heldStrs_one W4.heap.size _ rs2.length pg W15 (by have := HL.out; omega) MG.out).mono ?_
  rw [HM.out]
  rintro e W16 ⟨rfl, hb⟩
  have HF : Hid (Below w.heap.size w W16) := HB.out.trans ((bel_next YB hb).out.mono HB.out.size)
  clear hb YB HB MG RA HK
  go_wp2
  go_ret
  exact ⟨rfl, HF.out⟩
end Go.Proofs.Ythcmkakijdnleaa
