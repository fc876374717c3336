/- The law of PartRows. -/
import Derived.Test.YtomcpdbaenohdaaRows
import Derived.WalkKit
import Derived.WalkSpells
import Derived.WalkLawsBesides
import Derived.Deep.QuietTactic
import Derived.BigQuiet
import Derived.Deep.RegionHeld3
import Derived.Test.YtomcpdbaenohdaaLq
import Derived.LoopN
namespace Go.Proofs.Ytomcpdbaenohdaa
open Go.RowKit
set_option linter.unusedSimpArgs false
set_option linter.unusedVariables false

set_option maxRecDepth 100000 in
set_option maxHeartbeats 4000000 in
theorem law_part (q : Nat) (p : Option Addr) (aa : List Rm) (pt : Int) (w : World) (hm : (aa.length : Int) ≤ 9223372036854775807) (hx : ∀ x ∈ aa, (x.r.vs.length : Int) ≤ 9223372036854775807 ∧ (x.r.key.size : Int) ≤ 9223372036854775807) (hr0 : RR 0 w p aa) :
    Calls Try.prog 4 #[.slice p aa.length q, .int .i64 pt] w fun r w' => r = .returned (.bool true) ∧ Below w.heap.size w w' := by
  have RA : Hid (RR 0 w p aa) := hr0
  clear hr0
  go_enter Try.func4, Try.ntmps4
  go_wp2_with fail
  refine (szRs_any 0 q p aa 1048576 w (by omega) (by omega) hm hx RA.out).mono ?_
  rintro e W1 ⟨rfl, hb⟩
  have HB : Hid (Below w.heap.size w W1) := hb
  clear hb
  have Z1 : Hid (¬ szRs (aa.map Rm.r) 1048576 < 0 → (((aa.length : Int) ≤ 1048576 ∧ ∀ x ∈ aa, (x.r.vs.length : Int) ≤ 1048576) ∧ ∀ x ∈ aa, x.r.key.size < 1099511627776) ∧ cR (aa.map Rm.r) ≤ 4000000) := fun h => ⟨⟨szRs_le h (by omega), szRs_key h (by omega)⟩, szRs_cnt h (by omega)⟩
  generalize szRs (aa.map Rm.r) 1048576 = m1 at *
  by_cases hz : m1 < 0
  case pos =>
    clear Z1
    go_wp2
    go_ret
    exact ⟨rfl, HB.out⟩
  obtain ⟨⟨⟨hn1, hxa0⟩, hka0⟩, hcR0⟩ := Z1.out hz
  have hxa : Hid (∀ x ∈ aa, (x.r.vs.length : Int) ≤ 1048576) := hxa0
  have hka : Hid (∀ x ∈ aa, x.r.key.size < 1099511627776) := hka0
  have hcR : Hid (cR (aa.map Rm.r) ≤ 4000000) := hcR0
  clear Z1 hx hm hxa0 hka0 hcR0
  go_wp2_with fail
  refine (toRs_any 0 q p aa W1 hn1 hxa.out (rr_be RA HB)).mono ?_
  rintro e W2 ⟨a1, ea1, rfl, hb, hA⟩
  replace HB : Hid (Below w.heap.size w W2) := bel_next HB hb
  have A1 : Hid (RW W1.heap.size W2 W1.heap.size aa.length a1 ∧ a1.map Rm.r = aa.map Rm.r) := ⟨hA, ea1⟩
  clear hb hA ea1
  go_wp2_with fail
  refine (specP_of _ _ _ _ aa a1 pt W2 rfl A1.out.2 hn1 hxa.out hka.out A1.out.1.rr).mono ?_
  rintro e W3 ⟨c0, L, po0, pc0, n0, hq0, rfl, hr0, hT0, hb⟩
  replace HB : Hid (Below w.heap.size w W3) := bel_next HB hb
  have Q0 : Hid (PartQ aa pt c0 L ∧ n0.map Rm.r = L) := ⟨hq0, hr0⟩
  have T0 : Hid (TB W2.heap.size W3.heap.size W3 po0 pc0 n0) := hT0.tb
  have LO3 : Hid (w.heap.size ≤ W3.heap.size) := HB.out.size
  clear hb hq0 hr0 hT0 A1
  go_wp2_with fail
  refine (toRs_any 0 q p aa W3 hn1 hxa.out (rr_be RA HB)).mono ?_
  rintro e W4 ⟨a2, ea2, rfl, hb, hA⟩
  replace HB : Hid (Below w.heap.size w W4) := bel_next HB hb
  replace T0 : Hid (TB W2.heap.size W3.heap.size W4 po0 pc0 n0) := T0.out.next hb
  have A2 : Hid (RW W3.heap.size W4 W3.heap.size aa.length a2 ∧ a2.map Rm.r = aa.map Rm.r ∧ W3.heap.size ≤ W4.heap.size) := ⟨hA, ea2, hb.size⟩
  have LO : Hid (w.heap.size ≤ W3.heap.size ∧ w.heap.size ≤ W4.heap.size) := ⟨LO3.out, HB.out.size⟩
  have U2 : Hid (W3.heap.size < W4.heap.size ∧ ∀ m ∈ a2, blk m.p < W4.heap.size) := ⟨hA.up, fun m hm => (hA.sub m hm).1.up⟩
  clear hb hA ea2
  go_wp2_with fail
  refine (implP_of _ _ _ _ aa a2 pt W4 rfl A2.out.2.1 hn1 hxa.out hka.out A2.out.1.rr).mono ?_
  rintro e W5 ⟨c1, L1, po1, pc1, n1, hq1, rfl, hr1, hT1, hb⟩
  obtain ⟨hc, hL⟩ := hq1.one Q0.out.1
  subst hc
  subst hL
  replace HB : Hid (Below w.heap.size w W5) := bel_next HB hb
  replace T0 : Hid (TB W2.heap.size W3.heap.size W5 po0 pc0 n0) := T0.out.next hb
  replace A2 : Hid (RW W3.heap.size W5 W3.heap.size aa.length a2 ∧ a2.map Rm.r = aa.map Rm.r ∧ W3.heap.size ≤ W4.heap.size) := ⟨A2.out.1.next hb, A2.out.2⟩
  have T1 : Hid (TB W4.heap.size W5.heap.size W5 po1 pc1 n1) := hT1.tb
  have R1 : Hid (n1.map Rm.r = n0.map Rm.r) := hr1.trans Q0.out.2.symm
  have hl1 : n1.length = n0.length := len_r R1.out
  have hs0 := hq1.sub
  have XN0 : Hid (∀ x ∈ n0, (x.r.vs.length : Int) ≤ 1048576) := in_aa hs0.2.2 Q0.out.2 hxa.out
  have hn0 : (n0.length : Int) ≤ 1048576 := by
    have h1 := hs0.2.1
    have h2 := congrArg List.length Q0.out.2
    rw [List.length_map] at h2
    omega
  have hC0 : Hid (cntL n1 = cntL n0 ∧ cntL n0 ≤ 4000000 ∧ cntL a2 ≤ 4000000) := by
    refine ⟨by rw [cntL_r, cntL_r, R1.out], ?_, ?_⟩
    · rw [cntL_r, Q0.out.2]; exact Nat.le_trans hs0.1 hcR.out
    · rw [cntL_r, A2.out.2.1]; exact hcR.out
  have RQ : Hid (∀ c' L', PartQ aa pt c' L' → c' = c1 ∧ L' = n0.map Rm.r) := fun c' L' h => by
    obtain ⟨h1, h2⟩ := h.one Q0.out.1
    exact ⟨h1, h2.trans Q0.out.2.symm⟩
  clear hb hq1 hr1 hT1 hs0 Q0 hcR
  have XN1 : Hid (∀ x ∈ n1, (x.r.vs.length : Int) ≤ 1048576) := vs_le R1.out XN0.out
  have XA2 : Hid (∀ x ∈ a2, (x.r.vs.length : Int) ≤ 1048576) := vs_le A2.out.2.1 hxa.out
  generalize n1.length = k1 at *
  subst hl1
  obtain ⟨mm, hmm⟩ : ∃ mm : Int, mm = ((1 + cntL n1 : Nat) : Int) := ⟨_, rfl⟩
  have hm0 : ¬ mm < 0 := by omega
  have HM1 : Hid (∀ W, TB W4.heap.size W5.heap.size W po1 pc1 n1 → Calls Try.prog 13 #[.slice po1 n0.length pc1, .int .i64 1] W fun e w' => e = .returned (.int .i64 mm) ∧ Kp (fun b => W4.heap.size ≤ b ∧ b < W5.heap.size) W w' ∧ MkT W4.heap.size w' po1 n1) := fun W hT => by
    have h := markT_any W4.heap.size W5.heap.size pc1 po1 n1 W (by have := len_r R1.out; omega) (fun x hx => by have := XN1.out x hx; omega) (by have := hC0.out; omega) hT.ready
    rw [len_r R1.out, ← hmm] at h
    exact h
  have HH1 : Hid (∀ W, MkT W4.heap.size W po1 n1 → Calls Try.prog 14 #[.slice po1 n0.length pc1, .int .i64 1] W fun e w' => e = .returned (.int .i64 mm) ∧ Below W.heap.size W w') := fun W hT => by
    have h := heldT_any W4.heap.size pc1 po1 n1 W (by have := len_r R1.out; omega) (fun x hx => by have := XN1.out x hx; omega) (by have := hC0.out; omega) hT
    rw [len_r R1.out, ← hmm] at h
    exact h
  clear hmm
  obtain ⟨kk, hkk⟩ : ∃ kk : Int, kk = ((1 + cntL a2 : Nat) : Int) := ⟨_, rfl⟩
  have hk0 : ¬ kk < 0 := by omega
  have HM2 : Hid (∀ W, RW W3.heap.size W W3.heap.size aa.length a2 → Calls Try.prog 13 #[.slice (some ⟨W3.heap.size, 0, none⟩) aa.length aa.length, .int .i64 1] W fun e w' => e = .returned (.int .i64 kk) ∧ Kp (fun b => W3.heap.size ≤ b ∧ b < W4.heap.size) W w' ∧ MkT W3.heap.size w' (some ⟨W3.heap.size, 0, none⟩) a2) := fun W hT => by
    have hl := len_r A2.out.2.1
    have h := markT_any W3.heap.size W4.heap.size aa.length (some ⟨W3.heap.size, 0, none⟩) a2 W (by omega) (fun x hx => by have := XA2.out x hx; omega) (by have := hC0.out; omega) (.inr ⟨_, rfl, by rw [hl]; exact hT, U2.out.1, U2.out.2⟩)
    rw [hl, ← hkk] at h
    exact h
  clear hkk hC0
  have EQ1 : Hid (∀ W, TB W4.heap.size W5.heap.size W po1 pc1 n1 → TB W2.heap.size W3.heap.size W po0 pc0 n0 → Calls Try.prog 10 #[.slice po1 n0.length pc1, .slice po0 n0.length pc0] W fun e w' => e = .returned (.bool true) ∧ Below W.heap.size W w') := fun W h1 h0 => eqRs_same _ _ _ _ n0.length _ _ n1 n0 W (len_r R1.out) R1.out.symm hn0 XN1.out h1.t.rr h0.t.rr
  go_wp2_with fail
  refine (EQ1.out W5 T1.out T0.out).mono ?_
  rintro e W6 ⟨rfl, hb⟩
  replace HB : Hid (Below w.heap.size w W6) := bel_next HB hb
  replace T0 : Hid (TB W2.heap.size W3.heap.size W6 po0 pc0 n0) := T0.out.next hb
  replace T1 : Hid (TB W4.heap.size W5.heap.size W6 po1 pc1 n1) := T1.out.next hb
  replace A2 : Hid (RW W3.heap.size W6 W3.heap.size aa.length a2 ∧ a2.map Rm.r = aa.map Rm.r ∧ W3.heap.size ≤ W4.heap.size) := ⟨A2.out.1.next hb, A2.out.2⟩
  clear hb
  go_wp2_with fail
  refine (toRs_any 0 q p aa W6 hn1 hxa.out (rr_be RA HB)).mono ?_
  rintro e W7 ⟨a3, ea3, rfl, hb, hA⟩
  replace HB : Hid (Below w.heap.size w W7) := bel_next HB hb
  replace T0 : Hid (TB W2.heap.size W3.heap.size W7 po0 pc0 n0) := T0.out.next hb
  replace T1 : Hid (TB W4.heap.size W5.heap.size W7 po1 pc1 n1) := T1.out.next hb
  replace A2 : Hid (RW W3.heap.size W7 W3.heap.size aa.length a2 ∧ a2.map Rm.r = aa.map Rm.r ∧ W3.heap.size ≤ W4.heap.size) := ⟨A2.out.1.next hb, A2.out.2⟩
  have A3 : Hid (RW W6.heap.size W7 W6.heap.size aa.length a3 ∧ a3.map Rm.r = aa.map Rm.r) := ⟨hA, ea3⟩
  clear hb hA ea3
  go_wp2_with fail
  refine (eqRs_same _ _ _ _ aa.length _ _ a2 a3 W7 (len_r A2.out.2.1) (A3.out.2.trans A2.out.2.1.symm) hn1 XA2.out A2.out.1.rr A3.out.1.rr).mono ?_
  rintro e W8 ⟨rfl, hb⟩
  replace HB : Hid (Below w.heap.size w W8) := bel_next HB hb
  replace T0 : Hid (TB W2.heap.size W3.heap.size W8 po0 pc0 n0) := T0.out.next hb
  replace T1 : Hid (TB W4.heap.size W5.heap.size W8 po1 pc1 n1) := T1.out.next hb
  replace A2 : Hid (RW W3.heap.size W8 W3.heap.size aa.length a2 ∧ a2.map Rm.r = aa.map Rm.r ∧ W3.heap.size ≤ W4.heap.size) := ⟨A2.out.1.next hb, A2.out.2⟩
  have HLO : Hid (w.heap.size ≤ W3.heap.size ∧ w.heap.size ≤ W4.heap.size) := LO.out
  clear hb A3
  go_wp2_with fail
  refine (HM2.out W8 A2.out.1).mono ?_
  rintro e W9 ⟨rfl, hK, hM⟩
  replace HB : Hid (Below w.heap.size w W9) := bel_kp HB hK HLO.out.1
  replace T0 : Hid (TB W2.heap.size W3.heap.size W9 po0 pc0 n0) := T0.out.kp hK (.inl (Nat.le_refl _))
  replace T1 : Hid (TB W4.heap.size W5.heap.size W9 po1 pc1 n1) := T1.out.kp hK (.inr (Nat.le_refl _))
  have HLW : Hid (W3.heap.size ≤ W4.heap.size) := A2.out.2.2
  clear hK hM HM2 A2 XA2 U2
  go_wp2_with fail
  refine (EQ1.out W9 T1.out T0.out).mono ?_
  rintro e W10 ⟨rfl, hb⟩
  replace HB : Hid (Below w.heap.size w W10) := bel_next HB hb
  replace T0 : Hid (TB W2.heap.size W3.heap.size W10 po0 pc0 n0) := T0.out.next hb
  replace T1 : Hid (TB W4.heap.size W5.heap.size W10 po1 pc1 n1) := T1.out.next hb
  clear hb EQ1
  go_wp2_with fail
  refine (HM1.out W10 T1.out).mono ?_
  rintro e W11 ⟨rfl, hK, hM⟩
  replace HB : Hid (Below w.heap.size w W11) := bel_kp HB hK HLO.out.2
  replace T0 : Hid (TB W2.heap.size W3.heap.size W11 po0 pc0 n0) := T0.out.kp hK (.inl HLW.out)
  have M1 : Hid (MkT W4.heap.size W11 po1 n1) := hM
  clear hK hM HM1 T1
  go_wp2_with fail
  refine (HH1.out W11 M1.out).mono ?_
  rintro e W12 ⟨rfl, hb⟩
  replace HB : Hid (Below w.heap.size w W12) := bel_next HB hb
  replace T0 : Hid (TB W2.heap.size W3.heap.size W12 po0 pc0 n0) := T0.out.next hb
  replace M1 : Hid (MkT W4.heap.size W12 po1 n1) := M1.out.next hb
  clear hb
  go_wp2_with fail
  refine (toRs_any 0 q p aa W12 hn1 hxa.out (rr_be RA HB)).mono ?_
  rintro e W13 ⟨a4, ea4, rfl, hb, hA⟩
  replace HB : Hid (Below w.heap.size w W13) := bel_next HB hb
  replace T0 : Hid (TB W2.heap.size W3.heap.size W13 po0 pc0 n0) := T0.out.next hb
  replace M1 : Hid (MkT W4.heap.size W13 po1 n1) := M1.out.next hb
  have A4 : Hid (RW W12.heap.size W13 W12.heap.size aa.length a4 ∧ a4.map Rm.r = aa.map Rm.r) := ⟨hA, ea4⟩
  clear hb hA ea4
  go_wp2_with fail
  refine (implP_of _ _ _ _ aa a4 pt W13 rfl A4.out.2 hn1 hxa.out hka.out A4.out.1.rr).mono ?_
  rintro e W14 ⟨c2, L2, po2, pc2, n2, hq2, rfl, hr2, hT2, hb⟩
  obtain ⟨hc, hL⟩ := RQ.out _ _ hq2
  subst hc
  have R2 : Hid (n2.map Rm.r = n0.map Rm.r) := hr2.trans hL
  replace HB : Hid (Below w.heap.size w W14) := bel_next HB hb
  replace T0 : Hid (TB W2.heap.size W3.heap.size W14 po0 pc0 n0) := T0.out.next hb
  replace M1 : Hid (MkT W4.heap.size W14 po1 n1) := M1.out.next hb
  have T2 : Hid (RR W13.heap.size W14 po2 n2) := hT2.rr
  have hl2 : n2.length = n0.length := len_r R2.out
  have EQ2 : Hid (Calls Try.prog 10 #[.slice po2 n0.length pc2, .slice po0 n0.length pc0] W14 fun e w' => e = .returned (.bool true) ∧ Below W14.heap.size W14 w') := eqRs_same _ _ _ _ n0.length _ _ n2 n0 W14 (len_r R2.out) R2.out.symm hn0 (vs_le R2.out XN0.out) T2.out T0.out.t.rr
  clear hb hq2 hr2 hT2 hL A4 T2 R2 T0
  generalize n2.length = k2 at *
  subst hl2
  go_wp2_with fail
  refine EQ2.out.mono ?_
  rintro e W15 ⟨rfl, hb⟩
  replace HB : Hid (Below w.heap.size w W15) := bel_next HB hb
  replace M1 : Hid (MkT W4.heap.size W15 po1 n1) := M1.out.next hb
  clear hb EQ2
  go_wp2_with fail
  refine (HH1.out W15 M1.out).mono ?_
  rintro e W16 ⟨rfl, hb⟩
  replace HB : Hid (Below w.heap.size w W16) := bel_next HB hb
  clear hb HH1 M1 RA
  go_wp2
  go_ret
  exact ⟨rfl, HB.out⟩
end Go.Proofs.Ytomcpdbaenohdaa
