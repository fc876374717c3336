/- The law of ModelObj, over the program's side. -/
import Derived.Test.YthcmkakijdnleaaRows
import Derived.WalkKit
import Derived.WalkSpells
import Derived.WalkLawsBesides
import Derived.Deep.QuietTactic
import Derived.BigQuiet
import Derived.Deep.RegionHeld3
import Derived.Test.YthcmkakijdnleaaOe
import Derived.Test.YthcmkakijdnleaaMr
import Derived.Test.YthcmkakijdnleaaEb
import Derived.LoopN
import Derived.OwnWalk
import Derived.Laws.StructEq
namespace Go.Proofs.Ythcmkakijdnleaa
open Go.RowKit
set_option linter.unusedSimpArgs false
set_option linter.unusedVariables false

theorem moP_len {l : List Ev} {key : ByteArray} {ss : List Sb} {a b c d : Int} (h : moP l key ss a b c d) : ss.length ≤ 100 := by
  rcases h with ⟨_, ⟨rfl, _⟩, _⟩ | ⟨_, _, ⟨rfl, _⟩, _⟩ | ⟨_, _, _, ⟨rfl, _⟩, _⟩ | ⟨_, he, _, h, _⟩
  · simp
  · simp
  · simp
  · exact Nat.le_trans h.1.2.2 he.1
/-- The contract of the program's ModelObj. -/
def ImplMo : Prop := ∀ (lo q : Nat) (po : Option Addr) (l : List Ev) (key : ByteArray) (w : World), (∀ x ∈ l, x.key.size < 1099511627776) → key.size < 1099511627776 → GRow lo w po (flatE l) → Calls Try.prog 16 #[.slice po l.length q, .string key] w (Tmo l key w)
set_option maxRecDepth 20000 in
set_option maxHeartbeats 8000000 in
theorem law_mo (HIM : ImplMo) (q : Nat) (p : Option Addr) (l : List Ev) (key : ByteArray) (w : World) (hm : (l.length : Int) ≤ 9223372036854775807) (hx : ∀ x ∈ l, (x.key.size : Int) ≤ 9223372036854775807) (hr0 : GRow 0 w p (flatE l)) :
    Calls Try.prog 5 #[.slice p l.length q, .string key] w fun r w' => r = .returned (.bool true) ∧ Below w.heap.size w w' := by
  have RA : Hid (GRow 0 w p (flatE l)) := hr0
  have HIM2 : Hid ImplMo := HIM
  clear hr0 HIM
  go_enter Try.func5, Try.ntmps5
  by_cases hkl : 1048576 < (key.size : Int)
  case pos =>
    go_wp2
    go_ret
    exact ⟨rfl, Below.refl _ _⟩
  have HKK : Hid (key.size < 1099511627776) := by show _ < _; omega
  go_wp2_with fail
  refine (szEs_any 0 q p l 1048576 w (by omega) (by omega) hm hx RA.out).mono ?_
  rintro e W1 ⟨rfl, hb⟩
  have HB : Hid (Below w.heap.size w W1) := hb
  clear hb
  have Z1 : Hid (¬ szEs l 1048576 < 0 → ((l.length : Int) ≤ 1048576 ∧ ∀ x ∈ l, x.key.size ≤ 1048576)) := szEs_le
  generalize szEs l 1048576 = m1 at *
  by_cases hz : m1 < 0
  case pos =>
    clear Z1
    go_wp2
    go_ret
    exact ⟨rfl, HB.out⟩
  obtain ⟨hn1, hka0⟩ := Z1.out hz
  have HK : Hid (∀ x ∈ l, x.key.size < 1099511627776) := fun x hx => by have := hka0 x hx; omega
  clear Z1 hka0
  go_wp2_with fail
  refine (toEs_any 0 q p l W1 hn1 (RA.out.next HB.out)).mono ?_
  rintro e W2 ⟨rfl, hb, hA⟩
  replace HB : Hid (Below w.heap.size w W2) := bel_next HB hb
  have A1 : Hid (EW W1.heap.size W2 W1.heap.size l.length l) := hA
  clear hb hA
  go_wp2_with fail
  refine (specMo _ _ _ l key W2 hn1 HK.out HKK.out A1.out.row).mono ?_
  rintro e VA ⟨pw, qw, ss, a, b, c, cw, rfl, hq, hT, hb⟩
  replace HB : Hid (Below w.heap.size w VA) := bel_next HB hb
  have Q1 : Hid (moP l key ss a b c cw) := hq
  have T1 : Hid (SR 0 VA pw ss) := hT.weak (Nat.zero_le _)
  clear hb hq hT A1
  have hb := bel_alloc VA (.cells #[.slice pw ss.length qw, .int .i64 a, .int .i64 b, .int .i64 c] 40)
  have BW0 : Hid (Box (VA.alloc (.cells #[.slice pw ss.length qw, .int .i64 a, .int .i64 b, .int .i64 c] 40)) VA.heap.size [.slice pw ss.length qw, .int .i64 a, .int .i64 b, .int .i64 c]) := box_mk
  replace HB : Hid (Below w.heap.size w (VA.alloc (.cells #[.slice pw ss.length qw, .int .i64 a, .int .i64 b, .int .i64 c] 40))) := bel_next HB hb
  replace T1 : Hid (SR 0 (VA.alloc (.cells #[.slice pw ss.length qw, .int .i64 a, .int .i64 b, .int .i64 c] 40)) pw ss) := T1.out.next hb
  clear hb
  go_wp2_with fail
  generalize VA.alloc (.cells #[.slice pw ss.length qw, .int .i64 a, .int .i64 b, .int .i64 c] 40) = VB at *
  have HGW : Hid (VA.heap.size < VB.heap.size) := BW0.out.lt
  generalize VA.heap.size = gw at *
  refine (toEs_any 0 q p l VB hn1 (RA.out.next HB.out)).mono ?_
  rintro e W4 ⟨rfl, hb, hA⟩
  have YB : Hid (Below VB.heap.size VB W4) := hb
  have BW : Hid (Box W4 gw [.slice pw ss.length qw, .int .i64 a, .int .i64 b, .int .i64 c]) := BW0.out.next hb
  have A2 : Hid (EW VB.heap.size W4 VB.heap.size l.length l) := hA
  clear hb hA BW0
  have HG0 : Hid (VB.heap.size < W4.heap.size ∧ VB.heap.size ≤ W4.heap.size) := ⟨A2.out.up, Nat.le_of_lt A2.out.up⟩
  go_wp2_with fail
  refine (HIM2.out _ _ _ l key W4 HK.out HKK.out A2.out.row).mono ?_
  rintro e W5 ⟨pg, qg, ss', a', b', c', cg, rfl, hq, hT, hb⟩
  obtain ⟨⟨e1, e2, e3, e4⟩, e5⟩ := moP_one Q1.out hq
  subst e1 e2 e3 e4 e5
  have HL : Hid (ss.length ≤ 100) := moP_len hq
  have SZ5 : Hid (W4.heap.size ≤ W5.heap.size) := hb.size
  replace YB : Hid (Below VB.heap.size VB W5) := bel_next YB hb
  replace BW : Hid (Box W5 gw [.slice pw ss.length qw, .int .i64 a, .int .i64 b, .int .i64 c]) := BW.out.next hb
  replace A2 : Hid (EW VB.heap.size W5 VB.heap.size l.length l) := A2.out.next hb
  have TG : Hid (SR W4.heap.size W5 pg ss) := hT
  clear hb hq hT
  have hb := bel_alloc W5 (.cells #[.slice pg ss.length qg, .int .i64 a, .int .i64 b, .int .i64 c] 40)
  have BG0 : Hid (Box (W5.alloc (.cells #[.slice pg ss.length qg, .int .i64 a, .int .i64 b, .int .i64 c] 40)) W5.heap.size [.slice pg ss.length qg, .int .i64 a, .int .i64 b, .int .i64 c]) := box_mk
  have HMB : Hid (∀ b, MB pg ss.length b → W4.heap.size ≤ b ∧ b < W5.heap.size) := fun b h => TG.out.mb h
  replace YB : Hid (Below VB.heap.size VB (W5.alloc (.cells #[.slice pg ss.length qg, .int .i64 a, .int .i64 b, .int .i64 c] 40))) := bel_next YB hb
  replace BW : Hid (Box (W5.alloc (.cells #[.slice pg ss.length qg, .int .i64 a, .int .i64 b, .int .i64 c] 40)) gw [.slice pw ss.length qw, .int .i64 a, .int .i64 b, .int .i64 c]) := BW.out.next hb
  replace A2 : Hid (EW VB.heap.size (W5.alloc (.cells #[.slice pg ss.length qg, .int .i64 a, .int .i64 b, .int .i64 c] 40)) VB.heap.size l.length l) := A2.out.next hb
  replace TG : Hid (SR W4.heap.size (W5.alloc (.cells #[.slice pg ss.length qg, .int .i64 a, .int .i64 b, .int .i64 c] 40)) pg ss) := TG.out.next hb
  clear hb
  obtain ⟨u0, u1, u2, u3⟩ := BW.out.c4
  obtain ⟨v0, v1, v2, v3⟩ := BG0.out.c4
  go_wp2_with fail
  clear u0 u1 u2 u3 v0 v1 v2 v3
  generalize W5.alloc (.cells #[.slice pg ss.length qg, .int .i64 a, .int .i64 b, .int .i64 c] 40) = V5 at *
  have HNE : Hid (gw ≠ VB.heap.size ∧ W5.heap.size ≠ VB.heap.size) := ⟨by have := HGW.out; show _ ≠ _; omega, by have h1 := HG0.out.1; have h2 := SZ5.out; show _ ≠ _; omega⟩
  generalize W5.heap.size = gg at *
  have BG : Hid (Box V5 gg [.slice pg ss.length qg, .int .i64 a, .int .i64 b, .int .i64 c]) := BG0.out
  clear BG0
  refine (eqObj_same _ _ _ _ ss.length _ _ ss a b c V5 rfl (by have := HL.out; omega) TG.out.row (T1.out.next YB.out).row).mono ?_
  rintro e W6 ⟨rfl, hb⟩
  replace YB : Hid (Below VB.heap.size VB W6) := bel_next YB hb
  replace BW : Hid (Box W6 gw [.slice pw ss.length qw, .int .i64 a, .int .i64 b, .int .i64 c]) := BW.out.next hb
  replace A2 : Hid (EW VB.heap.size W6 VB.heap.size l.length l) := A2.out.next hb
  replace TG : Hid (SR W4.heap.size W6 pg ss) := TG.out.next hb
  replace BG : Hid (Box W6 gg [.slice pg ss.length qg, .int .i64 a, .int .i64 b, .int .i64 c]) := BG.out.next hb
  clear hb
  go_wp2_with fail
  refine (toEs_any 0 q p l W6 hn1 (RA.out.next (HB.out.trans (YB.out.mono HB.out.size)))).mono ?_
  rintro e W7 ⟨rfl, hb, hA⟩
  replace YB : Hid (Below VB.heap.size VB W7) := bel_next YB hb
  replace BW : Hid (Box W7 gw [.slice pw ss.length qw, .int .i64 a, .int .i64 b, .int .i64 c]) := BW.out.next hb
  replace A2 : Hid (EW VB.heap.size W7 VB.heap.size l.length l) := A2.out.next hb
  replace TG : Hid (SR W4.heap.size W7 pg ss) := TG.out.next hb
  replace BG : Hid (Box W7 gg [.slice pg ss.length qg, .int .i64 a, .int .i64 b, .int .i64 c]) := BG.out.next hb
  have A3 : Hid (EW W6.heap.size W7 W6.heap.size l.length l) := hA
  clear hb hA
  go_wp2_with fail
  refine (eqEs_same _ _ _ _ l.length _ _ l W7 rfl hn1 A2.out.row A3.out.row).mono ?_
  rintro e W8 ⟨rfl, hb⟩
  clear A3
  replace YB : Hid (Below VB.heap.size VB W8) := bel_next YB hb
  replace BW : Hid (Box W8 gw [.slice pw ss.length qw, .int .i64 a, .int .i64 b, .int .i64 c]) := BW.out.next hb
  replace A2 : Hid (EW VB.heap.size W8 VB.heap.size l.length l) := A2.out.next hb
  replace TG : Hid (SR W4.heap.size W8 pg ss) := TG.out.next hb
  replace BG : Hid (Box W8 gg [.slice pg ss.length qg, .int .i64 a, .int .i64 b, .int .i64 c]) := BG.out.next hb
  clear hb
  go_wp2_with fail
  refine (markEs_any VB.heap.size l.length l.length 1 W8 (by omega) (by omega) (by omega) A2.out.wr A2.out.up).mono ?_
  rintro e W9 ⟨cc, rfl, hc0, hg⟩
  have hcn : ¬ cc < 0 := by omega
  have NE : Hid (gw ≠ VB.heap.size ∧ gg ≠ VB.heap.size) := HNE.out
  replace YB : Hid (Below VB.heap.size VB W9) := YB.out.trans ((Kp.of_grown hg).below YB.out.size (fun b hb he => by omega))
  replace TG : Hid (SR W4.heap.size W9 pg ss) := TG.out.kp (Kp.of_grown hg) (fun b hb he => by have := HG0.out.1; omega)
  replace BW : Hid (Box W9 gw [.slice pw ss.length qw, .int .i64 a, .int .i64 b, .int .i64 c]) := BW.out.kp (Kp.of_grown hg) (fun e => NE.out.1 e)
  replace BG : Hid (Box W9 gg [.slice pg ss.length qg, .int .i64 a, .int .i64 b, .int .i64 c]) := BG.out.kp (Kp.of_grown hg) (fun e => NE.out.2 e)
  clear A2
  clear hg hc0 NE
  obtain ⟨u0, u1, u2, u3⟩ := BW.out.c4
  obtain ⟨v0, v1, v2, v3⟩ := BG.out.c4
  go_wp2_with fail
  clear u0 u1 u2 u3 v0 v1 v2 v3
  refine (eqObj_same _ _ _ _ ss.length _ _ ss a b c W9 rfl (by have := HL.out; omega) TG.out.row (T1.out.next YB.out).row).mono ?_
  rintro e W10 ⟨rfl, hb⟩
  replace YB : Hid (Below VB.heap.size VB W10) := bel_next YB hb
  replace BW : Hid (Box W10 gw [.slice pw ss.length qw, .int .i64 a, .int .i64 b, .int .i64 c]) := BW.out.next hb
  replace TG : Hid (SR W4.heap.size W10 pg ss) := TG.out.next hb
  replace BG : Hid (Box W10 gg [.slice pg ss.length qg, .int .i64 a, .int .i64 b, .int .i64 c]) := BG.out.next hb
  clear hb
  obtain ⟨u0, u1, u2, u3⟩ := BG.out.c4
  go_wp2_with fail
  clear u0 u1 u2 u3
  refine (markO_any W4.heap.size _ ss.length pg ss a b c W10 rfl (by have := HL.out; omega) TG.out).mono ?_
  rintro e W11 ⟨rfl, hk, hM⟩
  clear TG
  have MG : Hid (MS W4.heap.size W11 pg ss.length) := hM
  replace YB : Hid (Below VB.heap.size VB W11) := YB.out.trans (hk.below YB.out.size (fun b hb he => by have h1 := HG0.out.2; have h2 := (HMB.out b he).1; omega))
  replace BW : Hid (Box W11 gw [.slice pw ss.length qw, .int .i64 a, .int .i64 b, .int .i64 c]) := BW.out.kp hk (fun he => by have h1 := HG0.out.2; have h2 := (HMB.out _ he).1; have h3 := HNE.out.1; have h4 := HGW.out; omega)
  replace BG : Hid (Box W11 gg [.slice pg ss.length qg, .int .i64 a, .int .i64 b, .int .i64 c]) := BG.out.kp hk (fun he => by have h2 := (HMB.out _ he).2; omega)
  clear hk hM
  obtain ⟨M, hM⟩ : ∃ M : Int, M = 1 + 4 * (ss.length : Int) := ⟨_, rfl⟩
  have HM : Hid (1 + 4 * (ss.length : Int) = M) := hM.symm
  have hMn : ¬ M < 0 := by omega
  rw [← hM]
  clear hM
  obtain ⟨u0, u1, u2, u3⟩ := BG.out.c4
  go_wp2_with fail
  clear u0 u1 u2 u3
  refine (heldO_any W4.heap.size _ ss.length pg a b c W11 (by have := HL.out; omega) MG.out).mono ?_
  rw [HM.out]
  rintro e W12 ⟨rfl, hb⟩
  replace YB : Hid (Below VB.heap.size VB W12) := bel_next YB hb
  replace BW : Hid (Box W12 gw [.slice pw ss.length qw, .int .i64 a, .int .i64 b, .int .i64 c]) := BW.out.next hb
  replace BG : Hid (Box W12 gg [.slice pg ss.length qg, .int .i64 a, .int .i64 b, .int .i64 c]) := BG.out.next hb
  replace MG : Hid (MS W4.heap.size W12 pg ss.length) := MG.out.next hb
  clear hb
  go_wp2_with fail
  refine (toEs_any 0 q p l W12 hn1 (RA.out.next (HB.out.trans (YB.out.mono HB.out.size)))).mono ?_
  rintro e W13 ⟨rfl, hb, hA⟩
  replace YB : Hid (Below VB.heap.size VB W13) := bel_next YB hb
  replace BW : Hid (Box W13 gw [.slice pw ss.length qw, .int .i64 a, .int .i64 b, .int .i64 c]) := BW.out.next hb
  replace BG : Hid (Box W13 gg [.slice pg ss.length qg, .int .i64 a, .int .i64 b, .int .i64 c]) := BG.out.next hb
  replace MG : Hid (MS W4.heap.size W13 pg ss.length) := MG.out.next hb
  have A3 : Hid (EW W12.heap.size W13 W12.heap.size l.length l) := hA
  clear hb hA
  go_wp2_with fail
  refine (HIM2.out _ _ _ l key W13 HK.out HKK.out A3.out.row).mono ?_
  rintro e W14 ⟨ph, qh, s2, a2, b2, c2, ch, rfl, hq, hT, hb⟩
  obtain ⟨⟨e1, e2, e3, e4⟩, e5⟩ := moP_one Q1.out hq
  subst e1 e2 e3 e4 e5
  clear A3
  replace YB : Hid (Below VB.heap.size VB W14) := bel_next YB hb
  replace BW : Hid (Box W14 gw [.slice pw ss.length qw, .int .i64 a, .int .i64 b, .int .i64 c]) := BW.out.next hb
  replace BG : Hid (Box W14 gg [.slice pg ss.length qg, .int .i64 a, .int .i64 b, .int .i64 c]) := BG.out.next hb
  replace MG : Hid (MS W4.heap.size W14 pg ss.length) := MG.out.next hb
  have TH : Hid (SR W13.heap.size W14 ph ss) := hT
  clear hb hq hT Q1
  have hb := bel_alloc W14 (.cells #[.slice ph ss.length qh, .int .i64 a, .int .i64 b, .int .i64 c] 40)
  have BH0 : Hid (Box (W14.alloc (.cells #[.slice ph ss.length qh, .int .i64 a, .int .i64 b, .int .i64 c] 40)) W14.heap.size [.slice ph ss.length qh, .int .i64 a, .int .i64 b, .int .i64 c]) := box_mk
  replace YB : Hid (Below VB.heap.size VB (W14.alloc (.cells #[.slice ph ss.length qh, .int .i64 a, .int .i64 b, .int .i64 c] 40))) := bel_next YB hb
  replace BW : Hid (Box (W14.alloc (.cells #[.slice ph ss.length qh, .int .i64 a, .int .i64 b, .int .i64 c] 40)) gw [.slice pw ss.length qw, .int .i64 a, .int .i64 b, .int .i64 c]) := BW.out.next hb
  replace BG : Hid (Box (W14.alloc (.cells #[.slice ph ss.length qh, .int .i64 a, .int .i64 b, .int .i64 c] 40)) gg [.slice pg ss.length qg, .int .i64 a, .int .i64 b, .int .i64 c]) := BG.out.next hb
  replace MG : Hid (MS W4.heap.size (W14.alloc (.cells #[.slice ph ss.length qh, .int .i64 a, .int .i64 b, .int .i64 c] 40)) pg ss.length) := MG.out.next hb
  replace TH : Hid (SR W13.heap.size (W14.alloc (.cells #[.slice ph ss.length qh, .int .i64 a, .int .i64 b, .int .i64 c] 40)) ph ss) := TH.out.next hb
  clear hb
  obtain ⟨u0, u1, u2, u3⟩ := BW.out.c4
  obtain ⟨v0, v1, v2, v3⟩ := BH0.out.c4
  go_wp2_with fail
  clear u0 u1 u2 u3 v0 v1 v2 v3
  generalize W14.alloc (.cells #[.slice ph ss.length qh, .int .i64 a, .int .i64 b, .int .i64 c] 40) = V14 at *
  generalize W14.heap.size = gh at *
  clear BH0
  refine (eqObj_same _ _ _ _ ss.length _ _ ss a b c V14 rfl (by have := HL.out; omega) TH.out.row (T1.out.next YB.out).row).mono ?_
  rintro e W15 ⟨rfl, hb⟩
  replace YB : Hid (Below VB.heap.size VB W15) := bel_next YB hb
  replace BW : Hid (Box W15 gw [.slice pw ss.length qw, .int .i64 a, .int .i64 b, .int .i64 c]) := BW.out.next hb
  replace BG : Hid (Box W15 gg [.slice pg ss.length qg, .int .i64 a, .int .i64 b, .int .i64 c]) := BG.out.next hb
  replace MG : Hid (MS W4.heap.size W15 pg ss.length) := MG.out.next hb
  replace TH : Hid (SR W13.heap.size W15 ph ss) := TH.out.next hb
  clear hb
  clear TH
  clear T1
  obtain ⟨u0, u1, u2, u3⟩ := BG.out.c4
  go_wp2_with fail
  clear u0 u1 u2 u3
  refine (heldO_any W4.heap.size _ ss.length pg a b c W15 (by have := HL.out; omega) MG.out).mono ?_
  rw [HM.out]
  rintro e W16 ⟨rfl, hb⟩
  have HF : Hid (Below w.heap.size w W16) := HB.out.trans ((bel_next YB hb).out.mono HB.out.size)
  clear hb YB HB MG RA HK HIM2 BW BG
  go_wp2
  go_ret
  exact ⟨rfl, HF.out⟩
end Go.Proofs.Ythcmkakijdnleaa
