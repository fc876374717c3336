/- The law of SameRows. -/
import Derived.Test.YtomcpdbaenohdaaRows
import Derived.WalkKit
import Derived.WalkSpells
import Derived.WalkLawsBesides
import Derived.Deep.QuietTactic
import Derived.BigQuiet
import Derived.Deep.RegionHeld3
import Derived.Test.YtomcpdbaenohdaaSs
import Derived.LoopN
import Derived.OwnWalk
import Derived.Laws.StructEq
namespace Go.Proofs.Ytomcpdbaenohdaa
open Go.RowKit
set_option linter.unusedSimpArgs false
set_option linter.unusedVariables false

theorem specS_of (lo lo2 n n2 q q2 : Nat) (p p2 : Option Addr) (aa bs ms ns : List Rm) (w : World) (hl : aa.length = n) (hl2 : bs.length = n2) (ha : ms.map Rm.r = aa.map Rm.r) (hb : ns.map Rm.r = bs.map Rm.r) (hm : (n : Int) ≤ 1048576) (hm2 : (n2 : Int) ≤ 1048576) (hx : ∀ x ∈ ms, (x.r.vs.length : Int) ≤ 1048576) (hy : ∀ x ∈ ns, (x.r.vs.length : Int) ≤ 1048576) (hr0 : RR lo w p ms) (hs0 : RR lo2 w p2 ns) :
    Calls Try.prog 15 #[.slice p n q, .slice p2 n2 q2] w (Told (n ≤ 4096 ∧ n2 ≤ 4096 ∧ aa.map Rm.r = bs.map Rm.r) w) := by
  have e1 := (len_r ha).trans hl
  have e2 := (len_r hb).trans hl2
  rw [← ha, ← hb, ← e1, ← e2]
  rw [← e1] at hm
  rw [← e2] at hm2
  exact specSame lo lo2 q q2 p p2 ms ns w hm hm2 hx hy hr0 hs0

theorem implS_of (lo lo2 n n2 q q2 : Nat) (p p2 : Option Addr) (aa bs ms ns : List Rm) (w : World) (hl : aa.length = n) (hl2 : bs.length = n2) (ha : ms.map Rm.r = aa.map Rm.r) (hb : ns.map Rm.r = bs.map Rm.r) (hm : (n : Int) ≤ 1048576) (hm2 : (n2 : Int) ≤ 1048576) (hx : ∀ x ∈ ms, (x.r.vs.length : Int) ≤ 1048576) (hy : ∀ x ∈ ns, (x.r.vs.length : Int) ≤ 1048576) (hr0 : RR lo w p ms) (hs0 : RR lo2 w p2 ns) :
    Calls Try.prog 16 #[.slice p n q, .slice p2 n2 q2] w (Told (n ≤ 4096 ∧ n2 ≤ 4096 ∧ aa.map Rm.r = bs.map Rm.r) w) := by
  have e1 := (len_r ha).trans hl
  have e2 := (len_r hb).trans hl2
  rw [← ha, ← hb, ← e1, ← e2]
  rw [← e1] at hm
  rw [← e2] at hm2
  exact implSame lo lo2 q q2 p p2 ms ns w hm hm2 hx hy hr0 hs0

theorem vs_le {aa ms : List Rm} (h : ms.map Rm.r = aa.map Rm.r) (hx : ∀ x ∈ aa, (x.r.vs.length : Int) ≤ 1048576) : ∀ x ∈ ms, (x.r.vs.length : Int) ≤ 1048576 := fun x hm => by
  have : x.r ∈ aa.map Rm.r := h ▸ List.mem_map_of_mem hm
  obtain ⟨y, hy, e⟩ := List.mem_map.1 this
  rw [← e]
  exact hx y hy
theorem szRs_le {aa : List Rm} {m : Int} (h : ¬ szRs (aa.map Rm.r) m < 0) (hm : m ≤ 1048576) : (aa.length : Int) ≤ 1048576 ∧ ∀ x ∈ aa, (x.r.vs.length : Int) ≤ 1048576 := by
  have h1 := szRs_ok h
  rw [List.length_map] at h1
  refine ⟨by omega, fun x hx => ?_⟩
  have := tot_mem (l := aa.map Rm.r) (List.mem_map_of_mem hx)
  omega
theorem szRs_range {aa : List Rm} {m : Int} (h : ¬ szRs (aa.map Rm.r) m < 0) : 0 ≤ szRs (aa.map Rm.r) m ∧ szRs (aa.map Rm.r) m ≤ m := by
  refine ⟨by omega, ?_⟩
  unfold szRs at *
  split
  · omega
  · rename_i h1
    rw [if_neg h1] at h
    have : ∀ (l : List Rw) (n : Int), ¬ szL l n < 0 → szL l n ≤ n := fun l => by
      induction l with
      | nil => intro n _; exact Int.le_refl _
      | cons r l ih =>
        intro n hn
        simp only [szL] at hn ⊢
        split at hn
        · omega
        · rename_i h2
          rw [if_neg h2]
          have := ih _ hn
          have := sz1_le h2
          omega
    have := this _ _ h
    omega
theorem rr_be {lo : Nat} {w W : World} {p : Option Addr} {ms : List Rm} (h : Hid (RR lo w p ms)) (hb : Hid (Below w.heap.size w W)) : RR lo W p ms := h.out.next hb.out
set_option maxRecDepth 20000 in
set_option maxHeartbeats 4000000 in
theorem law_same (q q2 : Nat) (p p2 : Option Addr) (aa bs : List Rm) (w : World) (hm : (aa.length : Int) ≤ 9223372036854775807) (hx : ∀ x ∈ aa, (x.r.vs.length : Int) ≤ 9223372036854775807 ∧ (x.r.key.size : Int) ≤ 9223372036854775807) (hr0 : RR 0 w p aa) (hm2 : (bs.length : Int) ≤ 9223372036854775807) (hx2 : ∀ x ∈ bs, (x.r.vs.length : Int) ≤ 9223372036854775807 ∧ (x.r.key.size : Int) ≤ 9223372036854775807) (hs0 : RR 0 w p2 bs) :
    Calls Try.prog 5 #[.slice p aa.length q, .slice p2 bs.length q2] w fun r w' => r = .returned (.bool true) ∧ Below w.heap.size w w' := by
  have RA : Hid (RR 0 w p aa) := hr0
  have RB : Hid (RR 0 w p2 bs) := hs0
  clear hr0 hs0
  go_enter Try.func5, Try.ntmps5
  go_wp2_with fail
  refine (szRs_any 0 q p aa 1048576 w (by omega) (by omega) hm hx RA.out).mono ?_
  rintro e W1 ⟨rfl, hb⟩
  have HB : Hid (Below w.heap.size w W1) := hb
  clear hb
  have Z1 : Hid (¬ szRs (aa.map Rm.r) 1048576 < 0 → (0 ≤ szRs (aa.map Rm.r) 1048576 ∧ szRs (aa.map Rm.r) 1048576 ≤ 1048576) ∧ (aa.length : Int) ≤ 1048576 ∧ ∀ x ∈ aa, (x.r.vs.length : Int) ≤ 1048576) := fun h => ⟨szRs_range h, szRs_le h (by omega)⟩
  generalize szRs (aa.map Rm.r) 1048576 = m1 at *
  by_cases hz : m1 < 0
  case pos =>
    clear Z1
    go_wp2
    go_ret
    exact ⟨rfl, HB.out⟩
  obtain ⟨hn1, hxa⟩ := (Z1.out hz).2
  obtain ⟨hm0, hm1⟩ := (Z1.out hz).1
  clear Z1
  go_wp2_with fail
  refine (szRs_any 0 q2 p2 bs m1 W1 hm0 hm1 hm2 hx2 (rr_be RB HB)).mono ?_
  rintro e W2 ⟨rfl, hb⟩
  replace HB : Hid (Below w.heap.size w W2) := bel_next HB hb
  clear hb
  have Z1 : Hid (¬ szRs (bs.map Rm.r) m1 < 0 → (bs.length : Int) ≤ 1048576 ∧ ∀ x ∈ bs, (x.r.vs.length : Int) ≤ 1048576) := fun h => szRs_le h (by omega)
  generalize szRs (bs.map Rm.r) m1 = m2 at *
  by_cases hz2 : m2 < 0
  case pos =>
    clear Z1
    go_wp2
    go_ret
    exact ⟨rfl, HB.out⟩
  obtain ⟨hn2, hxb⟩ := Z1.out hz2
  clear Z1
  go_wp2_with fail
  refine (toRs_any 0 q p aa W2 hn1 hxa (rr_be RA HB)).mono ?_
  rintro e W3 ⟨a1, ea1, rfl, hb, hA⟩
  replace HB : Hid (Below w.heap.size w W3) := bel_next HB hb
  have A1 : Hid (RW W2.heap.size W3 W2.heap.size aa.length a1 ∧ a1.map Rm.r = aa.map Rm.r) := ⟨hA, ea1⟩
  clear hb hA ea1
  go_wp2_with fail
  refine (toRs_any 0 q2 p2 bs W3 hn2 hxb (rr_be RB HB)).mono ?_
  rintro e W4 ⟨b1, eb1, rfl, hb, hA⟩
  replace HB : Hid (Below w.heap.size w W4) := bel_next HB hb
  replace A1 : Hid (RW W2.heap.size W4 W2.heap.size aa.length a1 ∧ a1.map Rm.r = aa.map Rm.r) := ⟨A1.out.1.next hb, A1.out.2⟩
  have B1 : Hid (RW W3.heap.size W4 W3.heap.size bs.length b1 ∧ b1.map Rm.r = bs.map Rm.r) := ⟨hA, eb1⟩
  clear hb hA eb1
  go_wp2_with fail
  refine (specS_of _ _ _ _ _ _ _ _ aa bs a1 b1 W4 rfl rfl A1.out.2 B1.out.2 hn1 hn2 (vs_le A1.out.2 hxa) (vs_le B1.out.2 hxb) A1.out.1.rr B1.out.1.rr).mono ?_
  rintro e W5 ⟨r1, rfl, hq, hb⟩
  replace HB : Hid (Below w.heap.size w W5) := bel_next HB hb
  have Q1 : Hid (r1 = true ↔ (aa.length ≤ 4096 ∧ bs.length ≤ 4096 ∧ aa.map Rm.r = bs.map Rm.r)) := hq
  clear hb hq A1 B1
  go_wp2_with fail
  refine (toRs_any 0 q p aa W5 hn1 hxa (rr_be RA HB)).mono ?_
  rintro e W6 ⟨a2, ea2, rfl, hb, hA⟩
  replace HB : Hid (Below w.heap.size w W6) := bel_next HB hb
  have A2 : Hid (RW W5.heap.size W6 W5.heap.size aa.length a2 ∧ a2.map Rm.r = aa.map Rm.r) := ⟨hA, ea2⟩
  clear hb hA ea2
  go_wp2_with fail
  refine (toRs_any 0 q2 p2 bs W6 hn2 hxb (rr_be RB HB)).mono ?_
  rintro e W7 ⟨b2, eb2, rfl, hb, hA⟩
  replace HB : Hid (Below w.heap.size w W7) := bel_next HB hb
  replace A2 : Hid (RW W5.heap.size W7 W5.heap.size aa.length a2 ∧ a2.map Rm.r = aa.map Rm.r) := ⟨A2.out.1.next hb, A2.out.2⟩
  have B2 : Hid (RW W6.heap.size W7 W6.heap.size bs.length b2 ∧ b2.map Rm.r = bs.map Rm.r) := ⟨hA, eb2⟩
  clear hb hA eb2
  go_wp2_with fail
  refine (implS_of _ _ _ _ _ _ _ _ aa bs a2 b2 W7 rfl rfl A2.out.2 B2.out.2 hn1 hn2 (vs_le A2.out.2 hxa) (vs_le B2.out.2 hxb) A2.out.1.rr B2.out.1.rr).mono ?_
  rintro e W8 ⟨r2, rfl, hq, hb⟩
  replace HB : Hid (Below w.heap.size w W8) := bel_next HB hb
  replace A2 : Hid (RW W5.heap.size W8 W5.heap.size aa.length a2 ∧ a2.map Rm.r = aa.map Rm.r) := ⟨A2.out.1.next hb, A2.out.2⟩
  replace B2 : Hid (RW W6.heap.size W8 W6.heap.size bs.length b2 ∧ b2.map Rm.r = bs.map Rm.r) := ⟨B2.out.1.next hb, B2.out.2⟩
  have he : r2 = r1 := Bool.eq_iff_iff.2 (hq.trans Q1.out.symm)
  clear hb hq Q1
  subst he
  go_wp2_with fail
  refine (toRs_any 0 q p aa W8 hn1 hxa (rr_be RA HB)).mono ?_
  rintro e W9 ⟨a3, ea3, rfl, hb, hA⟩
  replace HB : Hid (Below w.heap.size w W9) := bel_next HB hb
  replace A2 : Hid (RW W5.heap.size W9 W5.heap.size aa.length a2 ∧ a2.map Rm.r = aa.map Rm.r) := ⟨A2.out.1.next hb, A2.out.2⟩
  replace B2 : Hid (RW W6.heap.size W9 W6.heap.size bs.length b2 ∧ b2.map Rm.r = bs.map Rm.r) := ⟨B2.out.1.next hb, B2.out.2⟩
  have A3 : Hid (RW W8.heap.size W9 W8.heap.size aa.length a3 ∧ a3.map Rm.r = aa.map Rm.r) := ⟨hA, ea3⟩
  clear hb hA ea3
  go_wp2_with fail
  refine (eqRs_same _ _ _ _ aa.length _ _ a2 a3 W9 (len_r A2.out.2) (A3.out.2.trans A2.out.2.symm) hn1 (vs_le A2.out.2 hxa) A2.out.1.rr A3.out.1.rr).mono ?_
  rintro e W10 ⟨rfl, hb⟩
  replace HB : Hid (Below w.heap.size w W10) := bel_next HB hb
  replace B2 : Hid (RW W6.heap.size W10 W6.heap.size bs.length b2 ∧ b2.map Rm.r = bs.map Rm.r) := ⟨B2.out.1.next hb, B2.out.2⟩
  clear hb A2 A3
  go_wp2_with fail
  refine (toRs_any 0 q2 p2 bs W10 hn2 hxb (rr_be RB HB)).mono ?_
  rintro e W11 ⟨b3, eb3, rfl, hb, hA⟩
  replace HB : Hid (Below w.heap.size w W11) := bel_next HB hb
  replace B2 : Hid (RW W6.heap.size W11 W6.heap.size bs.length b2 ∧ b2.map Rm.r = bs.map Rm.r) := ⟨B2.out.1.next hb, B2.out.2⟩
  have B3 : Hid (RW W10.heap.size W11 W10.heap.size bs.length b3 ∧ b3.map Rm.r = bs.map Rm.r) := ⟨hA, eb3⟩
  clear hb hA eb3
  go_wp2_with fail
  refine (eqRs_same _ _ _ _ bs.length _ _ b2 b3 W11 (len_r B2.out.2) (B3.out.2.trans B2.out.2.symm) hn2 (vs_le B2.out.2 hxb) B2.out.1.rr B3.out.1.rr).mono ?_
  rintro e W12 ⟨rfl, hb⟩
  replace HB : Hid (Below w.heap.size w W12) := bel_next HB hb
  clear hb B2 B3 RA RB
  go_wp2
  go_ret
  exact ⟨rfl, HB.out⟩
end Go.Proofs.Ytomcpdbaenohdaa
