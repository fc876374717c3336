/- The law of RowsOK. -/
import Derived.Test.YtomcpdbaenohdaaRows
import Derived.WalkKit
import Derived.WalkSpells
import Derived.WalkLawsBesides
import Derived.Deep.QuietTactic
import Derived.BigQuiet
import Derived.Deep.RegionHeld3
import Derived.Test.YtomcpdbaenohdaaRp
import Derived.Test.YtomcpdbaenohdaaLs
import Derived.LoopN
import Derived.OwnWalk
import Derived.Laws.StructEq
namespace Go.Proofs.Ytomcpdbaenohdaa
open Go.RowKit
set_option linter.unusedSimpArgs false
set_option linter.unusedVariables false

theorem specR_of (lo n q : Nat) (p : Option Addr) (aa ms : List Rm) (w : World) (hl : aa.length = n) (ha : ms.map Rm.r = aa.map Rm.r) (hm : (n : Int) ≤ 1048576) (hx : ∀ x ∈ aa, (x.r.vs.length : Int) ≤ 1048576) (hk : ∀ x ∈ aa, x.r.key.size < 1099511627776) (hr0 : RR lo w p ms) :
    Calls Try.prog 7 #[.slice p n q] w (Told (rowsP aa) w) := by
  have e1 := (len_r ha).trans hl
  rw [← e1] at hm ⊢
  refine (specRows lo q p ms w hm (vs_le ha hx) (fun x h => ?_) hr0).mono ?_
  · have : x.r ∈ aa.map Rm.r := ha ▸ List.mem_map_of_mem h
    obtain ⟨y, hy, e⟩ := List.mem_map.1 this
    rw [← e]
    exact hk y hy
  · rintro e w' ⟨r, rfl, hq, hb⟩
    exact ⟨r, rfl, hq.trans (rowsP_same ha), hb⟩

theorem implR_of (lo n q : Nat) (p : Option Addr) (aa ms : List Rm) (w : World) (hl : aa.length = n) (ha : ms.map Rm.r = aa.map Rm.r) (hm : (n : Int) ≤ 1048576) (hx : ∀ x ∈ aa, (x.r.vs.length : Int) ≤ 1048576) (hk : ∀ x ∈ aa, x.r.key.size < 1099511627776) (hr0 : RR lo w p ms) :
    Calls Try.prog 9 #[.slice p n q] w (Told (rowsP aa) w) := by
  have e1 := (len_r ha).trans hl
  rw [← e1] at hm ⊢
  refine (implRows lo q p ms w hm (vs_le ha hx) (fun x h => ?_) hr0).mono ?_
  · have : x.r ∈ aa.map Rm.r := ha ▸ List.mem_map_of_mem h
    obtain ⟨y, hy, e⟩ := List.mem_map.1 this
    rw [← e]
    exact hk y hy
  · rintro e w' ⟨r, rfl, hq, hb⟩
    exact ⟨r, rfl, hq.trans (rowsP_same ha), hb⟩

theorem szRs_key {aa : List Rm} {m : Int} (h : ¬ szRs (aa.map Rm.r) m < 0) (hm : m ≤ 1048576) : ∀ x ∈ aa, x.r.key.size < 1099511627776 := by
  have h1 := szRs_ok h
  intro x hx
  have := tot_mem (l := aa.map Rm.r) (List.mem_map_of_mem hx)
  omega
set_option maxRecDepth 20000 in
set_option maxHeartbeats 4000000 in
theorem law_rows (q : Nat) (p : Option Addr) (aa : List Rm) (w : World) (hm : (aa.length : Int) ≤ 9223372036854775807) (hx : ∀ x ∈ aa, (x.r.vs.length : Int) ≤ 9223372036854775807 ∧ (x.r.key.size : Int) ≤ 9223372036854775807) (hr0 : RR 0 w p aa) :
    Calls Try.prog 3 #[.slice p aa.length q] w fun r w' => r = .returned (.bool true) ∧ Below w.heap.size w w' := by
  have RA : Hid (RR 0 w p aa) := hr0
  clear hr0
  go_enter Try.func3, Try.ntmps3
  go_wp2_with fail
  refine (szRs_any 0 q p aa 1048576 w (by omega) (by omega) hm hx RA.out).mono ?_
  rintro e W1 ⟨rfl, hb⟩
  have HB : Hid (Below w.heap.size w W1) := hb
  clear hb
  have Z1 : Hid (¬ szRs (aa.map Rm.r) 1048576 < 0 → ((aa.length : Int) ≤ 1048576 ∧ ∀ x ∈ aa, (x.r.vs.length : Int) ≤ 1048576) ∧ ∀ x ∈ aa, x.r.key.size < 1099511627776) := fun h => ⟨szRs_le h (by omega), szRs_key h (by omega)⟩
  generalize szRs (aa.map Rm.r) 1048576 = m1 at *
  by_cases hz : m1 < 0
  case pos =>
    clear Z1
    go_wp2
    go_ret
    exact ⟨rfl, HB.out⟩
  obtain ⟨⟨hn1, hxa⟩, hka⟩ := Z1.out hz
  clear Z1
  go_wp2_with fail
  refine (toRs_any 0 q p aa W1 hn1 hxa (rr_be RA HB)).mono ?_
  rintro e W3 ⟨a1, ea1, rfl, hb, hA⟩
  replace HB : Hid (Below w.heap.size w W3) := bel_next HB hb
  have A1 : Hid (RW W1.heap.size W3 W1.heap.size aa.length a1 ∧ a1.map Rm.r = aa.map Rm.r) := ⟨hA, ea1⟩
  clear hb hA ea1
  go_wp2_with fail
  refine (specR_of _ _ _ _ aa a1 W3 rfl A1.out.2 hn1 hxa hka A1.out.1.rr).mono ?_
  rintro e W5 ⟨r1, rfl, hq, hb⟩
  replace HB : Hid (Below w.heap.size w W5) := bel_next HB hb
  have Q1 : Hid (r1 = true ↔ rowsP aa) := hq
  clear hb hq A1
  go_wp2_with fail
  refine (toRs_any 0 q p aa W5 hn1 hxa (rr_be RA HB)).mono ?_
  rintro e W6 ⟨a2, ea2, rfl, hb, hA⟩
  replace HB : Hid (Below w.heap.size w W6) := bel_next HB hb
  have A2 : Hid (RW W5.heap.size W6 W5.heap.size aa.length a2 ∧ a2.map Rm.r = aa.map Rm.r) := ⟨hA, ea2⟩
  clear hb hA ea2
  go_wp2_with fail
  refine (implR_of _ _ _ _ aa a2 W6 rfl A2.out.2 hn1 hxa hka A2.out.1.rr).mono ?_
  rintro e W8 ⟨r2, rfl, hq, hb⟩
  replace HB : Hid (Below w.heap.size w W8) := bel_next HB hb
  replace A2 : Hid (RW W5.heap.size W8 W5.heap.size aa.length a2 ∧ a2.map Rm.r = aa.map Rm.r) := ⟨A2.out.1.next hb, A2.out.2⟩
  have he : r2 = r1 := Bool.eq_iff_iff.2 (hq.trans Q1.out.symm)
  clear hb hq Q1
  subst he
  go_wp2_with fail
  refine (toRs_any 0 q p aa W8 hn1 hxa (rr_be RA HB)).mono ?_
  rintro e W9 ⟨a3, ea3, rfl, hb, hA⟩
  replace HB : Hid (Below w.heap.size w W9) := bel_next HB hb
  replace A2 : Hid (RW W5.heap.size W9 W5.heap.size aa.length a2 ∧ a2.map Rm.r = aa.map Rm.r) := ⟨A2.out.1.next hb, A2.out.2⟩
  have A3 : Hid (RW W8.heap.size W9 W8.heap.size aa.length a3 ∧ a3.map Rm.r = aa.map Rm.r) := ⟨hA, ea3⟩
  clear hb hA ea3
  go_wp2_with fail
  refine (eqRs_same _ _ _ _ aa.length _ _ a2 a3 W9 (len_r A2.out.2) (A3.out.2.trans A2.out.2.symm) hn1 (vs_le A2.out.2 hxa) A2.out.1.rr A3.out.1.rr).mono ?_
  rintro e W10 ⟨rfl, hb⟩
  replace HB : Hid (Below w.heap.size w W10) := bel_next HB hb
  clear hb A2 A3 RA
  go_wp2
  go_ret
  exact ⟨rfl, HB.out⟩
end Go.Proofs.Ytomcpdbaenohdaa
