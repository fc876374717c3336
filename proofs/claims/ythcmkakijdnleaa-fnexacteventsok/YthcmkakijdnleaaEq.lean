/- The law of EventsOK. -/
import Derived.Test.YthcmkakijdnleaaRows
import Derived.WalkKit
import Derived.WalkSpells
import Derived.WalkLawsBesides
import Derived.Deep.QuietTactic
import Derived.BigQuiet
import Derived.Deep.RegionHeld3
import Derived.Test.YthcmkakijdnleaaEs
import Derived.Test.YthcmkakijdnleaaEn
import Derived.Test.YthcmkakijdnleaaEb
import Derived.LoopN
import Derived.OwnWalk
import Derived.Laws.StructEq
namespace Go.Proofs.Ythcmkakijdnleaa
open Go.RowKit
set_option linter.unusedSimpArgs false
set_option linter.unusedVariables false

theorem EW.cut {lo : Nat} {W W' : World} {g n : Nat} {l : List Ev} (h : EW lo W g n l) (hb : Below W.heap.size W W') : EW lo W' g n l := h.next hb
theorem key_lt {l : List Ev} (h : ∀ x ∈ l, x.key.size ≤ 1048576) : ∀ x ∈ l, x.key.size < 1099511627776 := fun x hx => by have := h x hx; omega
set_option maxRecDepth 20000 in
set_option maxHeartbeats 4000000 in
theorem law_events (q : Nat) (p : Option Addr) (l : List Ev) (w : World) (hm : (l.length : Int) ≤ 9223372036854775807) (hx : ∀ x ∈ l, (x.key.size : Int) ≤ 9223372036854775807) (hr0 : GRow 0 w p (flatE l)) :
    Calls Try.prog 3 #[.slice p l.length q] w fun r w' => r = .returned (.bool true) ∧ Below w.heap.size w w' := by
  have RA : Hid (GRow 0 w p (flatE l)) := hr0
  clear hr0
  go_enter Try.func3, Try.ntmps3
  go_wp2_with fail
  refine (szEs_any 0 q p l 1048576 w (by omega) (by omega) hm hx RA.out).mono ?_
  rintro e W1 ⟨rfl, hb⟩
  have HB : Hid (Below w.heap.size w W1) := hb
  clear hb
  have Z1 : Hid (¬ szEs l 1048576 < 0 → ((l.length : Int) ≤ 1048576 ∧ ∀ x ∈ l, x.key.size ≤ 1048576)) := szEs_le
  generalize szEs l 1048576 = m1 at *
  by_cases hz : m1 < 0
  case pos =>
    clear Z1
    go_wp2
    go_ret
    exact ⟨rfl, HB.out⟩
  obtain ⟨hn1, hka0⟩ := Z1.out hz
  have HK := key_lt hka0
  clear Z1 hka0
  go_wp2_with fail
  refine (toEs_any 0 q p l W1 hn1 (RA.out.next HB.out)).mono ?_
  rintro e W3 ⟨rfl, hb, hA⟩
  replace HB : Hid (Below w.heap.size w W3) := bel_next HB hb
  have A1 : Hid (EW W1.heap.size W3 W1.heap.size l.length l) := hA
  clear hb hA
  go_wp2_with fail
  refine (specEvents _ _ _ l W3 hn1 HK A1.out.row).mono ?_
  rintro e W5 ⟨r1, rfl, hq, hb⟩
  replace HB : Hid (Below w.heap.size w W5) := bel_next HB hb
  have Q1 : Hid (r1 = true ↔ eok l) := hq
  clear hb hq A1
  go_wp2_with fail
  refine (toEs_any 0 q p l W5 hn1 (RA.out.next HB.out)).mono ?_
  rintro e W6 ⟨rfl, hb, hA⟩
  replace HB : Hid (Below w.heap.size w W6) := bel_next HB hb
  have A2 : Hid (EW W5.heap.size W6 W5.heap.size l.length l) := hA
  clear hb hA
  go_wp2_with fail
  refine (implEvents _ _ _ l W6 HK A2.out.row).mono ?_
  rintro e W8 ⟨r2, rfl, hq, hb⟩
  replace HB : Hid (Below w.heap.size w W8) := bel_next HB hb
  replace A2 : Hid (EW W5.heap.size W8 W5.heap.size l.length l) := A2.out.next hb
  have he : r2 = r1 := Bool.eq_iff_iff.2 (hq.trans Q1.out.symm)
  clear hb hq Q1
  subst he
  go_wp2_with fail
  refine (toEs_any 0 q p l W8 hn1 (RA.out.next HB.out)).mono ?_
  rintro e W9 ⟨rfl, hb, hA⟩
  replace HB : Hid (Below w.heap.size w W9) := bel_next HB hb
  replace A2 : Hid (EW W5.heap.size W9 W5.heap.size l.length l) := A2.out.next hb
  have A3 : Hid (EW W8.heap.size W9 W8.heap.size l.length l) := hA
  clear hb hA
  go_wp2_with fail
  refine (eqEs_same _ _ _ _ l.length _ _ l W9 rfl hn1 A2.out.row A3.out.row).mono ?_
  rintro e W10 ⟨rfl, hb⟩
  replace HB : Hid (Below w.heap.size w W10) := bel_next HB hb
  clear hb A2 A3 RA
  go_wp2
  go_ret
  exact ⟨rfl, HB.out⟩
end Go.Proofs.Ythcmkakijdnleaa
