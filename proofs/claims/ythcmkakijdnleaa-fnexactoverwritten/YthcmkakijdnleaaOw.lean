/- The law of Overwritten. -/
import Derived.Test.YthcmkakijdnleaaRows
import Derived.WalkKit
import Derived.WalkSpells
import Derived.WalkLawsBesides
import Derived.Deep.QuietTactic
import Derived.BigQuiet
import Derived.Deep.RegionHeld3
import Derived.Test.YthcmkakijdnleaaOi
import Derived.Test.YthcmkakijdnleaaOj
import Derived.Test.YthcmkakijdnleaaEb
import Derived.LoopN
import Derived.OwnWalk
import Derived.Laws.StructEq
namespace Go.Proofs.Ythcmkakijdnleaa
open Go.RowKit
set_option linter.unusedSimpArgs false
set_option linter.unusedVariables false

theorem key_lt2 {l : List Ev} (h : ∀ x ∈ l, x.key.size ≤ 1048576) : ∀ x ∈ l, x.key.size < 1099511627776 := fun x hx => by have := h x hx; omega
set_option maxRecDepth 20000 in
set_option maxHeartbeats 8000000 in
theorem law_over (q : Nat) (p : Option Addr) (l : List Ev) (dp dn : Int) (w : World) (hm : (l.length : Int) ≤ 9223372036854775807) (hx : ∀ x ∈ l, (x.key.size : Int) ≤ 9223372036854775807) (hr0 : GRow 0 w p (flatE l)) :
    Calls Try.prog 4 #[.slice p l.length q, .agg #[.int .i64 dp, .int .i64 dn]] w fun r w' => r = .returned (.bool true) ∧ Below w.heap.size w w' := by
  have RA : Hid (GRow 0 w p (flatE l)) := hr0
  clear hr0
  go_enter Try.func4, Try.ntmps4
  go_upto_region 1 with fail
  refine wp_gen (fun W => Box W w.heap.size [.int .i64 dp, .int .i64 dn] ∧ Below w.heap.size w W) ⟨box_mk, bel_alloc _ _⟩ (fun W0 hI => ?_)
  obtain ⟨gd, hgd⟩ : ∃ g, g = w.heap.size := ⟨_, rfl⟩
  have Y : Hid (Box W0 gd [.int .i64 dp, .int .i64 dn] ∧ Below w.heap.size w W0) := by rw [hgd]; exact hI
  rw [← hgd]
  clear hI hgd
  go_wp2_with fail
  refine (szEs_any 0 q p l 1048576 W0 (by omega) (by omega) hm hx (RA.out.next Y.out.2)).mono ?_
  rintro e W1 ⟨rfl, hb⟩
  replace Y : Hid (Box W1 gd [.int .i64 dp, .int .i64 dn] ∧ Below w.heap.size w W1) := ⟨Y.out.1.next hb, Y.out.2.trans (hb.mono Y.out.2.size)⟩
  clear hb
  have Z1 : Hid (¬ szEs l 1048576 < 0 → ((l.length : Int) ≤ 1048576 ∧ ∀ x ∈ l, x.key.size ≤ 1048576)) := szEs_le
  generalize szEs l 1048576 = m1 at *
  by_cases hz : m1 < 0
  case pos =>
    clear Z1
    go_wp2
    go_ret
    exact ⟨rfl, Y.out.2⟩
  obtain ⟨hn1, hka0⟩ := Z1.out hz
  have HK := key_lt2 hka0
  clear Z1 hka0
  go_upto_region 5 with fail
  refine wp_region_held_drew (S := (fun w' => w'.cell? ⟨gd, 0, none⟩ = some (.int .i64 dp) ∧ w'.cell? ⟨gd, 1, none⟩ = some (.int .i64 dn))) (by kernel_rfl) ?_ (fun hHeld => ?_)
  · (try dsimp only)
    exact (Y.out.1.next (bel_drew _)).c2
  replace Y : Hid (Box W1.drew gd [.int .i64 dp, .int .i64 dn] ∧ Below w.heap.size w W1.drew) := ⟨Y.out.1.next (bel_drew _), Y.out.2.drew⟩
  generalize W1.drew = V1 at *
  refine wTk 0 ?_
  refine wTk 2 ?_
  refine wRd 1 (fun K hK => ?_)
  go_simp
  go_at_call 9
  refine (toEs_any 0 q p l V1 hn1 (RA.out.next Y.out.2)).mono ?_
  rintro e V2 ⟨rfl, hb, hA⟩
  (try simp only [])
  replace Y : Hid (Box V2 gd [.int .i64 dp, .int .i64 dn] ∧ Below w.heap.size w V2) := ⟨Y.out.1.next hb, Y.out.2.trans (hb.mono Y.out.2.size)⟩
  have A1 : Hid (EW V1.heap.size V2 V1.heap.size l.length l) := hA
  clear hb hA
  refine wHk hK Y.out.1.c2 ?_
  clear hK K hHeld
  intro hHeld
  refine wRd 3 (fun K hK => ?_)
  go_simp
  go_at_call 13
  refine (toDot_any dp dn V2).mono ?_
  rintro e V3 ⟨rfl, hb⟩
  (try simp only [])
  replace Y : Hid (Box V3 gd [.int .i64 dp, .int .i64 dn] ∧ Below w.heap.size w V3) := ⟨Y.out.1.next hb, Y.out.2.trans (hb.mono Y.out.2.size)⟩
  replace A1 : Hid (EW V1.heap.size V3 V1.heap.size l.length l) := A1.out.next hb
  clear hb
  refine wHk hK Y.out.1.c2 ?_
  clear hK K hHeld
  intro hHeld
  refine wRd 4 (fun K hK => ?_)
  go_simp
  go_at_call 12
  refine (specOver _ _ _ l dp dn V3 hn1 HK A1.out.row).mono ?_
  rintro e V4 ⟨r1, c1, rfl, hq, hb⟩
  (try simp only [])
  replace Y : Hid (Box V4 gd [.int .i64 dp, .int .i64 dn] ∧ Below w.heap.size w V4) := ⟨Y.out.1.next hb, Y.out.2.trans (hb.mono Y.out.2.size)⟩
  have Q1 : Hid (ovP l dp dn r1 c1) := hq
  clear hb hq A1
  refine wHk hK Y.out.1.c2 ?_
  clear hK K hHeld
  intro hHeld
  refine wTk 5 ?_
  refine wTk 6 ?_
  refine wTk 7 ?_
  refine wTk 8 ?_
  refine wTk 9 ?_
  refine wpAnyH_done (by kernel_rfl) ?_ _
  clear hHeld
  generalize V1.heap.size = gz at *
  go_wp2_with fail
  refine (toEs_any 0 q p l V4 hn1 (RA.out.next Y.out.2)).mono ?_
  rintro e W6 ⟨rfl, hb, hA⟩
  replace Y : Hid (Box W6 gd [.int .i64 dp, .int .i64 dn] ∧ Below w.heap.size w W6) := ⟨Y.out.1.next hb, Y.out.2.trans (hb.mono Y.out.2.size)⟩
  have A2 : Hid (EW V4.heap.size W6 V4.heap.size l.length l) := hA
  clear hb hA
  obtain ⟨d0, d1⟩ := Y.out.1.c2
  go_wp2_with fail
  refine (toDot_any dp dn W6).mono ?_
  rintro e W7 ⟨rfl, hb⟩
  replace Y : Hid (Box W7 gd [.int .i64 dp, .int .i64 dn] ∧ Below w.heap.size w W7) := ⟨Y.out.1.next hb, Y.out.2.trans (hb.mono Y.out.2.size)⟩
  replace A2 : Hid (EW V4.heap.size W7 V4.heap.size l.length l) := A2.out.next hb
  clear hb d0 d1
  go_wp2_with fail
  refine (implOver _ _ _ l dp dn W7 HK A2.out.row).mono ?_
  rintro e W8 ⟨r2, c2, rfl, hq, hb⟩
  replace Y : Hid (Box W8 gd [.int .i64 dp, .int .i64 dn] ∧ Below w.heap.size w W8) := ⟨Y.out.1.next hb, Y.out.2.trans (hb.mono Y.out.2.size)⟩
  replace A2 : Hid (EW V4.heap.size W8 V4.heap.size l.length l) := A2.out.next hb
  obtain ⟨he, hc⟩ := ovP_one hq Q1.out
  clear hb hq Q1
  subst he hc
  go_wp2_with fail
  refine (toEs_any 0 q p l W8 hn1 (RA.out.next Y.out.2)).mono ?_
  rintro e W9 ⟨rfl, hb, hA⟩
  have HB : Hid (Below w.heap.size w W9) := Y.out.2.trans (hb.mono Y.out.2.size)
  replace A2 : Hid (EW V4.heap.size W9 V4.heap.size l.length l) := A2.out.next hb
  have A3 : Hid (EW W8.heap.size W9 W8.heap.size l.length l) := hA
  clear hb hA Y
  go_wp2_with fail
  refine (eqEs_same _ _ _ _ l.length _ _ l W9 rfl hn1 A2.out.row A3.out.row).mono ?_
  rintro e W10 ⟨rfl, hb⟩
  replace HB : Hid (Below w.heap.size w W10) := bel_next HB hb
  clear hb A2 A3 RA
  go_wp2
  go_ret
  exact ⟨rfl, HB.out⟩
end Go.Proofs.Ythcmkakijdnleaa
