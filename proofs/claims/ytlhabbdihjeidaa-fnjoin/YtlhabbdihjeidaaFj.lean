/- Joining does not ask who comes first, how often, or in what order: the law's walk. -/
import Derived.Test.YtlhabbdihjeidaaRows
import Derived.WalkKit
import Derived.WalkSpells
import Derived.WalkLawsBesides
import Derived.Deep.QuietTactic
import Derived.BigQuiet
import Derived.Deep.RegionHeld3
import Derived.Test.YtlhabbdihjeidaaOz
import Derived.LoopN
namespace Go.Proofs.Ytlhabbdihjeidaa
open Go.RowKit
set_option linter.unusedSimpArgs false
set_option linter.unusedVariables false

set_option maxHeartbeats 8000000 in
theorem law_fnJoin (ao : Option Addr) (len cap : Nat) (zs : List Int) (w : World) (hr0 : Gen.IsRow .u8 w ao len cap zs) :
    Calls Try.prog 3 #[.slice ao len cap] w fun e w' => e = .returned (.bool true) ∧ Below w.heap.size w w' := by
  by_cases h1 : 1048576 < (len : Int)
  · clear hr0
    go_enter Try.func3, Try.ntmps3
    go_wp2
    go_ret
    exact ⟨rfl, Below.refl _ _⟩
  have CO : Hid _ := objsOf_any ao len cap zs w (by omega) hr0
  clear hr0
  go_enter Try.func3, Try.ntmps3
  go_wp2_with fail
  refine Calls.mono CO.out ?_
  rintro e W0 ⟨V, m, o, q, rfl, hob, hro, hrp, hm, hb⟩
  clear CO
  have HM : Hid (H17 m) := hm
  have HB : Hid (Below w.heap.size w W0) := hb
  have PA : Hid (RpO V m (o 0)) := hrp 0 (by omega)
  have PB : Hid (RpO V m (o 1)) := hrp 1 (by omega)
  have PC : Hid (RpO V m (o 2)) := hrp 2 (by omega)
  have RA : Hid (SibRow W0 (o 0).ao (o 0).l ∧ (o 0).l.length ≤ (o 0).cap) := hro 0 (by omega)
  have RB : Hid (SibRow W0 (o 1).ao (o 1).l ∧ (o 1).l.length ≤ (o 1).cap) := hro 1 (by omega)
  have RC : Hid (SibRow W0 (o 2).ao (o 2).l ∧ (o 2).l.length ≤ (o 2).cap) := hro 2 (by omega)
  obtain ⟨a0, a1, a2, a3, b0, b1, b2, b3, c0, c1, c2, c3⟩ := ll_of hob
  clear hob hro hrp hm hb
  generalize o 0 = xa at *
  generalize o 1 = xb at *
  generalize o 2 = xc at *
  have n0 : ∀ ob : Obj, (W0.alloc ob).heap.size = W0.heap.size + 1 := fun ob => by simp
  have HB1 : Hid (Below w.heap.size w (((W0.alloc (.cells #[.slice xa.ao xa.l.length xa.cap, .int .i64 xa.a, .int .i64 xa.b, .int .i64 xa.c] 29)).alloc (.cells #[.slice xb.ao xb.l.length xb.cap, .int .i64 xb.a, .int .i64 xb.b, .int .i64 xb.c] 29)).alloc (.cells #[.slice xc.ao xc.l.length xc.cap, .int .i64 xc.a, .int .i64 xc.b, .int .i64 xc.c] 29))) := bel_next (bel_next (bel_next HB (bel_alloc _ _)) (bel_alloc _ _)) (bel_alloc _ _)
  have Ba : Hid (Bx (((W0.alloc (.cells #[.slice xa.ao xa.l.length xa.cap, .int .i64 xa.a, .int .i64 xa.b, .int .i64 xa.c] 29)).alloc (.cells #[.slice xb.ao xb.l.length xb.cap, .int .i64 xb.a, .int .i64 xb.b, .int .i64 xb.c] 29)).alloc (.cells #[.slice xc.ao xc.l.length xc.cap, .int .i64 xc.a, .int .i64 xc.b, .int .i64 xc.c] 29)) W0.heap.size xa) := bx_next (bx_next (bx_new RA.out.1 RA.out.2) (bel_alloc _ _)) (bel_alloc _ _)
  have Bb : Hid (Bx (((W0.alloc (.cells #[.slice xa.ao xa.l.length xa.cap, .int .i64 xa.a, .int .i64 xa.b, .int .i64 xa.c] 29)).alloc (.cells #[.slice xb.ao xb.l.length xb.cap, .int .i64 xb.a, .int .i64 xb.b, .int .i64 xb.c] 29)).alloc (.cells #[.slice xc.ao xc.l.length xc.cap, .int .i64 xc.a, .int .i64 xc.b, .int .i64 xc.c] 29)) (W0.heap.size + 1) xb) := by
    have := bx_next (bx_new (W := (W0.alloc (.cells #[.slice xa.ao xa.l.length xa.cap, .int .i64 xa.a, .int .i64 xa.b, .int .i64 xa.c] 29))) (t := 29) (RB.out.1.next (bel_alloc _ _)) RB.out.2) (bel_alloc _ (.cells #[.slice xc.ao xc.l.length xc.cap, .int .i64 xc.a, .int .i64 xc.b, .int .i64 xc.c] 29))
    simpa using this
  have Bc : Hid (Bx (((W0.alloc (.cells #[.slice xa.ao xa.l.length xa.cap, .int .i64 xa.a, .int .i64 xa.b, .int .i64 xa.c] 29)).alloc (.cells #[.slice xb.ao xb.l.length xb.cap, .int .i64 xb.a, .int .i64 xb.b, .int .i64 xb.c] 29)).alloc (.cells #[.slice xc.ao xc.l.length xc.cap, .int .i64 xc.a, .int .i64 xc.b, .int .i64 xc.c] 29)) (W0.heap.size + 1 + 1) xc) := by
    have := bx_new (W := ((W0.alloc (.cells #[.slice xa.ao xa.l.length xa.cap, .int .i64 xa.a, .int .i64 xa.b, .int .i64 xa.c] 29)).alloc (.cells #[.slice xb.ao xb.l.length xb.cap, .int .i64 xb.a, .int .i64 xb.b, .int .i64 xb.c] 29))) (t := 29) ((RC.out.1.next (bel_alloc _ _)).next (bel_alloc _ _)) RC.out.2
    simpa using this
  have e0 : ∀ o1 i v, W0.cell? ⟨q, i, none⟩ = some v → (W0.alloc o1).cell? ⟨q, i, none⟩ = some v := fun o1 i v h => cell_next (bel_alloc _ _) h (cell_lt h)
  have b0' := e0 (.cells #[.slice xa.ao xa.l.length xa.cap, .int .i64 xa.a, .int .i64 xa.b, .int .i64 xa.c] 29) _ _ b0
  have b1' := e0 (.cells #[.slice xa.ao xa.l.length xa.cap, .int .i64 xa.a, .int .i64 xa.b, .int .i64 xa.c] 29) _ _ b1
  have b2' := e0 (.cells #[.slice xa.ao xa.l.length xa.cap, .int .i64 xa.a, .int .i64 xa.b, .int .i64 xa.c] 29) _ _ b2
  have b3' := e0 (.cells #[.slice xa.ao xa.l.length xa.cap, .int .i64 xa.a, .int .i64 xa.b, .int .i64 xa.c] 29) _ _ b3
  have f0 : ∀ o1 o2 i v, W0.cell? ⟨q, i, none⟩ = some v → ((W0.alloc o1).alloc o2).cell? ⟨q, i, none⟩ = some v := fun o1 o2 i v h => cell_next (bel_alloc _ _) (e0 o1 i v h) (cell_lt (e0 o1 i v h))
  have c0' := f0 (.cells #[.slice xa.ao xa.l.length xa.cap, .int .i64 xa.a, .int .i64 xa.b, .int .i64 xa.c] 29) (.cells #[.slice xb.ao xb.l.length xb.cap, .int .i64 xb.a, .int .i64 xb.b, .int .i64 xb.c] 29) _ _ c0
  have c1' := f0 (.cells #[.slice xa.ao xa.l.length xa.cap, .int .i64 xa.a, .int .i64 xa.b, .int .i64 xa.c] 29) (.cells #[.slice xb.ao xb.l.length xb.cap, .int .i64 xb.a, .int .i64 xb.b, .int .i64 xb.c] 29) _ _ c1
  have c2' := f0 (.cells #[.slice xa.ao xa.l.length xa.cap, .int .i64 xa.a, .int .i64 xa.b, .int .i64 xa.c] 29) (.cells #[.slice xb.ao xb.l.length xb.cap, .int .i64 xb.a, .int .i64 xb.b, .int .i64 xb.c] 29) _ _ c2
  have c3' := f0 (.cells #[.slice xa.ao xa.l.length xa.cap, .int .i64 xa.a, .int .i64 xa.b, .int .i64 xa.c] 29) (.cells #[.slice xb.ao xb.l.length xb.cap, .int .i64 xb.a, .int .i64 xb.b, .int .i64 xb.c] 29) _ _ c3
  clear e0 f0 n0
  go_wp2_with fail
  clear a0 a1 a2 a3 b0 b1 b2 b3 c0 c1 c2 c3 b0' b1' b2' b3' c0' c1' c2' c3' HB RA RB RC
  have HB := HB1
  clear HB1
  generalize (((W0.alloc (.cells #[.slice xa.ao xa.l.length xa.cap, .int .i64 xa.a, .int .i64 xa.b, .int .i64 xa.c] 29)).alloc (.cells #[.slice xb.ao xb.l.length xb.cap, .int .i64 xb.a, .int .i64 xb.b, .int .i64 xb.c] 29)).alloc (.cells #[.slice xc.ao xc.l.length xc.cap, .int .i64 xc.a, .int .i64 xc.b, .int .i64 xc.c] 29)) = W1 at *
  generalize W0.heap.size = ba at *
  refine Calls.mono (implJo xa xb PA.out PB.out HM.out _ Bb.out.cap Ba.out.row Bb.out.row) ?_
  rintro e Wn ⟨xab, rfl, hJ, hb, hr, hc⟩
  have Jab : Hid (Jo xa xb xab) := hJ
  have Pab : Hid (RpO V m xab) := hJ.rp PA.out PB.out
  replace Ba := bx_next Ba hb
  replace Bb := bx_next Bb hb
  replace Bc := bx_next Bc hb
  replace HB := bel_next HB hb
  have Bab : Hid (Bx (Wn.alloc (.cells #[.slice xab.ao xab.l.length xab.cap, .int .i64 xab.a, .int .i64 xab.b, .int .i64 xab.c] 29)) Wn.heap.size xab) := bx_new hr hc
  have hb2 := bel_alloc Wn (.cells #[.slice xab.ao xab.l.length xab.cap, .int .i64 xab.a, .int .i64 xab.b, .int .i64 xab.c] 29)
  replace Ba := bx_next Ba hb2
  replace Bb := bx_next Bb hb2
  replace Bc := bx_next Bc hb2
  replace HB := bel_next HB hb2
  clear hJ hb hr hc hb2
  obtain ⟨b0, b1, b2, b3⟩ := Bb.out.cells
  obtain ⟨a0, a1, a2, a3⟩ := Ba.out.cells
  go_wp2_with fail
  clear b0 b1 b2 b3 a0 a1 a2 a3
  generalize (Wn.alloc (.cells #[.slice xab.ao xab.l.length xab.cap, .int .i64 xab.a, .int .i64 xab.b, .int .i64 xab.c] 29)) = W2 at *
  generalize Wn.heap.size = bab at *
  refine Calls.mono (implJo xb xa PB.out PA.out HM.out _ Ba.out.cap Bb.out.row Ba.out.row) ?_
  rintro e Wn ⟨xba, rfl, hJ, hb, hr, hc⟩
  have Jba : Hid (Jo xb xa xba) := hJ
  have Pba : Hid (RpO V m xba) := hJ.rp PB.out PA.out
  replace Ba := bx_next Ba hb
  replace Bb := bx_next Bb hb
  replace Bc := bx_next Bc hb
  replace Bab := bx_next Bab hb
  replace HB := bel_next HB hb
  have Bba : Hid (Bx (Wn.alloc (.cells #[.slice xba.ao xba.l.length xba.cap, .int .i64 xba.a, .int .i64 xba.b, .int .i64 xba.c] 29)) Wn.heap.size xba) := bx_new hr hc
  have hb2 := bel_alloc Wn (.cells #[.slice xba.ao xba.l.length xba.cap, .int .i64 xba.a, .int .i64 xba.b, .int .i64 xba.c] 29)
  replace Ba := bx_next Ba hb2
  replace Bb := bx_next Bb hb2
  replace Bc := bx_next Bc hb2
  replace Bab := bx_next Bab hb2
  replace HB := bel_next HB hb2
  clear hJ hb hr hc hb2
  obtain ⟨b0, b1, b2, b3⟩ := Bb.out.cells
  obtain ⟨c0, c1, c2, c3⟩ := Bc.out.cells
  go_wp2_with fail
  clear b0 b1 b2 b3 c0 c1 c2 c3
  generalize (Wn.alloc (.cells #[.slice xba.ao xba.l.length xba.cap, .int .i64 xba.a, .int .i64 xba.b, .int .i64 xba.c] 29)) = W3 at *
  generalize Wn.heap.size = bba at *
  refine Calls.mono (implJo xb xc PB.out PC.out HM.out _ Bc.out.cap Bb.out.row Bc.out.row) ?_
  rintro e Wn ⟨xbc, rfl, hJ, hb, hr, hc⟩
  have Jbc : Hid (Jo xb xc xbc) := hJ
  have Pbc : Hid (RpO V m xbc) := hJ.rp PB.out PC.out
  replace Ba := bx_next Ba hb
  replace Bb := bx_next Bb hb
  replace Bc := bx_next Bc hb
  replace Bab := bx_next Bab hb
  replace Bba := bx_next Bba hb
  replace HB := bel_next HB hb
  have Bbc : Hid (Bx (Wn.alloc (.cells #[.slice xbc.ao xbc.l.length xbc.cap, .int .i64 xbc.a, .int .i64 xbc.b, .int .i64 xbc.c] 29)) Wn.heap.size xbc) := bx_new hr hc
  have hb2 := bel_alloc Wn (.cells #[.slice xbc.ao xbc.l.length xbc.cap, .int .i64 xbc.a, .int .i64 xbc.b, .int .i64 xbc.c] 29)
  replace Ba := bx_next Ba hb2
  replace Bb := bx_next Bb hb2
  replace Bc := bx_next Bc hb2
  replace Bab := bx_next Bab hb2
  replace Bba := bx_next Bba hb2
  replace HB := bel_next HB hb2
  clear hJ hb hr hc hb2
  obtain ⟨ab0, ab1, ab2, ab3⟩ := Bab.out.cells
  obtain ⟨c0, c1, c2, c3⟩ := Bc.out.cells
  go_wp2_with fail
  clear ab0 ab1 ab2 ab3 c0 c1 c2 c3
  generalize (Wn.alloc (.cells #[.slice xbc.ao xbc.l.length xbc.cap, .int .i64 xbc.a, .int .i64 xbc.b, .int .i64 xbc.c] 29)) = W4 at *
  generalize Wn.heap.size = bbc at *
  refine Calls.mono (implJo xab xc Pab.out PC.out HM.out _ Bc.out.cap Bab.out.row Bc.out.row) ?_
  rintro e Wn ⟨xlf, rfl, hJ, hb, hr, hc⟩
  have Jlf : Hid (Jo xab xc xlf) := hJ
  have Plf : Hid (RpO V m xlf) := hJ.rp Pab.out PC.out
  replace Ba := bx_next Ba hb
  replace Bb := bx_next Bb hb
  replace Bc := bx_next Bc hb
  replace Bab := bx_next Bab hb
  replace Bba := bx_next Bba hb
  replace Bbc := bx_next Bbc hb
  replace HB := bel_next HB hb
  have Blf : Hid (Bx (Wn.alloc (.cells #[.slice xlf.ao xlf.l.length xlf.cap, .int .i64 xlf.a, .int .i64 xlf.b, .int .i64 xlf.c] 29)) Wn.heap.size xlf) := bx_new hr hc
  have hb2 := bel_alloc Wn (.cells #[.slice xlf.ao xlf.l.length xlf.cap, .int .i64 xlf.a, .int .i64 xlf.b, .int .i64 xlf.c] 29)
  replace Ba := bx_next Ba hb2
  replace Bb := bx_next Bb hb2
  replace Bc := bx_next Bc hb2
  replace Bab := bx_next Bab hb2
  replace Bba := bx_next Bba hb2
  replace Bbc := bx_next Bbc hb2
  replace HB := bel_next HB hb2
  clear hJ hb hr hc hb2
  obtain ⟨a0, a1, a2, a3⟩ := Ba.out.cells
  obtain ⟨bc0, bc1, bc2, bc3⟩ := Bbc.out.cells
  go_wp2_with fail
  clear a0 a1 a2 a3 bc0 bc1 bc2 bc3
  generalize (Wn.alloc (.cells #[.slice xlf.ao xlf.l.length xlf.cap, .int .i64 xlf.a, .int .i64 xlf.b, .int .i64 xlf.c] 29)) = W5 at *
  generalize Wn.heap.size = blf at *
  refine Calls.mono (implJo xa xbc PA.out Pbc.out HM.out _ Bbc.out.cap Ba.out.row Bbc.out.row) ?_
  rintro e Wn ⟨xrt, rfl, hJ, hb, hr, hc⟩
  have Jrt : Hid (Jo xa xbc xrt) := hJ
  have Prt : Hid (RpO V m xrt) := hJ.rp PA.out Pbc.out
  replace Ba := bx_next Ba hb
  replace Bb := bx_next Bb hb
  replace Bc := bx_next Bc hb
  replace Bab := bx_next Bab hb
  replace Bba := bx_next Bba hb
  replace Bbc := bx_next Bbc hb
  replace Blf := bx_next Blf hb
  replace HB := bel_next HB hb
  have Brt : Hid (Bx (Wn.alloc (.cells #[.slice xrt.ao xrt.l.length xrt.cap, .int .i64 xrt.a, .int .i64 xrt.b, .int .i64 xrt.c] 29)) Wn.heap.size xrt) := bx_new hr hc
  have hb2 := bel_alloc Wn (.cells #[.slice xrt.ao xrt.l.length xrt.cap, .int .i64 xrt.a, .int .i64 xrt.b, .int .i64 xrt.c] 29)
  replace Ba := bx_next Ba hb2
  replace Bb := bx_next Bb hb2
  replace Bc := bx_next Bc hb2
  replace Bab := bx_next Bab hb2
  replace Bba := bx_next Bba hb2
  replace Bbc := bx_next Bbc hb2
  replace Blf := bx_next Blf hb2
  replace HB := bel_next HB hb2
  clear hJ hb hr hc hb2
  obtain ⟨a0, a1, a2, a3⟩ := Ba.out.cells
  go_wp2_with fail
  clear a0 a1 a2 a3
  generalize (Wn.alloc (.cells #[.slice xrt.ao xrt.l.length xrt.cap, .int .i64 xrt.a, .int .i64 xrt.b, .int .i64 xrt.c] 29)) = W6 at *
  generalize Wn.heap.size = brt at *
  refine Calls.mono (implJo xa xa PA.out PA.out HM.out _ Ba.out.cap Ba.out.row Ba.out.row) ?_
  rintro e Wn ⟨xse, rfl, hJ, hb, hr, hc⟩
  have Jse : Hid (Jo xa xa xse) := hJ
  have Pse : Hid (RpO V m xse) := hJ.rp PA.out PA.out
  replace Ba := bx_next Ba hb
  replace Bb := bx_next Bb hb
  replace Bc := bx_next Bc hb
  replace Bab := bx_next Bab hb
  replace Bba := bx_next Bba hb
  replace Bbc := bx_next Bbc hb
  replace Blf := bx_next Blf hb
  replace Brt := bx_next Brt hb
  replace HB := bel_next HB hb
  have Bse : Hid (Bx (Wn.alloc (.cells #[.slice xse.ao xse.l.length xse.cap, .int .i64 xse.a, .int .i64 xse.b, .int .i64 xse.c] 29)) Wn.heap.size xse) := bx_new hr hc
  have hb2 := bel_alloc Wn (.cells #[.slice xse.ao xse.l.length xse.cap, .int .i64 xse.a, .int .i64 xse.b, .int .i64 xse.c] 29)
  replace Ba := bx_next Ba hb2
  replace Bb := bx_next Bb hb2
  replace Bc := bx_next Bc hb2
  replace Bab := bx_next Bab hb2
  replace Bba := bx_next Bba hb2
  replace Bbc := bx_next Bbc hb2
  replace Blf := bx_next Blf hb2
  replace Brt := bx_next Brt hb2
  replace HB := bel_next HB hb2
  clear hJ hb hr hc hb2
  obtain ⟨ab0, ab1, ab2, ab3⟩ := Bab.out.cells
  obtain ⟨b0, b1, b2, b3⟩ := Bb.out.cells
  go_wp2_with fail
  clear ab0 ab1 ab2 ab3 b0 b1 b2 b3
  generalize (Wn.alloc (.cells #[.slice xse.ao xse.l.length xse.cap, .int .i64 xse.a, .int .i64 xse.b, .int .i64 xse.c] 29)) = W7 at *
  generalize Wn.heap.size = bse at *
  refine Calls.mono (implJo xab xb Pab.out PB.out HM.out _ Bb.out.cap Bab.out.row Bb.out.row) ?_
  rintro e Wn ⟨xag, rfl, hJ, hb, hr, hc⟩
  have Jag : Hid (Jo xab xb xag) := hJ
  have Pag : Hid (RpO V m xag) := hJ.rp Pab.out PB.out
  replace Ba := bx_next Ba hb
  replace Bb := bx_next Bb hb
  replace Bc := bx_next Bc hb
  replace Bab := bx_next Bab hb
  replace Bba := bx_next Bba hb
  replace Bbc := bx_next Bbc hb
  replace Blf := bx_next Blf hb
  replace Brt := bx_next Brt hb
  replace Bse := bx_next Bse hb
  replace HB := bel_next HB hb
  have Bag : Hid (Bx (Wn.alloc (.cells #[.slice xag.ao xag.l.length xag.cap, .int .i64 xag.a, .int .i64 xag.b, .int .i64 xag.c] 29)) Wn.heap.size xag) := bx_new hr hc
  have hb2 := bel_alloc Wn (.cells #[.slice xag.ao xag.l.length xag.cap, .int .i64 xag.a, .int .i64 xag.b, .int .i64 xag.c] 29)
  replace Ba := bx_next Ba hb2
  replace Bb := bx_next Bb hb2
  replace Bc := bx_next Bc hb2
  replace Bab := bx_next Bab hb2
  replace Bba := bx_next Bba hb2
  replace Bbc := bx_next Bbc hb2
  replace Blf := bx_next Blf hb2
  replace Brt := bx_next Brt hb2
  replace Bse := bx_next Bse hb2
  replace HB := bel_next HB hb2
  clear hJ hb hr hc hb2
  obtain ⟨a0, a1, a2, a3⟩ := Ba.out.cells
  obtain ⟨b0, b1, b2, b3⟩ := Bb.out.cells
  go_wp2_with fail
  clear a0 a1 a2 a3 b0 b1 b2 b3
  generalize (Wn.alloc (.cells #[.slice xag.ao xag.l.length xag.cap, .int .i64 xag.a, .int .i64 xag.b, .int .i64 xag.c] 29)) = W8 at *
  generalize Wn.heap.size = bag at *
  refine Calls.mono (specJo xa xb PA.out PB.out HM.out _ Bb.out.cap Ba.out.row Bb.out.row) ?_
  rintro e Wn ⟨xwt, rfl, hJ, hb, hr, hc⟩
  have Jwt : Hid (Jo xa xb xwt) := hJ
  have Pwt : Hid (RpO V m xwt) := hJ.rp PA.out PB.out
  replace Ba := bx_next Ba hb
  replace Bb := bx_next Bb hb
  replace Bc := bx_next Bc hb
  replace Bab := bx_next Bab hb
  replace Bba := bx_next Bba hb
  replace Bbc := bx_next Bbc hb
  replace Blf := bx_next Blf hb
  replace Brt := bx_next Brt hb
  replace Bse := bx_next Bse hb
  replace Bag := bx_next Bag hb
  replace HB := bel_next HB hb
  have Bwt : Hid (Bx (Wn.alloc (.cells #[.slice xwt.ao xwt.l.length xwt.cap, .int .i64 xwt.a, .int .i64 xwt.b, .int .i64 xwt.c] 29)) Wn.heap.size xwt) := bx_new hr hc
  have hb2 := bel_alloc Wn (.cells #[.slice xwt.ao xwt.l.length xwt.cap, .int .i64 xwt.a, .int .i64 xwt.b, .int .i64 xwt.c] 29)
  replace Ba := bx_next Ba hb2
  replace Bb := bx_next Bb hb2
  replace Bc := bx_next Bc hb2
  replace Bab := bx_next Bab hb2
  replace Bba := bx_next Bba hb2
  replace Bbc := bx_next Bbc hb2
  replace Blf := bx_next Blf hb2
  replace Brt := bx_next Brt hb2
  replace Bse := bx_next Bse hb2
  replace Bag := bx_next Bag hb2
  replace HB := bel_next HB hb2
  clear hJ hb hr hc hb2
  obtain ⟨ab0, ab1, ab2, ab3⟩ := Bab.out.cells
  obtain ⟨wt0, wt1, wt2, wt3⟩ := Bwt.out.cells
  go_wp2_with fail
  clear ab0 ab1 ab2 ab3 wt0 wt1 wt2 wt3
  generalize (Wn.alloc (.cells #[.slice xwt.ao xwt.l.length xwt.cap, .int .i64 xwt.a, .int .i64 xwt.b, .int .i64 xwt.c] 29)) = W9 at *
  generalize Wn.heap.size = bwt at *
  refine Calls.mono (lawSame xab xwt Pab.out (jo_same Jab.out Jwt.out) HM.out _ Bab.out.row Bwt.out.row) ?_
  rintro e Wn ⟨rfl, hb⟩
  replace Ba := bx_next Ba hb
  replace Bb := bx_next Bb hb
  replace Bc := bx_next Bc hb
  replace Bab := bx_next Bab hb
  replace Bba := bx_next Bba hb
  replace Bbc := bx_next Bbc hb
  replace Blf := bx_next Blf hb
  replace Brt := bx_next Brt hb
  replace Bse := bx_next Bse hb
  replace Bag := bx_next Bag hb
  replace Bwt := bx_next Bwt hb
  replace HB := bel_next HB hb
  clear hb
  obtain ⟨ab0, ab1, ab2, ab3⟩ := Bab.out.cells
  obtain ⟨ba0, ba1, ba2, ba3⟩ := Bba.out.cells
  go_wp2_with fail
  clear ab0 ab1 ab2 ab3 ba0 ba1 ba2 ba3
  generalize Wn = W10 at *
  refine Calls.mono (lawSame xab xba Pab.out (jo_comm Jab.out Jba.out PA.out PB.out) HM.out _ Bab.out.row Bba.out.row) ?_
  rintro e Wn ⟨rfl, hb⟩
  replace Ba := bx_next Ba hb
  replace Bb := bx_next Bb hb
  replace Bc := bx_next Bc hb
  replace Bab := bx_next Bab hb
  replace Bba := bx_next Bba hb
  replace Bbc := bx_next Bbc hb
  replace Blf := bx_next Blf hb
  replace Brt := bx_next Brt hb
  replace Bse := bx_next Bse hb
  replace Bag := bx_next Bag hb
  replace Bwt := bx_next Bwt hb
  replace HB := bel_next HB hb
  clear hb
  obtain ⟨lf0, lf1, lf2, lf3⟩ := Blf.out.cells
  obtain ⟨rt0, rt1, rt2, rt3⟩ := Brt.out.cells
  go_wp2_with fail
  clear lf0 lf1 lf2 lf3 rt0 rt1 rt2 rt3
  generalize Wn = W11 at *
  refine Calls.mono (lawSame xlf xrt Plf.out (jo_assoc Jab.out Jbc.out Jlf.out Jrt.out PA.out PB.out PC.out) HM.out _ Blf.out.row Brt.out.row) ?_
  rintro e Wn ⟨rfl, hb⟩
  replace Ba := bx_next Ba hb
  replace Bb := bx_next Bb hb
  replace Bc := bx_next Bc hb
  replace Bab := bx_next Bab hb
  replace Bba := bx_next Bba hb
  replace Bbc := bx_next Bbc hb
  replace Blf := bx_next Blf hb
  replace Brt := bx_next Brt hb
  replace Bse := bx_next Bse hb
  replace Bag := bx_next Bag hb
  replace Bwt := bx_next Bwt hb
  replace HB := bel_next HB hb
  clear hb
  obtain ⟨se0, se1, se2, se3⟩ := Bse.out.cells
  obtain ⟨a0, a1, a2, a3⟩ := Ba.out.cells
  go_wp2_with fail
  clear se0 se1 se2 se3 a0 a1 a2 a3
  generalize Wn = W12 at *
  refine Calls.mono (lawSame xse xa Pse.out (jo_self Jse.out PA.out) HM.out _ Bse.out.row Ba.out.row) ?_
  rintro e Wn ⟨rfl, hb⟩
  replace Ba := bx_next Ba hb
  replace Bb := bx_next Bb hb
  replace Bc := bx_next Bc hb
  replace Bab := bx_next Bab hb
  replace Bba := bx_next Bba hb
  replace Bbc := bx_next Bbc hb
  replace Blf := bx_next Blf hb
  replace Brt := bx_next Brt hb
  replace Bse := bx_next Bse hb
  replace Bag := bx_next Bag hb
  replace Bwt := bx_next Bwt hb
  replace HB := bel_next HB hb
  clear hb
  obtain ⟨ag0, ag1, ag2, ag3⟩ := Bag.out.cells
  obtain ⟨ab0, ab1, ab2, ab3⟩ := Bab.out.cells
  go_wp2_with fail
  clear ag0 ag1 ag2 ag3 ab0 ab1 ab2 ab3
  generalize Wn = W13 at *
  refine Calls.mono (lawSame xag xab Pag.out (jo_again Jab.out Jag.out PA.out PB.out) HM.out _ Bag.out.row Bab.out.row) ?_
  rintro e Wn ⟨rfl, hb⟩
  replace Ba := bx_next Ba hb
  replace Bb := bx_next Bb hb
  replace Bc := bx_next Bc hb
  replace Bab := bx_next Bab hb
  replace Bba := bx_next Bba hb
  replace Bbc := bx_next Bbc hb
  replace Blf := bx_next Blf hb
  replace Brt := bx_next Brt hb
  replace Bse := bx_next Bse hb
  replace Bag := bx_next Bag hb
  replace Bwt := bx_next Bwt hb
  replace HB := bel_next HB hb
  clear hb
  obtain ⟨ab0, ab1, ab2, ab3⟩ := Bab.out.cells
  go_wp2_with fail
  clear ab0 ab1 ab2 ab3
  generalize Wn = W14 at *
  refine Calls.mono (implOk xab Pab.out HM.out _ Bab.out.row) ?_
  rintro e Wn ⟨rfl, hb⟩
  replace Ba := bx_next Ba hb
  replace Bb := bx_next Bb hb
  replace Bc := bx_next Bc hb
  replace Bab := bx_next Bab hb
  replace Bba := bx_next Bba hb
  replace Bbc := bx_next Bbc hb
  replace Blf := bx_next Blf hb
  replace Brt := bx_next Brt hb
  replace Bse := bx_next Bse hb
  replace Bag := bx_next Bag hb
  replace Bwt := bx_next Bwt hb
  replace HB := bel_next HB hb
  clear hb
  obtain ⟨ab0, ab1, ab2, ab3⟩ := Bab.out.cells
  obtain ⟨ba0, ba1, ba2, ba3⟩ := Bba.out.cells
  go_wp2_with fail
  clear ab0 ab1 ab2 ab3 ba0 ba1 ba2 ba3
  generalize Wn = W15 at *
  refine Calls.mono (implSame xab xba Pab.out (jo_comm Jab.out Jba.out PA.out PB.out) HM.out _ Bab.out.row Bba.out.row) ?_
  rintro e Wn ⟨rfl, hb⟩
  replace Ba := bx_next Ba hb
  replace Bb := bx_next Bb hb
  replace Bc := bx_next Bc hb
  replace Bab := bx_next Bab hb
  replace Bba := bx_next Bba hb
  replace Bbc := bx_next Bbc hb
  replace Blf := bx_next Blf hb
  replace Brt := bx_next Brt hb
  replace Bse := bx_next Bse hb
  replace Bag := bx_next Bag hb
  replace Bwt := bx_next Bwt hb
  replace HB := bel_next HB hb
  clear hb
  go_wp2
  go_ret
  exact ⟨rfl, HB.out⟩
end Go.Proofs.Ytlhabbdihjeidaa
