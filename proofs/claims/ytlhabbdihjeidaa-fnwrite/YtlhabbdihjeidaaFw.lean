/- What a context knows is replaced, what it does not know stays: the law's walk. -/
import Derived.Test.YtlhabbdihjeidaaRows
import Derived.WalkKit
import Derived.WalkSpells
import Derived.WalkLawsBesides
import Derived.Deep.QuietTactic
import Derived.BigQuiet
import Derived.Deep.RegionHeld3
import Derived.Test.YtlhabbdihjeidaaFk
import Derived.LoopN
import Derived.Deep.Cut
import Derived.Deep.DeepCutAuto
namespace Go.Proofs.Ytlhabbdihjeidaa
open Go.RowKit
set_option linter.unusedSimpArgs false
set_option linter.unusedVariables false

/-- What the law of writes has in memory: the object, the context, the event, the bytes. -/
structure WF (W : World) (ba bc bd : Nat) (xa : Ov) (X Y Z : Int) (nd : Nat) (bo : Option Addr) (ln cp : Nat) (ys : List Int) : Prop where
  o : Bx W ba xa
  c : W.cell? ⟨bc, 0, none⟩ = some (.int .i64 X) ∧ W.cell? ⟨bc, 1, none⟩ = some (.int .i64 Y) ∧ W.cell? ⟨bc, 2, none⟩ = some (.int .i64 Z)
  d : W.cell? ⟨bd, 0, none⟩ = some (.int .i64 (nd : Int)) ∧ W.cell? ⟨bd, 1, none⟩ = some (.int .i64 100)
  r : Gen.IsRow .u8 W bo ln cp ys
theorem wf_next {W W' : World} {ba bc bd : Nat} {xa : Ov} {X Y Z : Int} {nd : Nat} {bo : Option Addr} {ln cp : Nat} {ys : List Int} (h : Hid (WF W ba bc bd xa X Y Z nd bo ln cp ys)) (hb : Below W.heap.size W W') : Hid (WF W' ba bc bd xa X Y Z nd bo ln cp ys) :=
  ⟨(bx_next h.out.o hb).out, ⟨cell_next hb h.out.c.1 (cell_lt h.out.c.1), cell_next hb h.out.c.2.1 (cell_lt h.out.c.1), cell_next hb h.out.c.2.2 (cell_lt h.out.c.1)⟩, ⟨cell_next hb h.out.d.1 (cell_lt h.out.d.1), cell_next hb h.out.d.2 (cell_lt h.out.d.1)⟩, row_below h.out.r hb⟩
theorem rc_next {W W' : World} {x : Ov} (h : Hid (SibRow W x.ao x.l ∧ x.l.length ≤ x.cap)) (hb : Below W.heap.size W W') : Hid (SibRow W' x.ao x.l ∧ x.l.length ≤ x.cap) := ⟨h.out.1.next hb, h.out.2⟩
theorem implLv0 (x : Ov) (hok : OkP x.l x.a x.b x.c) (hl : live x.l = []) (W : World) (hrx : SibRow W x.ao x.l) :
    Calls Try.prog 14 #[.agg #[.slice x.ao x.l.length x.cap, .int .i64 x.a, .int .i64 x.b, .int .i64 x.c]] W fun e w' => ∃ ao cap, e = .returned (.tuple #[.slice ao 0 cap, .int .i64 0]) ∧ Below W.heap.size W w' := by
  have := hok.1
  refine (implLive_any x.cap x.ao x.l x.a x.b x.c true ⟨fun _ => hok, fun _ => rfl⟩ W (by omega) hrx).mono ?_
  rintro e w' ⟨v, rfl, hG, hO⟩
  simp only [if_true] at hO
  obtain ⟨p, q, e, _⟩ := own_irow hO
  subst e
  refine ⟨p, q, ?_, gbl hG⟩
  rw [hl]
  rfl
theorem implCd (x : Ov) (X Y Z : Int) (r : Bool) (hok : OkP x.l x.a x.b x.c) (hv : vvB X Y Z = true) (hr : r = true ↔ Knows X Y Z x.l) (W : World) (hrx : SibRow W x.ao x.l) :
    Calls Try.prog 21 #[.agg #[.slice x.ao x.l.length x.cap, .int .i64 x.a, .int .i64 x.b, .int .i64 x.c], .agg #[.int .i64 X, .int .i64 Y, .int .i64 Z]] W fun e w' => e = .returned (.tuple #[.bool r, .int .i64 0]) ∧ Below W.heap.size W w' := by
  have := hok.1
  exact implCov_any x.cap x.ao x.l x.a x.b x.c X Y Z r true 0 ⟨fun _ => hok, fun _ => rfl⟩ ⟨fun _ => ⟨rfl, hr⟩, fun h => (h ⟨rfl, hv⟩).elim⟩ W (by omega) hrx
theorem lawSm (x y : Ov) (ha : Al x y) (hl : x.l.length ≤ 100) (W : World) (hrx : SibRow W x.ao x.l) (hry : SibRow W y.ao y.l) :
    Calls Try.prog 9 #[.agg #[.slice x.ao x.l.length x.cap, .int .i64 x.a, .int .i64 x.b, .int .i64 x.c], .agg #[.slice y.ao y.l.length y.cap, .int .i64 y.a, .int .i64 y.b, .int .i64 y.c]] W fun e w' => e = .returned (.bool true) ∧ Below W.heap.size W w' := by
  have l2 := hl
  rw [ha.1] at l2
  exact lsame_any x.cap y.cap x.ao y.ao x.l y.l x.a x.b x.c y.a y.b y.c true ⟨fun _ => same_of ha, fun _ => rfl⟩ W (by omega) (by omega) hrx hry
theorem implOk2 (x : Ov) (hok : OkP x.l x.a x.b x.c) (W : World) (hrx : SibRow W x.ao x.l) :
    Calls Try.prog 10 #[.agg #[.slice x.ao x.l.length x.cap, .int .i64 x.a, .int .i64 x.b, .int .i64 x.c]] W fun e w' => e = .returned (.bool true) ∧ Below W.heap.size W w' := by
  have := hok.1
  exact implOK_any x.cap x.ao x.l x.a x.b x.c true ⟨fun _ => hok, fun _ => rfl⟩ W (by omega) hrx

set_option maxRecDepth 100000 in
set_option maxHeartbeats 16000000 in
theorem law_fnWrite (ao : Option Addr) (len cap : Nat) (zs : List Int) (w : World) (hr0 : Gen.IsRow .u8 w ao len cap zs) (bo : Option Addr) (ln cp : Nat) (ys : List Int) (hr1 : Gen.IsRow .u8 w bo ln cp ys) :
    Calls Try.prog 5 #[.slice ao len cap, .slice bo ln cp] w fun e w' => e = .returned (.bool true) ∧ Below w.heap.size w w' := by
  by_cases h1 : 1048576 < (len : Int)
  · clear hr0 hr1
    go_enter Try.func5, Try.ntmps5
    go_wp2
    go_ret
    exact ⟨rfl, Below.refl _ _⟩
  by_cases h2 : 1048576 < (ln : Int)
  · clear hr0 hr1
    go_enter Try.func5, Try.ntmps5
    go_wp2
    go_ret
    exact ⟨rfl, Below.refl _ _⟩
  have CO : Hid _ := objsOf_any ao len cap zs w (by omega) hr0
  obtain ⟨nd, hnd, hA0⟩ := at_all bo ln cp ys 0 3 w (by omega) (by omega) (by omega) (by omega) (by omega) hr1
  obtain ⟨vv, hvv, hA1⟩ := at_all bo ln cp ys 1 900 w (by omega) (by omega) (by omega) (by omega) (by omega) hr1
  have HAD : Hid (∀ W : World, Gen.IsRow .u8 W bo ln cp ys → Calls Try.prog 17 #[.slice bo ln cp, .int .i64 0, .int .i64 3] W fun e w' => e = .returned (.int .i64 (nd : Int)) ∧ Below W.heap.size W w') := hA0
  have HAT : Hid (∀ W : World, Gen.IsRow .u8 W bo ln cp ys → Calls Try.prog 17 #[.slice bo ln cp, .int .i64 1, .int .i64 900] W fun e w' => e = .returned (.int .i64 (vv : Int)) ∧ Below W.heap.size W w') := hA1
  have HRM : Hid (Gen.IsRow .u8 w bo ln cp ys) := hr1
  have HV9 : Hid (0 ≤ (vv : Int) ∧ (vv : Int) ≤ 999) := ⟨by omega, by omega⟩
  clear hr0 hr1 hA0 hA1 hvv
  go_enter Try.func5, Try.ntmps5
  go_wp2_with fail
  refine Calls.mono CO.out ?_
  rintro e W0 ⟨V, m, o, q, rfl, hob, hro, hrp, hm, hb⟩
  clear CO
  have HM : Hid (H17 m) := hm
  have HB : Hid (Below w.heap.size w W0) := hb
  have PA : Hid (RpO V m (o 0)) := hrp 0 (by omega)
  have HX : Hid ((o 1).a ≤ 17 ∧ (o 1).b ≤ 17 ∧ (o 1).c ≤ 17) := by
    have h3 := (hrp 1 (by omega)).le
    have h4 := hm
    exact ⟨by omega, by omega, by omega⟩
  have HX0 : Hid (0 ≤ (o 1).a ∧ 0 ≤ (o 1).b ∧ 0 ≤ (o 1).c) := (hrp 1 (by omega)).pos
  have RA : Hid (SibRow W0 (o 0).ao (o 0).l ∧ (o 0).l.length ≤ (o 0).cap) := hro 0 (by omega)
  have HLa : Hid ((o 0).l.length ≤ 100) := by
    have := (hrp 0 (by omega)).len hm.1 hm.2.1 hm.2.2
    show _ ≤ _
    omega
  obtain ⟨a0, a1, a2, a3, b0, b1, b2, b3, c0, c1, c2, c3⟩ := ll_of hob
  clear hob hro hrp hm hb b0 c0 c1 c2 c3
  replace HRM : Hid (Gen.IsRow .u8 W0 bo ln cp ys) := row_below HRM.out HB.out
  generalize o 0 = xa at *
  generalize (o 1).a = X at *
  generalize (o 1).b = Y at *
  generalize (o 1).c = Z at *
  have HB1 : Hid (Below w.heap.size w ((W0.alloc (.cells #[.slice xa.ao xa.l.length xa.cap, .int .i64 xa.a, .int .i64 xa.b, .int .i64 xa.c] 29)).alloc (.cells #[.int .i64 X, .int .i64 Y, .int .i64 Z] 27))) := bel_next (bel_next HB (bel_alloc _ _)) (bel_alloc _ _)
  have Ba : Hid (Bx ((W0.alloc (.cells #[.slice xa.ao xa.l.length xa.cap, .int .i64 xa.a, .int .i64 xa.b, .int .i64 xa.c] 29)).alloc (.cells #[.int .i64 X, .int .i64 Y, .int .i64 Z] 27)) W0.heap.size xa) := bx_next (bx_new RA.out.1 RA.out.2) (bel_alloc _ _)
  have HR1 : Hid (Gen.IsRow .u8 ((W0.alloc (.cells #[.slice xa.ao xa.l.length xa.cap, .int .i64 xa.a, .int .i64 xa.b, .int .i64 xa.c] 29)).alloc (.cells #[.int .i64 X, .int .i64 Y, .int .i64 Z] 27)) bo ln cp ys) := row_below (row_below HRM.out (bel_alloc _ _)) (bel_alloc _ _)
  have CC : Hid (((W0.alloc (.cells #[.slice xa.ao xa.l.length xa.cap, .int .i64 xa.a, .int .i64 xa.b, .int .i64 xa.c] 29)).alloc (.cells #[.int .i64 X, .int .i64 Y, .int .i64 Z] 27)).cell? ⟨W0.heap.size + 1, 0, none⟩ = some (.int .i64 X) ∧ ((W0.alloc (.cells #[.slice xa.ao xa.l.length xa.cap, .int .i64 xa.a, .int .i64 xa.b, .int .i64 xa.c] 29)).alloc (.cells #[.int .i64 X, .int .i64 Y, .int .i64 Z] 27)).cell? ⟨W0.heap.size + 1, 1, none⟩ = some (.int .i64 Y) ∧ ((W0.alloc (.cells #[.slice xa.ao xa.l.length xa.cap, .int .i64 xa.a, .int .i64 xa.b, .int .i64 xa.c] 29)).alloc (.cells #[.int .i64 X, .int .i64 Y, .int .i64 Z] 27)).cell? ⟨W0.heap.size + 1, 2, none⟩ = some (.int .i64 Z)) := by refine ⟨?_, ?_, ?_⟩ <;> go_simp
  have e0 : ∀ o1 i v, W0.cell? ⟨q, i, none⟩ = some v → (W0.alloc o1).cell? ⟨q, i, none⟩ = some v := fun o1 i v h => cell_next (bel_alloc _ _) h (cell_lt h)
  have b1' := e0 (.cells #[.slice xa.ao xa.l.length xa.cap, .int .i64 xa.a, .int .i64 xa.b, .int .i64 xa.c] 29) _ _ b1
  have b2' := e0 (.cells #[.slice xa.ao xa.l.length xa.cap, .int .i64 xa.a, .int .i64 xa.b, .int .i64 xa.c] 29) _ _ b2
  have b3' := e0 (.cells #[.slice xa.ao xa.l.length xa.cap, .int .i64 xa.a, .int .i64 xa.b, .int .i64 xa.c] 29) _ _ b3
  clear e0
  go_wp2_with fail
  clear a0 a1 a2 a3 b1 b2 b3 b1' b2' b3' HB RA HRM
  generalize ((W0.alloc (.cells #[.slice xa.ao xa.l.length xa.cap, .int .i64 xa.a, .int .i64 xa.b, .int .i64 xa.c] 29)).alloc (.cells #[.int .i64 X, .int .i64 Y, .int .i64 Z] 27)) = W1 at *
  have hbc : W0.heap.size + 1 = W0.heap.size + 1 := rfl
  generalize W0.heap.size + 1 = bc at *
  generalize W0.heap.size = ba at *
  clear hbc
  refine Calls.mono (HAD.out _ HR1.out) ?_
  rintro e W2 ⟨rfl, hb⟩
  have hb2 := bel_alloc W2 (.cells #[.int .i64 (nd : Int), .int .i64 100] 43)
  have WFF : Hid (WF (W2.alloc (.cells #[.int .i64 (nd : Int), .int .i64 100] 43)) ba bc W2.heap.size xa X Y Z nd bo ln cp ys) := ⟨(bx_next (bx_next Ba hb) hb2).out, ⟨cell_next hb2 (cell_next hb CC.out.1 (cell_lt CC.out.1)) (Nat.lt_of_lt_of_le (cell_lt CC.out.1) hb.size), cell_next hb2 (cell_next hb CC.out.2.1 (cell_lt CC.out.1)) (Nat.lt_of_lt_of_le (cell_lt CC.out.1) hb.size), cell_next hb2 (cell_next hb CC.out.2.2 (cell_lt CC.out.1)) (Nat.lt_of_lt_of_le (cell_lt CC.out.1) hb.size)⟩, ⟨by go_simp, by go_simp⟩, row_below (row_below HR1.out hb) hb2⟩
  have HB : Hid (Below w.heap.size w (W2.alloc (.cells #[.int .i64 (nd : Int), .int .i64 100] 43))) := bel_next (bel_next HB1 hb) hb2
  clear hb hb2 HB1 Ba HR1 CC HAD
  obtain ⟨J, P, Q, R, hWX⟩ : ∃ J P Q R, WX xa X Y Z nd (vv : Int) J P Q R := ⟨_, _, _, _, rfl, rfl, rfl, rfl⟩
  have HXX : Hid (WX xa X Y Z nd (vv : Int) J P Q R) := hWX
  have HW1 : Hid (WRel xa.l xa.a xa.b xa.c X Y Z ⟨(nd : Int), 100, (vv : Int), false⟩ J P Q R 0) := hWX.first PA.out HM.out HX.out HX0.out hnd HV9.out
  clear hWX
  go_upto_region 7 with fail
  generalize W2.alloc (.cells #[.int .i64 (nd : Int), .int .i64 100] 43) = W7 at *
  generalize W2.heap.size = bd at *
  go_cut [9, 10] from 47 to 55 (fun s9 s10 wc => ∃ (gx : Nat) (xx : Ov), s9 = .pointer (some ⟨gx, 0, none⟩) ∧ s10 = .int .i64 0 ∧ Bx wc gx xx ∧ (xx.l = J ∧ xx.a = P ∧ xx.b = Q ∧ xx.c = R) ∧ Below W7.heap.size W7 wc)
  case first =>
    refine wp_region_held_drew (S := (fun w' => (w'.cell? ⟨ba, 0, none⟩ = some (.slice xa.ao xa.l.length xa.cap) ∧ w'.cell? ⟨ba, 1, none⟩ = some (.int .i64 xa.a) ∧ w'.cell? ⟨ba, 2, none⟩ = some (.int .i64 xa.b) ∧ w'.cell? ⟨ba, 3, none⟩ = some (.int .i64 xa.c)) ∧ (w'.cell? ⟨bc, 0, none⟩ = some (.int .i64 X) ∧ w'.cell? ⟨bc, 1, none⟩ = some (.int .i64 Y) ∧ w'.cell? ⟨bc, 2, none⟩ = some (.int .i64 Z)) ∧ w'.cell? ⟨bd, 0, none⟩ = some (.int .i64 (nd : Int)) ∧ w'.cell? ⟨bd, 1, none⟩ = some (.int .i64 100))) (by kernel_rfl) ⟨WFF.out.o.cells, WFF.out.c, WFF.out.d⟩ (fun hHeld => ?_)
    have WX1 := wf_next WFF (bel_drew _)
    have BW : Hid (Below W7.heap.size W7 W7.drew) := bel_drew _
    refine wpAnyH_take (i := 0) (v := ?_) rfl (by kernel_rfl) (by kernel_rfl) (by kernel_rfl) (fun _ _ _ h => h) (Or.inl ⟨by rfl, ?_⟩) (by assumption) ?_
    rotate_left
    · intro w' hSw
      (try dsimp only at hSw)
      go_simp
      all_goals (try with_reducible rfl)
    (try simp only [Act.put, List.getElem_toArray, List.getElem_cons_zero, List.getElem_cons_succ, List.setIfInBounds_toArray, List.set_cons_zero, List.set_cons_succ])
    refine wpAnyH_take (i := 1) (v := ?_) rfl (by kernel_rfl) (by kernel_rfl) (by kernel_rfl) (fun _ _ _ h => h) (Or.inl ⟨by rfl, ?_⟩) (by assumption) ?_
    rotate_left
    · intro w' hSw
      (try dsimp only at hSw)
      go_simp
      all_goals (try with_reducible rfl)
    (try simp only [Act.put, List.getElem_toArray, List.getElem_cons_zero, List.getElem_cons_succ, List.setIfInBounds_toArray, List.set_cons_zero, List.set_cons_succ])
    refine wpAnyH_take (i := 2) (v := ?_) rfl (by kernel_rfl) (by kernel_rfl) (by kernel_rfl) (fun _ _ _ h => h) (Or.inl ⟨by rfl, ?_⟩) (by assumption) ?_
    rotate_left
    · intro w' hSw
      (try dsimp only at hSw)
      go_simp
      all_goals (try with_reducible rfl)
    (try simp only [Act.put, List.getElem_toArray, List.getElem_cons_zero, List.getElem_cons_succ, List.setIfInBounds_toArray, List.set_cons_zero, List.set_cons_succ])
    refine wpAnyH_take (i := 3) (v := ?_) rfl (by kernel_rfl) (by kernel_rfl) (by kernel_rfl) (fun _ _ _ h => h) (Or.inl ⟨by rfl, ?_⟩) (by assumption) ?_
    rotate_left
    · intro w' hSw
      (try dsimp only at hSw)
      go_simp
      all_goals (try with_reducible rfl)
    (try simp only [Act.put, List.getElem_toArray, List.getElem_cons_zero, List.getElem_cons_succ, List.setIfInBounds_toArray, List.set_cons_zero, List.set_cons_succ])
    generalize W7.drew = wd at *
    refine wpAnyH_ready (rs := [4, 9]) (by kernel_rfl) (by simp) ?_
    refine AllReadyH.cons rfl (fun K hK => ?_) (AllReadyH.cons rfl (fun K hK => ?_) AllReadyH.nil)
    · (try simp only [Act.put, List.getElem_toArray, List.getElem_cons_zero, List.getElem_cons_succ, List.setIfInBounds_toArray, List.set_cons_zero, List.set_cons_succ])
      go_simp
      go_at_call 17
      refine Calls.mono (HAT.out _ WX1.out.r) ?_
      rintro e x1 ⟨rfl, hb⟩
      replace WX1 := wf_next WX1 hb
      replace BW := bel_next BW hb
      clear hb
      refine hK.out _ _ ?_ (fun hHeld' => ?_)
      · (try dsimp only)
        exact ⟨WX1.out.o.cells, WX1.out.c, WX1.out.d⟩
      clear hK K hHeld
      have hHeld := hHeld'
      clear hHeld'
      (try simp only [Act.put, List.getElem_toArray, List.getElem_cons_zero, List.getElem_cons_succ, List.setIfInBounds_toArray, List.set_cons_zero, List.set_cons_succ])
      refine wpAnyH_ready (rs := [5, 9]) (by kernel_rfl) (by simp) ?_
      refine AllReadyH.cons rfl (fun K hK => ?_) (AllReadyH.cons rfl (fun K hK => ?_) AllReadyH.nil)
      · (try simp only [Act.put, List.getElem_toArray, List.getElem_cons_zero, List.getElem_cons_succ, List.setIfInBounds_toArray, List.set_cons_zero, List.set_cons_succ])
        go_simp
        go_at_call 18
        refine Calls.mono (implWr xa X Y Z (nd : Int) 100 (vv : Int) false J P Q R 0 HW1.out _ HLa.out WX1.out.o.row) ?_
        rintro e x2 ⟨xx, hE, rfl, hb, hr, hc, hfr⟩
        have EQ : Hid (xx.l = J ∧ xx.a = P ∧ xx.b = Q ∧ xx.c = R) := hE
        have RX : Hid (SibRow x2 xx.ao xx.l ∧ xx.l.length ≤ xx.cap) := ⟨hr, hc⟩
        replace WX1 := wf_next WX1 hb
        replace BW := bel_next BW hb
        clear hE hr hc hfr hb
        refine hK.out _ _ ?_ (fun hHeld' => ?_)
        · (try dsimp only)
          exact ⟨WX1.out.o.cells, WX1.out.c, WX1.out.d⟩
        clear hK K hHeld
        have hHeld := hHeld'
        clear hHeld'
        (try simp only [Act.put, List.getElem_toArray, List.getElem_cons_zero, List.getElem_cons_succ, List.setIfInBounds_toArray, List.set_cons_zero, List.set_cons_succ])
        refine wpAnyH_take (i := 6) (v := ?_) rfl (by kernel_rfl) (by kernel_rfl) (by kernel_rfl) (fun _ _ _ h => h) (Or.inl ⟨by rfl, ?_⟩) (by assumption) ?_
        rotate_left
        · intro w' hSw
          (try dsimp only at hSw)
          go_simp
          all_goals (try with_reducible rfl)
        (try simp only [Act.put, List.getElem_toArray, List.getElem_cons_zero, List.getElem_cons_succ, List.setIfInBounds_toArray, List.set_cons_zero, List.set_cons_succ])
        refine wpAnyH_take (i := 7) (v := ?_) rfl (by kernel_rfl) (by kernel_rfl) (by kernel_rfl) (fun _ _ _ h => h) (Or.inl ⟨by rfl, ?_⟩) (by assumption) ?_
        rotate_left
        · intro w' hSw
          (try dsimp only at hSw)
          go_simp
          all_goals (try with_reducible rfl)
        (try simp only [Act.put, List.getElem_toArray, List.getElem_cons_zero, List.getElem_cons_succ, List.setIfInBounds_toArray, List.set_cons_zero, List.set_cons_succ])
        refine wpAnyH_take (i := 8) (v := ?_) rfl (by kernel_rfl) (by kernel_rfl) (by kernel_rfl) (fun _ _ _ h => h) (Or.inl ⟨by rfl, ?_⟩) (by assumption) ?_
        rotate_left
        · intro w' hSw
          (try dsimp only at hSw)
          go_simp
          all_goals (try with_reducible rfl)
        (try simp only [Act.put, List.getElem_toArray, List.getElem_cons_zero, List.getElem_cons_succ, List.setIfInBounds_toArray, List.set_cons_zero, List.set_cons_succ])
        refine wpAnyH_ready (rs := [9]) (by kernel_rfl) (by simp) ?_
        refine AllReadyH.cons rfl (fun K hK => ?_) AllReadyH.nil
        (try simp only [Act.put, List.getElem_toArray, List.getElem_cons_zero, List.getElem_cons_succ, List.setIfInBounds_toArray, List.set_cons_zero, List.set_cons_succ])
        go_simp
        (try simp only [])
        have hb := bel_alloc x2 (.cells #[.slice none 0 0, .int .i64 0, .int .i64 0, .int .i64 0] 29)
        have TH : Hid (There (x2.alloc (.cells #[.slice none 0 0, .int .i64 0, .int .i64 0, .int .i64 0] 29)) x2.heap.size 4) := there_new
        have LG : Hid (x2.heap.size < (x2.alloc (.cells #[.slice none 0 0, .int .i64 0, .int .i64 0, .int .i64 0] 29)).heap.size) := by show _ < _; simp
        have GW : Hid (W7.heap.size ≤ x2.heap.size) := BW.out.size
        have NE : Hid (∀ r, xx.ao = some r → xx.l ≠ [] → r.block ≠ x2.heap.size) := fun r h1 h2 => Nat.ne_of_lt (row_ltS RX.out.1 r h1 h2)
        replace RX := rc_next RX hb
        have G1 : Hid (ba ≠ x2.heap.size ∧ bc ≠ x2.heap.size ∧ bd ≠ x2.heap.size) := ⟨Nat.ne_of_lt (cell_lt WX1.out.o.cells.1), Nat.ne_of_lt (cell_lt WX1.out.c.1), Nat.ne_of_lt (cell_lt WX1.out.d.1)⟩
        replace WX1 := wf_next WX1 hb
        replace BW := bel_next BW hb
        clear hb
        refine hK.out _ _ ?_ (fun hHeld' => ?_)
        · (try dsimp only)
          exact ⟨WX1.out.o.cells, WX1.out.c, WX1.out.d⟩
        clear hK K hHeld
        have hHeld := hHeld'
        clear hHeld'
        (try simp only [Act.put, List.getElem_toArray, List.getElem_cons_zero, List.getElem_cons_succ, List.setIfInBounds_toArray, List.set_cons_zero, List.set_cons_succ])
        generalize x2.alloc (.cells #[.slice none 0 0, .int .i64 0, .int .i64 0, .int .i64 0] 29) = wa at *
        generalize x2.heap.size = gx at *
        have BX2 : Hid (Bx ((((wa.setCell ⟨gx, 0, none⟩ (.slice xx.ao xx.l.length xx.cap)).setCell ⟨gx, 1, none⟩ (.int .i64 xx.a)).setCell ⟨gx, 2, none⟩ (.int .i64 xx.b)).setCell ⟨gx, 3, none⟩ (.int .i64 xx.c)) gx xx) := ⟨set4_cells TH.out, row_set (row_set (row_set (row_set RX.out.1 NE.out) NE.out) NE.out) NE.out, RX.out.2⟩
        have BW2 : Hid (Below W7.heap.size W7 ((((wa.setCell ⟨gx, 0, none⟩ (.slice xx.ao xx.l.length xx.cap)).setCell ⟨gx, 1, none⟩ (.int .i64 xx.a)).setCell ⟨gx, 2, none⟩ (.int .i64 xx.b)).setCell ⟨gx, 3, none⟩ (.int .i64 xx.c))) := below_set4 BW.out GW.out
        obtain ⟨u0, T0⟩ := Option.isSome_iff_exists.1 (TH.out 0 (by omega)).1
        have Z0 := (TH.out 0 (by omega)).2
        obtain ⟨u1, T1⟩ := Option.isSome_iff_exists.1 (TH.out 1 (by omega)).1
        have Z1 := (TH.out 1 (by omega)).2
        obtain ⟨u2, T2⟩ := Option.isSome_iff_exists.1 (TH.out 2 (by omega)).1
        have Z2 := (TH.out 2 (by omega)).2
        obtain ⟨u3, T3⟩ := Option.isSome_iff_exists.1 (TH.out 3 (by omega)).1
        have Z3 := (TH.out 3 (by omega)).2
        refine wpAnyH_ready (rs := [10]) (by kernel_rfl) (by simp) ?_
        refine AllReadyH.cons rfl (fun K hK => ?_) AllReadyH.nil
        (try simp only [Act.put, List.getElem_toArray, List.getElem_cons_zero, List.getElem_cons_succ, List.setIfInBounds_toArray, List.set_cons_zero, List.set_cons_succ])
        go_simp
        (try simp only [])
        refine hK.out _ _ ?_ (fun hHeld' => ?_)
        · (try dsimp only)
          exact ⟨⟨cell_set (cell_set (cell_set (cell_set WX1.out.o.cells.1 G1.out.1) G1.out.1) G1.out.1) G1.out.1, cell_set (cell_set (cell_set (cell_set WX1.out.o.cells.2.1 G1.out.1) G1.out.1) G1.out.1) G1.out.1, cell_set (cell_set (cell_set (cell_set WX1.out.o.cells.2.2.1 G1.out.1) G1.out.1) G1.out.1) G1.out.1, cell_set (cell_set (cell_set (cell_set WX1.out.o.cells.2.2.2 G1.out.1) G1.out.1) G1.out.1) G1.out.1⟩, ⟨cell_set (cell_set (cell_set (cell_set WX1.out.c.1 G1.out.2.1) G1.out.2.1) G1.out.2.1) G1.out.2.1, cell_set (cell_set (cell_set (cell_set WX1.out.c.2.1 G1.out.2.1) G1.out.2.1) G1.out.2.1) G1.out.2.1, cell_set (cell_set (cell_set (cell_set WX1.out.c.2.2 G1.out.2.1) G1.out.2.1) G1.out.2.1) G1.out.2.1⟩, cell_set (cell_set (cell_set (cell_set WX1.out.d.1 G1.out.2.2) G1.out.2.2) G1.out.2.2) G1.out.2.2, cell_set (cell_set (cell_set (cell_set WX1.out.d.2 G1.out.2.2) G1.out.2.2) G1.out.2.2) G1.out.2.2⟩
        clear hK K hHeld
        have hHeld := hHeld'
        clear hHeld'
        (try simp only [Act.put, List.getElem_toArray, List.getElem_cons_zero, List.getElem_cons_succ, List.setIfInBounds_toArray, List.set_cons_zero, List.set_cons_succ])
        refine wpAnyH_take (i := 11) (v := ?_) rfl (by kernel_rfl) (by kernel_rfl) (by kernel_rfl) (fun _ _ _ h => h) (Or.inl ⟨by rfl, ?_⟩) (by assumption) ?_
        rotate_left
        · intro w' hSw
          (try dsimp only at hSw)
          go_simp
          all_goals (try with_reducible rfl)
        (try simp only [Act.put, List.getElem_toArray, List.getElem_cons_zero, List.getElem_cons_succ, List.setIfInBounds_toArray, List.set_cons_zero, List.set_cons_succ])
        refine wpAnyH_done (by kernel_rfl) ?_ _
        clear T0 Z0 T1 Z1 T2 Z2 T3 Z3 hHeld
        go_wp2
        go_meet
        case rel => exact ⟨gx, xx, rfl, rfl, BX2.out, EQ.out, BW2.out⟩
      · (try simp only [Act.put, List.getElem_toArray, List.getElem_cons_zero, List.getElem_cons_succ, List.setIfInBounds_toArray, List.set_cons_zero, List.set_cons_succ])
        go_simp
        (try simp only [])
        have hb := bel_alloc x1 (.cells #[.slice none 0 0, .int .i64 0, .int .i64 0, .int .i64 0] 29)
        have TH : Hid (There (x1.alloc (.cells #[.slice none 0 0, .int .i64 0, .int .i64 0, .int .i64 0] 29)) x1.heap.size 4) := there_new
        have LG : Hid (x1.heap.size < (x1.alloc (.cells #[.slice none 0 0, .int .i64 0, .int .i64 0, .int .i64 0] 29)).heap.size) := by show _ < _; simp
        have GW : Hid (W7.heap.size ≤ x1.heap.size) := BW.out.size
        have G1 : Hid (ba ≠ x1.heap.size ∧ bc ≠ x1.heap.size ∧ bd ≠ x1.heap.size) := ⟨Nat.ne_of_lt (cell_lt WX1.out.o.cells.1), Nat.ne_of_lt (cell_lt WX1.out.c.1), Nat.ne_of_lt (cell_lt WX1.out.d.1)⟩
        replace WX1 := wf_next WX1 hb
        replace BW := bel_next BW hb
        clear hb
        refine hK.out _ _ ?_ (fun hHeld' => ?_)
        · (try dsimp only)
          exact ⟨WX1.out.o.cells, WX1.out.c, WX1.out.d⟩
        clear hK K hHeld
        have hHeld := hHeld'
        clear hHeld'
        (try simp only [Act.put, List.getElem_toArray, List.getElem_cons_zero, List.getElem_cons_succ, List.setIfInBounds_toArray, List.set_cons_zero, List.set_cons_succ])
        generalize x1.alloc (.cells #[.slice none 0 0, .int .i64 0, .int .i64 0, .int .i64 0] 29) = wa at *
        generalize x1.heap.size = gx at *
        refine wpAnyH_ready (rs := [5]) (by kernel_rfl) (by simp) ?_
        refine AllReadyH.cons rfl (fun K hK => ?_) AllReadyH.nil
        (try simp only [Act.put, List.getElem_toArray, List.getElem_cons_zero, List.getElem_cons_succ, List.setIfInBounds_toArray, List.set_cons_zero, List.set_cons_succ])
        go_simp
        go_at_call 18
        refine Calls.mono (implWr xa X Y Z (nd : Int) 100 (vv : Int) false J P Q R 0 HW1.out _ HLa.out WX1.out.o.row) ?_
        rintro e x2 ⟨xx, hE, rfl, hb, hr, hc, hfr⟩
        have EQ : Hid (xx.l = J ∧ xx.a = P ∧ xx.b = Q ∧ xx.c = R) := hE
        have RX : Hid (SibRow x2 xx.ao xx.l ∧ xx.l.length ≤ xx.cap) := ⟨hr, hc⟩
        replace WX1 := wf_next WX1 hb
        replace BW := bel_next BW hb
        have NE : Hid (∀ r, xx.ao = some r → xx.l ≠ [] → r.block ≠ gx) := fun r h1 h2 => by have h3 := hfr r h1 h2; have h4 := LG.out; omega
        replace TH := th_next TH hb LG
        replace LG := lt_next LG hb
        clear hE hr hc hfr hb
        refine hK.out _ _ ?_ (fun hHeld' => ?_)
        · (try dsimp only)
          exact ⟨WX1.out.o.cells, WX1.out.c, WX1.out.d⟩
        clear hK K hHeld
        have hHeld := hHeld'
        clear hHeld'
        (try simp only [Act.put, List.getElem_toArray, List.getElem_cons_zero, List.getElem_cons_succ, List.setIfInBounds_toArray, List.set_cons_zero, List.set_cons_succ])
        refine wpAnyH_take (i := 6) (v := ?_) rfl (by kernel_rfl) (by kernel_rfl) (by kernel_rfl) (fun _ _ _ h => h) (Or.inl ⟨by rfl, ?_⟩) (by assumption) ?_
        rotate_left
        · intro w' hSw
          (try dsimp only at hSw)
          go_simp
          all_goals (try with_reducible rfl)
        (try simp only [Act.put, List.getElem_toArray, List.getElem_cons_zero, List.getElem_cons_succ, List.setIfInBounds_toArray, List.set_cons_zero, List.set_cons_succ])
        refine wpAnyH_take (i := 7) (v := ?_) rfl (by kernel_rfl) (by kernel_rfl) (by kernel_rfl) (fun _ _ _ h => h) (Or.inl ⟨by rfl, ?_⟩) (by assumption) ?_
        rotate_left
        · intro w' hSw
          (try dsimp only at hSw)
          go_simp
          all_goals (try with_reducible rfl)
        (try simp only [Act.put, List.getElem_toArray, List.getElem_cons_zero, List.getElem_cons_succ, List.setIfInBounds_toArray, List.set_cons_zero, List.set_cons_succ])
        refine wpAnyH_take (i := 8) (v := ?_) rfl (by kernel_rfl) (by kernel_rfl) (by kernel_rfl) (fun _ _ _ h => h) (Or.inl ⟨by rfl, ?_⟩) (by assumption) ?_
        rotate_left
        · intro w' hSw
          (try dsimp only at hSw)
          go_simp
          all_goals (try with_reducible rfl)
        (try simp only [Act.put, List.getElem_toArray, List.getElem_cons_zero, List.getElem_cons_succ, List.setIfInBounds_toArray, List.set_cons_zero, List.set_cons_succ])
        have BX2 : Hid (Bx ((((x2.setCell ⟨gx, 0, none⟩ (.slice xx.ao xx.l.length xx.cap)).setCell ⟨gx, 1, none⟩ (.int .i64 xx.a)).setCell ⟨gx, 2, none⟩ (.int .i64 xx.b)).setCell ⟨gx, 3, none⟩ (.int .i64 xx.c)) gx xx) := ⟨set4_cells TH.out, row_set (row_set (row_set (row_set RX.out.1 NE.out) NE.out) NE.out) NE.out, RX.out.2⟩
        have BW2 : Hid (Below W7.heap.size W7 ((((x2.setCell ⟨gx, 0, none⟩ (.slice xx.ao xx.l.length xx.cap)).setCell ⟨gx, 1, none⟩ (.int .i64 xx.a)).setCell ⟨gx, 2, none⟩ (.int .i64 xx.b)).setCell ⟨gx, 3, none⟩ (.int .i64 xx.c))) := below_set4 BW.out GW.out
        obtain ⟨u0, T0⟩ := Option.isSome_iff_exists.1 (TH.out 0 (by omega)).1
        have Z0 := (TH.out 0 (by omega)).2
        obtain ⟨u1, T1⟩ := Option.isSome_iff_exists.1 (TH.out 1 (by omega)).1
        have Z1 := (TH.out 1 (by omega)).2
        obtain ⟨u2, T2⟩ := Option.isSome_iff_exists.1 (TH.out 2 (by omega)).1
        have Z2 := (TH.out 2 (by omega)).2
        obtain ⟨u3, T3⟩ := Option.isSome_iff_exists.1 (TH.out 3 (by omega)).1
        have Z3 := (TH.out 3 (by omega)).2
        refine wpAnyH_ready (rs := [10]) (by kernel_rfl) (by simp) ?_
        refine AllReadyH.cons rfl (fun K hK => ?_) AllReadyH.nil
        (try simp only [Act.put, List.getElem_toArray, List.getElem_cons_zero, List.getElem_cons_succ, List.setIfInBounds_toArray, List.set_cons_zero, List.set_cons_succ])
        go_simp
        (try simp only [])
        refine hK.out _ _ ?_ (fun hHeld' => ?_)
        · (try dsimp only)
          exact ⟨⟨cell_set (cell_set (cell_set (cell_set WX1.out.o.cells.1 G1.out.1) G1.out.1) G1.out.1) G1.out.1, cell_set (cell_set (cell_set (cell_set WX1.out.o.cells.2.1 G1.out.1) G1.out.1) G1.out.1) G1.out.1, cell_set (cell_set (cell_set (cell_set WX1.out.o.cells.2.2.1 G1.out.1) G1.out.1) G1.out.1) G1.out.1, cell_set (cell_set (cell_set (cell_set WX1.out.o.cells.2.2.2 G1.out.1) G1.out.1) G1.out.1) G1.out.1⟩, ⟨cell_set (cell_set (cell_set (cell_set WX1.out.c.1 G1.out.2.1) G1.out.2.1) G1.out.2.1) G1.out.2.1, cell_set (cell_set (cell_set (cell_set WX1.out.c.2.1 G1.out.2.1) G1.out.2.1) G1.out.2.1) G1.out.2.1, cell_set (cell_set (cell_set (cell_set WX1.out.c.2.2 G1.out.2.1) G1.out.2.1) G1.out.2.1) G1.out.2.1⟩, cell_set (cell_set (cell_set (cell_set WX1.out.d.1 G1.out.2.2) G1.out.2.2) G1.out.2.2) G1.out.2.2, cell_set (cell_set (cell_set (cell_set WX1.out.d.2 G1.out.2.2) G1.out.2.2) G1.out.2.2) G1.out.2.2⟩
        clear hK K hHeld
        have hHeld := hHeld'
        clear hHeld'
        (try simp only [Act.put, List.getElem_toArray, List.getElem_cons_zero, List.getElem_cons_succ, List.setIfInBounds_toArray, List.set_cons_zero, List.set_cons_succ])
        refine wpAnyH_take (i := 11) (v := ?_) rfl (by kernel_rfl) (by kernel_rfl) (by kernel_rfl) (fun _ _ _ h => h) (Or.inl ⟨by rfl, ?_⟩) (by assumption) ?_
        rotate_left
        · intro w' hSw
          (try dsimp only at hSw)
          go_simp
          all_goals (try with_reducible rfl)
        (try simp only [Act.put, List.getElem_toArray, List.getElem_cons_zero, List.getElem_cons_succ, List.setIfInBounds_toArray, List.set_cons_zero, List.set_cons_succ])
        refine wpAnyH_done (by kernel_rfl) ?_ _
        clear T0 Z0 T1 Z1 T2 Z2 T3 Z3 hHeld
        go_wp2
        go_meet
        case rel => exact ⟨gx, xx, rfl, rfl, BX2.out, EQ.out, BW2.out⟩
    · (try simp only [Act.put, List.getElem_toArray, List.getElem_cons_zero, List.getElem_cons_succ, List.setIfInBounds_toArray, List.set_cons_zero, List.set_cons_succ])
      go_simp
      (try simp only [])
      have hb := bel_alloc wd (.cells #[.slice none 0 0, .int .i64 0, .int .i64 0, .int .i64 0] 29)
      have TH : Hid (There (wd.alloc (.cells #[.slice none 0 0, .int .i64 0, .int .i64 0, .int .i64 0] 29)) wd.heap.size 4) := there_new
      have LG : Hid (wd.heap.size < (wd.alloc (.cells #[.slice none 0 0, .int .i64 0, .int .i64 0, .int .i64 0] 29)).heap.size) := by show _ < _; simp
      have GW : Hid (W7.heap.size ≤ wd.heap.size) := BW.out.size
      have G1 : Hid (ba ≠ wd.heap.size ∧ bc ≠ wd.heap.size ∧ bd ≠ wd.heap.size) := ⟨Nat.ne_of_lt (cell_lt WX1.out.o.cells.1), Nat.ne_of_lt (cell_lt WX1.out.c.1), Nat.ne_of_lt (cell_lt WX1.out.d.1)⟩
      replace WX1 := wf_next WX1 hb
      replace BW := bel_next BW hb
      clear hb
      refine hK.out _ _ ?_ (fun hHeld' => ?_)
      · (try dsimp only)
        exact ⟨WX1.out.o.cells, WX1.out.c, WX1.out.d⟩
      clear hK K hHeld
      have hHeld := hHeld'
      clear hHeld'
      (try simp only [Act.put, List.getElem_toArray, List.getElem_cons_zero, List.getElem_cons_succ, List.setIfInBounds_toArray, List.set_cons_zero, List.set_cons_succ])
      generalize wd.alloc (.cells #[.slice none 0 0, .int .i64 0, .int .i64 0, .int .i64 0] 29) = wa at *
      generalize wd.heap.size = gx at *
      refine wpAnyH_ready (rs := [4]) (by kernel_rfl) (by simp) ?_
      refine AllReadyH.cons rfl (fun K hK => ?_) AllReadyH.nil
      (try simp only [Act.put, List.getElem_toArray, List.getElem_cons_zero, List.getElem_cons_succ, List.setIfInBounds_toArray, List.set_cons_zero, List.set_cons_succ])
      go_simp
      go_at_call 17
      refine Calls.mono (HAT.out _ WX1.out.r) ?_
      rintro e x1 ⟨rfl, hb⟩
      replace WX1 := wf_next WX1 hb
      replace BW := bel_next BW hb
      replace TH := th_next TH hb LG
      replace LG := lt_next LG hb
      clear hb
      refine hK.out _ _ ?_ (fun hHeld' => ?_)
      · (try dsimp only)
        exact ⟨WX1.out.o.cells, WX1.out.c, WX1.out.d⟩
      clear hK K hHeld
      have hHeld := hHeld'
      clear hHeld'
      (try simp only [Act.put, List.getElem_toArray, List.getElem_cons_zero, List.getElem_cons_succ, List.setIfInBounds_toArray, List.set_cons_zero, List.set_cons_succ])
      refine wpAnyH_ready (rs := [5]) (by kernel_rfl) (by simp) ?_
      refine AllReadyH.cons rfl (fun K hK => ?_) AllReadyH.nil
      (try simp only [Act.put, List.getElem_toArray, List.getElem_cons_zero, List.getElem_cons_succ, List.setIfInBounds_toArray, List.set_cons_zero, List.set_cons_succ])
      go_simp
      go_at_call 18
      refine Calls.mono (implWr xa X Y Z (nd : Int) 100 (vv : Int) false J P Q R 0 HW1.out _ HLa.out WX1.out.o.row) ?_
      rintro e x2 ⟨xx, hE, rfl, hb, hr, hc, hfr⟩
      have EQ : Hid (xx.l = J ∧ xx.a = P ∧ xx.b = Q ∧ xx.c = R) := hE
      have RX : Hid (SibRow x2 xx.ao xx.l ∧ xx.l.length ≤ xx.cap) := ⟨hr, hc⟩
      replace WX1 := wf_next WX1 hb
      replace BW := bel_next BW hb
      have NE : Hid (∀ r, xx.ao = some r → xx.l ≠ [] → r.block ≠ gx) := fun r h1 h2 => by have h3 := hfr r h1 h2; have h4 := LG.out; omega
      replace TH := th_next TH hb LG
      replace LG := lt_next LG hb
      clear hE hr hc hfr hb
      refine hK.out _ _ ?_ (fun hHeld' => ?_)
      · (try dsimp only)
        exact ⟨WX1.out.o.cells, WX1.out.c, WX1.out.d⟩
      clear hK K hHeld
      have hHeld := hHeld'
      clear hHeld'
      (try simp only [Act.put, List.getElem_toArray, List.getElem_cons_zero, List.getElem_cons_succ, List.setIfInBounds_toArray, List.set_cons_zero, List.set_cons_succ])
      refine wpAnyH_take (i := 6) (v := ?_) rfl (by kernel_rfl) (by kernel_rfl) (by kernel_rfl) (fun _ _ _ h => h) (Or.inl ⟨by rfl, ?_⟩) (by assumption) ?_
      rotate_left
      · intro w' hSw
        (try dsimp only at hSw)
        go_simp
        all_goals (try with_reducible rfl)
      (try simp only [Act.put, List.getElem_toArray, List.getElem_cons_zero, List.getElem_cons_succ, List.setIfInBounds_toArray, List.set_cons_zero, List.set_cons_succ])
      refine wpAnyH_take (i := 7) (v := ?_) rfl (by kernel_rfl) (by kernel_rfl) (by kernel_rfl) (fun _ _ _ h => h) (Or.inl ⟨by rfl, ?_⟩) (by assumption) ?_
      rotate_left
      · intro w' hSw
        (try dsimp only at hSw)
        go_simp
        all_goals (try with_reducible rfl)
      (try simp only [Act.put, List.getElem_toArray, List.getElem_cons_zero, List.getElem_cons_succ, List.setIfInBounds_toArray, List.set_cons_zero, List.set_cons_succ])
      refine wpAnyH_take (i := 8) (v := ?_) rfl (by kernel_rfl) (by kernel_rfl) (by kernel_rfl) (fun _ _ _ h => h) (Or.inl ⟨by rfl, ?_⟩) (by assumption) ?_
      rotate_left
      · intro w' hSw
        (try dsimp only at hSw)
        go_simp
        all_goals (try with_reducible rfl)
      (try simp only [Act.put, List.getElem_toArray, List.getElem_cons_zero, List.getElem_cons_succ, List.setIfInBounds_toArray, List.set_cons_zero, List.set_cons_succ])
      have BX2 : Hid (Bx ((((x2.setCell ⟨gx, 0, none⟩ (.slice xx.ao xx.l.length xx.cap)).setCell ⟨gx, 1, none⟩ (.int .i64 xx.a)).setCell ⟨gx, 2, none⟩ (.int .i64 xx.b)).setCell ⟨gx, 3, none⟩ (.int .i64 xx.c)) gx xx) := ⟨set4_cells TH.out, row_set (row_set (row_set (row_set RX.out.1 NE.out) NE.out) NE.out) NE.out, RX.out.2⟩
      have BW2 : Hid (Below W7.heap.size W7 ((((x2.setCell ⟨gx, 0, none⟩ (.slice xx.ao xx.l.length xx.cap)).setCell ⟨gx, 1, none⟩ (.int .i64 xx.a)).setCell ⟨gx, 2, none⟩ (.int .i64 xx.b)).setCell ⟨gx, 3, none⟩ (.int .i64 xx.c))) := below_set4 BW.out GW.out
      obtain ⟨u0, T0⟩ := Option.isSome_iff_exists.1 (TH.out 0 (by omega)).1
      have Z0 := (TH.out 0 (by omega)).2
      obtain ⟨u1, T1⟩ := Option.isSome_iff_exists.1 (TH.out 1 (by omega)).1
      have Z1 := (TH.out 1 (by omega)).2
      obtain ⟨u2, T2⟩ := Option.isSome_iff_exists.1 (TH.out 2 (by omega)).1
      have Z2 := (TH.out 2 (by omega)).2
      obtain ⟨u3, T3⟩ := Option.isSome_iff_exists.1 (TH.out 3 (by omega)).1
      have Z3 := (TH.out 3 (by omega)).2
      refine wpAnyH_ready (rs := [10]) (by kernel_rfl) (by simp) ?_
      refine AllReadyH.cons rfl (fun K hK => ?_) AllReadyH.nil
      (try simp only [Act.put, List.getElem_toArray, List.getElem_cons_zero, List.getElem_cons_succ, List.setIfInBounds_toArray, List.set_cons_zero, List.set_cons_succ])
      go_simp
      (try simp only [])
      refine hK.out _ _ ?_ (fun hHeld' => ?_)
      · (try dsimp only)
        exact ⟨⟨cell_set (cell_set (cell_set (cell_set WX1.out.o.cells.1 G1.out.1) G1.out.1) G1.out.1) G1.out.1, cell_set (cell_set (cell_set (cell_set WX1.out.o.cells.2.1 G1.out.1) G1.out.1) G1.out.1) G1.out.1, cell_set (cell_set (cell_set (cell_set WX1.out.o.cells.2.2.1 G1.out.1) G1.out.1) G1.out.1) G1.out.1, cell_set (cell_set (cell_set (cell_set WX1.out.o.cells.2.2.2 G1.out.1) G1.out.1) G1.out.1) G1.out.1⟩, ⟨cell_set (cell_set (cell_set (cell_set WX1.out.c.1 G1.out.2.1) G1.out.2.1) G1.out.2.1) G1.out.2.1, cell_set (cell_set (cell_set (cell_set WX1.out.c.2.1 G1.out.2.1) G1.out.2.1) G1.out.2.1) G1.out.2.1, cell_set (cell_set (cell_set (cell_set WX1.out.c.2.2 G1.out.2.1) G1.out.2.1) G1.out.2.1) G1.out.2.1⟩, cell_set (cell_set (cell_set (cell_set WX1.out.d.1 G1.out.2.2) G1.out.2.2) G1.out.2.2) G1.out.2.2, cell_set (cell_set (cell_set (cell_set WX1.out.d.2 G1.out.2.2) G1.out.2.2) G1.out.2.2) G1.out.2.2⟩
      clear hK K hHeld
      have hHeld := hHeld'
      clear hHeld'
      (try simp only [Act.put, List.getElem_toArray, List.getElem_cons_zero, List.getElem_cons_succ, List.setIfInBounds_toArray, List.set_cons_zero, List.set_cons_succ])
      refine wpAnyH_take (i := 11) (v := ?_) rfl (by kernel_rfl) (by kernel_rfl) (by kernel_rfl) (fun _ _ _ h => h) (Or.inl ⟨by rfl, ?_⟩) (by assumption) ?_
      rotate_left
      · intro w' hSw
        (try dsimp only at hSw)
        go_simp
        all_goals (try with_reducible rfl)
      (try simp only [Act.put, List.getElem_toArray, List.getElem_cons_zero, List.getElem_cons_succ, List.setIfInBounds_toArray, List.set_cons_zero, List.set_cons_succ])
      refine wpAnyH_done (by kernel_rfl) ?_ _
      clear T0 Z0 T1 Z1 T2 Z2 T3 Z3 hHeld
      go_wp2
      go_meet
      case rel => exact ⟨gx, xx, rfl, rfl, BX2.out, EQ.out, BW2.out⟩
  case rest =>
    obtain ⟨gx, xx, rfl, rfl, hBx, hEq, hb⟩ := hcut
    have BX : Hid (Bx wc gx xx) := hBx
    replace WFF := wf_next WFF hb
    replace HB := bel_next HB hb
    clear hBx hb
    obtain ⟨e1, e2, e3, e4⟩ := hEq
    subst e1 e2 e3 e4
    go_upto_region 8 with fail
    go_cut [11, 12] from 56 to 64 (fun s11 s12 wd2 => ∃ (gw : Nat) (ww : Ov), s11 = .pointer (some ⟨gw, 0, none⟩) ∧ s12 = .int .i64 0 ∧ Bx wd2 gw ww ∧ (ww.l = xx.l ∧ ww.a = xx.a ∧ ww.b = xx.b ∧ ww.c = xx.c) ∧ Below wc.heap.size wc wd2)
    case first =>
      refine wp_region_held_drew (S := (fun w' => (w'.cell? ⟨ba, 0, none⟩ = some (.slice xa.ao xa.l.length xa.cap) ∧ w'.cell? ⟨ba, 1, none⟩ = some (.int .i64 xa.a) ∧ w'.cell? ⟨ba, 2, none⟩ = some (.int .i64 xa.b) ∧ w'.cell? ⟨ba, 3, none⟩ = some (.int .i64 xa.c)) ∧ (w'.cell? ⟨bc, 0, none⟩ = some (.int .i64 X) ∧ w'.cell? ⟨bc, 1, none⟩ = some (.int .i64 Y) ∧ w'.cell? ⟨bc, 2, none⟩ = some (.int .i64 Z)) ∧ w'.cell? ⟨bd, 0, none⟩ = some (.int .i64 (nd : Int)) ∧ w'.cell? ⟨bd, 1, none⟩ = some (.int .i64 100))) (by kernel_rfl) ⟨WFF.out.o.cells, WFF.out.c, WFF.out.d⟩ (fun hHeld => ?_)
      have WX1 := wf_next WFF (bel_drew _)
      have BW : Hid (Below wc.heap.size wc wc.drew) := bel_drew _
      refine wpAnyH_take (i := 0) (v := ?_) rfl (by kernel_rfl) (by kernel_rfl) (by kernel_rfl) (fun _ _ _ h => h) (Or.inl ⟨by rfl, ?_⟩) (by assumption) ?_
      rotate_left
      · intro w' hSw
        (try dsimp only at hSw)
        go_simp
        all_goals (try with_reducible rfl)
      (try simp only [Act.put, List.getElem_toArray, List.getElem_cons_zero, List.getElem_cons_succ, List.setIfInBounds_toArray, List.set_cons_zero, List.set_cons_succ])
      refine wpAnyH_take (i := 1) (v := ?_) rfl (by kernel_rfl) (by kernel_rfl) (by kernel_rfl) (fun _ _ _ h => h) (Or.inl ⟨by rfl, ?_⟩) (by assumption) ?_
      rotate_left
      · intro w' hSw
        (try dsimp only at hSw)
        go_simp
        all_goals (try with_reducible rfl)
      (try simp only [Act.put, List.getElem_toArray, List.getElem_cons_zero, List.getElem_cons_succ, List.setIfInBounds_toArray, List.set_cons_zero, List.set_cons_succ])
      refine wpAnyH_take (i := 2) (v := ?_) rfl (by kernel_rfl) (by kernel_rfl) (by kernel_rfl) (fun _ _ _ h => h) (Or.inl ⟨by rfl, ?_⟩) (by assumption) ?_
      rotate_left
      · intro w' hSw
        (try dsimp only at hSw)
        go_simp
        all_goals (try with_reducible rfl)
      (try simp only [Act.put, List.getElem_toArray, List.getElem_cons_zero, List.getElem_cons_succ, List.setIfInBounds_toArray, List.set_cons_zero, List.set_cons_succ])
      refine wpAnyH_take (i := 3) (v := ?_) rfl (by kernel_rfl) (by kernel_rfl) (by kernel_rfl) (fun _ _ _ h => h) (Or.inl ⟨by rfl, ?_⟩) (by assumption) ?_
      rotate_left
      · intro w' hSw
        (try dsimp only at hSw)
        go_simp
        all_goals (try with_reducible rfl)
      (try simp only [Act.put, List.getElem_toArray, List.getElem_cons_zero, List.getElem_cons_succ, List.setIfInBounds_toArray, List.set_cons_zero, List.set_cons_succ])
      generalize wc.drew = wd at *
      refine wpAnyH_ready (rs := [4, 9]) (by kernel_rfl) (by simp) ?_
      refine AllReadyH.cons rfl (fun K hK => ?_) (AllReadyH.cons rfl (fun K hK => ?_) AllReadyH.nil)
      · (try simp only [Act.put, List.getElem_toArray, List.getElem_cons_zero, List.getElem_cons_succ, List.setIfInBounds_toArray, List.set_cons_zero, List.set_cons_succ])
        go_simp
        go_at_call 17
        refine Calls.mono (HAT.out _ WX1.out.r) ?_
        rintro e x1 ⟨rfl, hb⟩
        replace WX1 := wf_next WX1 hb
        replace BW := bel_next BW hb
        clear hb
        refine hK.out _ _ ?_ (fun hHeld' => ?_)
        · (try dsimp only)
          exact ⟨WX1.out.o.cells, WX1.out.c, WX1.out.d⟩
        clear hK K hHeld
        have hHeld := hHeld'
        clear hHeld'
        (try simp only [Act.put, List.getElem_toArray, List.getElem_cons_zero, List.getElem_cons_succ, List.setIfInBounds_toArray, List.set_cons_zero, List.set_cons_succ])
        refine wpAnyH_ready (rs := [5, 9]) (by kernel_rfl) (by simp) ?_
        refine AllReadyH.cons rfl (fun K hK => ?_) (AllReadyH.cons rfl (fun K hK => ?_) AllReadyH.nil)
        · (try simp only [Act.put, List.getElem_toArray, List.getElem_cons_zero, List.getElem_cons_succ, List.setIfInBounds_toArray, List.set_cons_zero, List.set_cons_succ])
          go_simp
          go_at_call 19
          refine Calls.mono (specWr xa X Y Z (nd : Int) 100 (vv : Int) false xx.l xx.a xx.b xx.c 0 HW1.out _ HLa.out WX1.out.o.row) ?_
          rintro e x2 ⟨ww, hE, rfl, hb, hr, hc, hfr⟩
          have EQ : Hid (ww.l = xx.l ∧ ww.a = xx.a ∧ ww.b = xx.b ∧ ww.c = xx.c) := hE
          have RX : Hid (SibRow x2 ww.ao ww.l ∧ ww.l.length ≤ ww.cap) := ⟨hr, hc⟩
          replace WX1 := wf_next WX1 hb
          replace BW := bel_next BW hb
          clear hE hr hc hfr hb
          refine hK.out _ _ ?_ (fun hHeld' => ?_)
          · (try dsimp only)
            exact ⟨WX1.out.o.cells, WX1.out.c, WX1.out.d⟩
          clear hK K hHeld
          have hHeld := hHeld'
          clear hHeld'
          (try simp only [Act.put, List.getElem_toArray, List.getElem_cons_zero, List.getElem_cons_succ, List.setIfInBounds_toArray, List.set_cons_zero, List.set_cons_succ])
          refine wpAnyH_take (i := 6) (v := ?_) rfl (by kernel_rfl) (by kernel_rfl) (by kernel_rfl) (fun _ _ _ h => h) (Or.inl ⟨by rfl, ?_⟩) (by assumption) ?_
          rotate_left
          · intro w' hSw
            (try dsimp only at hSw)
            go_simp
            all_goals (try with_reducible rfl)
          (try simp only [Act.put, List.getElem_toArray, List.getElem_cons_zero, List.getElem_cons_succ, List.setIfInBounds_toArray, List.set_cons_zero, List.set_cons_succ])
          refine wpAnyH_take (i := 7) (v := ?_) rfl (by kernel_rfl) (by kernel_rfl) (by kernel_rfl) (fun _ _ _ h => h) (Or.inl ⟨by rfl, ?_⟩) (by assumption) ?_
          rotate_left
          · intro w' hSw
            (try dsimp only at hSw)
            go_simp
            all_goals (try with_reducible rfl)
          (try simp only [Act.put, List.getElem_toArray, List.getElem_cons_zero, List.getElem_cons_succ, List.setIfInBounds_toArray, List.set_cons_zero, List.set_cons_succ])
          refine wpAnyH_take (i := 8) (v := ?_) rfl (by kernel_rfl) (by kernel_rfl) (by kernel_rfl) (fun _ _ _ h => h) (Or.inl ⟨by rfl, ?_⟩) (by assumption) ?_
          rotate_left
          · intro w' hSw
            (try dsimp only at hSw)
            go_simp
            all_goals (try with_reducible rfl)
          (try simp only [Act.put, List.getElem_toArray, List.getElem_cons_zero, List.getElem_cons_succ, List.setIfInBounds_toArray, List.set_cons_zero, List.set_cons_succ])
          refine wpAnyH_ready (rs := [9]) (by kernel_rfl) (by simp) ?_
          refine AllReadyH.cons rfl (fun K hK => ?_) AllReadyH.nil
          (try simp only [Act.put, List.getElem_toArray, List.getElem_cons_zero, List.getElem_cons_succ, List.setIfInBounds_toArray, List.set_cons_zero, List.set_cons_succ])
          go_simp
          (try simp only [])
          have hb := bel_alloc x2 (.cells #[.slice none 0 0, .int .i64 0, .int .i64 0, .int .i64 0] 29)
          have TH : Hid (There (x2.alloc (.cells #[.slice none 0 0, .int .i64 0, .int .i64 0, .int .i64 0] 29)) x2.heap.size 4) := there_new
          have LG : Hid (x2.heap.size < (x2.alloc (.cells #[.slice none 0 0, .int .i64 0, .int .i64 0, .int .i64 0] 29)).heap.size) := by show _ < _; simp
          have GW : Hid (wc.heap.size ≤ x2.heap.size) := BW.out.size
          have NE : Hid (∀ r, ww.ao = some r → ww.l ≠ [] → r.block ≠ x2.heap.size) := fun r h1 h2 => Nat.ne_of_lt (row_ltS RX.out.1 r h1 h2)
          replace RX := rc_next RX hb
          have G1 : Hid (ba ≠ x2.heap.size ∧ bc ≠ x2.heap.size ∧ bd ≠ x2.heap.size) := ⟨Nat.ne_of_lt (cell_lt WX1.out.o.cells.1), Nat.ne_of_lt (cell_lt WX1.out.c.1), Nat.ne_of_lt (cell_lt WX1.out.d.1)⟩
          replace WX1 := wf_next WX1 hb
          replace BW := bel_next BW hb
          clear hb
          refine hK.out _ _ ?_ (fun hHeld' => ?_)
          · (try dsimp only)
            exact ⟨WX1.out.o.cells, WX1.out.c, WX1.out.d⟩
          clear hK K hHeld
          have hHeld := hHeld'
          clear hHeld'
          (try simp only [Act.put, List.getElem_toArray, List.getElem_cons_zero, List.getElem_cons_succ, List.setIfInBounds_toArray, List.set_cons_zero, List.set_cons_succ])
          generalize x2.alloc (.cells #[.slice none 0 0, .int .i64 0, .int .i64 0, .int .i64 0] 29) = wa at *
          generalize x2.heap.size = gw at *
          have BX2 : Hid (Bx ((((wa.setCell ⟨gw, 0, none⟩ (.slice ww.ao ww.l.length ww.cap)).setCell ⟨gw, 1, none⟩ (.int .i64 ww.a)).setCell ⟨gw, 2, none⟩ (.int .i64 ww.b)).setCell ⟨gw, 3, none⟩ (.int .i64 ww.c)) gw ww) := ⟨set4_cells TH.out, row_set (row_set (row_set (row_set RX.out.1 NE.out) NE.out) NE.out) NE.out, RX.out.2⟩
          have BW2 : Hid (Below wc.heap.size wc ((((wa.setCell ⟨gw, 0, none⟩ (.slice ww.ao ww.l.length ww.cap)).setCell ⟨gw, 1, none⟩ (.int .i64 ww.a)).setCell ⟨gw, 2, none⟩ (.int .i64 ww.b)).setCell ⟨gw, 3, none⟩ (.int .i64 ww.c))) := below_set4 BW.out GW.out
          obtain ⟨u0, T0⟩ := Option.isSome_iff_exists.1 (TH.out 0 (by omega)).1
          have Z0 := (TH.out 0 (by omega)).2
          obtain ⟨u1, T1⟩ := Option.isSome_iff_exists.1 (TH.out 1 (by omega)).1
          have Z1 := (TH.out 1 (by omega)).2
          obtain ⟨u2, T2⟩ := Option.isSome_iff_exists.1 (TH.out 2 (by omega)).1
          have Z2 := (TH.out 2 (by omega)).2
          obtain ⟨u3, T3⟩ := Option.isSome_iff_exists.1 (TH.out 3 (by omega)).1
          have Z3 := (TH.out 3 (by omega)).2
          refine wpAnyH_ready (rs := [10]) (by kernel_rfl) (by simp) ?_
          refine AllReadyH.cons rfl (fun K hK => ?_) AllReadyH.nil
          (try simp only [Act.put, List.getElem_toArray, List.getElem_cons_zero, List.getElem_cons_succ, List.setIfInBounds_toArray, List.set_cons_zero, List.set_cons_succ])
          go_simp
          (try simp only [])
          refine hK.out _ _ ?_ (fun hHeld' => ?_)
          · (try dsimp only)
            exact ⟨⟨cell_set (cell_set (cell_set (cell_set WX1.out.o.cells.1 G1.out.1) G1.out.1) G1.out.1) G1.out.1, cell_set (cell_set (cell_set (cell_set WX1.out.o.cells.2.1 G1.out.1) G1.out.1) G1.out.1) G1.out.1, cell_set (cell_set (cell_set (cell_set WX1.out.o.cells.2.2.1 G1.out.1) G1.out.1) G1.out.1) G1.out.1, cell_set (cell_set (cell_set (cell_set WX1.out.o.cells.2.2.2 G1.out.1) G1.out.1) G1.out.1) G1.out.1⟩, ⟨cell_set (cell_set (cell_set (cell_set WX1.out.c.1 G1.out.2.1) G1.out.2.1) G1.out.2.1) G1.out.2.1, cell_set (cell_set (cell_set (cell_set WX1.out.c.2.1 G1.out.2.1) G1.out.2.1) G1.out.2.1) G1.out.2.1, cell_set (cell_set (cell_set (cell_set WX1.out.c.2.2 G1.out.2.1) G1.out.2.1) G1.out.2.1) G1.out.2.1⟩, cell_set (cell_set (cell_set (cell_set WX1.out.d.1 G1.out.2.2) G1.out.2.2) G1.out.2.2) G1.out.2.2, cell_set (cell_set (cell_set (cell_set WX1.out.d.2 G1.out.2.2) G1.out.2.2) G1.out.2.2) G1.out.2.2⟩
          clear hK K hHeld
          have hHeld := hHeld'
          clear hHeld'
          (try simp only [Act.put, List.getElem_toArray, List.getElem_cons_zero, List.getElem_cons_succ, List.setIfInBounds_toArray, List.set_cons_zero, List.set_cons_succ])
          refine wpAnyH_take (i := 11) (v := ?_) rfl (by kernel_rfl) (by kernel_rfl) (by kernel_rfl) (fun _ _ _ h => h) (Or.inl ⟨by rfl, ?_⟩) (by assumption) ?_
          rotate_left
          · intro w' hSw
            (try dsimp only at hSw)
            go_simp
            all_goals (try with_reducible rfl)
          (try simp only [Act.put, List.getElem_toArray, List.getElem_cons_zero, List.getElem_cons_succ, List.setIfInBounds_toArray, List.set_cons_zero, List.set_cons_succ])
          refine wpAnyH_done (by kernel_rfl) ?_ _
          clear T0 Z0 T1 Z1 T2 Z2 T3 Z3 hHeld
          go_wp2
          go_meet
          case rel => exact ⟨gw, ww, rfl, rfl, BX2.out, EQ.out, BW2.out⟩
        · (try simp only [Act.put, List.getElem_toArray, List.getElem_cons_zero, List.getElem_cons_succ, List.setIfInBounds_toArray, List.set_cons_zero, List.set_cons_succ])
          go_simp
          (try simp only [])
          have hb := bel_alloc x1 (.cells #[.slice none 0 0, .int .i64 0, .int .i64 0, .int .i64 0] 29)
          have TH : Hid (There (x1.alloc (.cells #[.slice none 0 0, .int .i64 0, .int .i64 0, .int .i64 0] 29)) x1.heap.size 4) := there_new
          have LG : Hid (x1.heap.size < (x1.alloc (.cells #[.slice none 0 0, .int .i64 0, .int .i64 0, .int .i64 0] 29)).heap.size) := by show _ < _; simp
          have GW : Hid (wc.heap.size ≤ x1.heap.size) := BW.out.size
          have G1 : Hid (ba ≠ x1.heap.size ∧ bc ≠ x1.heap.size ∧ bd ≠ x1.heap.size) := ⟨Nat.ne_of_lt (cell_lt WX1.out.o.cells.1), Nat.ne_of_lt (cell_lt WX1.out.c.1), Nat.ne_of_lt (cell_lt WX1.out.d.1)⟩
          replace WX1 := wf_next WX1 hb
          replace BW := bel_next BW hb
          clear hb
          refine hK.out _ _ ?_ (fun hHeld' => ?_)
          · (try dsimp only)
            exact ⟨WX1.out.o.cells, WX1.out.c, WX1.out.d⟩
          clear hK K hHeld
          have hHeld := hHeld'
          clear hHeld'
          (try simp only [Act.put, List.getElem_toArray, List.getElem_cons_zero, List.getElem_cons_succ, List.setIfInBounds_toArray, List.set_cons_zero, List.set_cons_succ])
          generalize x1.alloc (.cells #[.slice none 0 0, .int .i64 0, .int .i64 0, .int .i64 0] 29) = wa at *
          generalize x1.heap.size = gw at *
          refine wpAnyH_ready (rs := [5]) (by kernel_rfl) (by simp) ?_
          refine AllReadyH.cons rfl (fun K hK => ?_) AllReadyH.nil
          (try simp only [Act.put, List.getElem_toArray, List.getElem_cons_zero, List.getElem_cons_succ, List.setIfInBounds_toArray, List.set_cons_zero, List.set_cons_succ])
          go_simp
          go_at_call 19
          refine Calls.mono (specWr xa X Y Z (nd : Int) 100 (vv : Int) false xx.l xx.a xx.b xx.c 0 HW1.out _ HLa.out WX1.out.o.row) ?_
          rintro e x2 ⟨ww, hE, rfl, hb, hr, hc, hfr⟩
          have EQ : Hid (ww.l = xx.l ∧ ww.a = xx.a ∧ ww.b = xx.b ∧ ww.c = xx.c) := hE
          have RX : Hid (SibRow x2 ww.ao ww.l ∧ ww.l.length ≤ ww.cap) := ⟨hr, hc⟩
          replace WX1 := wf_next WX1 hb
          replace BW := bel_next BW hb
          have NE : Hid (∀ r, ww.ao = some r → ww.l ≠ [] → r.block ≠ gw) := fun r h1 h2 => by have h3 := hfr r h1 h2; have h4 := LG.out; omega
          replace TH := th_next TH hb LG
          replace LG := lt_next LG hb
          clear hE hr hc hfr hb
          refine hK.out _ _ ?_ (fun hHeld' => ?_)
          · (try dsimp only)
            exact ⟨WX1.out.o.cells, WX1.out.c, WX1.out.d⟩
          clear hK K hHeld
          have hHeld := hHeld'
          clear hHeld'
          (try simp only [Act.put, List.getElem_toArray, List.getElem_cons_zero, List.getElem_cons_succ, List.setIfInBounds_toArray, List.set_cons_zero, List.set_cons_succ])
          refine wpAnyH_take (i := 6) (v := ?_) rfl (by kernel_rfl) (by kernel_rfl) (by kernel_rfl) (fun _ _ _ h => h) (Or.inl ⟨by rfl, ?_⟩) (by assumption) ?_
          rotate_left
          · intro w' hSw
            (try dsimp only at hSw)
            go_simp
            all_goals (try with_reducible rfl)
          (try simp only [Act.put, List.getElem_toArray, List.getElem_cons_zero, List.getElem_cons_succ, List.setIfInBounds_toArray, List.set_cons_zero, List.set_cons_succ])
          refine wpAnyH_take (i := 7) (v := ?_) rfl (by kernel_rfl) (by kernel_rfl) (by kernel_rfl) (fun _ _ _ h => h) (Or.inl ⟨by rfl, ?_⟩) (by assumption) ?_
          rotate_left
          · intro w' hSw
            (try dsimp only at hSw)
            go_simp
            all_goals (try with_reducible rfl)
          (try simp only [Act.put, List.getElem_toArray, List.getElem_cons_zero, List.getElem_cons_succ, List.setIfInBounds_toArray, List.set_cons_zero, List.set_cons_succ])
          refine wpAnyH_take (i := 8) (v := ?_) rfl (by kernel_rfl) (by kernel_rfl) (by kernel_rfl) (fun _ _ _ h => h) (Or.inl ⟨by rfl, ?_⟩) (by assumption) ?_
          rotate_left
          · intro w' hSw
            (try dsimp only at hSw)
            go_simp
            all_goals (try with_reducible rfl)
          (try simp only [Act.put, List.getElem_toArray, List.getElem_cons_zero, List.getElem_cons_succ, List.setIfInBounds_toArray, List.set_cons_zero, List.set_cons_succ])
          have BX2 : Hid (Bx ((((x2.setCell ⟨gw, 0, none⟩ (.slice ww.ao ww.l.length ww.cap)).setCell ⟨gw, 1, none⟩ (.int .i64 ww.a)).setCell ⟨gw, 2, none⟩ (.int .i64 ww.b)).setCell ⟨gw, 3, none⟩ (.int .i64 ww.c)) gw ww) := ⟨set4_cells TH.out, row_set (row_set (row_set (row_set RX.out.1 NE.out) NE.out) NE.out) NE.out, RX.out.2⟩
          have BW2 : Hid (Below wc.heap.size wc ((((x2.setCell ⟨gw, 0, none⟩ (.slice ww.ao ww.l.length ww.cap)).setCell ⟨gw, 1, none⟩ (.int .i64 ww.a)).setCell ⟨gw, 2, none⟩ (.int .i64 ww.b)).setCell ⟨gw, 3, none⟩ (.int .i64 ww.c))) := below_set4 BW.out GW.out
          obtain ⟨u0, T0⟩ := Option.isSome_iff_exists.1 (TH.out 0 (by omega)).1
          have Z0 := (TH.out 0 (by omega)).2
          obtain ⟨u1, T1⟩ := Option.isSome_iff_exists.1 (TH.out 1 (by omega)).1
          have Z1 := (TH.out 1 (by omega)).2
          obtain ⟨u2, T2⟩ := Option.isSome_iff_exists.1 (TH.out 2 (by omega)).1
          have Z2 := (TH.out 2 (by omega)).2
          obtain ⟨u3, T3⟩ := Option.isSome_iff_exists.1 (TH.out 3 (by omega)).1
          have Z3 := (TH.out 3 (by omega)).2
          refine wpAnyH_ready (rs := [10]) (by kernel_rfl) (by simp) ?_
          refine AllReadyH.cons rfl (fun K hK => ?_) AllReadyH.nil
          (try simp only [Act.put, List.getElem_toArray, List.getElem_cons_zero, List.getElem_cons_succ, List.setIfInBounds_toArray, List.set_cons_zero, List.set_cons_succ])
          go_simp
          (try simp only [])
          refine hK.out _ _ ?_ (fun hHeld' => ?_)
          · (try dsimp only)
            exact ⟨⟨cell_set (cell_set (cell_set (cell_set WX1.out.o.cells.1 G1.out.1) G1.out.1) G1.out.1) G1.out.1, cell_set (cell_set (cell_set (cell_set WX1.out.o.cells.2.1 G1.out.1) G1.out.1) G1.out.1) G1.out.1, cell_set (cell_set (cell_set (cell_set WX1.out.o.cells.2.2.1 G1.out.1) G1.out.1) G1.out.1) G1.out.1, cell_set (cell_set (cell_set (cell_set WX1.out.o.cells.2.2.2 G1.out.1) G1.out.1) G1.out.1) G1.out.1⟩, ⟨cell_set (cell_set (cell_set (cell_set WX1.out.c.1 G1.out.2.1) G1.out.2.1) G1.out.2.1) G1.out.2.1, cell_set (cell_set (cell_set (cell_set WX1.out.c.2.1 G1.out.2.1) G1.out.2.1) G1.out.2.1) G1.out.2.1, cell_set (cell_set (cell_set (cell_set WX1.out.c.2.2 G1.out.2.1) G1.out.2.1) G1.out.2.1) G1.out.2.1⟩, cell_set (cell_set (cell_set (cell_set WX1.out.d.1 G1.out.2.2) G1.out.2.2) G1.out.2.2) G1.out.2.2, cell_set (cell_set (cell_set (cell_set WX1.out.d.2 G1.out.2.2) G1.out.2.2) G1.out.2.2) G1.out.2.2⟩
          clear hK K hHeld
          have hHeld := hHeld'
          clear hHeld'
          (try simp only [Act.put, List.getElem_toArray, List.getElem_cons_zero, List.getElem_cons_succ, List.setIfInBounds_toArray, List.set_cons_zero, List.set_cons_succ])
          refine wpAnyH_take (i := 11) (v := ?_) rfl (by kernel_rfl) (by kernel_rfl) (by kernel_rfl) (fun _ _ _ h => h) (Or.inl ⟨by rfl, ?_⟩) (by assumption) ?_
          rotate_left
          · intro w' hSw
            (try dsimp only at hSw)
            go_simp
            all_goals (try with_reducible rfl)
          (try simp only [Act.put, List.getElem_toArray, List.getElem_cons_zero, List.getElem_cons_succ, List.setIfInBounds_toArray, List.set_cons_zero, List.set_cons_succ])
          refine wpAnyH_done (by kernel_rfl) ?_ _
          clear T0 Z0 T1 Z1 T2 Z2 T3 Z3 hHeld
          go_wp2
          go_meet
          case rel => exact ⟨gw, ww, rfl, rfl, BX2.out, EQ.out, BW2.out⟩
      · (try simp only [Act.put, List.getElem_toArray, List.getElem_cons_zero, List.getElem_cons_succ, List.setIfInBounds_toArray, List.set_cons_zero, List.set_cons_succ])
        go_simp
        (try simp only [])
        have hb := bel_alloc wd (.cells #[.slice none 0 0, .int .i64 0, .int .i64 0, .int .i64 0] 29)
        have TH : Hid (There (wd.alloc (.cells #[.slice none 0 0, .int .i64 0, .int .i64 0, .int .i64 0] 29)) wd.heap.size 4) := there_new
        have LG : Hid (wd.heap.size < (wd.alloc (.cells #[.slice none 0 0, .int .i64 0, .int .i64 0, .int .i64 0] 29)).heap.size) := by show _ < _; simp
        have GW : Hid (wc.heap.size ≤ wd.heap.size) := BW.out.size
        have G1 : Hid (ba ≠ wd.heap.size ∧ bc ≠ wd.heap.size ∧ bd ≠ wd.heap.size) := ⟨Nat.ne_of_lt (cell_lt WX1.out.o.cells.1), Nat.ne_of_lt (cell_lt WX1.out.c.1), Nat.ne_of_lt (cell_lt WX1.out.d.1)⟩
        replace WX1 := wf_next WX1 hb
        replace BW := bel_next BW hb
        clear hb
        refine hK.out _ _ ?_ (fun hHeld' => ?_)
        · (try dsimp only)
          exact ⟨WX1.out.o.cells, WX1.out.c, WX1.out.d⟩
        clear hK K hHeld
        have hHeld := hHeld'
        clear hHeld'
        (try simp only [Act.put, List.getElem_toArray, List.getElem_cons_zero, List.getElem_cons_succ, List.setIfInBounds_toArray, List.set_cons_zero, List.set_cons_succ])
        generalize wd.alloc (.cells #[.slice none 0 0, .int .i64 0, .int .i64 0, .int .i64 0] 29) = wa at *
        generalize wd.heap.size = gw at *
        refine wpAnyH_ready (rs := [4]) (by kernel_rfl) (by simp) ?_
        refine AllReadyH.cons rfl (fun K hK => ?_) AllReadyH.nil
        (try simp only [Act.put, List.getElem_toArray, List.getElem_cons_zero, List.getElem_cons_succ, List.setIfInBounds_toArray, List.set_cons_zero, List.set_cons_succ])
        go_simp
        go_at_call 17
        refine Calls.mono (HAT.out _ WX1.out.r) ?_
        rintro e x1 ⟨rfl, hb⟩
        replace WX1 := wf_next WX1 hb
        replace BW := bel_next BW hb
        replace TH := th_next TH hb LG
        replace LG := lt_next LG hb
        clear hb
        refine hK.out _ _ ?_ (fun hHeld' => ?_)
        · (try dsimp only)
          exact ⟨WX1.out.o.cells, WX1.out.c, WX1.out.d⟩
        clear hK K hHeld
        have hHeld := hHeld'
        clear hHeld'
        (try simp only [Act.put, List.getElem_toArray, List.getElem_cons_zero, List.getElem_cons_succ, List.setIfInBounds_toArray, List.set_cons_zero, List.set_cons_succ])
        refine wpAnyH_ready (rs := [5]) (by kernel_rfl) (by simp) ?_
        refine AllReadyH.cons rfl (fun K hK => ?_) AllReadyH.nil
        (try simp only [Act.put, List.getElem_toArray, List.getElem_cons_zero, List.getElem_cons_succ, List.setIfInBounds_toArray, List.set_cons_zero, List.set_cons_succ])
        go_simp
        go_at_call 19
        refine Calls.mono (specWr xa X Y Z (nd : Int) 100 (vv : Int) false xx.l xx.a xx.b xx.c 0 HW1.out _ HLa.out WX1.out.o.row) ?_
        rintro e x2 ⟨ww, hE, rfl, hb, hr, hc, hfr⟩
        have EQ : Hid (ww.l = xx.l ∧ ww.a = xx.a ∧ ww.b = xx.b ∧ ww.c = xx.c) := hE
        have RX : Hid (SibRow x2 ww.ao ww.l ∧ ww.l.length ≤ ww.cap) := ⟨hr, hc⟩
        replace WX1 := wf_next WX1 hb
        replace BW := bel_next BW hb
        have NE : Hid (∀ r, ww.ao = some r → ww.l ≠ [] → r.block ≠ gw) := fun r h1 h2 => by have h3 := hfr r h1 h2; have h4 := LG.out; omega
        replace TH := th_next TH hb LG
        replace LG := lt_next LG hb
        clear hE hr hc hfr hb
        refine hK.out _ _ ?_ (fun hHeld' => ?_)
        · (try dsimp only)
          exact ⟨WX1.out.o.cells, WX1.out.c, WX1.out.d⟩
        clear hK K hHeld
        have hHeld := hHeld'
        clear hHeld'
        (try simp only [Act.put, List.getElem_toArray, List.getElem_cons_zero, List.getElem_cons_succ, List.setIfInBounds_toArray, List.set_cons_zero, List.set_cons_succ])
        refine wpAnyH_take (i := 6) (v := ?_) rfl (by kernel_rfl) (by kernel_rfl) (by kernel_rfl) (fun _ _ _ h => h) (Or.inl ⟨by rfl, ?_⟩) (by assumption) ?_
        rotate_left
        · intro w' hSw
          (try dsimp only at hSw)
          go_simp
          all_goals (try with_reducible rfl)
        (try simp only [Act.put, List.getElem_toArray, List.getElem_cons_zero, List.getElem_cons_succ, List.setIfInBounds_toArray, List.set_cons_zero, List.set_cons_succ])
        refine wpAnyH_take (i := 7) (v := ?_) rfl (by kernel_rfl) (by kernel_rfl) (by kernel_rfl) (fun _ _ _ h => h) (Or.inl ⟨by rfl, ?_⟩) (by assumption) ?_
        rotate_left
        · intro w' hSw
          (try dsimp only at hSw)
          go_simp
          all_goals (try with_reducible rfl)
        (try simp only [Act.put, List.getElem_toArray, List.getElem_cons_zero, List.getElem_cons_succ, List.setIfInBounds_toArray, List.set_cons_zero, List.set_cons_succ])
        refine wpAnyH_take (i := 8) (v := ?_) rfl (by kernel_rfl) (by kernel_rfl) (by kernel_rfl) (fun _ _ _ h => h) (Or.inl ⟨by rfl, ?_⟩) (by assumption) ?_
        rotate_left
        · intro w' hSw
          (try dsimp only at hSw)
          go_simp
          all_goals (try with_reducible rfl)
        (try simp only [Act.put, List.getElem_toArray, List.getElem_cons_zero, List.getElem_cons_succ, List.setIfInBounds_toArray, List.set_cons_zero, List.set_cons_succ])
        have BX2 : Hid (Bx ((((x2.setCell ⟨gw, 0, none⟩ (.slice ww.ao ww.l.length ww.cap)).setCell ⟨gw, 1, none⟩ (.int .i64 ww.a)).setCell ⟨gw, 2, none⟩ (.int .i64 ww.b)).setCell ⟨gw, 3, none⟩ (.int .i64 ww.c)) gw ww) := ⟨set4_cells TH.out, row_set (row_set (row_set (row_set RX.out.1 NE.out) NE.out) NE.out) NE.out, RX.out.2⟩
        have BW2 : Hid (Below wc.heap.size wc ((((x2.setCell ⟨gw, 0, none⟩ (.slice ww.ao ww.l.length ww.cap)).setCell ⟨gw, 1, none⟩ (.int .i64 ww.a)).setCell ⟨gw, 2, none⟩ (.int .i64 ww.b)).setCell ⟨gw, 3, none⟩ (.int .i64 ww.c))) := below_set4 BW.out GW.out
        obtain ⟨u0, T0⟩ := Option.isSome_iff_exists.1 (TH.out 0 (by omega)).1
        have Z0 := (TH.out 0 (by omega)).2
        obtain ⟨u1, T1⟩ := Option.isSome_iff_exists.1 (TH.out 1 (by omega)).1
        have Z1 := (TH.out 1 (by omega)).2
        obtain ⟨u2, T2⟩ := Option.isSome_iff_exists.1 (TH.out 2 (by omega)).1
        have Z2 := (TH.out 2 (by omega)).2
        obtain ⟨u3, T3⟩ := Option.isSome_iff_exists.1 (TH.out 3 (by omega)).1
        have Z3 := (TH.out 3 (by omega)).2
        refine wpAnyH_ready (rs := [10]) (by kernel_rfl) (by simp) ?_
        refine AllReadyH.cons rfl (fun K hK => ?_) AllReadyH.nil
        (try simp only [Act.put, List.getElem_toArray, List.getElem_cons_zero, List.getElem_cons_succ, List.setIfInBounds_toArray, List.set_cons_zero, List.set_cons_succ])
        go_simp
        (try simp only [])
        refine hK.out _ _ ?_ (fun hHeld' => ?_)
        · (try dsimp only)
          exact ⟨⟨cell_set (cell_set (cell_set (cell_set WX1.out.o.cells.1 G1.out.1) G1.out.1) G1.out.1) G1.out.1, cell_set (cell_set (cell_set (cell_set WX1.out.o.cells.2.1 G1.out.1) G1.out.1) G1.out.1) G1.out.1, cell_set (cell_set (cell_set (cell_set WX1.out.o.cells.2.2.1 G1.out.1) G1.out.1) G1.out.1) G1.out.1, cell_set (cell_set (cell_set (cell_set WX1.out.o.cells.2.2.2 G1.out.1) G1.out.1) G1.out.1) G1.out.1⟩, ⟨cell_set (cell_set (cell_set (cell_set WX1.out.c.1 G1.out.2.1) G1.out.2.1) G1.out.2.1) G1.out.2.1, cell_set (cell_set (cell_set (cell_set WX1.out.c.2.1 G1.out.2.1) G1.out.2.1) G1.out.2.1) G1.out.2.1, cell_set (cell_set (cell_set (cell_set WX1.out.c.2.2 G1.out.2.1) G1.out.2.1) G1.out.2.1) G1.out.2.1⟩, cell_set (cell_set (cell_set (cell_set WX1.out.d.1 G1.out.2.2) G1.out.2.2) G1.out.2.2) G1.out.2.2, cell_set (cell_set (cell_set (cell_set WX1.out.d.2 G1.out.2.2) G1.out.2.2) G1.out.2.2) G1.out.2.2⟩
        clear hK K hHeld
        have hHeld := hHeld'
        clear hHeld'
        (try simp only [Act.put, List.getElem_toArray, List.getElem_cons_zero, List.getElem_cons_succ, List.setIfInBounds_toArray, List.set_cons_zero, List.set_cons_succ])
        refine wpAnyH_take (i := 11) (v := ?_) rfl (by kernel_rfl) (by kernel_rfl) (by kernel_rfl) (fun _ _ _ h => h) (Or.inl ⟨by rfl, ?_⟩) (by assumption) ?_
        rotate_left
        · intro w' hSw
          (try dsimp only at hSw)
          go_simp
          all_goals (try with_reducible rfl)
        (try simp only [Act.put, List.getElem_toArray, List.getElem_cons_zero, List.getElem_cons_succ, List.setIfInBounds_toArray, List.set_cons_zero, List.set_cons_succ])
        refine wpAnyH_done (by kernel_rfl) ?_ _
        clear T0 Z0 T1 Z1 T2 Z2 T3 Z3 hHeld
        go_wp2
        go_meet
        case rel => exact ⟨gw, ww, rfl, rfl, BX2.out, EQ.out, BW2.out⟩
    case rest =>
      obtain ⟨gw, ww, rfl, rfl, hBx, hEq, hb⟩ := hcut
      have BWW : Hid _ := hBx
      have EW : Hid (Al xx ww) := ⟨hEq.1.symm, hEq.2.1.symm, hEq.2.2.1.symm, hEq.2.2.2.symm⟩
      replace WFF := wf_next WFF hb
      replace BX := bx_next BX hb
      replace HB := bel_next HB hb
      clear hBx hb hEq HW1 HAT
      have HOK : Hid (OkP xx.l xx.a xx.b xx.c) := HXX.out.ok PA.out HM.out HX.out hnd HV9.out
      have HLx : Hid (xx.l.length ≤ 100) := HOK.out.1
      obtain ⟨x0, x1, x2, x3⟩ := BX.out.cells
      obtain ⟨y0, y1, y2, y3⟩ := BWW.out.cells
      go_wp2_with fail
      clear x0 x1 x2 x3 y0 y1 y2 y3
      refine Calls.mono (lawSm xx ww EW.out HLx.out _ BX.out.row BWW.out.row) ?_
      rintro e w8 ⟨rfl, hb⟩
      replace WFF := wf_next WFF hb
      replace BX := bx_next BX hb
      replace HB := bel_next HB hb
      clear hb BWW EW
      obtain ⟨x0, x1, x2, x3⟩ := BX.out.cells
      go_wp2_with fail
      clear x0 x1 x2 x3
      refine Calls.mono (implOk2 xx HOK.out _ BX.out.row) ?_
      rintro e WL ⟨rfl, hb⟩
      replace WFF := wf_next WFF hb
      replace BX := bx_next BX hb
      replace HB := bel_next HB hb
      clear hb
      go_wp2
      have HVV : Hid (vvB X Y Z = true) := vv_17 HX0.out HX.out
      go_loopw [13, 14] (fun s13 s14 wr => ∃ (i nn : Nat), i ≤ xa.l.length ∧ s14 = .int .i64 i ∧ s13 = .int .i64 (nn : Int) ∧ nn = 1 + (fil X Y Z (xa.l.take i)).length ∧ Below WL.heap.size WL wr) (fun _ s14 _ => xa.l.length - (intOf s14).toNat)
      case atStart => exact ⟨0, 1, by omega, rfl, rfl, by simp [fil], Below.refl _ _⟩
      case round =>
        obtain ⟨i, nn, hi, rfl, rfl, hnn0, hwr0⟩ := hrel
        have HNN : Hid (nn = 1 + (fil X Y Z (xa.l.take i)).length) := hnn0
        have HWr : Hid (Below WL.heap.size WL wr) := hwr0
        clear hnn0 hwr0
        have hnb : nn ≤ 101 := by
          have h1 := fil_le X Y Z xa.l i
          have h2 := HNN.out
          have h3 := HLa.out
          omega
        have WFr := wf_next WFF HWr.out
        by_cases hlt : i < xa.l.length
        · have hlt' : (i : Int) < (xa.l.length : Int) := by omega
          have ki : (0 : Int) ≤ (i : Int) := by omega
          have ki2 : (i : Int) ≤ 100 := by have := HLa.out; omega
          obtain ⟨c0, c1, c2⟩ := WFr.out.c
          obtain ⟨a0, a1, a2, a3⟩ := WFr.out.o.cells
          rcases WFr.out.o.row with h' | ⟨b, off, hbo, h2⟩
          · rw [h'] at hlt; simp at hlt
          obtain ⟨s0, s1, s2, s3⟩ := h2 i hlt
          have HDT0 : dotB xa.l[i].p xa.l[i].n = true := by
            have := (PA.out.ok _ (List.getElem_mem hlt)).1
            unfold sibOK at this
            simp only [Bool.and_eq_true] at this
            exact this.1.1
          obtain ⟨kb, hkb⟩ : ∃ kb : Bool, decide (xa.l[i].n ≤ comp X Y Z xa.l[i].p) = kb := ⟨_, rfl⟩
          have HF : Hid (decide (xa.l[i].n ≤ comp X Y Z xa.l[i].p) = kb) := hkb
          rw [hbo] at a0
          clear hbo
          clear h2 s2 s3
          obtain ⟨sp, hsp⟩ : ∃ sp, xa.l[i].p = sp := ⟨_, rfl⟩
          obtain ⟨sn, hsn⟩ : ∃ sn, xa.l[i].n = sn := ⟨_, rfl⟩
          rw [hsp] at s0 HDT0 hkb
          rw [hsn] at s1 HDT0 hkb
          have HK : Hid (Hid (decide (sn ≤ comp X Y Z sp) = kb)) := hkb
          have HDT : Hid (dotB sp sn = true) := HDT0
          clear hkb HDT0 hsp hsn
          have HLT : Hid (i < xa.l.length) := hlt
          go_wp2_with fail
          refine wp_region_held_drew (S := (fun w' => (w'.cell? ⟨bc, 0, none⟩ = some (.int .i64 X) ∧ w'.cell? ⟨bc, 1, none⟩ = some (.int .i64 Y) ∧ w'.cell? ⟨bc, 2, none⟩ = some (.int .i64 Z)) ∧ w'.cell? ⟨ba, 0, none⟩ = some (.slice (some ⟨b, off, none⟩) xa.l.length xa.cap) ∧ w'.cell? ⟨b, off + i * 4, none⟩ = some (.int .i64 sp) ∧ w'.cell? ⟨b, off + i * 4 + 1, none⟩ = some (.int .i64 sn))) (by kernel_rfl) ⟨⟨c0, c1, c2⟩, a0, s0, s1⟩ (fun hHeld => ?_)
          refine wpAnyH_take (i := 0) (v := ?_) rfl (by kernel_rfl) (by kernel_rfl) (by kernel_rfl) (fun _ _ _ h => h) (Or.inl ⟨by rfl, ?_⟩) (by assumption) ?_
          rotate_left
          · intro w' hSw
            (try dsimp only at hSw)
            go_simp
            all_goals (try with_reducible rfl)
          (try simp only [Act.put, List.getElem_toArray, List.getElem_cons_zero, List.getElem_cons_succ, List.setIfInBounds_toArray, List.set_cons_zero, List.set_cons_succ])
          refine wpAnyH_take (i := 1) (v := ?_) rfl (by kernel_rfl) (by kernel_rfl) (by kernel_rfl) (fun _ _ _ h => h) (Or.inl ⟨by rfl, ?_⟩) (by assumption) ?_
          rotate_left
          · intro w' hSw
            (try dsimp only at hSw)
            go_simp
            all_goals (try with_reducible rfl)
          (try simp only [Act.put, List.getElem_toArray, List.getElem_cons_zero, List.getElem_cons_succ, List.setIfInBounds_toArray, List.set_cons_zero, List.set_cons_succ])
          refine wpAnyH_take (i := 2) (v := ?_) rfl (by kernel_rfl) (by kernel_rfl) (by kernel_rfl) (fun _ _ _ h => h) (Or.inl ⟨by rfl, ?_⟩) (by assumption) ?_
          rotate_left
          · intro w' hSw
            (try dsimp only at hSw)
            go_simp
            all_goals (try with_reducible rfl)
          (try simp only [Act.put, List.getElem_toArray, List.getElem_cons_zero, List.getElem_cons_succ, List.setIfInBounds_toArray, List.set_cons_zero, List.set_cons_succ])
          refine wpAnyH_take (i := 3) (v := ?_) rfl (by kernel_rfl) (by kernel_rfl) (by kernel_rfl) (fun _ _ _ h => h) (Or.inl ⟨by rfl, ?_⟩) (by assumption) ?_
          rotate_left
          · intro w' hSw
            (try dsimp only at hSw)
            go_simp
            all_goals (try with_reducible rfl)
          (try simp only [Act.put, List.getElem_toArray, List.getElem_cons_zero, List.getElem_cons_succ, List.setIfInBounds_toArray, List.set_cons_zero, List.set_cons_succ])
          refine wpAnyH_take (i := 4) (v := ?_) rfl (by kernel_rfl) (by kernel_rfl) (by kernel_rfl) (fun _ _ _ h => h) (Or.inl ⟨by rfl, ?_⟩) (by assumption) ?_
          rotate_left
          · intro w' hSw
            (try dsimp only at hSw)
            go_simp
            all_goals (try with_reducible rfl)
          (try simp only [Act.put, List.getElem_toArray, List.getElem_cons_zero, List.getElem_cons_succ, List.setIfInBounds_toArray, List.set_cons_zero, List.set_cons_succ])
          refine wpAnyH_take (i := 5) (v := ?_) rfl (by kernel_rfl) (by kernel_rfl) (by kernel_rfl) (fun _ _ _ h => h) (Or.inl ⟨by rfl, ?_⟩) (by assumption) ?_
          rotate_left
          · intro w' hSw
            (try dsimp only at hSw)
            go_simp
            all_goals (try with_reducible rfl)
          (try simp only [Act.put, List.getElem_toArray, List.getElem_cons_zero, List.getElem_cons_succ, List.setIfInBounds_toArray, List.set_cons_zero, List.set_cons_succ])
          refine wpAnyH_take (i := 6) (v := ?_) rfl (by kernel_rfl) (by kernel_rfl) (by kernel_rfl) (fun _ _ _ h => h) (Or.inl ⟨by rfl, ?_⟩) (by assumption) ?_
          rotate_left
          · intro w' hSw
            (try dsimp only at hSw)
            go_simp
            all_goals (try with_reducible rfl)
          (try simp only [Act.put, List.getElem_toArray, List.getElem_cons_zero, List.getElem_cons_succ, List.setIfInBounds_toArray, List.set_cons_zero, List.set_cons_succ])
          refine wpAnyH_ready (rs := [7]) (by kernel_rfl) (by simp) ?_
          refine AllReadyH.cons rfl (fun K hK => ?_) AllReadyH.nil
          (try simp only [Act.put, List.getElem_toArray, List.getElem_cons_zero, List.getElem_cons_succ, List.setIfInBounds_toArray, List.set_cons_zero, List.set_cons_succ])
          go_simp
          (go_at_call 20; refine Calls.mono (implHas X Y Z sp sn kb HK.out HVV.out HDT.out _) ?_; rintro e x1 ⟨rfl, hb⟩; have HB5 : Hid (Below WL.heap.size WL x1) := bel_next (bel_next HWr (bel_drew _)) hb)
          (try simp only [])
          refine hK.out _ _ ?_ (fun hHeld' => ?_)
          · (try dsimp only)
            exact ⟨⟨cell_next hb hHeld.1.1 (cell_lt hHeld.1.1), cell_next hb hHeld.1.2.1 (cell_lt hHeld.1.2.1), cell_next hb hHeld.1.2.2 (cell_lt hHeld.1.2.2)⟩, cell_next hb hHeld.2.1 (cell_lt hHeld.2.1), cell_next hb hHeld.2.2.1 (cell_lt hHeld.2.2.1), cell_next hb hHeld.2.2.2 (cell_lt hHeld.2.2.2)⟩
          clear hK K
          clear hHeld
          have hHeld := hHeld'
          clear hHeld'
          clear hb
          (try simp only [Act.put, List.getElem_toArray, List.getElem_cons_zero, List.getElem_cons_succ, List.setIfInBounds_toArray, List.set_cons_zero, List.set_cons_succ])
          refine wpAnyH_take (i := 8) (v := ?_) rfl (by kernel_rfl) (by kernel_rfl) (by kernel_rfl) (fun _ _ _ h => h) (Or.inl ⟨by rfl, ?_⟩) (by assumption) ?_
          rotate_left
          · intro w' hSw
            (try dsimp only at hSw)
            go_simp
            all_goals (try with_reducible rfl)
          (try simp only [Act.put, List.getElem_toArray, List.getElem_cons_zero, List.getElem_cons_succ, List.setIfInBounds_toArray, List.set_cons_zero, List.set_cons_succ])
          refine wpAnyH_take (i := 9) (v := ?_) rfl (by kernel_rfl) (by kernel_rfl) (by kernel_rfl) (fun _ _ _ h => h) (Or.inl ⟨by rfl, ?_⟩) (by assumption) ?_
          rotate_left
          · intro w' hSw
            (try dsimp only at hSw)
            go_simp
            all_goals (try with_reducible rfl)
          (try simp only [Act.put, List.getElem_toArray, List.getElem_cons_zero, List.getElem_cons_succ, List.setIfInBounds_toArray, List.set_cons_zero, List.set_cons_succ])
          refine wpAnyH_take (i := 10) (v := ?_) rfl (by kernel_rfl) (by kernel_rfl) (by kernel_rfl) (fun _ _ _ h => h) (Or.inl ⟨by rfl, ?_⟩) (by assumption) ?_
          rotate_left
          · intro w' hSw
            (try dsimp only at hSw)
            go_simp
            all_goals (try with_reducible rfl)
          (try simp only [Act.put, List.getElem_toArray, List.getElem_cons_zero, List.getElem_cons_succ, List.setIfInBounds_toArray, List.set_cons_zero, List.set_cons_succ])
          refine wpAnyH_take (i := 11) (v := ?_) rfl (by kernel_rfl) (by kernel_rfl) (by kernel_rfl) (fun _ _ _ h => h) (Or.inl ⟨by rfl, ?_⟩) (by assumption) ?_
          rotate_left
          · intro w' hSw
            (try dsimp only at hSw)
            go_simp
            all_goals (try with_reducible rfl)
          (try simp only [Act.put, List.getElem_toArray, List.getElem_cons_zero, List.getElem_cons_succ, List.setIfInBounds_toArray, List.set_cons_zero, List.set_cons_succ])
          refine wpAnyH_take (i := 12) (v := ?_) rfl (by kernel_rfl) (by kernel_rfl) (by kernel_rfl) (fun _ _ _ h => h) (Or.inl ⟨by rfl, ?_⟩) (by assumption) ?_
          rotate_left
          · intro w' hSw
            (try dsimp only at hSw)
            go_simp
            all_goals (try with_reducible rfl)
          (try simp only [Act.put, List.getElem_toArray, List.getElem_cons_zero, List.getElem_cons_succ, List.setIfInBounds_toArray, List.set_cons_zero, List.set_cons_succ])
          refine wpAnyH_done (by kernel_rfl) ?_ _
          clear hHeld
          cases kb with
          | true =>
            go_wp2
            go_roundw
            case rel => first | exact ⟨i + 1, nn, by omega, by go_num, rfl, by rw [HNN.out, fil_miss HLT.out HF.out], HB5.out⟩ | ((repeat apply Exists.intro); exact ⟨⟨i + 1, nn, by omega, by go_num, rfl, by rw [HNN.out, fil_miss HLT.out HF.out], HB5.out⟩, rfl⟩)
            case measure => simp [intOf]; omega
          | false =>
            go_wp2
            go_roundw
            case rel => first | exact ⟨i + 1, nn + 1, by omega, by go_num, by go_num, by rw [HNN.out, fil_hit HLT.out HF.out, List.length_append]; rfl, HB5.out⟩ | ((repeat apply Exists.intro); exact ⟨⟨i + 1, nn + 1, by omega, by go_num, by go_num, by rw [HNN.out, fil_hit HLT.out HF.out, List.length_append]; rfl, HB5.out⟩, rfl⟩)
            case measure => simp [intOf]; omega
        · have hlt' : ¬ (i : Int) < (xa.l.length : Int) := by omega
          have HNX : Hid (nn = xx.l.length) := by
            show nn = xx.l.length
            obtain rfl : i = xa.l.length := by omega
            rw [HNN.out, List.take_length, HXX.out.J, pt_len]
            omega
          obtain rfl : nn = xx.l.length := HNX.out
          clear HNN HNX hnb
          have BXr := bx_next BX HWr.out
          replace HB := bel_next HB HWr.out
          obtain ⟨a0, a1, a2, a3⟩ := WFr.out.o.cells
          obtain ⟨x0, x1, x2, x3⟩ := BXr.out.cells
          obtain ⟨d0, d1⟩ := WFr.out.d
          go_wp2_with fail
          clear a0 a1 a2 a3 x0 x1 x2 x3 d0 d1 hlt' hi
          refine Calls.mono (implWr xx xx.a xx.b xx.c (nd : Int) 101 0 true _ _ _ _ 0 (HXX.out.over PA.out HM.out HX.out hnd HV9.out) _ HLx.out BXr.out.row) ?_
          rintro e y1 ⟨zz, hE, rfl, hb, hr, hc, hfr⟩
          have EZ : Hid _ := hE
          have OKZ : Hid (OkP zz.l zz.a zz.b zz.c) := by
            have := HXX.out.okO PA.out HM.out HX.out hnd HV9.out
            rw [← hE.1, ← hE.2.1, ← hE.2.2.1, ← hE.2.2.2] at this
            exact this
          have LZ : Hid (live zz.l = []) := by
            show live zz.l = []
            rw [hE.1]
            rfl
          have LN : Hid (zz.l.length = 1) := by
            show zz.l.length = 1
            rw [hE.1]
            rfl
          have BZ : Hid (Bx (y1.alloc (.cells #[.slice zz.ao zz.l.length zz.cap, .int .i64 zz.a, .int .i64 zz.b, .int .i64 zz.c] 29)) y1.heap.size zz) := bx_new hr hc
          have hb2 := bel_alloc y1 (.cells #[.slice zz.ao zz.l.length zz.cap, .int .i64 zz.a, .int .i64 zz.b, .int .i64 zz.c] 29)
          replace WFr := wf_next (wf_next WFr hb) hb2
          replace BXr := bx_next (bx_next BXr hb) hb2
          replace HB := bel_next (bel_next HB hb) hb2
          clear hE hb hr hc hfr hb2 EZ
          obtain ⟨z0, z1, z2, z3⟩ := BZ.out.cells
          go_wp2_with fail
          clear z0 z1 z2 z3
          generalize y1.alloc (.cells #[.slice zz.ao zz.l.length zz.cap, .int .i64 zz.a, .int .i64 zz.b, .int .i64 zz.c] 29) = y2 at *
          generalize y1.heap.size = gz at *
          refine Calls.mono (implLv0 zz OKZ.out LZ.out _ BZ.out.row) ?_
          rintro e y3 ⟨lp, lc, rfl, hb⟩
          replace WFr := wf_next WFr hb
          replace BXr := bx_next BXr hb
          replace BZ := bx_next BZ hb
          replace HB := bel_next HB hb
          clear hb OKZ LZ
          obtain ⟨x0, x1, x2, x3⟩ := BXr.out.cells
          go_wp2_with fail
          clear x0 x1 x2 x3
          refine Calls.mono (implCd xx xx.a xx.b xx.c true HOK.out HOK.out.2.1 ⟨fun _ => HXX.out.knows PA.out HM.out HX.out hnd HV9.out, fun _ => rfl⟩ _ BXr.out.row) ?_
          rintro e y4 ⟨rfl, hb⟩
          replace WFr := wf_next WFr hb
          replace BXr := bx_next BXr hb
          replace BZ := bx_next BZ hb
          replace HB := bel_next HB hb
          clear hb
          obtain ⟨x0, x1, x2, x3⟩ := BXr.out.cells
          go_wp2_with fail
          clear x0 x1 x2 x3
          refine Calls.mono (implCd xx 0 0 0 false HOK.out (by decide) ⟨fun h => (by cases h), fun h => ((HXX.out.none PA.out HM.out HX.out hnd HV9.out) h).elim⟩ _ BXr.out.row) ?_
          rintro e y5 ⟨rfl, hb⟩
          replace WFr := wf_next WFr hb
          replace BXr := bx_next BXr hb
          replace BZ := bx_next BZ hb
          replace HB := bel_next HB hb
          clear hb
          obtain ⟨x0, x1, x2, x3⟩ := BXr.out.cells
          obtain ⟨c0, c1, c2⟩ := WFr.out.c
          obtain ⟨d0, d1⟩ := WFr.out.d
          go_wp2_with fail
          clear x0 x1 x2 x3 c0 c1 c2 d0 d1
          refine Calls.mono (implWr xx X Y Z (nd : Int) 100 1 false _ _ _ _ 17 (HXX.out.twice PA.out HM.out HX.out HX0.out hnd HV9.out) _ HLx.out BXr.out.row) ?_
          rintro e y6 ⟨tt, hE, rfl, hb, hr, hc, hfr⟩
          have hb2 := bel_alloc y6 (.cells #[.slice tt.ao tt.l.length tt.cap, .int .i64 tt.a, .int .i64 tt.b, .int .i64 tt.c] 29)
          replace BXr := bx_next (bx_next BXr hb) hb2
          replace BZ := bx_next (bx_next BZ hb) hb2
          replace HB := bel_next (bel_next HB hb) hb2
          clear hE hb hr hc hfr hb2
          obtain ⟨x0, x1, x2, x3⟩ := BXr.out.cells
          obtain ⟨z0, z1, z2, z3⟩ := BZ.out.cells
          rw [LN.out] at z0
          go_wp2
          go_ret
          exact ⟨rfl, HB.out⟩
end Go.Proofs.Ytlhabbdihjeidaa
