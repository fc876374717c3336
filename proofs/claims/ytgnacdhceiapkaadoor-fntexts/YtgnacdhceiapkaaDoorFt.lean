/- Dots, what is known, and objects are read back from their texts: the law's walk. -/
import Derived.Test.YtgnacdhceiapkaaDoorRows
import Derived.WalkKit
import Derived.WalkSpells
import Derived.WalkLawsBesides
import Derived.Deep.QuietTactic
import Derived.BigQuiet
import Derived.Deep.RegionHeld3
import Derived.Test.YtgnacdhceiapkaaDoorFm
import Derived.Test.YtgnacdhceiapkaaDoorWo
import Derived.Test.YtgnacdhceiapkaaDoorVw
import Derived.Test.YtgnacdhceiapkaaDoorOz
import Derived.Test.YtgnacdhceiapkaaDoorDr
import Derived.LoopN
namespace Go.Proofs.YtgnacdhceiapkaaDoor
open Go.RowKit
set_option linter.unusedSimpArgs false
set_option linter.unusedVariables false

def BRow (w : World) (v : Value) : Prop := ∃ ao len cap zs, v = .slice ao len cap ∧ Gen.IsRow .u8 w ao len cap zs
set_option maxHeartbeats 1000000 in
theorem implDT (p n : Int) (h : dotB p n = true) (w : World) (ht0 : TB w) :
    Calls Tryd.prog 7 #[.agg #[.int .i64 p, .int .i64 n]] w fun e w' => e = .returned (.tuple #[.string ⟨(dotT p n).toArray⟩, .int .i64 0]) ∧ Below w.heap.size w w' := by
  have hd := of_decide_eq_true (show decide _ = true from h)
  have B0 : Hid (Below w.heap.size w (w.alloc (.cells #[.int .i64 p, .int .i64 n] 24))) := bel_alloc _ _
  have CD : Hid (∀ W, Calls Tryd.prog 19 #[.agg #[.int .i64 p, .int .i64 n]] W fun e w' => e = .returned (.bool true) ∧ Below W.heap.size W w') := fun W => by
    have := impl_dot p n W
    rw [h] at this
    exact this
  have CT : Hid (∀ W, TB W → Calls Tryd.prog 20 #[.agg #[.int .i64 p, .int .i64 n]] W fun e w' => e = .returned (.string ⟨(dotT p n).toArray⟩) ∧ Below W.heap.size W w') := fun W hW => dotI p n (by omega) (by omega) (by omega) W hW
  have HT : Hid (TB w) := ht0
  clear h hd ht0
  go_enter Tryd.func7, Tryd.ntmps7
  go_wp2_with fail
  refine Calls.mono (CD.out _) ?_
  rintro e w1 ⟨rfl, hb⟩
  have c0 := cell_next hb (b := w.heap.size) (o := 0) (v := .int .i64 p) (by go_simp) (by simp)
  have c1 := cell_next hb (b := w.heap.size) (o := 1) (v := .int .i64 n) (by go_simp) (by simp)
  replace B0 := bel_next B0 hb
  clear hb
  go_wp2_with fail
  refine Calls.mono (CT.out _ (TB.next HT.out B0.out)) ?_
  rintro e w2 ⟨rfl, hb⟩
  replace B0 := bel_next B0 hb
  clear hb
  go_wp2
  go_ret2
  exact ⟨rfl, B0.out⟩
set_option maxHeartbeats 1000000 in
theorem implVT (a b c : Int) (h : vvB a b c = true) (w : World) (ht0 : TB w) :
    Calls Tryd.prog 9 #[.agg #[.int .i64 a, .int .i64 b, .int .i64 c]] w fun e w' => e = .returned (.tuple #[.string ⟨(vvT a b c).toArray⟩, .int .i64 0]) ∧ Below w.heap.size w w' := by
  have B0 : Hid (Below w.heap.size w (w.alloc (.cells #[.int .i64 a, .int .i64 b, .int .i64 c] 27))) := bel_alloc _ _
  have CD : Hid (∀ W, Calls Tryd.prog 23 #[.agg #[.int .i64 a, .int .i64 b, .int .i64 c]] W fun e w' => e = .returned (.bool true) ∧ Below W.heap.size W w') := fun W => by
    have := impl_vv a b c W
    rw [h] at this
    exact this
  have CT : Hid (∀ W, TB W → Calls Tryd.prog 24 #[.agg #[.int .i64 a, .int .i64 b, .int .i64 c]] W fun e w' => e = .returned (.string ⟨(vvT a b c).toArray⟩) ∧ Below W.heap.size W w') := fun W hW => vvI h W hW
  have HT : Hid (TB w) := ht0
  clear h ht0
  go_enter Tryd.func9, Tryd.ntmps9
  go_wp2_with fail
  refine Calls.mono (CD.out _) ?_
  rintro e w1 ⟨rfl, hb⟩
  have c0 := cell_next hb (b := w.heap.size) (o := 0) (v := .int .i64 a) (by go_simp) (by simp)
  have c1 := cell_next hb (b := w.heap.size) (o := 1) (v := .int .i64 b) (by go_simp) (by simp)
  have c2 := cell_next hb (b := w.heap.size) (o := 2) (v := .int .i64 c) (by go_simp) (by simp)
  replace B0 := bel_next B0 hb
  clear hb
  go_wp2_with fail
  refine Calls.mono (CT.out _ (TB.next HT.out B0.out)) ?_
  rintro e w2 ⟨rfl, hb⟩
  replace B0 := bel_next B0 hb
  clear hb
  go_wp2
  go_ret2
  exact ⟨rfl, B0.out⟩
/-- Two cells, three cells. -/
structure B2 (W : World) (g : Nat) (p n : Int) : Prop where
  c : W.cell? ⟨g, 0, none⟩ = some (.int .i64 p) ∧ W.cell? ⟨g, 1, none⟩ = some (.int .i64 n)
theorem b2_next {W W' : World} {g : Nat} {p n : Int} (h : Hid (B2 W g p n)) (hb : Below W.heap.size W W') : Hid (B2 W' g p n) := ⟨cell_next hb h.out.c.1 (cell_lt h.out.c.1), cell_next hb h.out.c.2 (cell_lt h.out.c.1)⟩
theorem b2_new {W : World} {p n : Int} {t : TypeId} : Hid (B2 (W.alloc (.cells #[.int .i64 p, .int .i64 n] t)) W.heap.size p n) := by refine ⟨⟨?_, ?_⟩⟩ <;> go_simp
structure B3 (W : World) (g : Nat) (a b c : Int) : Prop where
  c : W.cell? ⟨g, 0, none⟩ = some (.int .i64 a) ∧ W.cell? ⟨g, 1, none⟩ = some (.int .i64 b) ∧ W.cell? ⟨g, 2, none⟩ = some (.int .i64 c)
theorem b3_next {W W' : World} {g : Nat} {a b c : Int} (h : Hid (B3 W g a b c)) (hb : Below W.heap.size W W') : Hid (B3 W' g a b c) := ⟨cell_next hb h.out.c.1 (cell_lt h.out.c.1), cell_next hb h.out.c.2.1 (cell_lt h.out.c.1), cell_next hb h.out.c.2.2 (cell_lt h.out.c.1)⟩
theorem b3_new {W : World} {a b c : Int} {t : TypeId} : Hid (B3 (W.alloc (.cells #[.int .i64 a, .int .i64 b, .int .i64 c] t)) W.heap.size a b c) := by refine ⟨⟨?_, ?_, ?_⟩⟩ <;> go_simp
theorem roq_ov {w w' : World} {m : List Sib} {x y z code : Int} {e : Ending} (h : RoQ w m x y z code e w') : ∃ u : Ov, (u.l = m ∧ u.a = x ∧ u.b = y ∧ u.c = z) ∧ e = .returned (.tuple #[.agg #[.slice u.ao u.l.length u.cap, .int .i64 u.a, .int .i64 u.b, .int .i64 u.c], .int .i64 code]) ∧ Below w.heap.size w w' ∧ SibRow w' u.ao u.l ∧ u.l.length ≤ u.cap := by
  obtain ⟨v, rfl, hO, _, hb⟩ := h
  obtain ⟨p, q, e, hr, _⟩ := owned_row hO
  subst e
  refine ⟨⟨p, q, m, x, y, z⟩, ⟨rfl, rfl, rfl, rfl⟩, rfl, hb, hr, ?_⟩
  rcases hO.2 with ⟨h0, h1⟩ | ⟨g', cap', cur, h0, hb, hh, hnc, hm, hs, ht⟩
  · show m.length ≤ q
    omega
  · cases h0
    exact hnc

theorem rowh_next {W W' : World} {ao : Option Addr} {len cap : Nat} {zs : List Int} (h : Hid (Gen.IsRow .u8 W ao len cap zs)) (hb : Below W.heap.size W W') : Hid (Gen.IsRow .u8 W' ao len cap zs) := row_below h.out hb
set_option maxRecDepth 100000 in
set_option maxHeartbeats 16000000 in
theorem law_texts (v0 v1 : Value) (w : World) (h0 : BRow w v0) (h1 : BRow w v1) (ht0 : TB w) :
    Calls Tryd.prog 3 #[v0, v1] w fun e w' => e = .returned (.bool true) ∧ Below w.heap.size w w' := by
  obtain ⟨ao, len, cap, zs, rfl, hr0⟩ := h0
  obtain ⟨bo, ln, cp, ys, rfl, hr1⟩ := h1
  by_cases h1 : 1048576 < (len : Int)
  · clear hr0 hr1
    go_enter Tryd.func3, Tryd.ntmps3
    go_wp2
    go_ret
    exact ⟨rfl, Below.refl _ _⟩
  by_cases h2 : 1048576 < (ln : Int)
  · clear hr0 hr1
    go_enter Tryd.func3, Tryd.ntmps3
    go_wp2
    go_ret
    exact ⟨rfl, Below.refl _ _⟩
  have RA : Hid (Gen.IsRow .u8 w ao len cap zs) := hr0
  have RB : Hid (Gen.IsRow .u8 w bo ln cp ys) := hr1
  have HT : Hid (TB w) := ht0
  have hl : (len : Int) ≤ 1048576 := by omega
  have hl2 : (ln : Int) ≤ 1048576 := by omega
  clear hr0 hr1 ht0
  go_enter Tryd.func3, Tryd.ntmps3
  go_wp2_with fail
  refine Calls.mono (dotDrawn_any len cap ao zs w RA.out hl) ?_
  rintro e W1 ⟨p, n, ⟨⟨p0, p1⟩, n0, n1⟩, rfl, hb⟩
  have HD : Hid (dotB p n = true) := decide_eq_true (by omega)
  have HB : Hid (Below w.heap.size w W1) := hb
  replace RA := rowh_next RA hb
  replace RB := rowh_next RB hb
  clear hb p0 p1 n0 n1
  have Bd : Hid (B2 (W1.alloc (.cells #[.int .i64 p, .int .i64 n] 24)) W1.heap.size p n) := b2_new
  have hb := bel_alloc W1 (.cells #[.int .i64 p, .int .i64 n] 24)
  replace RA := rowh_next RA hb
  replace RB := rowh_next RB hb
  replace HB := bel_next HB hb
  clear hb
  go_wp2_with fail
  generalize (W1.alloc (.cells #[.int .i64 p, .int .i64 n] 24)) = V1 at *
  generalize W1.heap.size = bd at *
  refine Calls.mono (vvDrawn_any len cap ao zs _ RA.out hl) ?_
  rintro e W2 ⟨a, b, c, ⟨⟨a0, a1⟩, ⟨b0, b1⟩, c0, c1⟩, rfl, hb⟩
  have HV : Hid (vvB a b c = true) := decide_eq_true (by omega)
  clear a0 a1 b0 b1 c0 c1
  replace RA := rowh_next RA hb
  replace RB := rowh_next RB hb
  replace Bd := b2_next Bd hb
  replace HB := bel_next HB hb
  clear hb RA
  have Bv : Hid (B3 (W2.alloc (.cells #[.int .i64 a, .int .i64 b, .int .i64 c] 27)) W2.heap.size a b c) := b3_new
  have hb := bel_alloc W2 (.cells #[.int .i64 a, .int .i64 b, .int .i64 c] 27)
  replace RB := rowh_next RB hb
  replace Bd := b2_next Bd hb
  replace HB := bel_next HB hb
  clear hb
  go_wp2_with fail
  generalize (W2.alloc (.cells #[.int .i64 a, .int .i64 b, .int .i64 c] 27)) = V2 at *
  generalize W2.heap.size = bv at *
  refine Calls.mono (objsOf_any bo ln cp ys _ hl2 RB.out) ?_
  rintro e W3 ⟨V, m, o, q, rfl, hob, hro, hrp, hm, hb⟩
  have OK : Hid (OkP (o 0).l (o 0).a (o 0).b (o 0).c) := (hrp 0 (by omega)).okP hm.1 hm.2.1 hm.2.2
  have R0 : Hid (SibRow W3 (o 0).ao (o 0).l ∧ (o 0).l.length ≤ (o 0).cap) := hro 0 (by omega)
  obtain ⟨a0, a1, a2, a3, b0, b1, b2, b3, c0, c1, c2, c3⟩ := ll_of hob
  clear hob hro hrp hm b0 b1 b2 b3 c0 c1 c2 c3
  replace RB := rowh_next RB hb
  replace Bd := b2_next Bd hb
  replace Bv := b3_next Bv hb
  replace HB := bel_next HB hb
  clear hb RB
  generalize o 0 = x at *
  have Bo : Hid (Bx (W3.alloc (.cells #[.slice x.ao x.l.length x.cap, .int .i64 x.a, .int .i64 x.b, .int .i64 x.c] 31)) W3.heap.size x) := bx_new R0.out.1 R0.out.2
  have hb := bel_alloc W3 (.cells #[.slice x.ao x.l.length x.cap, .int .i64 x.a, .int .i64 x.b, .int .i64 x.c] 31)
  replace Bd := b2_next Bd hb
  replace Bv := b3_next Bv hb
  replace HB := bel_next HB hb
  clear hb R0
  obtain ⟨d0, d1⟩ := Bd.out.c
  go_wp2_with fail
  clear a0 a1 a2 a3 d0 d1
  generalize (W3.alloc (.cells #[.slice x.ao x.l.length x.cap, .int .i64 x.a, .int .i64 x.b, .int .i64 x.c] 31)) = V3 at *
  generalize W3.heap.size = bo' at *
  refine Calls.mono (implDT p n HD.out _ (TB.next HT.out HB.out)) ?_
  rintro e W4 ⟨rfl, hb⟩
  replace Bd := b2_next Bd hb
  replace Bv := b3_next Bv hb
  replace Bo := bx_next Bo hb
  replace HB := bel_next HB hb
  clear hb
  go_wp2_with fail
  refine Calls.mono (implRead_any _ p n 0 (rda_text HD.out) _ (by have := dot_short HD.out; rw [size_of]; omega)) ?_
  rintro e W5 ⟨rfl, hb⟩
  replace Bd := b2_next Bd hb
  replace Bv := b3_next Bv hb
  replace Bo := bx_next Bo hb
  replace HB := bel_next HB hb
  have Bx1 : Hid (B2 (W5.alloc (.cells #[.int .i64 p, .int .i64 n] 24)) W5.heap.size p n) := b2_new
  clear hb
  have hb := bel_alloc W5 (.cells #[.int .i64 p, .int .i64 n] 24)
  replace Bd := b2_next Bd hb
  replace Bv := b3_next Bv hb
  replace Bo := bx_next Bo hb
  replace HB := bel_next HB hb
  clear hb
  obtain ⟨v0, v1, v2⟩ := Bv.out.c
  go_wp2_with fail
  clear v0 v1 v2
  generalize (W5.alloc (.cells #[.int .i64 p, .int .i64 n] 24)) = V4 at *
  generalize W5.heap.size = bx at *
  refine Calls.mono (implVT a b c HV.out _ (TB.next HT.out HB.out)) ?_
  rintro e W6 ⟨rfl, hb⟩
  replace Bd := b2_next Bd hb
  replace Bv := b3_next Bv hb
  replace Bo := bx_next Bo hb
  replace Bx1 := b2_next Bx1 hb
  replace HB := bel_next HB hb
  clear hb
  go_wp2_with fail
  refine Calls.mono (implReadV_any _ a b c 0 (rva_text HV.out) _ (by have := vv_short HV.out; rw [size_of]; omega)) ?_
  rintro e W7 ⟨rfl, hb⟩
  replace Bd := b2_next Bd hb
  replace Bv := b3_next Bv hb
  replace Bo := bx_next Bo hb
  replace Bx1 := b2_next Bx1 hb
  replace HB := bel_next HB hb
  have By : Hid (B3 (W7.alloc (.cells #[.int .i64 a, .int .i64 b, .int .i64 c] 27)) W7.heap.size a b c) := b3_new
  clear hb
  have hb := bel_alloc W7 (.cells #[.int .i64 a, .int .i64 b, .int .i64 c] 27)
  replace Bd := b2_next Bd hb
  replace Bv := b3_next Bv hb
  replace Bo := bx_next Bo hb
  replace Bx1 := b2_next Bx1 hb
  replace HB := bel_next HB hb
  clear hb
  obtain ⟨o0, o1, o2, o3⟩ := Bo.out.cells
  go_wp2_with fail
  clear o0 o1 o2 o3
  generalize (W7.alloc (.cells #[.int .i64 a, .int .i64 b, .int .i64 c] 27)) = V5 at *
  generalize W7.heap.size = byy at *
  have HTR : Hid (TRel x.l x.a x.b x.c ⟨(objT (vvT x.a x.b x.c) x.l).toArray⟩ 0) := ⟨fun _ => ⟨rfl, rfl⟩, fun h => (h OK.out).elim⟩
  have HL1 : Hid ((x.l.length : Int) ≤ 1048576) := by have := OK.out.1; show _ ≤ _; omega
  obtain ⟨tx, htx⟩ : ∃ tx : List UInt8, tx = objT (vvT x.a x.b x.c) x.l := ⟨_, rfl⟩
  have TXE : Hid (tx = objT (vvT x.a x.b x.c) x.l) := htx
  rw [← htx] at HTR
  have HTS : Hid (tx.length ≤ 4000) := by show _ ≤ _; rw [htx]; exact obj_short OK.out
  have HRT : Hid (RoA ⟨tx.toArray⟩ x.l x.a x.b x.c 0) := by show RoA _ _ _ _ _ _; rw [htx]; exact roa_text OK.out
  have HRB : Hid (RoA ⟨(tx ++ [124]).toArray⟩ [] 0 0 0 3) := by show RoA _ _ _ _ _ _; rw [htx]; exact roa_bad OK.out
  clear htx TXE
  refine Calls.mono (implText_any x.cap x.ao x.l x.a x.b x.c _ 0 HTR _ HL1.out Bo.out.row (TB.next HT.out HB.out)) ?_
  rintro e W8 ⟨rfl, hb⟩
  replace Bd := b2_next Bd hb
  replace Bv := b3_next Bv hb
  replace Bo := bx_next Bo hb
  replace Bx1 := b2_next Bx1 hb
  replace By := b3_next By hb
  replace HB := bel_next HB hb
  clear hb
  go_wp2_with fail
  refine Calls.mono (implReadO_any _ x.l x.a x.b x.c 0 HRT _ (by have := HTS.out; rw [size_of]; omega)) ?_
  intro e W9 hQ
  obtain ⟨u, hE, rfl, hb, hr, hc⟩ := roq_ov hQ
  clear hQ
  have EU : Hid (Al u x) := hE
  clear hE
  replace Bd := b2_next Bd hb
  replace Bv := b3_next Bv hb
  replace Bo := bx_next Bo hb
  replace Bx1 := b2_next Bx1 hb
  replace By := b3_next By hb
  replace HB := bel_next HB hb
  have Bu : Hid (Bx (W9.alloc (.cells #[.slice u.ao u.l.length u.cap, .int .i64 u.a, .int .i64 u.b, .int .i64 u.c] 31)) W9.heap.size u) := bx_new hr hc
  clear hb hr hc
  have hb := bel_alloc W9 (.cells #[.slice u.ao u.l.length u.cap, .int .i64 u.a, .int .i64 u.b, .int .i64 u.c] 31)
  replace Bd := b2_next Bd hb
  replace Bv := b3_next Bv hb
  replace Bo := bx_next Bo hb
  replace Bx1 := b2_next Bx1 hb
  replace By := b3_next By hb
  replace HB := bel_next HB hb
  clear hb
  obtain ⟨o0, o1, o2, o3⟩ := Bo.out.cells
  go_wp2_with fail
  clear o0 o1 o2 o3
  generalize (W9.alloc (.cells #[.slice u.ao u.l.length u.cap, .int .i64 u.a, .int .i64 u.b, .int .i64 u.c] 31)) = V6 at *
  generalize W9.heap.size = bu at *
  refine Calls.mono (specText_any x.cap x.ao x.l x.a x.b x.c _ 0 HTR _ HL1.out Bo.out.row) ?_
  rintro e W10 ⟨rfl, hb⟩
  replace Bd := b2_next Bd hb
  replace Bv := b3_next Bv hb
  replace Bo := bx_next Bo hb
  replace Bx1 := b2_next Bx1 hb
  replace By := b3_next By hb
  replace Bu := bx_next Bu hb
  replace HB := bel_next HB hb
  clear hb
  have QA : (⟨tx.toArray⟩ : ByteArray) ++ ⟨#[124]⟩ = ⟨(tx ++ [124]).toArray⟩ := ba_app tx [124]
  have QL : ¬ 9223372036854775807 < tx.length + 1 := by have := HTS.out; omega
  go_wp2_with fail
  clear QL
  refine Calls.mono (implReadO_any _ [] 0 0 0 3 HRB _ (by have := HTS.out; rw [size_of, List.length_append]; simp; omega)) ?_
  intro e W11 hQ
  obtain ⟨u2, hE, rfl, hb, hr, hc⟩ := roq_ov hQ
  clear hQ hE
  replace Bd := b2_next Bd hb
  replace Bv := b3_next Bv hb
  replace Bo := bx_next Bo hb
  replace Bx1 := b2_next Bx1 hb
  replace By := b3_next By hb
  replace Bu := bx_next Bu hb
  replace HB := bel_next HB hb
  clear hb hr hc
  have hb := bel_alloc W11 (.cells #[.slice u2.ao u2.l.length u2.cap, .int .i64 u2.a, .int .i64 u2.b, .int .i64 u2.c] 31)
  replace Bd := b2_next Bd hb
  replace Bv := b3_next Bv hb
  replace Bo := bx_next Bo hb
  replace Bx1 := b2_next Bx1 hb
  replace By := b3_next By hb
  replace Bu := bx_next Bu hb
  replace HB := bel_next HB hb
  clear hb
  go_wp2_with fail
  generalize (W11.alloc (.cells #[.slice u2.ao u2.l.length u2.cap, .int .i64 u2.a, .int .i64 u2.b, .int .i64 u2.c] 31)) = V7 at *
  generalize W11.heap.size = bz at *
  refine Calls.mono (implRead_any _ 0 0 3 rda_none _ (by decide)) ?_
  rintro e W12 ⟨rfl, hb⟩
  replace Bd := b2_next Bd hb
  replace Bv := b3_next Bv hb
  replace Bo := bx_next Bo hb
  replace Bx1 := b2_next Bx1 hb
  replace By := b3_next By hb
  replace Bu := bx_next Bu hb
  replace HB := bel_next HB hb
  clear hb
  have hb := bel_alloc W12 (.cells #[.int .i64 0, .int .i64 0] 24)
  replace Bd := b2_next Bd hb
  replace Bv := b3_next Bv hb
  replace Bo := bx_next Bo hb
  replace Bx1 := b2_next Bx1 hb
  replace By := b3_next By hb
  replace Bu := bx_next Bu hb
  replace HB := bel_next HB hb
  clear hb
  obtain ⟨d0, d1⟩ := Bd.out.c
  obtain ⟨v0, v1, v2⟩ := Bv.out.c
  obtain ⟨x0, x1⟩ := Bx1.out.c
  obtain ⟨y0, y1, y2⟩ := By.out.c
  obtain ⟨o0, o1, o2, o3⟩ := Bo.out.cells
  obtain ⟨u0, u1, u2', u3⟩ := Bu.out.cells
  have ev := eqv a b c a b c
  go_wp2_with fail
  clear ev d0 d1 v0 v1 v2 x0 x1 y0 y1 y2 o0 o1 o2 o3 u0 u1 u2' u3
  generalize (W12.alloc (.cells #[.int .i64 0, .int .i64 0] 24)) = V8 at *
  generalize W12.heap.size = bn at *
  have HLu : Hid ((u.l.length : Int) ≤ 1048576) := by have h3 := HL1.out; have h4 := EU.out.1; show _ ≤ _; rw [h4]; exact h3
  refine Calls.mono (lsame_any u.cap x.cap u.ao x.ao u.l x.l u.a u.b u.c x.a x.b x.c true ⟨fun _ => same_of EU.out, fun _ => rfl⟩ _ HLu.out HL1.out Bu.out.row Bo.out.row) ?_
  rintro e W13 ⟨rfl, hb⟩
  replace Bd := b2_next Bd hb
  replace Bv := b3_next Bv hb
  replace Bo := bx_next Bo hb
  replace Bx1 := b2_next Bx1 hb
  replace By := b3_next By hb
  replace Bu := bx_next Bu hb
  replace HB := bel_next HB hb
  clear hb
  go_wp2
  go_ret
  exact ⟨rfl, HB.out⟩
end Go.Proofs.YtgnacdhceiapkaaDoor
