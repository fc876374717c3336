/- GroupOK of both sides. -/
import Derived.Test.YtklajcdlacemaaaRows
import Derived.WalkKit
import Derived.WalkSpells
import Derived.WalkLawsBesides
import Derived.Deep.QuietTactic
import Derived.BigQuiet
import Derived.Deep.RegionHeld3
import Derived.Test.YtklajcdlacemaaaGv
import Derived.LoopN
namespace Go.Proofs.Ytklajcdlacemaaa
open Go.RowKit
set_option linter.unusedSimpArgs false
set_option linter.unusedVariables false

theorem box3_mk {W : World} {t : TypeId} {v0 v1 v2 u0 u1 u2 : Value} : Box ((((W.alloc (.cells #[v0, v1, v2] t)).setCell ⟨W.heap.size, 0, none⟩ u0).setCell ⟨W.heap.size, 1, none⟩ u1).setCell ⟨W.heap.size, 2, none⟩ u2) W.heap.size [u0, u1, u2] := (box_mk (W := W) (t := t) (vs := [v0, v1, v2])).s3
theorem box2_mk {W : World} {t : TypeId} {v0 v1 u0 u1 : Value} : Box (((W.alloc (.cells #[v0, v1] t)).setCell ⟨W.heap.size, 0, none⟩ u0).setCell ⟨W.heap.size, 1, none⟩ u1) W.heap.size [u0, u1] := (box_mk (W := W) (t := t) (vs := [v0, v1])).s2
theorem gok_e {e o a b c : Int} {l : List Dt} (h : decide (1 ≤ e ∧ e ≤ 1000000) = false) : gokB e o a b c l = false := by simp only [gokB, h, Bool.false_and]
theorem gok_o {e o a b c : Int} {l : List Dt} (h : decide (0 ≤ o ∧ o < 3) = false) : gokB e o a b c l = false := by simp only [gokB, h, Bool.false_and, Bool.and_false]
theorem gok_v {e o a b c : Int} {l : List Dt} (h : vvB a b c = false) : gokB e o a b c l = false := by simp only [gokB, h, Bool.false_and, Bool.and_false]
theorem gok_l {e o a b c : Int} {l : List Dt} (h : ¬ l.length ≤ 4096) : gokB e o a b c l = false := by simp only [gokB, decide_eq_false h, Bool.false_and, Bool.and_false]
theorem gok_all {e o a b c : Int} {l : List Dt} (h1 : decide (1 ≤ e ∧ e ≤ 1000000) = true) (h2 : decide (0 ≤ o ∧ o < 3) = true) (h3 : vvB a b c = true) (h4 : l.length ≤ 4096) : gokB e o a b c l = gokL a b c 0 0 0 l := by simp only [gokB, h1, h2, h3, decide_eq_true h4, Bool.true_and]
theorem gok_step {a b c x y z : Int} {l : List Dt} {k : Nat} (h : k < l.length) (h1 : dotB l[k].p l[k].n = true) (h2 : ¬ l[k].n ≤ comp x y z l[k].p) (h3 : l[k].n ≤ comp a b c l[k].p) : gokL a b c x y z (l.drop k) = gokL a b c (upd l[k].p l[k].n 0 x) (upd l[k].p l[k].n 1 y) (upd l[k].p l[k].n 2 z) (l.drop (k + 1)) := by
  rw [gok_drop h, h1, decide_eq_false h2, decide_eq_true h3]
  simp
theorem gok_no1 {a b c x y z : Int} {l : List Dt} {k : Nat} (h : k < l.length) (h1 : dotB l[k].p l[k].n = false) : gokL a b c x y z (l.drop k) = false := by
  rw [gok_drop h, h1]
  simp
theorem gok_no2 {a b c x y z : Int} {l : List Dt} {k : Nat} (h : k < l.length) (h1 : l[k].n ≤ comp x y z l[k].p) : gokL a b c x y z (l.drop k) = false := by
  rw [gok_drop h, decide_eq_true h1]
  simp
theorem gok_no3 {a b c x y z : Int} {l : List Dt} {k : Nat} (h : k < l.length) (h1 : ¬ l[k].n ≤ comp a b c l[k].p) : gokL a b c x y z (l.drop k) = false := by
  rw [gok_drop h, decide_eq_false h1]
  simp

set_option maxRecDepth 20000 in
set_option maxHeartbeats 4000000 in
theorem specG_any (lo q : Nat) (p : Option Addr) (l : List Dt) (e o a b c : Int) (w : World) (hl : (l.length : Int) ≤ 1048576) (hr0 : GRow lo w p (flatD l)) :
    Calls Try.prog 21 #[.agg #[.int .i64 e, .int .i64 o, .int .i64 a, .int .i64 b, .int .i64 c, .slice p l.length q]] w fun r w' => r = .returned (.bool (gokB e o a b c l)) ∧ Below w.heap.size w w' := by
  have hr : Hid _ := hr0.d
  clear hr0
  go_enter Try.func21, Try.ntmps21
  go_upto_region 1 with fail
  refine wp_gen (fun W => Box W w.heap.size [.int .i64 e, .int .i64 o, .int .i64 a, .int .i64 b, .int .i64 c, .slice p l.length q] ∧ Below w.heap.size w W) ⟨box_mk, bel_alloc _ _⟩ (fun W0 hI => ?_)
  have Y : Hid _ := hI
  clear hI
  obtain ⟨a0, a1, a2, a3, a4, a5⟩ := Y.out.1.c6
  go_wp2_with fail
  refine (l01In_any e 1 1000000 _).mono ?_
  rintro e1 w1 ⟨rfl, rfl⟩
  cases he : decide (1 ≤ e ∧ e ≤ 1000000)
  · have HR : Hid (gokB e o a b c l = false) := gok_e he
    clear he
    go_wp2
    go_ret
    exact ⟨ret_bool HR.out.symm, Y.out.2⟩
  have HE : Hid _ := he
  clear he
  go_wp2_with fail
  refine (l01Node_any o _).mono ?_
  rintro e1 w1 ⟨rfl, rfl⟩
  cases ho : decide (0 ≤ o ∧ o < 3)
  · have HR : Hid (gokB e o a b c l = false) := gok_o ho
    clear ho
    go_wp2
    go_ret
    exact ⟨ret_bool HR.out.symm, Y.out.2⟩
  have HO : Hid _ := ho
  clear ho
  go_wp2_with fail
  refine (spec_vv a b c _).mono ?_
  rintro e1 W1 ⟨rfl, hb⟩
  replace Y : Hid (Box W1 w.heap.size [.int .i64 e, .int .i64 o, .int .i64 a, .int .i64 b, .int .i64 c, .slice p l.length q] ∧ Below w.heap.size w W1) := ⟨Y.out.1.next hb, Y.out.2.trans (hb.mono Y.out.2.size)⟩
  clear hb a0 a1 a2 a3 a4 a5
  obtain ⟨a0, a1, a2, a3, a4, a5⟩ := Y.out.1.c6
  cases hv : vvB a b c
  · have HR : Hid (gokB e o a b c l = false) := gok_v hv
    clear hv
    go_wp2
    go_ret
    exact ⟨ret_bool HR.out.symm, Y.out.2⟩
  have HVV : Hid _ := hv
  clear hv
  by_cases hlen : l.length ≤ 4096
  case neg =>
    have HR : Hid (gokB e o a b c l = false) := gok_l hlen
    have hlen' : (4096 : Int) < (l.length : Int) := by omega
    go_wp2
    go_ret
    exact ⟨ret_bool HR.out.symm, Y.out.2⟩
  have hlen' : ¬ (4096 : Int) < (l.length : Int) := by omega
  have HR : Hid (gokB e o a b c l = gokL a b c 0 0 0 l) := gok_all HE.out HO.out HVV.out hlen
  go_upto_region 4 with fail
  clear a0 a1 a2 a3 a4 a5
  refine wp_gen (fun W => Box W w.heap.size [.int .i64 e, .int .i64 o, .int .i64 a, .int .i64 b, .int .i64 c, .slice p l.length q] ∧ Box W W1.heap.size [.int .i64 0, .int .i64 0, .int .i64 0] ∧ Below w.heap.size w W) ⟨Y.out.1.alloc, (box_mk (W := W1)), (Y.out.2.trans ((bel_alloc _ _).mono Y.out.2.size))⟩ (fun W2 hI => ?_)
  have HV : Hid (w.heap.size < W1.heap.size) := Y.out.1.lt
  generalize W1.heap.size = gv at *
  clear Y
  have Y : Hid _ := hI
  clear hI
  obtain ⟨a0, a1, a2, a3, a4, a5⟩ := Y.out.1.c6
  go_wp2
  clear a0 a1 a2 a3 a4 a5
  go_loopw [4] (fun s4 wr => ∃ (k : Nat) (x y z : Int), k ≤ l.length ∧ s4 = .int .i64 k ∧ Box wr w.heap.size [.int .i64 e, .int .i64 o, .int .i64 a, .int .i64 b, .int .i64 c, .slice p l.length q] ∧ Box wr gv [.int .i64 x, .int .i64 y, .int .i64 z] ∧ Below w.heap.size w wr ∧ gokL a b c 0 0 0 l = gokL a b c x y z (l.drop k)) (fun s4 _ => l.length - (intOf s4).toNat)
  case atStart => exact ⟨0, 0, 0, 0, by omega, rfl, Y.out.1, Y.out.2.1, Y.out.2.2, rfl⟩
  case round =>
    clear Y
    obtain ⟨k, x, y, z, hk, rfl, hI1, hI2, hI3, hG⟩ := hrel
    have Y : Hid (Box wr w.heap.size [.int .i64 e, .int .i64 o, .int .i64 a, .int .i64 b, .int .i64 c, .slice p l.length q] ∧ Box wr gv [.int .i64 x, .int .i64 y, .int .i64 z] ∧ Below w.heap.size w wr) := ⟨hI1, hI2, hI3⟩
    have HG : Hid (gokL a b c 0 0 0 l = gokL a b c x y z (l.drop k)) := hG
    clear hI1 hI2 hI3 hG
    obtain ⟨a0, a1, a2, a3, a4, a5⟩ := Y.out.1.c6
    by_cases hkl : k < l.length
    · have hkl' : (k : Int) < (l.length : Int) := by omega
      have k0 : (0 : Int) ≤ (k : Int) := by omega
      rcases hr.out with h' | ⟨rb, off, rfl, _, h2⟩
      · rw [h'] at hkl; simp at hkl
      obtain ⟨x0, x1⟩ := (h2 k hkl).next Y.out.2.2 (cell_lt (x := ⟨rb, off + k * 2, none⟩) (h2 k hkl).1)
      clear h2
      generalize hdp : l[k].p = dp at *
      generalize hdn' : l[k].n = dn at *
      go_upto_region 8 with fail
      clear a0 a1 a2 a3 a4 a5 x0 x1
      refine wp_gen (fun W => Box W w.heap.size [.int .i64 e, .int .i64 o, .int .i64 a, .int .i64 b, .int .i64 c, .slice (some ⟨rb, off, none⟩) l.length q] ∧ Box W gv [.int .i64 x, .int .i64 y, .int .i64 z] ∧ Box W wr.heap.size [.int .i64 dp, .int .i64 dn] ∧ Below w.heap.size w W) ⟨Y.out.1.alloc, Y.out.2.1.alloc, box_mk, Y.out.2.2.trans ((bel_alloc _ _).mono Y.out.2.2.size)⟩ (fun W3 hI => ?_)
      clear Y
      have Y : Hid _ := hI
      clear hI
      generalize wr.heap.size = gd at *
      obtain ⟨d0, d1⟩ := Y.out.2.2.1.c2
      go_wp2_with fail
      refine (spec_dot dp dn _).mono ?_
      rintro e1 W4 ⟨rfl, hb⟩
      replace Y : Hid (Box W4 w.heap.size [.int .i64 e, .int .i64 o, .int .i64 a, .int .i64 b, .int .i64 c, .slice (some ⟨rb, off, none⟩) l.length q] ∧ Box W4 gv [.int .i64 x, .int .i64 y, .int .i64 z] ∧ Box W4 gd [.int .i64 dp, .int .i64 dn] ∧ Below w.heap.size w W4) := ⟨Y.out.1.next hb, Y.out.2.1.next hb, Y.out.2.2.1.next hb, Y.out.2.2.2.trans (hb.mono Y.out.2.2.2.size)⟩
      clear hb d0 d1
      cases hd : dotB dp dn
      · have HRF : Hid (gokB e o a b c l = false) := by
          show _ = _
          rw [HR.out, HG.out]
          exact gok_no1 hkl (by rw [hdp, hdn']; exact hd)
        clear hd
        go_wp2
        go_ret
        exact ⟨ret_bool HRF.out.symm, Y.out.2.2.2⟩
      have HD : Hid (dotB dp dn = true) := hd
      have hdn := dot_node hd
      clear hd
      obtain ⟨d0, d1⟩ := Y.out.2.2.1.c2
      obtain ⟨v0, v1, v2⟩ := Y.out.2.1.c3
      go_wp2_with fail
      refine (has_any x y z dp dn _ hdn.1 hdn.2).mono ?_
      rintro e1 W6 ⟨rfl, hb⟩
      replace Y : Hid (Box W6 w.heap.size [.int .i64 e, .int .i64 o, .int .i64 a, .int .i64 b, .int .i64 c, .slice (some ⟨rb, off, none⟩) l.length q] ∧ Box W6 gv [.int .i64 x, .int .i64 y, .int .i64 z] ∧ Box W6 gd [.int .i64 dp, .int .i64 dn] ∧ Below w.heap.size w W6) := ⟨Y.out.1.next hb, Y.out.2.1.next hb, Y.out.2.2.1.next hb, Y.out.2.2.2.trans (hb.mono Y.out.2.2.2.size)⟩
      clear hb d0 d1 v0 v1 v2
      by_cases hk1 : dn ≤ comp x y z dp
      · have HRF : Hid (gokB e o a b c l = false) := by
          show _ = _
          rw [HR.out, HG.out]
          exact gok_no2 hkl (by rw [hdp, hdn']; exact hk1)
        rw [decide_eq_true hk1]
        go_wp2
        go_ret
        exact ⟨ret_bool HRF.out.symm, Y.out.2.2.2⟩
      rw [decide_eq_false hk1]
      obtain ⟨d0, d1⟩ := Y.out.2.2.1.c2
      obtain ⟨a0, a1, a2, a3, a4, a5⟩ := Y.out.1.c6
      go_wp2_with fail
      refine (has_any a b c dp dn _ hdn.1 hdn.2).mono ?_
      rintro e1 W7 ⟨rfl, hb⟩
      replace Y : Hid (Box W7 w.heap.size [.int .i64 e, .int .i64 o, .int .i64 a, .int .i64 b, .int .i64 c, .slice (some ⟨rb, off, none⟩) l.length q] ∧ Box W7 gv [.int .i64 x, .int .i64 y, .int .i64 z] ∧ Box W7 gd [.int .i64 dp, .int .i64 dn] ∧ Below w.heap.size w W7) := ⟨Y.out.1.next hb, Y.out.2.1.next hb, Y.out.2.2.1.next hb, Y.out.2.2.2.trans (hb.mono Y.out.2.2.2.size)⟩
      clear hb d0 d1 a0 a1 a2 a3 a4 a5
      by_cases hk2 : dn ≤ comp a b c dp
      case neg =>
        have HRF : Hid (gokB e o a b c l = false) := by
          show _ = _
          rw [HR.out, HG.out]
          exact gok_no3 hkl (by rw [hdp, hdn']; exact hk2)
        rw [decide_eq_false hk2]
        go_wp2
        go_ret
        exact ⟨ret_bool HRF.out.symm, Y.out.2.2.2⟩
      rw [decide_eq_true hk2]
      obtain ⟨d0, d1⟩ := Y.out.2.2.1.c2
      obtain ⟨v0, v1, v2⟩ := Y.out.2.1.c3
      go_wp2_with fail
      refine (add_any x y z dp dn _ hdn.1 hdn.2 (by omega)).mono ?_
      rintro e1 W5 ⟨rfl, hb⟩
      replace Y : Hid (Box W5 w.heap.size [.int .i64 e, .int .i64 o, .int .i64 a, .int .i64 b, .int .i64 c, .slice (some ⟨rb, off, none⟩) l.length q] ∧ Box W5 gv [.int .i64 x, .int .i64 y, .int .i64 z] ∧ Box W5 gd [.int .i64 dp, .int .i64 dn] ∧ Below w.heap.size w W5) := ⟨Y.out.1.next hb, Y.out.2.1.next hb, Y.out.2.2.1.next hb, Y.out.2.2.2.trans (hb.mono Y.out.2.2.2.size)⟩
      clear hb
      obtain ⟨v0, v1, v2⟩ := Y.out.2.1.c3
      obtain ⟨g0, g1, g2⟩ := Y.out.2.1.f3
      go_wp2_with fail
      go_roundw
      case rel =>
        refine ⟨k + 1, upd dp dn 0 x, upd dp dn 1 y, upd dp dn 2 z, by omega, by go_num, ?_, Y.out.2.1.s3, ?_, ?_⟩
        · exact (Y.out.1.o3 (by have := HV.out; omega))
        · exact bel_in (bel_in (bel_in Y.out.2.2.2 (by have := HV.out; omega)) (by have := HV.out; omega)) (by have := HV.out; omega)
        · rw [HG.out, ← hdp, ← hdn']
          exact gok_step hkl (by rw [hdp, hdn']; exact HD.out) (by rw [hdp, hdn']; omega) (by rw [hdp, hdn']; exact hk2)
      case measure => simp [intOf]; omega

    · have hkl' : ¬ (k : Int) < (l.length : Int) := by omega
      have hke : k = l.length := by omega
      have HRF : Hid (gokB e o a b c l = true) := by
        show _ = _
        rw [HR.out, HG.out, hke, List.drop_length]
        rfl
      clear HG hke
      go_wp2
      go_ret
      exact ⟨ret_bool HRF.out.symm, Y.out.2.2⟩

set_option maxRecDepth 20000 in
set_option maxHeartbeats 4000000 in
theorem implG_any (lo q : Nat) (p : Option Addr) (l : List Dt) (e o a b c : Int) (w : World) (hl : (l.length : Int) ≤ 1048576) (hr0 : GRow lo w p (flatD l)) :
    Calls Try.prog 14 #[.agg #[.int .i64 e, .int .i64 o, .int .i64 a, .int .i64 b, .int .i64 c, .slice p l.length q]] w fun r w' => r = .returned (.bool (gokB e o a b c l)) ∧ Below w.heap.size w w' := by
  have hr : Hid _ := hr0.d
  clear hr0
  go_enter Try.func14, Try.ntmps14
  go_upto_region 1 with fail
  refine wp_gen (fun W => Box W w.heap.size [.int .i64 e, .int .i64 o, .int .i64 a, .int .i64 b, .int .i64 c, .slice p l.length q] ∧ Below w.heap.size w W) ⟨box_mk, bel_alloc _ _⟩ (fun W0 hI => ?_)
  have Y : Hid _ := hI
  clear hI
  obtain ⟨a0, a1, a2, a3, a4, a5⟩ := Y.out.1.c6
  cases he : decide (1 ≤ e ∧ e ≤ 1000000)
  · have HR : Hid (gokB e o a b c l = false) := gok_e he
    have he' := of_decide_eq_false he
    clear he
    by_cases h1 : e < 1
    · go_wp2
      go_ret
      exact ⟨ret_bool HR.out.symm, Y.out.2⟩
    · have h2 : (1000000 : Int) < e := by omega
      go_wp2
      go_ret
      exact ⟨ret_bool HR.out.symm, Y.out.2⟩
  have HE : Hid _ := he
  have h1 : ¬ e < 1 := by have := of_decide_eq_true he; omega
  have h2 : ¬ (1000000 : Int) < e := by have := of_decide_eq_true he; omega
  clear he
  go_wp2_with fail
  refine (isNode_any o _).mono ?_
  rintro e1 w1 ⟨rfl, rfl⟩
  cases ho : decide (0 ≤ o ∧ o < 3)
  · have HR : Hid (gokB e o a b c l = false) := gok_o ho
    clear ho
    go_wp2
    go_ret
    exact ⟨ret_bool HR.out.symm, Y.out.2⟩
  have HO : Hid _ := ho
  clear ho
  go_wp2_with fail
  refine (impl_vv a b c _).mono ?_
  rintro e1 W1 ⟨rfl, hb⟩
  replace Y : Hid (Box W1 w.heap.size [.int .i64 e, .int .i64 o, .int .i64 a, .int .i64 b, .int .i64 c, .slice p l.length q] ∧ Below w.heap.size w W1) := ⟨Y.out.1.next hb, Y.out.2.trans (hb.mono Y.out.2.size)⟩
  clear hb a0 a1 a2 a3 a4 a5
  obtain ⟨a0, a1, a2, a3, a4, a5⟩ := Y.out.1.c6
  cases hv : vvB a b c
  · have HR : Hid (gokB e o a b c l = false) := gok_v hv
    clear hv
    go_wp2
    go_ret
    exact ⟨ret_bool HR.out.symm, Y.out.2⟩
  have HVV : Hid _ := hv
  clear hv
  by_cases hlen : l.length ≤ 4096
  case neg =>
    have HR : Hid (gokB e o a b c l = false) := gok_l hlen
    have hlen' : (4096 : Int) < (l.length : Int) := by omega
    go_wp2
    go_ret
    exact ⟨ret_bool HR.out.symm, Y.out.2⟩
  have hlen' : ¬ (4096 : Int) < (l.length : Int) := by omega
  have HR : Hid (gokB e o a b c l = gokL a b c 0 0 0 l) := gok_all HE.out HO.out HVV.out hlen
  go_upto_region 4 with fail
  clear a0 a1 a2 a3 a4 a5
  refine wp_gen (fun W => Box W w.heap.size [.int .i64 e, .int .i64 o, .int .i64 a, .int .i64 b, .int .i64 c, .slice p l.length q] ∧ Box W W1.heap.size [.int .i64 0, .int .i64 0, .int .i64 0] ∧ Below w.heap.size w W) ⟨Y.out.1.alloc, (box_mk (W := W1)), (Y.out.2.trans ((bel_alloc _ _).mono Y.out.2.size))⟩ (fun W2 hI => ?_)
  have HV : Hid (w.heap.size < W1.heap.size) := Y.out.1.lt
  generalize W1.heap.size = gv at *
  clear Y
  have Y : Hid _ := hI
  clear hI
  obtain ⟨a0, a1, a2, a3, a4, a5⟩ := Y.out.1.c6
  go_wp2
  clear a0 a1 a2 a3 a4 a5
  go_loopw [35] (fun s4 wr => ∃ (k : Nat) (x y z : Int), k ≤ l.length ∧ s4 = .int .i64 k ∧ Box wr w.heap.size [.int .i64 e, .int .i64 o, .int .i64 a, .int .i64 b, .int .i64 c, .slice p l.length q] ∧ Box wr gv [.int .i64 x, .int .i64 y, .int .i64 z] ∧ Below w.heap.size w wr ∧ gokL a b c 0 0 0 l = gokL a b c x y z (l.drop k)) (fun s4 _ => l.length - (intOf s4).toNat)
  case atStart => exact ⟨0, 0, 0, 0, by omega, rfl, Y.out.1, Y.out.2.1, Y.out.2.2, rfl⟩
  case round =>
    clear Y
    obtain ⟨k, x, y, z, hk, rfl, hI1, hI2, hI3, hG⟩ := hrel
    have Y : Hid (Box wr w.heap.size [.int .i64 e, .int .i64 o, .int .i64 a, .int .i64 b, .int .i64 c, .slice p l.length q] ∧ Box wr gv [.int .i64 x, .int .i64 y, .int .i64 z] ∧ Below w.heap.size w wr) := ⟨hI1, hI2, hI3⟩
    have HG : Hid (gokL a b c 0 0 0 l = gokL a b c x y z (l.drop k)) := hG
    clear hI1 hI2 hI3 hG
    obtain ⟨a0, a1, a2, a3, a4, a5⟩ := Y.out.1.c6
    by_cases hkl : k < l.length
    · have hkl' : (k : Int) < (l.length : Int) := by omega
      have k0 : (0 : Int) ≤ (k : Int) := by omega
      rcases hr.out with h' | ⟨rb, off, rfl, _, h2⟩
      · rw [h'] at hkl; simp at hkl
      obtain ⟨x0, x1⟩ := (h2 k hkl).next Y.out.2.2 (cell_lt (x := ⟨rb, off + k * 2, none⟩) (h2 k hkl).1)
      clear h2
      generalize hdp : l[k].p = dp at *
      generalize hdn' : l[k].n = dn at *
      go_upto_region 7 with fail
      clear a0 a1 a2 a3 a4 a5 x0 x1
      refine wp_gen (fun W => Box W w.heap.size [.int .i64 e, .int .i64 o, .int .i64 a, .int .i64 b, .int .i64 c, .slice (some ⟨rb, off, none⟩) l.length q] ∧ Box W gv [.int .i64 x, .int .i64 y, .int .i64 z] ∧ Box W wr.heap.size [.int .i64 dp, .int .i64 dn] ∧ Below w.heap.size w W) ⟨Y.out.1.alloc, Y.out.2.1.alloc, box_mk, Y.out.2.2.trans ((bel_alloc _ _).mono Y.out.2.2.size)⟩ (fun W3 hI => ?_)
      clear Y
      have Y : Hid _ := hI
      clear hI
      generalize wr.heap.size = gd at *
      obtain ⟨d0, d1⟩ := Y.out.2.2.1.c2
      go_wp2_with fail
      refine (impl_dot dp dn _).mono ?_
      rintro e1 W4 ⟨rfl, hb⟩
      replace Y : Hid (Box W4 w.heap.size [.int .i64 e, .int .i64 o, .int .i64 a, .int .i64 b, .int .i64 c, .slice (some ⟨rb, off, none⟩) l.length q] ∧ Box W4 gv [.int .i64 x, .int .i64 y, .int .i64 z] ∧ Box W4 gd [.int .i64 dp, .int .i64 dn] ∧ Below w.heap.size w W4) := ⟨Y.out.1.next hb, Y.out.2.1.next hb, Y.out.2.2.1.next hb, Y.out.2.2.2.trans (hb.mono Y.out.2.2.2.size)⟩
      clear hb d0 d1
      cases hd : dotB dp dn
      · have HRF : Hid (gokB e o a b c l = false) := by
          show _ = _
          rw [HR.out, HG.out]
          exact gok_no1 hkl (by rw [hdp, hdn']; exact hd)
        clear hd
        go_wp2
        go_ret
        exact ⟨ret_bool HRF.out.symm, Y.out.2.2.2⟩
      have HD : Hid (dotB dp dn = true) := hd
      have hdn := dot_node hd
      clear hd
      obtain ⟨d0, d1⟩ := Y.out.2.2.1.c2
      obtain ⟨v0, v1, v2⟩ := Y.out.2.1.c3
      go_wp2_with fail
      refine (knows_any x y z dp dn _ hdn.1 hdn.2).mono ?_
      rintro e1 W6 ⟨rfl, hb⟩
      replace Y : Hid (Box W6 w.heap.size [.int .i64 e, .int .i64 o, .int .i64 a, .int .i64 b, .int .i64 c, .slice (some ⟨rb, off, none⟩) l.length q] ∧ Box W6 gv [.int .i64 x, .int .i64 y, .int .i64 z] ∧ Box W6 gd [.int .i64 dp, .int .i64 dn] ∧ Below w.heap.size w W6) := ⟨Y.out.1.next hb, Y.out.2.1.next hb, Y.out.2.2.1.next hb, Y.out.2.2.2.trans (hb.mono Y.out.2.2.2.size)⟩
      clear hb d0 d1 v0 v1 v2
      by_cases hk1 : dn ≤ comp x y z dp
      · have HRF : Hid (gokB e o a b c l = false) := by
          show _ = _
          rw [HR.out, HG.out]
          exact gok_no2 hkl (by rw [hdp, hdn']; exact hk1)
        rw [decide_eq_true hk1]
        go_wp2
        go_ret
        exact ⟨ret_bool HRF.out.symm, Y.out.2.2.2⟩
      rw [decide_eq_false hk1]
      obtain ⟨d0, d1⟩ := Y.out.2.2.1.c2
      obtain ⟨a0, a1, a2, a3, a4, a5⟩ := Y.out.1.c6
      go_wp2_with fail
      refine (knows_any a b c dp dn _ hdn.1 hdn.2).mono ?_
      rintro e1 W7 ⟨rfl, hb⟩
      replace Y : Hid (Box W7 w.heap.size [.int .i64 e, .int .i64 o, .int .i64 a, .int .i64 b, .int .i64 c, .slice (some ⟨rb, off, none⟩) l.length q] ∧ Box W7 gv [.int .i64 x, .int .i64 y, .int .i64 z] ∧ Box W7 gd [.int .i64 dp, .int .i64 dn] ∧ Below w.heap.size w W7) := ⟨Y.out.1.next hb, Y.out.2.1.next hb, Y.out.2.2.1.next hb, Y.out.2.2.2.trans (hb.mono Y.out.2.2.2.size)⟩
      clear hb d0 d1 a0 a1 a2 a3 a4 a5
      by_cases hk2 : dn ≤ comp a b c dp
      case neg =>
        have HRF : Hid (gokB e o a b c l = false) := by
          show _ = _
          rw [HR.out, HG.out]
          exact gok_no3 hkl (by rw [hdp, hdn']; exact hk2)
        rw [decide_eq_false hk2]
        go_wp2
        go_ret
        exact ⟨ret_bool HRF.out.symm, Y.out.2.2.2⟩
      rw [decide_eq_true hk2]
      obtain ⟨d0, d1⟩ := Y.out.2.2.1.c2
      obtain ⟨v0, v1, v2⟩ := Y.out.2.1.c3
      have hS : Hid (gokL a b c 0 0 0 l = gokL a b c (upd dp dn 0 x) (upd dp dn 1 y) (upd dp dn 2 z) (l.drop (k + 1))) := by
        show _ = _
        rw [HG.out, ← hdp, ← hdn']
        exact gok_step hkl (by rw [hdp, hdn']; exact HD.out) (by rw [hdp, hdn']; omega) (by rw [hdp, hdn']; exact hk2)
      obtain ⟨d0, d1⟩ := Y.out.2.2.1.c2
      obtain ⟨v0, v1, v2⟩ := Y.out.2.1.c3
      obtain ⟨g0, g1, g2⟩ := Y.out.2.1.f3
      have hdp3 : dp = 0 ∨ dp = 1 ∨ dp = 2 := by omega
      clear hdp HD hk1 hk2 hdn
      rcases hdp3 with rfl | rfl | rfl
      · simp only [upd] at hS
        go_wp2_with fail
        go_roundw
        case rel =>
          refine ⟨k + 1, dn, y, z, by omega, by go_num, Y.out.1.oth (by have := HV.out; omega), ?_, bel_in Y.out.2.2.2 (by have := HV.out; omega), by simpa using hS.out⟩
          have := Y.out.2.1.set (i := 0) (u := .int .i64 dn) (by simp)
          simpa using this
        case measure => simp [intOf]; omega
      · simp only [upd] at hS
        go_wp2_with fail
        go_roundw
        case rel =>
          refine ⟨k + 1, x, dn, z, by omega, by go_num, Y.out.1.oth (by have := HV.out; omega), ?_, bel_in Y.out.2.2.2 (by have := HV.out; omega), by simpa using hS.out⟩
          have := Y.out.2.1.set (i := 1) (u := .int .i64 dn) (by simp)
          simpa using this
        case measure => simp [intOf]; omega
      · simp only [upd] at hS
        go_wp2_with fail
        go_roundw
        case rel =>
          refine ⟨k + 1, x, y, dn, by omega, by go_num, Y.out.1.oth (by have := HV.out; omega), ?_, bel_in Y.out.2.2.2 (by have := HV.out; omega), by simpa using hS.out⟩
          have := Y.out.2.1.set (i := 2) (u := .int .i64 dn) (by simp)
          simpa using this
        case measure => simp [intOf]; omega

    · have hkl' : ¬ (k : Int) < (l.length : Int) := by omega
      have hke : k = l.length := by omega
      have HRF : Hid (gokB e o a b c l = true) := by
        show _ = _
        rw [HR.out, HG.out, hke, List.drop_length]
        rfl
      clear HG hke
      go_wp2
      go_ret
      exact ⟨ret_bool HRF.out.symm, Y.out.2.2⟩
end Go.Proofs.Ytklajcdlacemaaa
