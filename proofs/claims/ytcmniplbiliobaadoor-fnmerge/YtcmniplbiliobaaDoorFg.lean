/- Replicas merged: what is merged covers each; those that are stale are told, and repaired none is. -/
import Derived.Test.YtcmniplbiliobaaDoorRows
import Derived.WalkKit
import Derived.WalkSpells
import Derived.WalkLawsBesides
import Derived.Deep.QuietTactic
import Derived.BigQuiet
import Derived.Deep.RegionHeld3
import Derived.Test.YtcmniplbiliobaaDoorOz
import Derived.Test.YtcmniplbiliobaaDoorSl
import Derived.Test.YtcmniplbiliobaaDoorRp
import Derived.Test.YtcmniplbiliobaaDoorSi
import Derived.Test.YtcmniplbiliobaaDoorCb
import Derived.LoopN
namespace Go.Proofs.YtcmniplbiliobaaDoor
open Go.RowKit
set_option linter.unusedSimpArgs false
set_option linter.unusedVariables false
set_option maxRecDepth 100000

/-- A merged object that is a replica. -/
def RpS (V : Int → Int → Int × Bool) (m : Nat → Int) (s : List Sib × Int × Int × Int) : Prop := Rp V (m 0) (m 1) (m 2) s.1 s.2.1 s.2.2.1 s.2.2.2
section
variable {V : Int → Int → Int × Bool} {m : Nat → Int} {s : List Sib × Int × Int × Int} {x y : Ov}
theorem RpS.nil (hx : RpO V m x) : RpS V m ([], 0, 0, 0) := ⟨by simp [Rise], by simp, by simp, by have h1 := hx.pos; have h2 := hx.le; dsimp only; omega, by simp⟩
theorem RpS.step (h : RpS V m s) (hx : RpO V m x) : RpS V m (mgN s x) := Rp.join h hx
/-- Two objects joined. -/
def jv (x y : Ov) : Ov := { ao := none, cap := 0, l := sj x.a x.b x.c y.a y.b y.c x.l y.l, a := max x.a y.a, b := max x.b y.b, c := max x.c y.c }
theorem jv_rp (hx : RpO V m x) (hy : RpO V m y) : RpO V m (jv x y) := Rp.join hx hy
theorem mg_assoc (h : RpS V m s) (hx : RpO V m x) (hy : RpO V m y) : mgN (mgN s x) y = mgN s (jv x y) := by
  have e := Rp.assoc h hx hy
  unfold mgN jv
  dsimp only at *
  rw [e, Int.max_assoc, Int.max_assoc, Int.max_assoc]
theorem mg_comm (hx : RpO V m x) (hy : RpO V m y) : mgN s (jv x y) = mgN s (jv y x) := by
  have e := Rp.comm hx hy
  unfold mgN jv
  dsimp only
  rw [e, Int.max_comm x.a, Int.max_comm x.b, Int.max_comm x.c]
theorem mg_again (h : RpS V m s) (hx : RpO V m x) : mgN (mgN s x) x = mgN s x := by
  have e := Rp.again h hx
  unfold mgN
  dsimp only
  rw [e]
  congr 2
  · omega
  · congr 1
    · omega
    · omega
/-- What has taken an object in takes others in beside it. -/
theorem mg_keep (h : RpS V m s) (hx : RpO V m x) (hy : RpO V m y) (k : mgN s x = s) : mgN (mgN s y) x = mgN s y := by
  rw [mg_assoc h hy hx, mg_comm hy hx, ← mg_assoc h hx hy, k]
theorem mg_nil (h : RpO V m x) : mgN ([], 0, 0, 0) x = (x.l, x.a, x.b, x.c) := by
  have hn : RpS V m ([], 0, 0, 0) := RpS.nil h
  have e : sj 0 0 0 x.a x.b x.c [] x.l = x.l := by
    refine rise_eq (Rp.join hn h).rise h.rise fun t => ?_
    rw [Rp.mem hn h]
    constructor
    · rintro (⟨h1, _⟩ | ⟨h1, _⟩)
      · simp at h1
      · exact h1
    · intro ht
      refine .inr ⟨ht, ?_⟩
      have h1 := sib_ok (h.ok t ht).1
      have : comp 0 0 0 t.p = 0 := by unfold comp; split <;> (try split) <;> rfl
      dsimp only
      omega
  have hp := h.pos
  unfold mgN
  dsimp only
  rw [e]
  congr 2
  · omega
  · congr 1
    · omega
    · omega
theorem mg_self (h : RpO V m x) : mgN (x.l, x.a, x.b, x.c) x = (x.l, x.a, x.b, x.c) := by
  have e := Rp.idem h
  unfold mgN
  dsimp only
  rw [e]
  congr 2
  · omega
  · congr 1
    · omega
    · omega
end
/-- Three replicas. -/
def l3 (o : Nat → Ov) : List Ov := [o 0, o 1, o 2]
theorem l3_at (o : Nat → Ov) (i : Nat) (h : i < (l3 o).length) : (l3 o)[i] = o i := by
  match i, h with
  | 0, _ => rfl
  | 1, _ => rfl
  | 2, _ => rfl
theorem l3_rp {V : Int → Int → Int × Bool} {m : Nat → Int} {o : Nat → Ov} (h : ∀ j, j < 3 → RpO V m (o j)) : ∀ x ∈ l3 o, RpO V m x := fun x hx => by
  simp [l3] at hx
  rcases hx with rfl | rfl | rfl
  · exact h 0 (by omega)
  · exact h 1 (by omega)
  · exact h 2 (by omega)
theorem l3_merge {V : Int → Int → Int × Bool} {m : Nat → Int} {o : Nat → Ov} (h : ∀ j, j < 3 → RpO V m (o j)) : RpS V m (mgS (l3 o)) ∧ ∀ j, j < 3 → mgN (mgS (l3 o)) (o j) = mgS (l3 o) := by
  have h0 := h 0 (by omega)
  have h1 := h 1 (by omega)
  have h2 := h 2 (by omega)
  have n0 : RpS V m ([], 0, 0, 0) := RpS.nil h0
  have n1 := n0.step h0
  have n2 := n1.step h1
  have n3 := n2.step h2
  refine ⟨n3, fun j hj => ?_⟩
  have hj' : j = 0 ∨ j = 1 ∨ j = 2 := by omega
  rcases hj' with rfl | rfl | rfl
  · exact mg_keep n2 h0 h2 (mg_keep n1 h0 h1 (mg_again n0 h0))
  · exact mg_keep n2 h1 h2 (mg_again n1 h1)
  · exact mg_again n2 h2
theorem rp_all {V : Int → Int → Int × Bool} {m : Nat → Int} {os : List Ov} (h : ∀ x ∈ os, RpO V m x) (hm : H17 m) : AllOk os := fun x hx => Rp.okP (h x hx) hm.1 hm.2.1 hm.2.2
theorem l3_mr {V : Int → Int → Int × Bool} {m : Nat → Int} {o : Nat → Ov} (h : ∀ j, j < 3 → RpO V m (o j)) (hm : H17 m) : MR (l3 o) (mgS (l3 o)).1 (mgS (l3 o)).2.1 (mgS (l3 o)).2.2.1 (mgS (l3 o)).2.2.2 0 :=
  .inr (.inr (.inr (.inr ⟨by simp [l3], rp_all (l3_rp h) hm, by have := Rp.len (l3_merge h).1 hm.1 hm.2.1 hm.2.2; omega, rfl, rfl⟩)))
/-- The same replica three times. -/
theorem m3_mr {V : Int → Int → Int × Bool} {m : Nat → Int} {x : Ov} (h : RpO V m x) (hm : H17 m) : MR [x, x, x] x.l x.a x.b x.c 0 := by
  have e : mgS [x, x, x] = (x.l, x.a, x.b, x.c) := by
    show mgN (mgN (mgN ([], 0, 0, 0) x) x) x = _
    rw [mg_nil h, mg_self h, mg_self h]
  refine .inr (.inr (.inr (.inr ⟨by simp, rp_all (fun y hy => by simp at hy; subst hy; exact h) hm, ?_, e, rfl⟩)))
  rw [e]
  have := Rp.len h hm.1 hm.2.1 hm.2.2
  dsimp only
  omega
theorem same_self (l : List Sib) (a b c : Int) : Same l l a b c a b c := ⟨by simp, rfl, fun i h _ => by simp [sibB]⟩
theorem m3_smb (x : Ov) : SmB [x, x, x] x.l x.a x.b x.c (fun _ => true) := fun i h => by
  have hx : [x, x, x][i] = x := by
    match i, h with
    | 0, _ => rfl
    | 1, _ => rfl
    | 2, _ => rfl
  rw [hx]
  exact ⟨fun _ => same_self _ _ _ _, fun _ => rfl⟩
theorem m3_none (x : Ov) : SrL (fun _ => true) [x, x, x] 0 = [] := rfl
theorem rep_pos (a b c : Int) (vs : List Int) : 0 < (⟨(repT (vvT a b c) vs).toArray⟩ : ByteArray).size := by
  simp [ByteArray.size, repT, vvT, vj]
  omega

theorem rowm_next {W W' : World} {ao : Option Addr} {l : List Sib} (h : Hid (SibRow W ao l)) (hb : Below W.heap.size W W') : Hid (SibRow W' ao l) := h.out.next hb
/-- A merged object that a call hands out, as it is read. -/
def MaR (J : List Sib) (p q r code : Int) (w : World) (e : Ending) (w' : World) : Prop := ∃ vo vc, e = .returned (.tuple #[.agg #[.slice vo J.length vc, .int .i64 p, .int .i64 q, .int .i64 r], .int .i64 code]) ∧ Below w.heap.size w w' ∧ Hid (SibRow w' vo J) ∧ J.length ≤ vc
theorem mar_of {J : List Sib} {p q r code : Int} {w w' : World} {e : Ending} (h : MaP J p q r code w e w') : MaR J p q r code w e w' := by
  obtain ⟨vo, vc, rfl, hg, ho⟩ := h
  refine ⟨vo, vc, rfl, hg.below (Nat.le_refl _) (fun k hk => by simp [Value.ownBlock] at hk), (own_srow2 ho).1, ?_⟩
  rcases ho.2 with ⟨e, hz⟩ | ⟨g, cp, cur, e, _, _, hc, _⟩
  · omega
  · simp at e; omega
theorem sml_rp {V : Int → Int → Int × Bool} {m : Nat → Int} {os : List Ov} (h : ∀ x ∈ os, RpO V m x) (hm : H17 m) : Sml os := fun x hx => by have := (Rp.okP (h x hx) hm.1 hm.2.1 hm.2.2).1; omega
theorem cov_rp {J : List Sib} {p q r : Int} {x : Ov} (h : mgN (J, p, q, r) x = (J, p, q, r)) : CR true true J x.l p q r x.a x.b x.c true 0 := by
  unfold mgN at h
  dsimp only at h
  have h1 : sj p q r x.a x.b x.c J x.l = J := congrArg (·.1) h
  have h2 : max p x.a = p := congrArg (·.2.1) h
  have h3 : max q x.b = q := congrArg (·.2.2.1) h
  have h4 : max r x.c = r := congrArg (·.2.2.2) h
  refine ⟨fun h => (h ⟨rfl, rfl⟩).elim, fun _ _ => ⟨rfl, ?_⟩⟩
  rw [h1, h2, h3, h4]
  exact ⟨fun _ => same_self _ _ _ _, fun _ => rfl⟩
theorem irow_own {W : World} {ao : Option Addr} {cap : Nat} {xs : List Int} (h : Hid (W.ownsRow 0 3 1 (.slice ao xs.length cap) xs.length (xs.map (Value.int .i64)))) : IRow W ao xs := by
  obtain ⟨ao', cap', e, hr⟩ := own_irow h.out
  cases e
  exact hr
theorem l3_row {W : World} {q0 : Nat} {o : Nat → Ov} (h : ORow W (some ⟨q0, 0, none⟩) (l3 o)) (k : Nat) (hk : k < 3) : ObAt W q0 (k * 4) (o k) ∧ SibRow W (o k).ao (o k).l ∧ (o k).l.length ≤ (o k).cap := by
  have hk' : k < (l3 o).length := hk
  obtain ⟨b, off, e, h1, h2, h3⟩ := h.at k hk'
  cases e
  rw [l3_at, Nat.zero_add] at h1
  rw [l3_at] at h2 h3
  exact ⟨h1, h2, h3⟩
theorem h17_le (m : Nat → Int) (h : m 0 ≤ 17 ∧ m 1 ≤ 17 ∧ m 2 ≤ 17) : H17 m := h

/-- Bytes that came in. -/
def BRow (w : World) (v : Value) : Prop := ∃ ao len cap zs, v = .slice ao len cap ∧ Gen.IsRow .u8 w ao len cap zs
set_option maxHeartbeats 8000000 in
theorem law_mergeN (v : Value) (w : World) (hv : BRow w v) (ht0 : TB w) :
    Calls Tryd.prog 4 #[v] w fun e w' => e = .returned (.bool true) ∧ Below w.heap.size w w' := by
  obtain ⟨ao, len, cap, zs, rfl, hr0⟩ := hv
  by_cases hl : 1048576 < len
  · have hl' : (1048576 : Int) < (len : Int) := by omega
    clear hr0 ht0
    go_enter Tryd.func4, Tryd.ntmps4
    go_wp2
    go_ret
    exact ⟨rfl, Below.refl _ _⟩
  have hl' : ¬ (1048576 : Int) < (len : Int) := by omega
  have hl1 : (len : Int) ≤ 1048576 := by omega
  have RA : Hid (Gen.IsRow .u8 w ao len cap zs) := hr0
  have HTB : Hid (TB w) := ht0
  clear hr0 ht0
  go_enter Tryd.func4, Tryd.ntmps4
  go_wp2_with fail
  refine (objsOf_any ao len cap zs _ hl1 RA.out).mono ?_
  rintro e w1 ⟨V, m, o, q0, rfl, hob, hro, hrp, hm17, hb⟩
  have HB : Hid (Below w.heap.size w w1) := hb
  have H17 : Hid (H17 m) := h17_le m hm17
  have HRP : Hid (∀ j, j < 3 → RpO V m (o j)) := hrp
  have LR : Hid (ORow w1 (some ⟨q0, 0, none⟩) (l3 o)) := by
    refine ⟨.inr ⟨q0, 0, rfl, fun i hi => ?_⟩, fun x hx => ?_⟩
    · rw [l3_at, Nat.zero_add]
      exact hob i hi
    · obtain ⟨i, hi, rfl⟩ := List.getElem_of_mem hx
      rw [l3_at]
      exact hro i hi
  have h3l : (l3 o).length = 3 := rfl
  have HSM : Hid (Sml (l3 o)) := sml_rp (l3_rp HRP.out) H17.out
  have HMR := l3_mr HRP.out H17.out
  have HMG := l3_merge HRP.out
  obtain ⟨J, hJ⟩ : ∃ J, J = (mgS (l3 o)).1 := ⟨_, rfl⟩
  obtain ⟨p, hp⟩ : ∃ p, p = (mgS (l3 o)).2.1 := ⟨_, rfl⟩
  obtain ⟨q, hq⟩ : ∃ q, q = (mgS (l3 o)).2.2.1 := ⟨_, rfl⟩
  obtain ⟨r, hr⟩ : ∃ r, r = (mgS (l3 o)).2.2.2 := ⟨_, rfl⟩
  have hms : mgS (l3 o) = (J, p, q, r) := by rw [hJ, hp, hq, hr]
  rw [← hJ, ← hp, ← hq, ← hr] at HMR
  rw [hms] at HMG
  have MRH : Hid (MR (l3 o) J p q r 0) := HMR
  have RPM : Hid (Rp V (m 0) (m 1) (m 2) J p q r) := HMG.1
  have CVM : Hid (∀ j, j < 3 → mgN (J, p, q, r) (o j) = (J, p, q, r)) := HMG.2
  have hJ51 : J.length ≤ 51 := Rp.len RPM.out H17.out.1 H17.out.2.1 H17.out.2.2
  have hJm : (J.length : Int) ≤ 1048576 := by omega
  obtain ⟨sB, hsb⟩ := smb_is (l3 o) J p q r
  have SBH : Hid (SmB (l3 o) J p q r sB) := hsb
  obtain ⟨ys, hys⟩ : ∃ ys, ys = SrL sB (l3 o) 0 := ⟨_, rfl⟩
  have hysl : (ys.length : Int) ≤ 1048576 := by
    have h1 := stl_len sB (l3 o).length
    have h2 : ys.length = (stl sB (l3 o).length).length := by rw [hys]; rfl
    rw [h3l] at h1 h2
    omega
  have YSH : Hid (ys = SrL sB (l3 o) 0) := hys
  have CM1 : Hid (∀ W, ORow W (some ⟨q0, 0, none⟩) (l3 o) → Calls Tryd.prog 11 #[.slice (some ⟨q0, 0, none⟩) 3 3] W (MaR J p q r 0 W)) := fun W h => (implMerge_any 3 (some ⟨q0, 0, none⟩) (l3 o) J p q r 0 MRH W (by rw [h3l]; omega) HSM.out h).mono fun e w' h => mar_of h
  have CM2 : Hid (∀ W, ORow W (some ⟨q0, 0, none⟩) (l3 o) → Calls Tryd.prog 12 #[.slice (some ⟨q0, 0, none⟩) 3 3] W (MaR J p q r 0 W)) := fun W h => (specMerge_any 3 (some ⟨q0, 0, none⟩) (l3 o) J p q r 0 MRH W (by rw [h3l]; omega) HSM.out h).mono fun e w' h => mar_of h
  have CS1 : Hid (∀ W, ORow W (some ⟨q0, 0, none⟩) (l3 o) → Calls Tryd.prog 13 #[.slice (some ⟨q0, 0, none⟩) 3 3] W (InQ ys 0 W)) := fun W h => by rw [YSH.out]; exact implStale_any 3 (some ⟨q0, 0, none⟩) (l3 o) J p q r 0 sB MRH SBH.out W (by rw [h3l]; omega) HSM.out h
  have CS2 : Hid (∀ W, ORow W (some ⟨q0, 0, none⟩) (l3 o) → Calls Tryd.prog 14 #[.slice (some ⟨q0, 0, none⟩) 3 3] W (InQ ys 0 W)) := fun W h => by rw [YSH.out]; exact specStale_any 3 (some ⟨q0, 0, none⟩) (l3 o) J p q r 0 sB MRH SBH.out W (by rw [h3l]; omega) HSM.out h
  clear hb hm17 hrp hob hro HMR HMG hJ hp hq hr hms hsb hys h3l
  go_wp2_with fail
  refine Calls.mono (CM1.out _ LR.out) ?_
  rintro e w2 ⟨vo, vc, rfl, hb, RV, hvc⟩
  replace HB := bel_next HB hb
  replace LR : Hid _ := LR.out.next hb
  clear hb
  go_wp2_with fail
  refine Calls.mono (CM2.out _ (LR.out.next (bel_alloc _ _))) ?_
  rintro e w3 ⟨uo, uc, rfl, hb, RU, huc⟩
  have BA := c4_next box_new hb lt_new
  have LA := lt_next lt_new hb
  replace HB := bel_next (bel_next HB (bel_alloc _ _)) hb
  replace LR : Hid _ := (LR.out.next (bel_alloc _ _)).next hb
  replace RV := rowm_next (rowm_next RV (bel_alloc _ _)) hb
  clear hb
  go_wp2_with fail
  refine Calls.mono (CS1.out _ (LR.out.next (bel_alloc _ _))) ?_
  rintro e w4 ⟨so, sc, rfl, hb, OS, FS⟩
  have BU := c4_next box_new hb lt_new
  have LU := lt_next lt_new hb
  replace BA := c4_next (c4_next BA (bel_alloc _ _) LA) hb (lt_next LA (bel_alloc _ _))
  replace LA := lt_next (lt_next LA (bel_alloc _ _)) hb
  replace HB := bel_next (bel_next HB (bel_alloc _ _)) hb
  replace LR : Hid _ := (LR.out.next (bel_alloc _ _)).next hb
  replace RV := rowm_next (rowm_next RV (bel_alloc _ _)) hb
  replace RU := rowm_next (rowm_next RU (bel_alloc _ _)) hb
  clear hb FS
  go_wp2_with fail
  refine Calls.mono (CS2.out _ LR.out) ?_
  rintro e w5 ⟨to, tc, rfl, hb, OT, FT⟩
  replace BA := c4_next BA hb LA
  replace LA := lt_next LA hb
  replace BU := c4_next BU hb LU
  replace LU := lt_next LU hb
  replace OS := own_hnext OS hb
  replace HB := bel_next HB hb
  replace LR : Hid _ := LR.out.next hb
  replace RV := rowm_next RV hb
  replace RU := rowm_next RU hb
  clear hb FT
  have C3 : Hid (Calls Tryd.prog 13 #[.slice (some ⟨w5.heap.size, 0, none⟩) 3 3] (w5.alloc (.cells #[.slice vo J.length vc, .int .i64 p, .int .i64 q, .int .i64 r, .slice vo J.length vc, .int .i64 p, .int .i64 q, .int .i64 r, .slice vo J.length vc, .int .i64 p, .int .i64 q, .int .i64 r] 32)) (InQ [] 0 (w5.alloc (.cells #[.slice vo J.length vc, .int .i64 p, .int .i64 q, .int .i64 r, .slice vo J.length vc, .int .i64 p, .int .i64 q, .int .i64 r, .slice vo J.length vc, .int .i64 p, .int .i64 q, .int .i64 r] 32)))) := by
    have hX : RpO V m { ao := vo, cap := vc, l := J, a := p, b := q, c := r } := RPM.out
    have hR : ORow (w5.alloc (.cells #[.slice vo J.length vc, .int .i64 p, .int .i64 q, .int .i64 r, .slice vo J.length vc, .int .i64 p, .int .i64 q, .int .i64 r, .slice vo J.length vc, .int .i64 p, .int .i64 q, .int .i64 r] 32)) (some ⟨w5.heap.size, 0, none⟩) [{ ao := vo, cap := vc, l := J, a := p, b := q, c := r }, { ao := vo, cap := vc, l := J, a := p, b := q, c := r }, { ao := vo, cap := vc, l := J, a := p, b := q, c := r }] := by
      refine ⟨.inr ⟨w5.heap.size, 0, rfl, fun i hi => ?_⟩, fun x hx => ?_⟩
      · match i, hi with
        | 0, _ => exact ⟨by go_simp, by go_simp, by go_simp, by go_simp⟩
        | 1, _ => exact ⟨by go_simp, by go_simp, by go_simp, by go_simp⟩
        | 2, _ => exact ⟨by go_simp, by go_simp, by go_simp, by go_simp⟩
      · simp at hx
        subst hx
        exact ⟨RV.out.next (bel_alloc _ _), hvc⟩
    have := implStale_any 3 (some ⟨w5.heap.size, 0, none⟩) _ J p q r 0 (fun _ => true) (m3_mr hX H17.out) (m3_smb _) _ (by simp) (sml_rp (fun y hy => by simp at hy; subst hy; exact hX) H17.out) hR
    exact this
  obtain ⟨bA0, bA1, bA2, bA3⟩ := BA.out
  go_wp2_with fail
  clear bA0 bA1 bA2 bA3
  refine Calls.mono C3.out ?_
  rintro e w6 ⟨no, nc, rfl, hb, ON, FN⟩
  replace BA := c4_next (c4_next BA (bel_alloc _ _) LA) hb (lt_next LA (bel_alloc _ _))
  replace LA := lt_next (lt_next LA (bel_alloc _ _)) hb
  replace BU := c4_next (c4_next BU (bel_alloc _ _) LU) hb (lt_next LU (bel_alloc _ _))
  replace LU := lt_next (lt_next LU (bel_alloc _ _)) hb
  replace OS := own_hnext (own_hnext OS (bel_alloc _ _)) hb
  replace OT := own_hnext (own_hnext OT (bel_alloc _ _)) hb
  replace HB := bel_next (bel_next HB (bel_alloc _ _)) hb
  replace LR : Hid _ := (LR.out.next (bel_alloc _ _)).next hb
  replace RV := rowm_next (rowm_next RV (bel_alloc _ _)) hb
  replace RU := rowm_next (rowm_next RU (bel_alloc _ _)) hb
  clear hb ON FN C3
  obtain ⟨t, code, hT0⟩ := rrel J p q r
  have hT : Hid (RRel J p q r t code) := hT0
  have hOK : OkP J p q r := Rp.okP RPM.out H17.out.1 H17.out.2.1 H17.out.2.2
  obtain ⟨ht, rfl⟩ := hT0.ok hOK
  have htp : (0 : Int) < (t.size : Int) := by have := rep_pos p q r (live J); rw [← ht] at this; omega
  have htn : 0 < t.size := by omega
  have HOK : Hid (OkP J p q r) := hOK
  clear hT0 ht hOK
  obtain ⟨bA0, bA1, bA2, bA3⟩ := BA.out
  go_wp2_with fail
  clear bA0 bA1 bA2 bA3
  refine (implReply_any vc vo J p q r t 0 hT _ hJm RV.out (HTB.out.next HB.out)).mono ?_
  rintro e w7 ⟨rfl, hb⟩
  replace BA := c4_next BA hb LA
  replace LA := lt_next LA hb
  replace BU := c4_next BU hb LU
  replace LU := lt_next LU hb
  replace OS := own_hnext OS hb
  replace OT := own_hnext OT hb
  replace HB := bel_next HB hb
  replace LR : Hid _ := LR.out.next hb
  replace RV := rowm_next RV hb
  replace RU := rowm_next RU hb
  clear hb
  obtain ⟨bA0, bA1, bA2, bA3⟩ := BA.out
  go_wp2_with fail
  clear bA0 bA1 bA2 bA3
  refine (specReply_any vc vo J p q r t 0 hT _ hJm RV.out).mono ?_
  rintro e w8 ⟨rfl, hb⟩
  replace BA := c4_next BA hb LA
  replace LA := lt_next LA hb
  replace BU := c4_next BU hb LU
  replace LU := lt_next LU hb
  replace OS := own_hnext OS hb
  replace OT := own_hnext OT hb
  replace HB := bel_next HB hb
  replace LR : Hid _ := LR.out.next hb
  replace RV := rowm_next RV hb
  replace RU := rowm_next RU hb
  clear hb hT
  go_wp2
  go_loopw [18, 19, 20] (fun s18 s19 s20 wr => ∃ k : Nat, k ≤ 3 ∧ s18 = .int .i64 k ∧ Below w8.heap.size w8 wr) (fun s18 _ _ _ => 3 - (intOf s18).toNat)
  case atStart => exact ⟨0, by omega, rfl, Below.refl _ _⟩
  case round =>
    obtain ⟨k, hk, rfl, hB0⟩ := hrel
    have HWR : Hid (Below w8.heap.size w8 wr) := hB0
    clear hB0
    by_cases hlt : k < 3
    · have hlt' : (k : Int) < 3 := by omega
      have kk : (0 : Int) ≤ (k : Int) := by omega
      obtain ⟨hxx, hrx, hcx⟩ := l3_row (LR.out.next HWR.out) k hlt
      have HOX : Hid (OkP (o k).l (o k).a (o k).b (o k).c) := Rp.okP (HRP.out k hlt) H17.out.1 H17.out.2.1 H17.out.2.2
      have hxl : ((o k).l.length : Int) ≤ 1048576 := by have := HOX.out.1; omega
      have HCR : Hid (CR true true J (o k).l p q r (o k).a (o k).b (o k).c true 0) := cov_rp (CVM.out k hlt)
      have HRX : Hid (SibRow wr (o k).ao (o k).l) := hrx
      have HXX : Hid (ObAt wr q0 (k * 4) (o k)) := hxx
      have RVR : Hid (SibRow wr vo J) := RV.out.next HWR.out
      have BAR := c4_next BA HWR.out LA
      have LAR := lt_next LA HWR.out
      generalize o k = x at *
      clear hrx hxx
      go_wp2_with fail
      refine wp_region_held_drew (S := (fun w' => (w'.cell? ⟨w2.heap.size, 0, none⟩ = some (.slice vo J.length vc) ∧ w'.cell? ⟨w2.heap.size, 1, none⟩ = some (.int .i64 p) ∧ w'.cell? ⟨w2.heap.size, 2, none⟩ = some (.int .i64 q) ∧ w'.cell? ⟨w2.heap.size, 3, none⟩ = some (.int .i64 r)) ∧ (w'.cell? ⟨q0, k * 4, none⟩ = some (.slice x.ao x.l.length x.cap) ∧ w'.cell? ⟨q0, k * 4 + 1, none⟩ = some (.int .i64 x.a) ∧ w'.cell? ⟨q0, k * 4 + 2, none⟩ = some (.int .i64 x.b) ∧ w'.cell? ⟨q0, k * 4 + 3, none⟩ = some (.int .i64 x.c)) ∧ Below wr.heap.size wr w')) (by kernel_rfl) ?_ (fun hHeld => ?_)
      · (try dsimp only)
        exact ⟨(c4_next BAR (bel_drew _) LAR).out, HXX.out.next (bel_drew _), bel_drew _⟩
      refine wpAnyH_take (i := 0) (v := ?_) rfl (by kernel_rfl) (by kernel_rfl) (by kernel_rfl) (fun _ _ _ h => h) (Or.inl ⟨by rfl, ?_⟩) (by assumption) ?_
      rotate_left
      · intro w' hSw
        (try dsimp only at hSw)
        go_simp
        all_goals (try with_reducible rfl)
      (try simp only [Act.put, List.getElem_toArray, List.getElem_cons_zero, List.getElem_cons_succ, List.setIfInBounds_toArray, List.set_cons_zero, List.set_cons_succ])
      refine wpAnyH_take (i := 1) (v := ?_) rfl (by kernel_rfl) (by kernel_rfl) (by kernel_rfl) (fun _ _ _ h => h) (Or.inl ⟨by rfl, ?_⟩) (by assumption) ?_
      rotate_left
      · intro w' hSw
        (try dsimp only at hSw)
        go_simp
        all_goals (try with_reducible rfl)
      (try simp only [Act.put, List.getElem_toArray, List.getElem_cons_zero, List.getElem_cons_succ, List.setIfInBounds_toArray, List.set_cons_zero, List.set_cons_succ])
      refine wpAnyH_take (i := 2) (v := ?_) rfl (by kernel_rfl) (by kernel_rfl) (by kernel_rfl) (fun _ _ _ h => h) (Or.inl ⟨by rfl, ?_⟩) (by assumption) ?_
      rotate_left
      · intro w' hSw
        (try dsimp only at hSw)
        go_simp
        all_goals (try with_reducible rfl)
      (try simp only [Act.put, List.getElem_toArray, List.getElem_cons_zero, List.getElem_cons_succ, List.setIfInBounds_toArray, List.set_cons_zero, List.set_cons_succ])
      refine wpAnyH_take (i := 3) (v := ?_) rfl (by kernel_rfl) (by kernel_rfl) (by kernel_rfl) (fun _ _ _ h => h) (Or.inl ⟨by rfl, ?_⟩) (by assumption) ?_
      rotate_left
      · intro w' hSw
        (try dsimp only at hSw)
        go_simp
        all_goals (try with_reducible rfl)
      (try simp only [Act.put, List.getElem_toArray, List.getElem_cons_zero, List.getElem_cons_succ, List.setIfInBounds_toArray, List.set_cons_zero, List.set_cons_succ])
      refine wpAnyH_take (i := 4) (v := ?_) rfl (by kernel_rfl) (by kernel_rfl) (by kernel_rfl) (fun _ _ _ h => h) (Or.inl ⟨by rfl, ?_⟩) (by assumption) ?_
      rotate_left
      · intro w' hSw
        (try dsimp only at hSw)
        go_simp
        all_goals (try with_reducible rfl)
      (try simp only [Act.put, List.getElem_toArray, List.getElem_cons_zero, List.getElem_cons_succ, List.setIfInBounds_toArray, List.set_cons_zero, List.set_cons_succ])
      refine wpAnyH_ready (rs := [5]) (by kernel_rfl) (by simp) ?_
      refine AllReadyH.cons rfl (fun K hK => ?_) AllReadyH.nil
      (try simp only [Act.put, List.getElem_toArray, List.getElem_cons_zero, List.getElem_cons_succ, List.setIfInBounds_toArray, List.set_cons_zero, List.set_cons_succ])
      go_simp
      (go_at_call 15; refine (implCovers_any vc x.cap vo x.ao J x.l p q r x.a x.b x.c true true ⟨fun _ => HOK.out, fun _ => rfl⟩ ⟨fun _ => HOX.out, fun _ => rfl⟩ true 0 HCR _ hJm hxl hcx (RVR.out.next hHeld.2.2) (HRX.out.next hHeld.2.2)).mono ?_; rintro e w10 ⟨rfl, hb⟩)
      (try simp only [])
      refine hK.out _ _ ?_ (fun hHeld' => ?_)
      · (try dsimp only)
        exact ⟨(c4_next (g := w2.heap.size) (v0 := .slice vo J.length vc) hHeld.1 hb (Nat.lt_of_lt_of_le LAR.out hHeld.2.2.size)).out, ObAt.next hHeld.2.1 hb, hHeld.2.2.trans (hb.mono hHeld.2.2.size)⟩
      clear hK K
      clear hHeld
      have hHeld := hHeld'
      clear hHeld'
      clear hb
      (try simp only [Act.put, List.getElem_toArray, List.getElem_cons_zero, List.getElem_cons_succ, List.setIfInBounds_toArray, List.set_cons_zero, List.set_cons_succ])
      refine wpAnyH_take (i := 6) (v := ?_) rfl (by kernel_rfl) (by kernel_rfl) (by kernel_rfl) (fun _ _ _ h => h) (Or.inl ⟨by rfl, ?_⟩) (by assumption) ?_
      rotate_left
      · intro w' hSw
        (try dsimp only at hSw)
        go_simp
        all_goals (try with_reducible rfl)
      (try simp only [Act.put, List.getElem_toArray, List.getElem_cons_zero, List.getElem_cons_succ, List.setIfInBounds_toArray, List.set_cons_zero, List.set_cons_succ])
      refine wpAnyH_take (i := 7) (v := ?_) rfl (by kernel_rfl) (by kernel_rfl) (by kernel_rfl) (fun _ _ _ h => h) (Or.inl ⟨by rfl, ?_⟩) (by assumption) ?_
      rotate_left
      · intro w' hSw
        (try dsimp only at hSw)
        go_simp
        all_goals (try with_reducible rfl)
      (try simp only [Act.put, List.getElem_toArray, List.getElem_cons_zero, List.getElem_cons_succ, List.setIfInBounds_toArray, List.set_cons_zero, List.set_cons_succ])
      refine wpAnyH_take (i := 8) (v := ?_) rfl (by kernel_rfl) (by kernel_rfl) (by kernel_rfl) (fun _ _ _ h => h) (Or.inl ⟨by rfl, ?_⟩) (by assumption) ?_
      rotate_left
      · intro w' hSw
        (try dsimp only at hSw)
        go_simp
        all_goals (try with_reducible rfl)
      (try simp only [Act.put, List.getElem_toArray, List.getElem_cons_zero, List.getElem_cons_succ, List.setIfInBounds_toArray, List.set_cons_zero, List.set_cons_succ])
      refine wpAnyH_take (i := 9) (v := ?_) rfl (by kernel_rfl) (by kernel_rfl) (by kernel_rfl) (fun _ _ _ h => h) (Or.inl ⟨by rfl, ?_⟩) (by assumption) ?_
      rotate_left
      · intro w' hSw
        (try dsimp only at hSw)
        go_simp
        all_goals (try with_reducible rfl)
      (try simp only [Act.put, List.getElem_toArray, List.getElem_cons_zero, List.getElem_cons_succ, List.setIfInBounds_toArray, List.set_cons_zero, List.set_cons_succ])
      refine wpAnyH_take (i := 10) (v := ?_) rfl (by kernel_rfl) (by kernel_rfl) (by kernel_rfl) (fun _ _ _ h => h) (Or.inl ⟨by rfl, ?_⟩) (by assumption) ?_
      rotate_left
      · intro w' hSw
        (try dsimp only at hSw)
        go_simp
        all_goals (try with_reducible rfl)
      (try simp only [Act.put, List.getElem_toArray, List.getElem_cons_zero, List.getElem_cons_succ, List.setIfInBounds_toArray, List.set_cons_zero, List.set_cons_succ])
      refine wpAnyH_done (by kernel_rfl) ?_ _
      have HB2 : Hid (Below w8.heap.size w8 w10) := HWR.out.trans (hHeld.2.2.mono HWR.out.size)
      clear hHeld BAR LAR RVR HXX HRX HCR HOX HWR
      go_wp2
      go_roundw
      case rel => first | exact ⟨k + 1, by omega, by go_num, HB2.out⟩ | ((repeat apply Exists.intro); exact ⟨⟨k + 1, by omega, by go_num, HB2.out⟩, rfl⟩)
      case measure => simp [intOf]; omega
    · have hlt' : ¬ (k : Int) < 3 := by omega
      replace BA := c4_next BA HWR.out LA
      replace BU := c4_next BU HWR.out LU
      replace RV := rowm_next RV HWR.out
      replace RU := rowm_next RU HWR.out
      replace OS := own_hnext OS HWR.out
      replace OT := own_hnext OT HWR.out
      replace HB := bel_next HB HWR.out
      clear HWR LA LU
      obtain ⟨bA0, bA1, bA2, bA3⟩ := BA.out
      obtain ⟨bU0, bU1, bU2, bU3⟩ := BU.out
      go_wp2_with fail
      clear bA0 bA1 bA2 bA3 bU0 bU1 bU2 bU3 BA BU
      refine (lsame_any vc uc vo uo J J p q r p q r true ⟨fun _ => same_self _ _ _ _, fun _ => rfl⟩ _ hJm hJm RV.out RU.out).mono ?_
      rintro e w11 ⟨rfl, hb⟩
      replace OS := own_hnext OS hb
      replace OT := own_hnext OT hb
      replace HB := bel_next HB hb
      clear hb RV RU
      go_wp2_with fail
      refine (sameInts_any sc tc so to ys _ hysl (irow_own OS) (irow_own OT)).mono ?_
      rintro e w12 ⟨rfl, hb⟩
      replace HB := bel_next HB hb
      clear hb OS OT
      go_wp2
      go_ret
      exact ⟨rfl, HB.out⟩
end Go.Proofs.YtcmniplbiliobaaDoor
