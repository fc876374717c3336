/- Replicas that are merged. -/
import Derived.Test.YtcmniplbiliobaaDoorRows
import Derived.WalkKit
import Derived.Test.YtcmniplbiliobaaDoorNj
import Derived.Test.YtcmniplbiliobaaDoorWs
import Derived.Test.YtcmniplbiliobaaDoorCb
import Derived.WalkSpells
import Derived.WalkLawsBesides
import Derived.Deep.QuietTactic
import Derived.BigQuiet
import Derived.Deep.RegionHeld3
import Derived.Test.YtcmniplbiliobaaDoorJb
import Derived.Test.YtcmniplbiliobaaDoorLj
import Derived.Test.YtcmniplbiliobaaDoorSp
import Derived.Test.YtcmniplbiliobaaDoorIo
import Derived.Test.YtcmniplbiliobaaDoorQi
import Derived.LoopN
import Derived.Deep.Cut
import Derived.Shelf.RegionOpenPlain
namespace Go.Proofs.YtcmniplbiliobaaDoor
open Go.RowKit
set_option linter.unusedSimpArgs false
set_option linter.unusedVariables false

/-- The replicas of a list, in a row. -/
structure ORow (W : World) (ao : Option Addr) (os : List Ov) : Prop where
  cells : os = [] ∨ ∃ b off, ao = some ⟨b, off, none⟩ ∧ ∀ i (h : i < os.length), ObAt W b (off + i * 4) os[i]
  rows : ∀ x ∈ os, SibRow W x.ao x.l ∧ x.l.length ≤ x.cap
theorem obat_lt {W : World} {b o : Nat} {x : Ov} (h : ObAt W b o x) : b < W.heap.size := cell_lt h.1
theorem ORow.next {W W' : World} {ao : Option Addr} {os : List Ov} (h : ORow W ao os) (hb : Below W.heap.size W W') : ORow W' ao os := by
  refine ⟨?_, fun x hx => ⟨(h.rows x hx).1.next hb, (h.rows x hx).2⟩⟩
  rcases h.cells with h' | ⟨b, off, rfl, h2⟩
  · exact .inl h'
  · exact .inr ⟨b, off, rfl, fun i hi => (h2 i hi).next hb⟩
theorem ORow.at {W : World} {ao : Option Addr} {os : List Ov} (h : ORow W ao os) (i : Nat) (hi : i < os.length) : ∃ b off, ao = some ⟨b, off, none⟩ ∧ ObAt W b (off + i * 4) os[i] ∧ SibRow W os[i].ao os[i].l ∧ os[i].l.length ≤ os[i].cap := by
  rcases h.cells with h' | ⟨b, off, rfl, h2⟩
  · rw [h'] at hi; simp at hi
  · exact ⟨b, off, rfl, h2 i hi, h.rows _ (List.getElem_mem _)⟩
/-- One replica more. -/
def mgN (s : List Sib × Int × Int × Int) (x : Ov) : List Sib × Int × Int × Int := (sj s.2.1 s.2.2.1 s.2.2.2 x.a x.b x.c s.1 x.l, max s.2.1 x.a, max s.2.2.1 x.b, max s.2.2.2 x.c)
/-- What replicas make, joined one by one. -/
def mgS (os : List Ov) : List Sib × Int × Int × Int := os.foldl mgN ([], 0, 0, 0)
theorem mgS_take {os : List Ov} {k : Nat} (h : k < os.length) : mgS (os.take (k + 1)) = mgN (mgS (os.take k)) os[k] := by
  unfold mgS
  rw [List.take_succ_eq_append_getElem h, List.foldl_append]
  rfl
def AllOk (os : List Ov) : Prop := ∀ x ∈ os, OkP x.l x.a x.b x.c
/-- An object but for how many siblings it has. -/
structure RkP (l : List Sib) (a b c : Int) : Prop where
  rise : Rise l
  known : ∀ s ∈ l, s.n ≤ comp a b c s.p
  ok : ∀ s ∈ l, sibOK s.p s.n s.v s.d = true
  vv : vvB a b c = true
theorem vv_max {a b c x y z : Int} (h : vvB a b c = true) (h2 : vvB x y z = true) : vvB (max a x) (max b y) (max c z) = true := by
  have h0 := of_decide_eq_true h
  have h1 := of_decide_eq_true h2
  unfold vvB
  rw [decide_eq_true_eq]
  omega
theorem sib_ok_of {l : List Sib} {a b c : Int} (h : OkP l a b c) : ∀ s ∈ l, sibOK s.p s.n s.v s.d = true := fun s hs => by
  obtain ⟨i, hi, rfl⟩ := List.getElem_of_mem hs
  exact (h.2.2 i hi).1
theorem RkP.step {l l2 : List Sib} {a b c x y z : Int} (h : RkP l a b c) (k : OkP l2 x y z) : RkP (sj a b c x y z l l2) (max a x) (max b y) (max c z) := by
  refine ⟨rise_sj h.rise (ok_rise k) h.known, fun s hs => ?_, fun s hs => ?_, vv_max h.vv k.2.1⟩
  · rw [comp_max]
    rcases mem_sj.1 hs with ⟨h1, _⟩ | ⟨h1, _⟩
    · have := h.known s h1; omega
    · have := ok_known k s h1; omega
  · rcases mem_sj.1 hs with ⟨h1, _⟩ | ⟨h1, _⟩
    · exact h.ok s h1
    · exact sib_ok_of k s h1
theorem RkP.nodes {l : List Sib} {a b c : Int} (h : RkP l a b c) : ∀ i (hi : i < l.length), 0 ≤ l[i].p ∧ l[i].p < 3 := fun i hi => sib_node (h.ok _ (List.getElem_mem _))
theorem mg_rk {os : List Ov} (h : AllOk os) : ∀ k, k ≤ os.length → RkP (mgS (os.take k)).1 (mgS (os.take k)).2.1 (mgS (os.take k)).2.2.1 (mgS (os.take k)).2.2.2 ∧ (mgS (os.take k)).1.length ≤ 100 * k
  | 0, _ => ⟨⟨by simp [mgS, Rise], fun s hs => by simp [mgS] at hs, fun s hs => by simp [mgS] at hs, by simp [mgS, vvB]⟩, by simp [mgS]⟩
  | k + 1, hk => by
    have ih := mg_rk h k (by omega)
    have hx := h os[k] (List.getElem_mem _)
    rw [mgS_take (by omega)]
    refine ⟨ih.1.step hx, ?_⟩
    have := sj_len (mgS (os.take k)).2.1 (mgS (os.take k)).2.2.1 (mgS (os.take k)).2.2.2 os[k].a os[k].b os[k].c (mgS (os.take k)).1 os[k].l
    have h1 := hx.1
    have h2 := ih.2
    show (sj _ _ _ _ _ _ _ _).length ≤ _
    omega
theorem set4_th {W : World} {g q : Nat} {v : Value} {a b c : Int} {n : Nat} (h : There W g n) : There ((((W.setCell ⟨q, 0, none⟩ v).setCell ⟨q, 1, none⟩ (.int .i64 a)).setCell ⟨q, 2, none⟩ (.int .i64 b)).setCell ⟨q, 3, none⟩ (.int .i64 c)) g n := h.set.set.set.set

theorem js_join {w wr w1 w2 : World} {B n vc n' vc' : Nat} {vo vo' : Option Addr} {a b c p q r : Int} {l l' : List Sib} (h : JS w wr B vo n vc a b c l) (hb : Below wr.heap.size wr w1) (hg : Gro w1 w2 (.slice none 0 0) (.slice vo' n' vc')) (ho : w2.ownsRow 0 74 4 (.slice vo' n' vc') l'.length (flat l')) (hn : n' = l'.length) :
    JS w ((((w2.setCell ⟨B, 0, none⟩ (.slice vo' n' vc')).setCell ⟨B, 1, none⟩ (.int .i64 p)).setCell ⟨B, 2, none⟩ (.int .i64 q)).setCell ⟨B, 3, none⟩ (.int .i64 r)) B vo' n' vc' p q r l' := by
  have h1 := h.next hb
  have hB : B < w1.heap.size := h1.box.2.2
  have hne : (Value.slice vo' n' vc').ownBlock ≠ some B := nb hg hB
  have hT : There w2 B 4 := th_gro h1.box.2.1 hg hB Gro.none_ne
  have hbel : Below w.heap.size w w2 := h1.own.2.1.trans (hg.below h1.own.2.1.size (fun k hk => by simp [Value.ownBlock] at hk))
  have hcap : n' ≤ vc' := by
    rcases ho.2 with ⟨e, hz⟩ | ⟨g, cp, cur, e, _, _, hc, _⟩
    · cases e; omega
    · cases e; omega
  refine ⟨⟨own_set4 (by rw [hn]; exact hn ▸ ho) hne, below_set4 hbel h.old, fun k hk => ?_⟩, hn, hcap, ⟨set4_cells hT, hT.set.set.set.set, by simpa [World.setCell] using Nat.lt_of_lt_of_le hB hg.size⟩, hne, h.old⟩
  rcases hg.fresh k hk with h' | h'
  · simp [Value.ownBlock] at h'
  · exact Nat.le_trans h1.own.2.1.size h'
/-- What merging leaves: a new object. -/
def MgA (s : List Sib × Int × Int × Int) (w : World) (e : Ending) (w' : World) : Prop := ∃ vo vc, e = .returned (.agg #[.slice vo s.1.length vc, .int .i64 s.2.1, .int .i64 s.2.2.1, .int .i64 s.2.2.2]) ∧ Gro w w' (.slice none 0 0) (.slice vo s.1.length vc) ∧ w'.ownsRow 0 74 4 (.slice vo s.1.length vc) s.1.length (flat s.1)
/-- What the loop of a merge keeps: the object in its box, and the answer's box. -/
structure MI (w wr : World) (R B : Nat) (vo : Option Addr) (vc : Nat) (s : List Sib × Int × Int × Int) : Prop where
  js : JS w wr B vo s.1.length vc s.2.1 s.2.2.1 s.2.2.2 s.1
  th : There wr R 4
  rl : R < wr.heap.size
  ge : w.heap.size ≤ R
  ne : (Value.slice vo s.1.length vc).ownBlock ≠ some R
theorem MI.next {w wr w1 : World} {R B : Nat} {vo : Option Addr} {vc : Nat} {s : List Sib × Int × Int × Int} (h : MI w wr R B vo vc s) (hb : Below wr.heap.size wr w1) : MI w w1 R B vo vc s := ⟨h.js.next hb, h.th.next hb h.rl, Nat.lt_of_lt_of_le h.rl hb.size, h.ge, h.ne⟩
theorem MI.join {w wr w1 w2 : World} {R B : Nat} {vo vo' : Option Addr} {vc n' vc' : Nat} {s : List Sib × Int × Int × Int} {x : Ov} (h : MI w wr R B vo vc s) (hb : Below wr.heap.size wr w1) (hg : Gro w1 w2 (.slice none 0 0) (.slice vo' n' vc')) (ho : w2.ownsRow 0 74 4 (.slice vo' n' vc') (mgN s x).1.length (flat (mgN s x).1)) (hn : n' = (mgN s x).1.length) :
    MI w ((((w2.setCell ⟨B, 0, none⟩ (.slice vo' n' vc')).setCell ⟨B, 1, none⟩ (.int .i64 (mgN s x).2.1)).setCell ⟨B, 2, none⟩ (.int .i64 (mgN s x).2.2.1)).setCell ⟨B, 3, none⟩ (.int .i64 (mgN s x).2.2.2)) R B vo' vc' (mgN s x) := by
  have h1 := h.next hb
  have hj := js_join (p := (mgN s x).2.1) (q := (mgN s x).2.2.1) (r := (mgN s x).2.2.2) h.js hb hg ho hn
  subst hn
  exact ⟨hj, (th_gro h1.th hg h1.rl Gro.none_ne).set.set.set.set, by simpa [World.setCell] using Nat.lt_of_lt_of_le h1.rl hg.size, h.ge, nb hg h1.rl⟩
theorem MI.end {w wr : World} {R B : Nat} {vo : Option Addr} {vc : Nat} {s : List Sib × Int × Int × Int} (h : MI w wr R B vo vc s) : Gro w ((((wr.setCell ⟨R, 0, none⟩ (.slice vo s.1.length vc)).setCell ⟨R, 1, none⟩ (.int .i64 s.2.1)).setCell ⟨R, 2, none⟩ (.int .i64 s.2.2.1)).setCell ⟨R, 3, none⟩ (.int .i64 s.2.2.2)) (.slice none 0 0) (.slice vo s.1.length vc) ∧ ((((wr.setCell ⟨R, 0, none⟩ (.slice vo s.1.length vc)).setCell ⟨R, 1, none⟩ (.int .i64 s.2.1)).setCell ⟨R, 2, none⟩ (.int .i64 s.2.2.1)).setCell ⟨R, 3, none⟩ (.int .i64 s.2.2.2)).ownsRow 0 74 4 (.slice vo s.1.length vc) s.1.length (flat s.1) :=
  ⟨Gro.set4 h.js.own.gro h.ge, own_set4 h.js.own.1 h.ne⟩

set_option maxHeartbeats 4000000 in
theorem joinedAll_any (cap : Nat) (ao : Option Addr) (os : List Ov) (w : World) (h3 : os.length ≤ 3) (hA : AllOk os) (hr0 : ORow w ao os) :
    Calls Tryd.prog 34 #[.slice ao os.length cap] w (MgA (mgS os) w) := by
  have HR : Hid (ORow w ao os) := hr0
  have HA : Hid (AllOk os) := hA
  clear hr0 hA
  have M0 : Hid (MI w ((w.alloc (.cells #[.slice none 0 0, .int .i64 0, .int .i64 0, .int .i64 0] 32)).alloc (.cells #[.slice none 0 0, .int .i64 0, .int .i64 0, .int .i64 0] 32)) w.heap.size (w.heap.size + 1) none 0 (mgS (os.take 0))) := by
    rw [show mgS (os.take 0) = (([] : List Sib), (0 : Int), (0 : Int), (0 : Int)) from rfl]
    have hb : Below w.heap.size w ((w.alloc (.cells #[.slice none 0 0, .int .i64 0, .int .i64 0, .int .i64 0] 32)).alloc (.cells #[.slice none 0 0, .int .i64 0, .int .i64 0, .int .i64 0] 32)) := (Below.refl _ _).alloc (Nat.le_refl _) _ |>.alloc (by simp) _
    refine ⟨⟨⟨World.ownsRow_nil _ _ _ _, hb, fun k hk => by simp [Value.ownBlock] at hk⟩, rfl, Nat.le_refl _, ⟨⟨by go_simp, by go_simp, by go_simp, by go_simp⟩, fun j hj => ?_, by simp⟩, by simp [Value.ownBlock], by omega⟩, fun j hj => ?_, by simp; omega, Nat.le_refl _, by simp [Value.ownBlock]⟩
    · have hj' : j = 0 ∨ j = 1 ∨ j = 2 ∨ j = 3 := by omega
      rcases hj' with rfl | rfl | rfl | rfl <;> exact ⟨by go_simp, by go_simp⟩
    · have hj' : j = 0 ∨ j = 1 ∨ j = 2 ∨ j = 3 := by omega
      rcases hj' with rfl | rfl | rfl | rfl <;> exact ⟨by go_simp, by go_simp⟩
  go_enter Tryd.func34, Tryd.ntmps34
  go_wp2
  go_loopw [5, 8] (fun s5 s8 wr => ∃ (k : Nat) (vo : Option Addr) (vc : Nat), k ≤ os.length ∧ s8 = .int .i64 k ∧ MI w wr w.heap.size (w.heap.size + 1) vo vc (mgS (os.take k))) (fun _ s8 _ => os.length - (intOf s8).toNat)
  case atStart => exact ⟨0, none, 0, by omega, rfl, M0.out⟩
  case round =>
    clear M0
    obtain ⟨k, vo, vc, hk, rfl, hM0⟩ := hrel
    have HM : Hid (MI w wr w.heap.size (w.heap.size + 1) vo vc (mgS (os.take k))) := hM0
    clear hM0
    by_cases hlt : k < os.length
    · have hlt' : (k : Int) < (os.length : Int) := by omega
      have kk : (0 : Int) ≤ (k : Int) := by omega
      obtain ⟨b, off, rfl, ⟨x0, x1, x2, x3⟩, hrx, hcx⟩ := (HR.out.next HM.out.js.own.2.1).at k hlt
      have HX : Hid (OkP os[k].l os[k].a os[k].b os[k].c) := HA.out _ (List.getElem_mem _)
      have HK := mg_rk HA.out k (by omega)
      have HT : Hid (mgS (os.take (k + 1)) = mgN (mgS (os.take k)) os[k]) := mgS_take hlt
      have HKH : Hid (RkP (mgS (os.take k)).1 (mgS (os.take k)).2.1 (mgS (os.take k)).2.2.1 (mgS (os.take k)).2.2.2 ∧ (mgS (os.take k)).1.length ≤ 100 * k) := HK
      generalize mgS (os.take k) = s at *
      obtain ⟨sl, sa, sb, sc⟩ := s
      generalize os[k] = x at *
      dsimp only at HM HKH HX
      have HRX : Hid (SibRow wr x.ao x.l) := hrx
      clear HK hrx
      obtain ⟨⟨c0, c1, c2, c3⟩, hTr, hz⟩ := HM.out.js.box
      have HRS : Hid (SibRow wr vo sl) := HM.out.js.row
      obtain ⟨t0, T0⟩ := Option.isSome_iff_exists.1 (hTr 0 (by omega)).1
      have Z0 := (hTr 0 (by omega)).2
      obtain ⟨t1, T1⟩ := Option.isSome_iff_exists.1 (hTr 1 (by omega)).1
      have Z1 := (hTr 1 (by omega)).2
      obtain ⟨t2, T2⟩ := Option.isSome_iff_exists.1 (hTr 2 (by omega)).1
      have Z2 := (hTr 2 (by omega)).2
      obtain ⟨t3, T3⟩ := Option.isSome_iff_exists.1 (hTr 3 (by omega)).1
      have Z3 := (hTr 3 (by omega)).2
      clear hTr
      have e0 : ∀ o, (wr.alloc o).cell? ⟨w.heap.size + 1, 0, none⟩ = _ := fun o => box_alloc c0 hz
      have e1 : ∀ o, (wr.alloc o).cell? ⟨w.heap.size + 1, 1, none⟩ = _ := fun o => box_alloc c1 hz
      have e2 : ∀ o, (wr.alloc o).cell? ⟨w.heap.size + 1, 2, none⟩ = _ := fun o => box_alloc c2 hz
      have e3 : ∀ o, (wr.alloc o).cell? ⟨w.heap.size + 1, 3, none⟩ = _ := fun o => box_alloc c3 hz
      clear T0 T1 T2 T3 Z0 Z1 Z2 Z3 c0 c1 c2 c3
      go_wp2_with fail
      clear e0 e1 e2 e3 x0 x1 x2 x3
      refine (joined_any vc x.cap vo x.ao sl x.l sa sb sc x.a x.b x.c _ (by have := HKH.out.2; (try dsimp only at this); omega) (by have := HX.out.1; omega) hcx HKH.out.1.nodes (ok_nodes HX.out) (HRS.out.next (bel_alloc _ _)) (HRX.out.next (bel_alloc _ _))).mono ?_
      rintro e w2 ⟨v, rfl, hg, ho⟩
      rw [jn_sj HKH.out.1.rise (ok_rise HX.out) HKH.out.1.known] at ho
      obtain ⟨vo', n', vc', rfl⟩ := own_slice ho
      have hn := own_len ho
      have HM2 : Hid _ := HM.out.join (x := x) (bel_alloc _ _) hg ho hn
      have hTr := (th_gro ((HM.out.next (bel_alloc _ _)).js.box.2.1) hg (HM.out.next (bel_alloc _ _)).js.box.2.2 Gro.none_ne)
      obtain ⟨t0, T0⟩ := Option.isSome_iff_exists.1 (hTr 0 (by omega)).1
      have Z0 := (hTr 0 (by omega)).2
      obtain ⟨t1, T1⟩ := Option.isSome_iff_exists.1 (hTr 1 (by omega)).1
      have Z1 := (hTr 1 (by omega)).2
      obtain ⟨t2, T2⟩ := Option.isSome_iff_exists.1 (hTr 2 (by omega)).1
      have Z2 := (hTr 2 (by omega)).2
      obtain ⟨t3, T3⟩ := Option.isSome_iff_exists.1 (hTr 3 (by omega)).1
      have Z3 := (hTr 3 (by omega)).2
      have HN : Hid (n' = (mgN (sl, sa, sb, sc) x).1.length) := hn
      clear hTr hg ho hn HRX HRS HX HKH
      go_wp2
      go_roundw
      case rel => first | exact ⟨k + 1, vo', vc', by omega, by go_num, by rw [HT.out]; exact HM2.out⟩ | ((repeat apply Exists.intro); exact ⟨⟨k + 1, vo', vc', by omega, by go_num, by rw [HT.out]; exact HM2.out⟩, rfl⟩)
      case measure => simp [intOf]; omega
    · have hlt' : ¬ (k : Int) < (os.length : Int) := by omega
      have HM1 : Hid (MI w wr w.heap.size (w.heap.size + 1) vo vc (mgS os)) := by have := HM.out; rw [List.take_of_length_le (by omega)] at this; exact this
      clear HM
      obtain ⟨⟨c0, c1, c2, c3⟩, _, hz⟩ := HM1.out.js.box
      have hTr := HM1.out.th
      obtain ⟨t0, T0⟩ := Option.isSome_iff_exists.1 (hTr 0 (by omega)).1
      have Z0 := (hTr 0 (by omega)).2
      obtain ⟨t1, T1⟩ := Option.isSome_iff_exists.1 (hTr 1 (by omega)).1
      have Z1 := (hTr 1 (by omega)).2
      obtain ⟨t2, T2⟩ := Option.isSome_iff_exists.1 (hTr 2 (by omega)).1
      have Z2 := (hTr 2 (by omega)).2
      obtain ⟨t3, T3⟩ := Option.isSome_iff_exists.1 (hTr 3 (by omega)).1
      have Z3 := (hTr 3 (by omega)).2
      clear hTr
      go_wp2
      refine bodyPost_ret (v := .agg #[.slice vo (mgS os).1.length vc, .int .i64 (mgS os).2.1, .int .i64 (mgS os).2.2.1, .int .i64 (mgS os).2.2.2]) (by simp [results, Tryd.results34, go_sem, T0, T1, T2, T3, Z0, Z1, Z2, Z3]) rfl ⟨vo, vc, rfl, HM1.out.end⟩

set_option maxHeartbeats 4000000 in
theorem l08Merge_any (cap : Nat) (ao : Option Addr) (os : List Ov) (w : World) (h3 : os.length ≤ 3) (hA : AllOk os) (hr0 : ORow w ao os) :
    Calls Tryd.prog 36 #[.slice ao os.length cap] w (MgA (mgS os) w) := by
  have HR : Hid (ORow w ao os) := hr0
  have HA : Hid (AllOk os) := hA
  clear hr0 hA
  have M0 : Hid (MI w (((w.alloc (.cells #[.slice none 0 0, .int .i64 0, .int .i64 0, .int .i64 0] 32)).alloc (.cells #[] 74)).alloc (.cells #[.slice (some ⟨w.heap.size + 1, 0, none⟩) 0 0, .int .i64 0, .int .i64 0, .int .i64 0] 32)) w.heap.size (w.heap.size + 1 + 1) (some ⟨w.heap.size + 1, 0, none⟩) 0 (mgS (os.take 0))) := by
    rw [show mgS (os.take 0) = (([] : List Sib), (0 : Int), (0 : Int), (0 : Int)) from rfl]
    have hb1 : Below w.heap.size w (w.alloc (.cells #[.slice none 0 0, .int .i64 0, .int .i64 0, .int .i64 0] 32)) := (Below.refl _ _).alloc (Nat.le_refl _) _
    have hO := (Own.lit (e := 74) hb1).step (bel_alloc _ (.cells #[.slice (some ⟨w.heap.size + 1, 0, none⟩) 0 0, .int .i64 0, .int .i64 0, .int .i64 0] 32))
    refine ⟨⟨by simpa [flat] using hO, rfl, Nat.le_refl _, ⟨⟨by go_simp, by go_simp, by go_simp, by go_simp⟩, fun j hj => ?_, by simp⟩, by simp [Value.ownBlock], by omega⟩, fun j hj => ?_, by simp; omega, Nat.le_refl _, by simp [Value.ownBlock]⟩
    · have hj' : j = 0 ∨ j = 1 ∨ j = 2 ∨ j = 3 := by omega
      rcases hj' with rfl | rfl | rfl | rfl <;> exact ⟨by go_simp, by go_simp⟩
    · have hj' : j = 0 ∨ j = 1 ∨ j = 2 ∨ j = 3 := by omega
      rcases hj' with rfl | rfl | rfl | rfl <;> exact ⟨by go_simp, by go_simp⟩
  go_enter Tryd.func36, Tryd.ntmps36
  go_wp2
  go_loopw [4] (fun s4 wr => ∃ (k : Nat) (vo : Option Addr) (vc : Nat), k ≤ os.length ∧ s4 = .int .i64 k ∧ MI w wr w.heap.size (w.heap.size + 1 + 1) vo vc (mgS (os.take k))) (fun s4 _ => os.length - (intOf s4).toNat)
  case atStart => exact ⟨0, _, _, by omega, rfl, M0.out⟩
  case round =>
    clear M0
    obtain ⟨k, vo, vc, hk, rfl, hM0⟩ := hrel
    have HM : Hid (MI w wr w.heap.size (w.heap.size + 1 + 1) vo vc (mgS (os.take k))) := hM0
    clear hM0
    by_cases hlt : k < os.length
    · have hlt' : (k : Int) < (os.length : Int) := by omega
      have kk : (0 : Int) ≤ (k : Int) := by omega
      obtain ⟨b, off, rfl, hxx, hrx, hcx⟩ := (HR.out.next HM.out.js.own.2.1).at k hlt
      have HX : Hid (OkP os[k].l os[k].a os[k].b os[k].c) := HA.out _ (List.getElem_mem _)
      have HK := mg_rk HA.out k (by omega)
      have HT : Hid (mgS (os.take (k + 1)) = mgN (mgS (os.take k)) os[k]) := mgS_take hlt
      have HKH : Hid (RkP (mgS (os.take k)).1 (mgS (os.take k)).2.1 (mgS (os.take k)).2.2.1 (mgS (os.take k)).2.2.2 ∧ (mgS (os.take k)).1.length ≤ 100 * k) := HK
      generalize mgS (os.take k) = s at *
      obtain ⟨sl, sa, sb, sc⟩ := s
      generalize os[k] = x at *
      dsimp only at HM HKH HX
      have HRX : Hid (SibRow wr x.ao x.l) := hrx
      have HXX : Hid (ObAt wr b (off + k * 4) x) := hxx
      have hbw : Hid (b < w.heap.size) := by
        rcases HR.out.cells with h' | ⟨b', off', e, h2⟩
        · rw [h'] at hlt; simp at hlt
        · cases e; exact obat_lt (h2 k hlt)
      have HRS : Hid (SibRow wr vo sl) := HM.out.js.row
      clear HK hrx hxx
      go_wp2_with fail
      refine wp_region_held_drew (S := (fun w' => w'.cell? ⟨b, off + k * 4, none⟩ = some (.slice x.ao x.l.length x.cap) ∧ w'.cell? ⟨b, off + k * 4 + 1, none⟩ = some (.int .i64 x.a) ∧ w'.cell? ⟨b, off + k * 4 + 2, none⟩ = some (.int .i64 x.b) ∧ w'.cell? ⟨b, off + k * 4 + 3, none⟩ = some (.int .i64 x.c))) (by kernel_rfl) ?_ (fun hHeld => ?_)
      · (try dsimp only)
        exact HXX.out.next (bel_drew _)
      have BW : Hid (Below wr.heap.size wr wr.drew) := bel_drew _
      refine wpAnyH_take (i := 1) (v := ?_) rfl (by kernel_rfl) (by kernel_rfl) (by kernel_rfl) (fun _ _ _ h => h) (Or.inl ⟨by rfl, ?_⟩) (by assumption) ?_
      rotate_left
      · intro w' hSw
        (try dsimp only at hSw)
        go_simp
        all_goals (try with_reducible rfl)
      (try simp only [Act.put, List.getElem_toArray, List.getElem_cons_zero, List.getElem_cons_succ, List.setIfInBounds_toArray, List.set_cons_zero, List.set_cons_succ])
      refine wpAnyH_take (i := 2) (v := ?_) rfl (by kernel_rfl) (by kernel_rfl) (by kernel_rfl) (fun _ _ _ h => h) (Or.inl ⟨by rfl, ?_⟩) (by assumption) ?_
      rotate_left
      · intro w' hSw
        (try dsimp only at hSw)
        go_simp
        all_goals (try with_reducible rfl)
      (try simp only [Act.put, List.getElem_toArray, List.getElem_cons_zero, List.getElem_cons_succ, List.setIfInBounds_toArray, List.set_cons_zero, List.set_cons_succ])
      refine wpAnyH_take (i := 3) (v := ?_) rfl (by kernel_rfl) (by kernel_rfl) (by kernel_rfl) (fun _ _ _ h => h) (Or.inl ⟨by rfl, ?_⟩) (by assumption) ?_
      rotate_left
      · intro w' hSw
        (try dsimp only at hSw)
        go_simp
        all_goals (try with_reducible rfl)
      (try simp only [Act.put, List.getElem_toArray, List.getElem_cons_zero, List.getElem_cons_succ, List.setIfInBounds_toArray, List.set_cons_zero, List.set_cons_succ])
      refine wpAnyH_take (i := 4) (v := ?_) rfl (by kernel_rfl) (by kernel_rfl) (by kernel_rfl) (fun _ _ _ h => h) (Or.inl ⟨by rfl, ?_⟩) (by assumption) ?_
      rotate_left
      · intro w' hSw
        (try dsimp only at hSw)
        go_simp
        all_goals (try with_reducible rfl)
      (try simp only [Act.put, List.getElem_toArray, List.getElem_cons_zero, List.getElem_cons_succ, List.setIfInBounds_toArray, List.set_cons_zero, List.set_cons_succ])
      generalize wr.drew = wd at *
      obtain ⟨⟨c0, c1, c2, c3⟩, _, hz⟩ := (HM.out.next BW.out).js.box
      refine wpAnyH_ready (rs := [0]) (by kernel_rfl) (by simp) ?_
      refine AllReadyH.cons rfl (fun K hK => ?_) AllReadyH.nil
      (try simp only [Act.put, List.getElem_toArray, List.getElem_cons_zero, List.getElem_cons_succ, List.setIfInBounds_toArray, List.set_cons_zero, List.set_cons_succ])
      go_simp
      (try simp only [])
      refine hK.out _ _ ?_ (fun hHeld' => ?_)
      · (try dsimp only)
        exact hHeld
      clear hK K hHeld
      have hHeld := hHeld'
      clear hHeld' c0 c1 c2 c3
      (try simp only [Act.put, List.getElem_toArray, List.getElem_cons_zero, List.getElem_cons_succ, List.setIfInBounds_toArray, List.set_cons_zero, List.set_cons_succ])
      refine wpAnyH_ready (rs := [5]) (by kernel_rfl) (by simp) ?_
      refine AllReadyH.cons rfl (fun K hK => ?_) AllReadyH.nil
      (try simp only [Act.put, List.getElem_toArray, List.getElem_cons_zero, List.getElem_cons_succ, List.setIfInBounds_toArray, List.set_cons_zero, List.set_cons_succ])
      go_simp
      go_at_call 57
      refine (l02join_any vc x.cap vo x.ao sl x.l sa sb sc x.a x.b x.c _ (by have := HKH.out.2; (try dsimp only at this); omega) (by have := HX.out.1; omega) HKH.out.1.nodes (ok_nodes HX.out) (HRS.out.next BW.out) (HRX.out.next BW.out)).mono ?_
      rintro e w2 ⟨v, rfl, hg, ho⟩
      (try simp only [])
      have hb2 : Below wd.heap.size wd w2 := hg.below (Nat.le_refl _) (fun k hk => by simp [Value.ownBlock] at hk)
      have HX2 : Hid (ObAt w2 b (off + k * 4) x) := (HXX.out.next BW.out).next hb2
      obtain ⟨vo', n', vc', rfl⟩ := own_slice ho
      have hn := own_len ho
      have HM2 : Hid _ := HM.out.join (x := x) BW.out hg ho hn
      have hTr := (th_gro ((HM.out.next BW.out).js.box.2.1) hg hz Gro.none_ne)
      have HN : Hid (n' = (mgN (sl, sa, sb, sc) x).1.length) := hn
      clear hg ho hb2 hn
      refine hK.out _ _ ?_ (fun hHeld' => ?_)
      · (try dsimp only)
        exact HX2.out
      clear hK K hHeld hHeld'
      (try simp only [Act.put, List.getElem_toArray, List.getElem_cons_zero, List.getElem_cons_succ, List.setIfInBounds_toArray, List.set_cons_zero, List.set_cons_succ])
      obtain ⟨t0, T0⟩ := Option.isSome_iff_exists.1 (hTr 0 (by omega)).1
      have Z0 := (hTr 0 (by omega)).2
      obtain ⟨t1, T1⟩ := Option.isSome_iff_exists.1 (hTr 1 (by omega)).1
      have Z1 := (hTr 1 (by omega)).2
      obtain ⟨t2, T2⟩ := Option.isSome_iff_exists.1 (hTr 2 (by omega)).1
      have Z2 := (hTr 2 (by omega)).2
      obtain ⟨t3, T3⟩ := Option.isSome_iff_exists.1 (hTr 3 (by omega)).1
      have Z3 := (hTr 3 (by omega)).2
      clear hTr
      refine wpAnyH_ready (rs := [6]) (by kernel_rfl) (by simp) ?_
      refine AllReadyH.cons rfl (fun K hK => ?_) AllReadyH.nil
      (try simp only [Act.put, List.getElem_toArray, List.getElem_cons_zero, List.getElem_cons_succ, List.setIfInBounds_toArray, List.set_cons_zero, List.set_cons_succ])
      go_simp
      (try simp only [])
      have hbn : b ≠ w.heap.size + 1 + 1 := by have := hbw.out; omega
      refine hK.out _ _ ?_ (fun hHeld' => ?_)
      · (try dsimp only)
        exact ⟨cell_set (cell_set (cell_set (cell_set HX2.out.1 hbn) hbn) hbn) hbn, cell_set (cell_set (cell_set (cell_set HX2.out.2.1 hbn) hbn) hbn) hbn, cell_set (cell_set (cell_set (cell_set HX2.out.2.2.1 hbn) hbn) hbn) hbn, cell_set (cell_set (cell_set (cell_set HX2.out.2.2.2 hbn) hbn) hbn) hbn⟩
      clear hK K hHeld'
      (try simp only [Act.put, List.getElem_toArray, List.getElem_cons_zero, List.getElem_cons_succ, List.setIfInBounds_toArray, List.set_cons_zero, List.set_cons_succ])
      refine wpAnyH_done (by kernel_rfl) ?_ _
      clear HRX HRS HX HKH HX2 HXX BW T0 T1 T2 T3 Z0 Z1 Z2 Z3 hz
      go_wp2
      go_roundw
      case rel =>
        refine ⟨k + 1, vo', vc', by omega, by go_num, ?_⟩
        rw [HT.out]
        exact HM2.out
      case measure => simp [intOf]; omega
    · have hlt' : ¬ (k : Int) < (os.length : Int) := by omega
      have HM1 : Hid (MI w wr w.heap.size (w.heap.size + 1 + 1) vo vc (mgS os)) := by have := HM.out; rw [List.take_of_length_le (by omega)] at this; exact this
      clear HM
      obtain ⟨⟨c0, c1, c2, c3⟩, _, hz⟩ := HM1.out.js.box
      have hTr := HM1.out.th
      obtain ⟨t0, T0⟩ := Option.isSome_iff_exists.1 (hTr 0 (by omega)).1
      have Z0 := (hTr 0 (by omega)).2
      obtain ⟨t1, T1⟩ := Option.isSome_iff_exists.1 (hTr 1 (by omega)).1
      have Z1 := (hTr 1 (by omega)).2
      obtain ⟨t2, T2⟩ := Option.isSome_iff_exists.1 (hTr 2 (by omega)).1
      have Z2 := (hTr 2 (by omega)).2
      obtain ⟨t3, T3⟩ := Option.isSome_iff_exists.1 (hTr 3 (by omega)).1
      have Z3 := (hTr 3 (by omega)).2
      clear hTr
      go_wp2
      refine bodyPost_ret (v := .agg #[.slice vo (mgS os).1.length vc, .int .i64 (mgS os).2.1, .int .i64 (mgS os).2.2.1, .int .i64 (mgS os).2.2.2]) (by simp [results, Tryd.results36, go_sem, T0, T1, T2, T3, Z0, Z1, Z2, Z3]) rfl ⟨vo, vc, rfl, HM1.out.end⟩
end Go.Proofs.YtcmniplbiliobaaDoor
