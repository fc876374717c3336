/- l02Join: the join as the specification makes it. -/
import Derived.Test.YtcmniplbiliobaaDoorRows
import Derived.WalkKit
import Derived.WalkSpells
import Derived.WalkLawsBesides
import Derived.Deep.QuietTactic
import Derived.BigQuiet
import Derived.Deep.RegionHeld3
import Derived.Test.YtcmniplbiliobaaDoorPu
import Derived.Test.YtcmniplbiliobaaDoorLk
import Derived.LoopN
namespace Go.Proofs.YtcmniplbiliobaaDoor
open Go.RowKit
set_option linter.unusedSimpArgs false
set_option linter.unusedVariables false

/-- The box of what is made. -/
def OBx (W : World) (ob : Nat) (v : Value) (p q r : Int) : Prop := (W.cell? ⟨ob, 0, none⟩ = some v ∧ W.cell? ⟨ob, 1, none⟩ = some (.int .i64 p) ∧ W.cell? ⟨ob, 2, none⟩ = some (.int .i64 q) ∧ W.cell? ⟨ob, 3, none⟩ = some (.int .i64 r)) ∧ There W ob 4 ∧ ob < W.heap.size
theorem OBx.next {W W' : World} {ob : Nat} {v : Value} {p q r : Int} (h : OBx W ob v p q r) (hb : Below W.heap.size W W') : OBx W' ob v p q r :=
  ⟨⟨cell_next hb h.1.1 h.2.2, cell_next hb h.1.2.1 h.2.2, cell_next hb h.1.2.2.1 h.2.2, cell_next hb h.1.2.2.2 h.2.2⟩, h.2.1.next hb h.2.2, Nat.lt_of_lt_of_le h.2.2 hb.size⟩
theorem OBx.gro {W W' : World} {ob : Nat} {v u u' : Value} {p q r : Int} (h : OBx W ob v p q r) (hg : Gro W W' u u') (hne : u.ownBlock ≠ some ob) : OBx W' ob v p q r :=
  ⟨⟨hg.cell h.1.1 hne, hg.cell h.1.2.1 hne, hg.cell h.1.2.2.1 hne, hg.cell h.1.2.2.2 hne⟩, th_gro h.2.1 hg h.2.2 hne, Nat.lt_of_lt_of_le h.2.2 hg.size⟩
theorem OBx.set {W : World} {ob : Nat} {v u : Value} {p q r : Int} (h : OBx W ob v p q r) : OBx (W.setCell ⟨ob, 0, none⟩ u) ob u p q r :=
  ⟨⟨cell_same h.1.1, cell_oth h.1.2.1 (by omega), cell_oth h.1.2.2.1 (by omega), cell_oth h.1.2.2.2 (by omega)⟩, h.2.1.set, by simpa [World.setCell] using h.2.2⟩
/-- What the loops keep: the row that is made, in its box, all above an old world. -/
structure JS (W0 W : World) (ob : Nat) (vo : Option Addr) (n vc : Nat) (p q r : Int) (m : List Sib) : Prop where
  own : Own W0 W 74 (.slice vo n vc) n (flat m)
  len : n = m.length
  cap : n ≤ vc
  box : OBx W ob (.slice vo n vc) p q r
  ne : (Value.slice vo n vc).ownBlock ≠ some ob
  old : W0.heap.size ≤ ob
theorem JS.next {W0 W W' : World} {ob n vc : Nat} {vo : Option Addr} {p q r : Int} {m : List Sib} (h : JS W0 W ob vo n vc p q r m) (hb : Below W.heap.size W W') : JS W0 W' ob vo n vc p q r m := ⟨h.own.step hb, h.len, h.cap, h.box.next hb, h.ne, h.old⟩
theorem JS.put {W0 W W' : World} {ob n vc n' : Nat} {vo : Option Addr} {p q r : Int} {m m' : List Sib} {u v' : Value} (h : JS W0 W ob vo n vc p q r m) (hu : u = .slice vo n vc ∨ u = .slice none 0 0) (ho : W'.ownsRow 0 74 4 v' n' (flat m')) (hn : n' = m'.length) (hg : Gro W W' u v') : ∃ vo' vc', v' = .slice vo' n' vc' ∧ JS W0 (W'.setCell ⟨ob, 0, none⟩ v') ob vo' n' vc' p q r m' := by
  have hune : u.ownBlock ≠ some ob := by
    rcases hu with rfl | rfl
    · exact h.ne
    · exact Gro.none_ne
  have huold : ∀ k, u.ownBlock = some k → W0.heap.size ≤ k := by
    rcases hu with rfl | rfl
    · exact h.own.2.2
    · exact fun k hk => absurd hk Gro.none_ne
  have hvne : v'.ownBlock ≠ some ob := hg.ne h.box.2.2 hune
  have hO : Own W0 W' 74 v' n' (flat m') := by
    refine ⟨ho, h.own.2.1.trans (hg.below h.own.2.1.size huold), fun k hk => ?_⟩
    rcases hg.fresh k hk with h' | h'
    · exact huold k h'
    · exact Nat.le_trans h.own.2.1.size h'
  obtain ⟨vo', vc', rfl, hc⟩ := hO.shape
  refine ⟨vo', vc', rfl, ⟨⟨ownsRow_setCell_other hO.1 hvne _, hO.2.1.setCell (by simpa using h.old) _, hO.2.2⟩, hn, hc, (h.box.gro hg hune).set, hvne, h.old⟩⟩
theorem JS.row {W0 W : World} {ob n vc : Nat} {vo : Option Addr} {p q r : Int} {m : List Sib} (h : JS W0 W ob vo n vc p q r m) : SibRow W vo m := by
  have hh := h.own.1
  rw [h.len] at hh
  obtain ⟨o, c, e, hr, _⟩ := owned_row hh
  cases e
  exact hr
theorem stay_hit {x y z : Int} {l l2 : List Sib} {i : Nat} (h : i < l.length) (hd : hasDot l2 l[i] = true ∨ decide (l[i].n ≤ comp x y z l[i].p) = false) : stay x y z (l.take (i + 1)) l2 = stay x y z (l.take i) l2 ++ [l[i]] := by
  unfold stay
  rw [List.take_succ_eq_append_getElem h, List.filter_append, List.filter_cons_of_pos (by rcases hd with h | h <;> simp [h]), List.filter_nil]
theorem stay_miss {x y z : Int} {l l2 : List Sib} {i : Nat} (h : i < l.length) (hd : hasDot l2 l[i] = false) (he : decide (l[i].n ≤ comp x y z l[i].p) = true) : stay x y z (l.take (i + 1)) l2 = stay x y z (l.take i) l2 := by
  unfold stay
  rw [List.take_succ_eq_append_getElem h, List.filter_append, List.filter_cons_of_neg (by simp [hd, he]), List.filter_nil, List.append_nil]
theorem stay_len (x y z : Int) (l l2 : List Sib) (i : Nat) : (stay x y z (l.take i) l2).length ≤ i := Nat.le_trans (List.length_filter_le _ _) (by simp; omega)
theorem hasDot_hasD {l : List Sib} {s : Sib} : hasDot l s = true ↔ HasD l s.p s.n := hasDot_iff

/-- Both boxes whole, and the result's. -/
def JB4 (g : Nat) (W : World) (v u : Value) (a b c x y z : Int) : Prop := Cells4 W g v a b c ∧ Cells4 W (g + 1) u x y z ∧ There W (g + 1 + 1) 4 ∧ g + 1 + 1 < W.heap.size
theorem JB4.next {W W' : World} {g : Nat} {v u : Value} {a b c x y z : Int} (h : JB4 g W v u a b c x y z) (hb : Below W.heap.size W W') : JB4 g W' v u a b c x y z :=
  ⟨c4_next h.1 hb (Nat.lt_trans (by omega) h.2.2.2), c4_next h.2.1 hb (Nat.lt_trans (by omega) h.2.2.2), h.2.2.1.next hb h.2.2.2, Nat.lt_of_lt_of_le h.2.2.2 hb.size⟩
theorem JB4.new {w : World} {ao bo : Option Addr} {n cap m cp : Nat} {a b c x y z : Int} {t : TypeId} : JB4 w.heap.size (((w.alloc (.cells #[.slice ao n cap, .int .i64 a, .int .i64 b, .int .i64 c] t)).alloc (.cells #[.slice bo m cp, .int .i64 x, .int .i64 y, .int .i64 z] t)).alloc (.cells #[.slice none 0 0, .int .i64 0, .int .i64 0, .int .i64 0] t)) (.slice ao n cap) (.slice bo m cp) a b c x y z := by
  refine ⟨⟨by go_simp, by go_simp, by go_simp, by go_simp⟩, ⟨by go_simp, by go_simp, by go_simp, by go_simp⟩, fun j hj => ?_, by simp⟩
  have hj' : j = 0 ∨ j = 1 ∨ j = 2 ∨ j = 3 := by omega
  rcases hj' with rfl | rfl | rfl | rfl <;> exact ⟨by go_simp, by go_simp⟩

theorem row_of_below {w W : World} {ao : Option Addr} {l : List Sib} (h : Hid (SibRow w ao l)) (hb : Hid (Below w.heap.size w W)) : SibRow W ao l := h.out.next hb.out
theorem put_gen (n cap : Nat) (ao : Option Addr) (l : List Sib) (x : Sib) (w : World) (hn : n = l.length) (hm : (l.length : Int) ≤ 1048576) (hcap : n ≤ cap) (hr0 : SibRow w ao l) :
    Calls Tryd.prog 80 #[.slice ao n cap, .agg #[.int .i64 x.p, .int .i64 x.n, .int .i64 x.v, .bool x.d]] w fun e w' => ∃ v', e = .returned v' ∧ w'.ownsRow 0 74 4 v' (pt x l).length (flat (pt x l)) ∧ Gro w w' (.slice none 0 0) v' := by
  subst hn
  exact put_any cap ao l x w hm hcap hr0
set_option maxHeartbeats 8000000 in
theorem l02join_any (cap cp : Nat) (ao bo : Option Addr) (l l2 : List Sib) (a b c x y z : Int) (w : World) (hm : (l.length : Int) ≤ 100000) (hm2 : (l2.length : Int) ≤ 100000) (hn1 : ∀ i (h : i < l.length), 0 ≤ l[i].p ∧ l[i].p < 3) (hn2 : ∀ i (h : i < l2.length), 0 ≤ l2[i].p ∧ l2[i].p < 3) (hr0 : SibRow w ao l) (hs0 : SibRow w bo l2) :
    Calls Tryd.prog 57 #[.agg #[.slice ao l.length cap, .int .i64 a, .int .i64 b, .int .i64 c], .agg #[.slice bo l2.length cp, .int .i64 x, .int .i64 y, .int .i64 z]] w fun e w' => ∃ v, e = .returned (.agg #[v, .int .i64 (max a x), .int .i64 (max b y), .int .i64 (max c z)]) ∧ Gro w w' (.slice none 0 0) v ∧ w'.ownsRow 0 74 4 v (sj a b c x y z l l2).length (flat (sj a b c x y z l l2)) := by
  have RA : Hid (SibRow (((w.alloc (.cells #[.slice ao l.length cap, .int .i64 a, .int .i64 b, .int .i64 c] 32)).alloc (.cells #[.slice bo l2.length cp, .int .i64 x, .int .i64 y, .int .i64 z] 32)).alloc (.cells #[.slice none 0 0, .int .i64 0, .int .i64 0, .int .i64 0] 32)) ao l) := row_next (row_next (row_next hr0 (bel_alloc _ _)) (bel_alloc _ _)) (bel_alloc _ _)
  have RB : Hid (SibRow (((w.alloc (.cells #[.slice ao l.length cap, .int .i64 a, .int .i64 b, .int .i64 c] 32)).alloc (.cells #[.slice bo l2.length cp, .int .i64 x, .int .i64 y, .int .i64 z] 32)).alloc (.cells #[.slice none 0 0, .int .i64 0, .int .i64 0, .int .i64 0] 32)) bo l2) := row_next (row_next (row_next hs0 (bel_alloc _ _)) (bel_alloc _ _)) (bel_alloc _ _)
  have JB1 : Hid (JB4 w.heap.size (((w.alloc (.cells #[.slice ao l.length cap, .int .i64 a, .int .i64 b, .int .i64 c] 32)).alloc (.cells #[.slice bo l2.length cp, .int .i64 x, .int .i64 y, .int .i64 z] 32)).alloc (.cells #[.slice none 0 0, .int .i64 0, .int .i64 0, .int .i64 0] 32)) (.slice ao l.length cap) (.slice bo l2.length cp) a b c x y z) := JB4.new
  have GW : Hid (Gro w (((w.alloc (.cells #[.slice ao l.length cap, .int .i64 a, .int .i64 b, .int .i64 c] 32)).alloc (.cells #[.slice bo l2.length cp, .int .i64 x, .int .i64 y, .int .i64 z] 32)).alloc (.cells #[.slice none 0 0, .int .i64 0, .int .i64 0, .int .i64 0] 32)) (.slice none 0 0) (.slice none 0 0)) := (Gro.of_below (bel_alloc _ _)).trans ((Gro.of_below (bel_alloc _ _)).trans (Gro.of_below (bel_alloc _ _)))
  have HN1 : Hid (∀ i (h : i < l.length), 0 ≤ l[i].p ∧ l[i].p < 3) := hn1
  have HN2 : Hid (∀ i (h : i < l2.length), 0 ≤ l2[i].p ∧ l2[i].p < 3) := hn2
  have hzW : (((w.alloc (.cells #[.slice ao l.length cap, .int .i64 a, .int .i64 b, .int .i64 c] 32)).alloc (.cells #[.slice bo l2.length cp, .int .i64 x, .int .i64 y, .int .i64 z] 32)).alloc (.cells #[.slice none 0 0, .int .i64 0, .int .i64 0, .int .i64 0] 32)).heap.size = w.heap.size + 3 := by simp
  clear hr0 hs0 hn1 hn2
  obtain ⟨i0, hi, hz0, hz1, hz2⟩ := info_parts info_sib
  have HI : Hid (Tryd.prog.info? 74 = some i0 ∧ i0.zero = some (.agg #[.int .i64 0, .int .i64 0, .int .i64 0, .bool false]) ∧ i0.size = 4 ∧ i0.bytes = 32) := ⟨hi, hz0, hz1, hz2⟩
  clear hi hz0 hz1 hz2
  go_enter Tryd.func57, Tryd.ntmps57
  go_wp2_with fail
  refine (smax_any a b c x y z (max a x) (max b y) (max c z) _ (by omega) (by omega) (by omega)).mono ?_
  rintro e w2 ⟨rfl, hb⟩
  have O2 : Own (((w.alloc (.cells #[.slice ao l.length cap, .int .i64 a, .int .i64 b, .int .i64 c] 32)).alloc (.cells #[.slice bo l2.length cp, .int .i64 x, .int .i64 y, .int .i64 z] 32)).alloc (.cells #[.slice none 0 0, .int .i64 0, .int .i64 0, .int .i64 0] 32)) w2 74 (.slice (some ⟨w.heap.size + 1 + 1 + 1, 0, none⟩) 0 0) 0 [] := by
    have := (Own.lit (wr := (((w.alloc (.cells #[.slice ao l.length cap, .int .i64 a, .int .i64 b, .int .i64 c] 32)).alloc (.cells #[.slice bo l2.length cp, .int .i64 x, .int .i64 y, .int .i64 z] 32)).alloc (.cells #[.slice none 0 0, .int .i64 0, .int .i64 0, .int .i64 0] 32))) (e := 74) (Below.refl _ _)).step hb
    simpa using this
  have hz2 := hb.size
  simp at hz2
  have J2 : Hid (JS (((w.alloc (.cells #[.slice ao l.length cap, .int .i64 a, .int .i64 b, .int .i64 c] 32)).alloc (.cells #[.slice bo l2.length cp, .int .i64 x, .int .i64 y, .int .i64 z] 32)).alloc (.cells #[.slice none 0 0, .int .i64 0, .int .i64 0, .int .i64 0] 32)) (w2.alloc (.cells #[.slice (some ⟨w.heap.size + 1 + 1 + 1, 0, none⟩) 0 0, .int .i64 (max a x), .int .i64 (max b y), .int .i64 (max c z)] 32)) w2.heap.size (some ⟨w.heap.size + 1 + 1 + 1, 0, none⟩) 0 0 (max a x) (max b y) (max c z) []) := by
    refine ⟨O2.step (bel_alloc _ _), rfl, Nat.le_refl _, ⟨⟨by go_simp, by go_simp, by go_simp, by go_simp⟩, fun j hj => ?_, by simp⟩, fun e => by simp [Value.ownBlock] at e; omega, by simp; omega⟩
    have hj' : j = 0 ∨ j = 1 ∨ j = 2 ∨ j = 3 := by omega
    rcases hj' with rfl | rfl | rfl | rfl <;> exact ⟨by go_simp, by go_simp⟩
  clear hb O2 hz2
  have HZW : Hid (_ = w.heap.size + 3) := hzW
  clear hzW
  go_wp2
  generalize (w2.alloc (.cells #[.slice (some ⟨w.heap.size + 1 + 1 + 1, 0, none⟩) 0 0, .int .i64 (max a x), .int .i64 (max b y), .int .i64 (max c z)] 32)) = W1 at *
  generalize w2.heap.size = ob at *
  clear w2
  generalize (((w.alloc (.cells #[.slice ao l.length cap, .int .i64 a, .int .i64 b, .int .i64 c] 32)).alloc (.cells #[.slice bo l2.length cp, .int .i64 x, .int .i64 y, .int .i64 z] 32)).alloc (.cells #[.slice none 0 0, .int .i64 0, .int .i64 0, .int .i64 0] 32)) = W0 at *
  go_loopw [6] (fun s6 wr => ∃ (i : Nat) (vo : Option Addr) (n vc : Nat) (m : List Sib), i ≤ l.length ∧ s6 = .int .i64 i ∧ m = stay x y z (l.take i) l2 ∧ JS W0 wr ob vo n vc (max a x) (max b y) (max c z) m) (fun s6 _ => l.length - (intOf s6).toNat)
  case atStart => exact ⟨0, _, _, _, [], by omega, rfl, by simp [stay], J2.out⟩
  case round =>
    obtain ⟨i, vo, n, vc, m, hil, rfl, hM0, hJ0⟩ := hrel
    have hM : Hid (m = stay x y z (l.take i) l2) := hM0
    have hN : Hid (m.length ≤ i) := by show _ ≤ _; rw [hM0]; exact stay_len x y z l l2 i
    clear hM0
    have hJ : Hid (JS W0 wr ob vo n vc (max a x) (max b y) (max c z) m) := hJ0
    have hL : Hid (n = m.length) := hJ0.len
    have hb0 : Hid (Below W0.heap.size W0 wr) := hJ0.own.2.1
    obtain ⟨⟨ca0, ca1, ca2, ca3⟩, ⟨cb0, cb1, cb2, cb3⟩, _, hz⟩ := JB1.out.next hb0.out
    clear hJ0
    by_cases hkl : i < l.length
    · have hkl' : (i : Int) < (l.length : Int) := by omega
      have kk : (0 : Int) ≤ (i : Int) := by omega
      rcases row_of_below RA hb0 with h' | ⟨p, off, rfl, h2⟩
      · rw [h'] at hkl; simp at hkl
      obtain ⟨x0, x1, x2, x3⟩ := h2 i hkl
      obtain ⟨nd0, nd3⟩ := HN1.out i hkl
      clear h2
      have E0 : ∀ o, (wr.alloc o).cell? ⟨w.heap.size + 1, 0, none⟩ = _ := fun o => box_alloc cb0 (by omega)
      have E1 : ∀ o, (wr.alloc o).cell? ⟨w.heap.size + 1, 1, none⟩ = _ := fun o => box_alloc cb1 (by omega)
      have E2 : ∀ o, (wr.alloc o).cell? ⟨w.heap.size + 1, 2, none⟩ = _ := fun o => box_alloc cb2 (by omega)
      have E3 : ∀ o, (wr.alloc o).cell? ⟨w.heap.size + 1, 3, none⟩ = _ := fun o => box_alloc cb3 (by omega)
      clear cb0 cb1 cb2 cb3 ca1 ca2 ca3
      go_wp2_with fail
      refine (find_any cp bo l2 x y z l[i].p l[i].n _ (by omega) (row_next (row_of_below RB hb0) (bel_alloc _ _)).out).mono ?_
      rintro e w3 ⟨k, rfl, hK1, hK2, hb⟩
      have D0 := cell_next hb (b := wr.heap.size) (o := 0) (v := .int .i64 l[i].p) (by go_simp) (by simp)
      have D1 := cell_next hb (b := wr.heap.size) (o := 1) (v := .int .i64 l[i].n) (by go_simp) (by simp)
      have D2 := cell_next hb (b := wr.heap.size) (o := 2) (v := .int .i64 l[i].v) (by go_simp) (by simp)
      have D3 := cell_next hb (b := wr.heap.size) (o := 3) (v := .bool l[i].d) (by go_simp) (by simp)
      have hb3 : Hid (Below wr.heap.size wr w3) := (bel_alloc _ _).trans (hb.mono (by simp))
      have JX : Hid (JS W0 w3 ob vo n vc (max a x) (max b y) (max c z) m) := hJ.out.next hb3.out
      have hbW : Hid (Below W0.heap.size W0 w3) := bel_next hb0 hb3.out
      clear hb E0 E1 E2 E3 x0 x1 x2 x3 ca0 hz hb3
      by_cases hy : HasD l2 l[i].p l[i].n
      · have k0 := hK1.out hy
        have HM' : Hid (m ++ [l[i]] = stay x y z (l.take (i + 1)) l2) := by show _ = _; rw [hM.out]; exact (stay_hit hkl (.inl (hasDot_hasD.2 hy))).symm
        clear hK1 hK2 hy
        have hB9 := JX.out.box
        obtain ⟨⟨o0, o1, o2, o3⟩, hT9, hz9⟩ := hB9
        have hf9 := (hT9 0 (by omega)).2
        clear o1 o2 o3 hT9
        go_wp2_with (first | (at_builtin; refine wpList_append3 rfl _ _ 29 rfl 74 i0 (.agg #[.int .i64 0, .int .i64 0, .int .i64 0, .bool false]) 32 Tryd.underlying29 HI.out.1 HI.out.2.1 HI.out.2.2.1 HI.out.2.2.2 rfl (.slice vo n vc) n _ rfl (JX.out.next (bel_alloc _ _)).own.1 _ _ _ [l[i]] rfl src_one ?c3 ?c4 ?_) | go_in)
        case c3 => have := hL.out; have := hN.out; unfold maxLen; omega
        case c4 => have := hL.out; have := hN.out; omega
        intro v' w6 ho6 hg6
        obtain ⟨vo', vc', rfl, hJ6⟩ := (JX.out.next (bel_alloc _ _)).put (m' := m ++ [l[i]]) (.inl rfl) (own_cast ho6 rfl (by rw [flat_append])) (by have := hL.out; simp; omega) hg6
        have o6 := hg6.cell (box_alloc o0 hz9) JX.out.ne
        have f6 := (th_gro ((JX.out.next (bel_alloc _ _)).box.2.1) hg6 ((JX.out.next (bel_alloc _ _)).box.2.2) JX.out.ne 0 (by omega)).2
        have J6 : Hid _ := hJ6
        clear ho6 hg6 hJ6 o0 hf9
        
        go_wp2
        go_roundw
        case rel => first | exact ⟨i + 1, _, _, _, m ++ [l[i]], by omega, by go_num, HM'.out, J6.out⟩ | ((repeat apply Exists.intro); exact ⟨⟨i + 1, _, _, _, m ++ [l[i]], by omega, by go_num, HM'.out, J6.out⟩, rfl⟩)
        case measure => simp [intOf]; omega
      · obtain rfl := hK2.out hy
        obtain ⟨_, ⟨cb0, cb1, cb2, cb3⟩, _, hz⟩ := JB1.out.next hbW.out
        clear cb0
        go_wp2_with fail
        refine (l01has_any x y z l[i].p l[i].n _ nd0 nd3).mono ?_
        rintro e w4 ⟨rfl, hb⟩
        replace D0 := cell_next hb D0 (cell_lt (x := ⟨wr.heap.size, 0, none⟩) D0)
        replace D1 := cell_next hb D1 (cell_lt (x := ⟨wr.heap.size, 1, none⟩) D1)
        replace D2 := cell_next hb D2 (cell_lt (x := ⟨wr.heap.size, 2, none⟩) D2)
        replace D3 := cell_next hb D3 (cell_lt (x := ⟨wr.heap.size, 3, none⟩) D3)
        replace JX : Hid (JS W0 w4 ob vo n vc (max a x) (max b y) (max c z) m) := JX.out.next hb
        clear hb cb1 cb2 cb3 hz hbW
        cases hd : decide (l[i].n ≤ comp x y z l[i].p)
        · have HM' : Hid (m ++ [l[i]] = stay x y z (l.take (i + 1)) l2) := by show _ = _; rw [hM.out]; exact (stay_hit hkl (.inr hd)).symm
          clear hK1 hK2
          have hB9 := JX.out.box
          obtain ⟨⟨o0, o1, o2, o3⟩, hT9, hz9⟩ := hB9
          have hf9 := (hT9 0 (by omega)).2
          clear o1 o2 o3 hT9
          go_wp2_with (first | (at_builtin; refine wpList_append3 rfl _ _ 29 rfl 74 i0 (.agg #[.int .i64 0, .int .i64 0, .int .i64 0, .bool false]) 32 Tryd.underlying29 HI.out.1 HI.out.2.1 HI.out.2.2.1 HI.out.2.2.2 rfl (.slice vo n vc) n _ rfl (JX.out.next (bel_alloc _ _)).own.1 _ _ _ [l[i]] rfl src_one ?c3 ?c4 ?_) | go_in)
          case c3 => have := hL.out; have := hN.out; unfold maxLen; omega
          case c4 => have := hL.out; have := hN.out; omega
          intro v' w6 ho6 hg6
          obtain ⟨vo', vc', rfl, hJ6⟩ := (JX.out.next (bel_alloc _ _)).put (m' := m ++ [l[i]]) (.inl rfl) (own_cast ho6 rfl (by rw [flat_append])) (by have := hL.out; simp; omega) hg6
          have o6 := hg6.cell (box_alloc o0 hz9) JX.out.ne
          have f6 := (th_gro ((JX.out.next (bel_alloc _ _)).box.2.1) hg6 ((JX.out.next (bel_alloc _ _)).box.2.2) JX.out.ne 0 (by omega)).2
          have J6 : Hid _ := hJ6
          clear ho6 hg6 hJ6 o0 hf9
          
          go_wp2
          go_roundw
          case rel => first | exact ⟨i + 1, _, _, _, m ++ [l[i]], by omega, by go_num, HM'.out, J6.out⟩ | ((repeat apply Exists.intro); exact ⟨⟨i + 1, _, _, _, m ++ [l[i]], by omega, by go_num, HM'.out, J6.out⟩, rfl⟩)
          case measure => simp [intOf]; omega
        · have HM' : Hid (m = stay x y z (l.take (i + 1)) l2) := by show _ = _; rw [hM.out]; exact (stay_miss hkl (by rw [Bool.eq_false_iff]; exact fun h => hy (hasDot_hasD.1 h)) hd).symm
          clear hK1 hK2 hy D0 D1 D2 D3
          go_wp2
          go_roundw
          case rel => first | exact ⟨i + 1, _, _, _, m, by omega, by go_num, HM'.out, JX.out⟩ | ((repeat apply Exists.intro); exact ⟨⟨i + 1, _, _, _, m, by omega, by go_num, HM'.out, JX.out⟩, rfl⟩)
          case measure => simp [intOf]; omega
    · have hkl' : ¬ (i : Int) < (l.length : Int) := by omega
      have hM1 : Hid (m = stay x y z l l2) := by have := hM.out; rw [List.take_of_length_le (by omega)] at this; exact this
      have hS0 : Hid (m.length ≤ l.length) := by have := hN.out; show _ ≤ _; omega
      clear ca1 ca2 ca3 cb0 cb1 cb2 cb3 J2 hM hN hb0 hL
      go_wp2
      go_loopw [8] (fun s8 wr => ∃ (i : Nat) (vo : Option Addr) (n vc : Nat) (m : List Sib), i ≤ l2.length ∧ s8 = .int .i64 i ∧ m = pts (stay x y z l l2) (fil a b c (l2.take i)) ∧ JS W0 wr ob vo n vc (max a x) (max b y) (max c z) m) (fun s8 _ => l2.length - (intOf s8).toNat)
      case atStart => exact ⟨0, _, _, _, m, by omega, rfl, by rw [hM1.out]; simp [fil, pts], hJ.out⟩
      case round =>
        clear hJ ca0 hz
        have hS1 : Hid ((stay x y z l l2).length ≤ l.length) := by have h1 := hM1.out; have h2 := hS0.out; rw [h1] at h2; exact h2
        clear hM1 hS0
        obtain ⟨i, vo, n, vc, m, hil2, rfl, hM0, hJ0⟩ := hrel
        have hM : Hid (m = pts (stay x y z l l2) (fil a b c (l2.take i))) := hM0
        have hN : Hid (m.length ≤ l.length + i) := by
          show _ ≤ _
          rw [hM0, pts_len]
          have h1 := fil_le a b c l2 i
          have h2 := hS1.out
          omega
        clear hM0
        have hJ : Hid (JS W0 wr ob vo n vc (max a x) (max b y) (max c z) m) := hJ0
        have hL : Hid (n = m.length) := hJ0.len
        have hb0 : Hid (Below W0.heap.size W0 wr) := hJ0.own.2.1
        obtain ⟨⟨ca0, ca1, ca2, ca3⟩, ⟨cb0, cb1, cb2, cb3⟩, _, hz⟩ := JB1.out.next hb0.out
        clear hJ0
        by_cases hkl2 : i < l2.length
        · have hkl2' : (i : Int) < (l2.length : Int) := by omega
          have kk : (0 : Int) ≤ (i : Int) := by omega
          rcases row_of_below RB hb0 with h' | ⟨p, off, rfl, h2⟩
          · rw [h'] at hkl2; simp at hkl2
          obtain ⟨x0, x1, x2, x3⟩ := h2 i hkl2
          obtain ⟨nd0, nd3⟩ := HN2.out i hkl2
          clear h2
          have E0 : ∀ o, (wr.alloc o).cell? ⟨w.heap.size, 0, none⟩ = _ := fun o => box_alloc ca0 (by omega)
          have E1 : ∀ o, (wr.alloc o).cell? ⟨w.heap.size, 1, none⟩ = _ := fun o => box_alloc ca1 (by omega)
          have E2 : ∀ o, (wr.alloc o).cell? ⟨w.heap.size, 2, none⟩ = _ := fun o => box_alloc ca2 (by omega)
          have E3 : ∀ o, (wr.alloc o).cell? ⟨w.heap.size, 3, none⟩ = _ := fun o => box_alloc ca3 (by omega)
          clear cb1 cb2 cb3 ca0 ca1 ca2 ca3
          go_wp2_with fail
          refine (l01has_any a b c l2[i].p l2[i].n _ nd0 nd3).mono ?_
          rintro e w3 ⟨rfl, hb⟩
          have D0 := cell_next hb (b := wr.heap.size) (o := 0) (v := .int .i64 l2[i].p) (by go_simp) (by simp)
          have D1 := cell_next hb (b := wr.heap.size) (o := 1) (v := .int .i64 l2[i].n) (by go_simp) (by simp)
          have D2 := cell_next hb (b := wr.heap.size) (o := 2) (v := .int .i64 l2[i].v) (by go_simp) (by simp)
          have D3 := cell_next hb (b := wr.heap.size) (o := 3) (v := .bool l2[i].d) (by go_simp) (by simp)
          have JX : Hid (JS W0 w3 ob vo n vc (max a x) (max b y) (max c z) m) := hJ.out.next ((bel_alloc _ _).trans (hb.mono (by simp)))
          clear hb E0 E1 E2 E3 x0 x1 x2 x3 cb0 hz hJ
          cases hd : decide (l2[i].n ≤ comp a b c l2[i].p)
          · have HM' : Hid (pt l2[i] m = pts (stay x y z l l2) (fil a b c (l2.take (i + 1)))) := by show _ = _; rw [fil_hit hkl2 hd, pts_append, hM.out]
            have HL' : Hid ((pt l2[i] m).length = (pt l2[i] m).length) := rfl
            have hB9 := JX.out.box
            obtain ⟨⟨o0, o1, o2, o3⟩, hT9, hz9⟩ := hB9
            clear o1 o2 o3 hT9
            go_wp2_with fail
            refine (put_gen n vc vo m l2[i] _ hL.out (by have := hN.out; omega) JX.out.cap JX.out.row).mono ?_
            rintro e w6 ⟨v', rfl, ho6, hg6⟩
            obtain ⟨vo', vc', rfl, hJ6⟩ := JX.out.put (m' := pt l2[i] m) (.inr rfl) ho6 rfl hg6
            have o6 := hg6.cell o0 Gro.none_ne
            have f6 := (th_gro JX.out.box.2.1 hg6 JX.out.box.2.2 Gro.none_ne 0 (by omega)).2
            have J6 : Hid _ := hJ6
            clear ho6 hg6 hJ6 o0 hd D0 D1 D2 D3
            go_wp2
            go_roundw
            case rel => first | exact ⟨i + 1, _, _, _, pt l2[i] m, by omega, by go_num, HM'.out, J6.out⟩ | ((repeat apply Exists.intro); exact ⟨⟨i + 1, _, _, _, pt l2[i] m, by omega, by go_num, HM'.out, J6.out⟩, rfl⟩)
            case measure => simp [intOf]; omega
          · have HM' : Hid (m = pts (stay x y z l l2) (fil a b c (l2.take (i + 1)))) := by show _ = _; rw [fil_miss hkl2 hd]; exact hM.out
            clear hd D0 D1 D2 D3
            go_wp2
            go_roundw
            case rel => first | exact ⟨i + 1, _, _, _, m, by omega, by go_num, HM'.out, JX.out⟩ | ((repeat apply Exists.intro); exact ⟨⟨i + 1, _, _, _, m, by omega, by go_num, HM'.out, JX.out⟩, rfl⟩)
            case measure => simp [intOf]; omega
        · have hkl2' : ¬ (i : Int) < (l2.length : Int) := by omega
          have hM1 : Hid (m = sj a b c x y z l l2) := by have := hM.out; rw [List.take_of_length_le (by omega)] at this; exact this
          obtain ⟨⟨o0, o1, o2, o3⟩, hT9, hz9⟩ := hJ.out.box
          obtain ⟨_, _, hTr, _⟩ := JB1.out.next hb0.out
          obtain ⟨t0, T0⟩ := Option.isSome_iff_exists.1 (hTr 0 (by omega)).1
          obtain ⟨t1, T1⟩ := Option.isSome_iff_exists.1 (hTr 1 (by omega)).1
          obtain ⟨t2, T2⟩ := Option.isSome_iff_exists.1 (hTr 2 (by omega)).1
          obtain ⟨t3, T3⟩ := Option.isSome_iff_exists.1 (hTr 3 (by omega)).1
          have Z0 := (hTr 0 (by omega)).2
          have Z1 := (hTr 1 (by omega)).2
          have Z2 := (hTr 2 (by omega)).2
          have Z3 := (hTr 3 (by omega)).2
          have O5 : Hid (wr.ownsRow 0 74 4 (.slice vo n vc) n (flat m)) := hJ.out.own.1
          have G5 : Hid (Gro W0 wr (.slice none 0 0) (.slice vo n vc)) := hJ.out.own.gro
          clear hTr hT9 hz9 ca1 ca2 ca3 cb1 cb2 cb3 ca0
          go_wp2
          refine bodyPost_ret (v := .agg #[.slice vo n vc, .int .i64 (max a x), .int .i64 (max b y), .int .i64 (max c z)]) (by simp [results, Tryd.results57, go_sem, T0, T1, T2, T3, Z0, Z1, Z2, Z3]) rfl ⟨_, rfl, ?_, ?_⟩
          · exact Gro.set4 (GW.out.trans G5.out) (by omega)
          · have hne : (Value.slice vo n vc).ownBlock ≠ some (w.heap.size + 1 + 1) := nb G5.out JB1.out.2.2.2
            exact own_cast (ownsRow_setCell_other (ownsRow_setCell_other (ownsRow_setCell_other (ownsRow_setCell_other O5.out hne _) hne _) hne _) hne _) (by rw [← hM1.out]; exact hL.out) (by rw [hM1.out])
end Go.Proofs.YtcmniplbiliobaaDoor
