/- l02Write: a write as the specification makes it. -/
import Derived.Test.YtcmniplbiliobaaDoorRows
import Derived.Test.YtcmniplbiliobaaDoorLj
import Derived.WalkKit
import Derived.WalkSpells
import Derived.WalkLawsBesides
import Derived.Deep.QuietTactic
import Derived.BigQuiet
import Derived.Deep.RegionHeld3
import Derived.LoopN
import Derived.Deep.Cut
import Derived.Shelf.RegionOpenPlain
namespace Go.Proofs.YtcmniplbiliobaaDoor
open Go.RowKit
set_option linter.unusedSimpArgs false
set_option linter.unusedVariables false

theorem bel_next' {w W W' : World} (h : Hid (Below w.heap.size w W)) (hb : Below W.heap.size W W') : Hid (Below w.heap.size w W') := h.out.trans (hb.mono h.out.size)
theorem there_new {W : World} {t : TypeId} : There (W.alloc (.cells #[.slice none 0 0, .int .i64 0, .int .i64 0, .int .i64 0] t)) W.heap.size 4 := fun j hj => by
  have hj' : j = 0 ∨ j = 1 ∨ j = 2 ∨ j = 3 := by omega
  rcases hj' with rfl | rfl | rfl | rfl <;> exact ⟨by go_simp, by go_simp⟩
theorem set4_cells {W : World} {g : Nat} {v : Value} {p q r : Int} (h : There W g 4) : Cells4 ((((W.setCell ⟨g, 0, none⟩ v).setCell ⟨g, 1, none⟩ (.int .i64 p)).setCell ⟨g, 2, none⟩ (.int .i64 q)).setCell ⟨g, 3, none⟩ (.int .i64 r)) g v p q r := by
  obtain ⟨v0, y0⟩ := Option.isSome_iff_exists.1 (h 0 (by omega)).1
  obtain ⟨v1, y1⟩ := Option.isSome_iff_exists.1 (h 1 (by omega)).1
  obtain ⟨v2, y2⟩ := Option.isSome_iff_exists.1 (h 2 (by omega)).1
  obtain ⟨v3, y3⟩ := Option.isSome_iff_exists.1 (h 3 (by omega)).1
  exact ⟨cell_oth (cell_oth (cell_oth (cell_same y0) (by omega)) (by omega)) (by omega), cell_oth (cell_oth (cell_same (cell_oth y1 (by omega))) (by omega)) (by omega), cell_oth (cell_same (cell_oth (cell_oth y2 (by omega)) (by omega))) (by omega), cell_same (cell_oth (cell_oth (cell_oth y3 (by omega)) (by omega)) (by omega))⟩
theorem below_set4 {w W : World} {g : Nat} {v0 v1 v2 v3 : Value} (h : Below w.heap.size w W) (hg : w.heap.size ≤ g) : Below w.heap.size w ((((W.setCell ⟨g, 0, none⟩ v0).setCell ⟨g, 1, none⟩ v1).setCell ⟨g, 2, none⟩ v2).setCell ⟨g, 3, none⟩ v3) :=
  (((h.setCell (by simpa using hg) _).setCell (by simpa using hg) _).setCell (by simpa using hg) _).setCell (by simpa using hg) _
theorem own_set4 {W : World} {e : TypeId} {g n : Nat} {v v0 v1 v2 v3 : Value} {xs : List Value} (h : W.ownsRow 0 e 4 v n xs) (hne : v.ownBlock ≠ some g) : ((((W.setCell ⟨g, 0, none⟩ v0).setCell ⟨g, 1, none⟩ v1).setCell ⟨g, 2, none⟩ v2).setCell ⟨g, 3, none⟩ v3).ownsRow 0 e 4 v n xs :=
  ownsRow_setCell_other (ownsRow_setCell_other (ownsRow_setCell_other (ownsRow_setCell_other h hne _) hne _) hne _) hne _

/-- The boxes of a write: the object's, the context's, the sibling's, the result's. -/
def WB (g : Nat) (W : World) (v : Value) (a b c x y z : Int) (s : Sib) : Prop := Cells4 W g v a b c ∧ Cells3 W (g + 1) x y z ∧ SibAt W (g + 1 + 1) 0 s ∧ There W (g + 1 + 1 + 1) 4 ∧ g + 1 + 1 + 1 < W.heap.size
theorem WB.next {W W' : World} {g : Nat} {v : Value} {a b c x y z : Int} {s : Sib} (h : WB g W v a b c x y z s) (hb : Below W.heap.size W W') : WB g W' v a b c x y z s :=
  ⟨c4_next h.1 hb (Nat.lt_trans (by omega) h.2.2.2.2), c3_next h.2.1 hb (Nat.lt_trans (by omega) h.2.2.2.2), ⟨cell_next hb h.2.2.1.1 (Nat.lt_trans (by omega) h.2.2.2.2), cell_next hb h.2.2.1.2.1 (Nat.lt_trans (by omega) h.2.2.2.2), cell_next hb h.2.2.1.2.2.1 (Nat.lt_trans (by omega) h.2.2.2.2), cell_next hb h.2.2.1.2.2.2 (Nat.lt_trans (by omega) h.2.2.2.2)⟩, h.2.2.2.1.next hb h.2.2.2.2, Nat.lt_of_lt_of_le h.2.2.2.2 hb.size⟩
theorem WB.new {w : World} {ao : Option Addr} {n cap : Nat} {a b c x y z : Int} {s : Sib} {t t1 t2 : TypeId} : WB w.heap.size ((((w.alloc (.cells #[.slice ao n cap, .int .i64 a, .int .i64 b, .int .i64 c] t)).alloc (.cells #[.int .i64 x, .int .i64 y, .int .i64 z] t1)).alloc (.cells #[.int .i64 s.p, .int .i64 s.n, .int .i64 s.v, .bool s.d] t2)).alloc (.cells #[.slice none 0 0, .int .i64 0, .int .i64 0, .int .i64 0] t)) (.slice ao n cap) a b c x y z s := by
  refine ⟨⟨by go_simp, by go_simp, by go_simp, by go_simp⟩, ⟨by go_simp, by go_simp, by go_simp⟩, ⟨by go_simp, by go_simp, by go_simp, by go_simp⟩, fun j hj => ?_, by simp⟩
  have hj' : j = 0 ∨ j = 1 ∨ j = 2 ∨ j = 3 := by omega
  rcases hj' with rfl | rfl | rfl | rfl <;> exact ⟨by go_simp, by go_simp⟩
theorem js_new {W0 W : World} {gz g0 : Nat} {p q r : Int} (hO : Own W0 W 74 (.slice (some ⟨g0, 0, none⟩) 0 0) 0 []) (hT : There W gz 4) (hl : gz < W.heap.size) (hge : W0.heap.size ≤ gz) (hne : g0 ≠ gz) : JS W0 ((((W.setCell ⟨gz, 0, none⟩ (.slice (some ⟨g0, 0, none⟩) 0 0)).setCell ⟨gz, 1, none⟩ (.int .i64 p)).setCell ⟨gz, 2, none⟩ (.int .i64 q)).setCell ⟨gz, 3, none⟩ (.int .i64 r)) gz (some ⟨g0, 0, none⟩) 0 0 p q r [] := by
  have hn : (Value.slice (some ⟨g0, 0, none⟩) 0 0).ownBlock ≠ some gz := fun e => hne (by simpa [Value.ownBlock] using e)
  exact ⟨⟨own_set4 hO.1 hn, below_set4 hO.2.1 hge, hO.2.2⟩, rfl, Nat.le_refl _, ⟨set4_cells hT, hT.set.set.set.set, by simpa [World.setCell] using hl⟩, hn, hge⟩
section
variable {P : Program}
theorem step_append3 {ops : Array Oper} {w : World} {o : Oper} {a : Act} {K : Act → World → Prop} {Q : Exit → Act → World → Prop} {E : Prop} (hgd : o.guard = none) (s x : Operand) (t : TypeId)
    (ho : o.op = .call { callee := .builtin .append, args := #[s, x], argTypes := #[t, t] })
    (e : TypeId) (i : TypeInfo) (z : Value) (bytes : Nat) (ht : P.underlying t = some (.slice e)) (hi : P.info? e = some i) (hz : i.zero = some z)
    (hsize : i.size = 4) (hby : i.bytes = bytes) (hzs : z.cells.size = 4)
    (v : Value) (n : Nat) (xs : List Value) (hs : a.eval s = v) (hown : w.ownsRow 0 e 4 v n xs)
    (ao : Option Addr) (m c : Nat) (l : List Sib) (hx : a.eval x = .slice ao m c) (hsrc : SrcRow w ao m l)
    (h63 : n + m ≤ maxLen) (hbytes : (n + m) * bytes ≤ 140737488355328)
    (h : ∀ v' w', w'.ownsRow 0 e 4 v' (n + m) (xs ++ flat l) → Gro w w' v v' → K (a.put o.dst v') w') : if Region.wanted o (yielded ops a.tmps) = true then Oper.wp P o a w K Q else E := by
  have hw : Region.wanted o (yielded ops a.tmps) = true := by simp [Region.wanted, hgd]
  rw [if_pos hw]
  exact wp_append3 s x t ho e i z bytes ht hi hz hsize hby hzs v n xs hs hown ao m c l hx hsrc h63 hbytes h
end

theorem wb_s8 {W : World} {g : Nat} {v : Value} {a b c x y z : Int} {s : Sib} (h : WB g W v a b c x y z s) : (W.cell? ⟨g, 1, none⟩ = some (.int .i64 a) ∧ W.cell? ⟨g, 2, none⟩ = some (.int .i64 b) ∧ W.cell? ⟨g, 3, none⟩ = some (.int .i64 c)) ∧ (W.cell? ⟨g + 1, 0, none⟩ = some (.int .i64 x) ∧ W.cell? ⟨g + 1, 1, none⟩ = some (.int .i64 y) ∧ W.cell? ⟨g + 1, 2, none⟩ = some (.int .i64 z)) ∧ (W.cell? ⟨g + 1 + 1, 0, none⟩ = some (.int .i64 s.p) ∧ W.cell? ⟨g + 1 + 1, 1, none⟩ = some (.int .i64 s.n)) :=
  ⟨h.1.2, h.2.1, h.2.2.1.1, h.2.2.1.2.1⟩

set_option maxRecDepth 100000 in
set_option maxHeartbeats 16000000 in
theorem l02write_any (cap : Nat) (ao : Option Addr) (l : List Sib) (a b c x y z P Q R : Int) (s : Sib) (w : World) (hm : (l.length : Int) ≤ 100000) (hn1 : ∀ i (h : i < l.length), 0 ≤ l[i].p ∧ l[i].p < 3) (hr0 : SibRow w ao l)
    (CA : Hid (∀ W, Calls Tryd.prog 81 #[.agg #[.int .i64 (max a x), .int .i64 (max b y), .int .i64 (max c z)], .agg #[.int .i64 s.p, .int .i64 s.n]] W fun e w' => e = .returned (.agg #[.int .i64 P, .int .i64 Q, .int .i64 R]) ∧ Below W.heap.size W w')) :
    Calls Tryd.prog 58 #[.agg #[.slice ao l.length cap, .int .i64 a, .int .i64 b, .int .i64 c], .agg #[.int .i64 x, .int .i64 y, .int .i64 z], .agg #[.int .i64 s.p, .int .i64 s.n, .int .i64 s.v, .bool s.d]] w fun e w' => ∃ v, e = .returned (.agg #[v, .int .i64 P, .int .i64 Q, .int .i64 R]) ∧ Gro w w' (.slice none 0 0) v ∧ w'.ownsRow 0 74 4 v (pt s (fil x y z l)).length (flat (pt s (fil x y z l))) := by
  have CM : Hid (∀ W, Calls Tryd.prog 78 #[.agg #[.int .i64 a, .int .i64 b, .int .i64 c], .agg #[.int .i64 x, .int .i64 y, .int .i64 z]] W fun e w' => e = .returned (.agg #[.int .i64 (max a x), .int .i64 (max b y), .int .i64 (max c z)]) ∧ Below W.heap.size W w') := fun W => smax_any a b c x y z (max a x) (max b y) (max c z) W (by omega) (by omega) (by omega)
  generalize max a x = mA at *
  generalize max b y = mB at *
  generalize max c z = mC at *
  have RA : Hid (SibRow ((((w.alloc (.cells #[.slice ao l.length cap, .int .i64 a, .int .i64 b, .int .i64 c] 32)).alloc (.cells #[.int .i64 x, .int .i64 y, .int .i64 z] 30)).alloc (.cells #[.int .i64 s.p, .int .i64 s.n, .int .i64 s.v, .bool s.d] 74)).alloc (.cells #[.slice none 0 0, .int .i64 0, .int .i64 0, .int .i64 0] 32)) ao l) := row_next (row_next (row_next (row_next hr0 (bel_alloc _ _)) (bel_alloc _ _)) (bel_alloc _ _)) (bel_alloc _ _)
  have JB1 : Hid (WB w.heap.size ((((w.alloc (.cells #[.slice ao l.length cap, .int .i64 a, .int .i64 b, .int .i64 c] 32)).alloc (.cells #[.int .i64 x, .int .i64 y, .int .i64 z] 30)).alloc (.cells #[.int .i64 s.p, .int .i64 s.n, .int .i64 s.v, .bool s.d] 74)).alloc (.cells #[.slice none 0 0, .int .i64 0, .int .i64 0, .int .i64 0] 32)) (.slice ao l.length cap) a b c x y z s) := WB.new
  have GW : Hid (Gro w ((((w.alloc (.cells #[.slice ao l.length cap, .int .i64 a, .int .i64 b, .int .i64 c] 32)).alloc (.cells #[.int .i64 x, .int .i64 y, .int .i64 z] 30)).alloc (.cells #[.int .i64 s.p, .int .i64 s.n, .int .i64 s.v, .bool s.d] 74)).alloc (.cells #[.slice none 0 0, .int .i64 0, .int .i64 0, .int .i64 0] 32)) (.slice none 0 0) (.slice none 0 0)) := (Gro.of_below (bel_alloc _ _)).trans ((Gro.of_below (bel_alloc _ _)).trans ((Gro.of_below (bel_alloc _ _)).trans (Gro.of_below (bel_alloc _ _))))
  have HN1 : Hid (∀ i (h : i < l.length), 0 ≤ l[i].p ∧ l[i].p < 3) := hn1
  clear hr0 hn1
  obtain ⟨i0, hi, hz0, hz1, hz2⟩ := info_parts info_sib
  have HI : Hid (Tryd.prog.info? 74 = some i0 ∧ i0.zero = some (.agg #[.int .i64 0, .int .i64 0, .int .i64 0, .bool false]) ∧ i0.size = 4 ∧ i0.bytes = 32) := ⟨hi, hz0, hz1, hz2⟩
  clear hi hz0 hz1 hz2
  have mixed : Tryd.prog.follows Departure.mixedOrders = true := by kernel_rfl
  go_enter Tryd.func58, Tryd.ntmps58
  go_upto_region 1 with fail
  generalize ((((w.alloc (.cells #[.slice ao l.length cap, .int .i64 a, .int .i64 b, .int .i64 c] 32)).alloc (.cells #[.int .i64 x, .int .i64 y, .int .i64 z] 30)).alloc (.cells #[.int .i64 s.p, .int .i64 s.n, .int .i64 s.v, .bool s.d] 74)).alloc (.cells #[.slice none 0 0, .int .i64 0, .int .i64 0, .int .i64 0] 32)) = W0 at *
  go_cut [7] from 9 (fun s7 wc => ∃ (ob : Nat) (vo : Option Addr), s7 = .pointer (some ⟨ob, 0, none⟩) ∧ JS W0 wc ob vo 0 0 P Q R [])
  case first =>
    refine wp_region_held_drew (S := (fun w' => ((w'.cell? ⟨w.heap.size, 1, none⟩ = some (.int .i64 a) ∧ w'.cell? ⟨w.heap.size, 2, none⟩ = some (.int .i64 b) ∧ w'.cell? ⟨w.heap.size, 3, none⟩ = some (.int .i64 c)) ∧ (w'.cell? ⟨w.heap.size + 1, 0, none⟩ = some (.int .i64 x) ∧ w'.cell? ⟨w.heap.size + 1, 1, none⟩ = some (.int .i64 y) ∧ w'.cell? ⟨w.heap.size + 1, 2, none⟩ = some (.int .i64 z)) ∧ (w'.cell? ⟨w.heap.size + 1 + 1, 0, none⟩ = some (.int .i64 s.p) ∧ w'.cell? ⟨w.heap.size + 1 + 1, 1, none⟩ = some (.int .i64 s.n))) ∧ Below W0.heap.size W0 w')) (by kernel_rfl) ?_ (fun hHeld => ?_)
    · (try dsimp only)
      exact ⟨wb_s8 (JB1.out.next (bel_drew _)), bel_drew _⟩
    refine wpAnyH_take (i := 1) (v := ?_) rfl (by kernel_rfl) (by kernel_rfl) (by kernel_rfl) (fun _ _ _ h => h) (Or.inl ⟨by rfl, ?_⟩) (by assumption) ?_
    rotate_left
    · intro w' hSw
      (try dsimp only at hSw)
      go_simp
      all_goals (try with_reducible rfl)
    (try simp only [Act.put, List.getElem_toArray, List.getElem_cons_zero, List.getElem_cons_succ, List.setIfInBounds_toArray, List.set_cons_zero, List.set_cons_succ])
    refine wpAnyH_take (i := 2) (v := ?_) rfl (by kernel_rfl) (by kernel_rfl) (by kernel_rfl) (fun _ _ _ h => h) (Or.inl ⟨by rfl, ?_⟩) (by assumption) ?_
    rotate_left
    · intro w' hSw
      (try dsimp only at hSw)
      go_simp
      all_goals (try with_reducible rfl)
    (try simp only [Act.put, List.getElem_toArray, List.getElem_cons_zero, List.getElem_cons_succ, List.setIfInBounds_toArray, List.set_cons_zero, List.set_cons_succ])
    refine wpAnyH_take (i := 3) (v := ?_) rfl (by kernel_rfl) (by kernel_rfl) (by kernel_rfl) (fun _ _ _ h => h) (Or.inl ⟨by rfl, ?_⟩) (by assumption) ?_
    rotate_left
    · intro w' hSw
      (try dsimp only at hSw)
      go_simp
      all_goals (try with_reducible rfl)
    (try simp only [Act.put, List.getElem_toArray, List.getElem_cons_zero, List.getElem_cons_succ, List.setIfInBounds_toArray, List.set_cons_zero, List.set_cons_succ])
    refine wpAnyH_take (i := 5) (v := ?_) rfl (by kernel_rfl) (by kernel_rfl) (by kernel_rfl) (fun _ _ _ h => h) (Or.inl ⟨by rfl, ?_⟩) (by assumption) ?_
    rotate_left
    · intro w' hSw
      (try dsimp only at hSw)
      go_simp
      all_goals (try with_reducible rfl)
    (try simp only [Act.put, List.getElem_toArray, List.getElem_cons_zero, List.getElem_cons_succ, List.setIfInBounds_toArray, List.set_cons_zero, List.set_cons_succ])
    refine wpAnyH_take (i := 6) (v := ?_) rfl (by kernel_rfl) (by kernel_rfl) (by kernel_rfl) (fun _ _ _ h => h) (Or.inl ⟨by rfl, ?_⟩) (by assumption) ?_
    rotate_left
    · intro w' hSw
      (try dsimp only at hSw)
      go_simp
      all_goals (try with_reducible rfl)
    (try simp only [Act.put, List.getElem_toArray, List.getElem_cons_zero, List.getElem_cons_succ, List.setIfInBounds_toArray, List.set_cons_zero, List.set_cons_succ])
    have HBs : Hid (Below W0.heap.size W0 W0.drew) := bel_drew _
    generalize W0.drew = wd at *
    refine wpAnyH_ready (rs := [0, 4, 9]) (by kernel_rfl) (by simp) ?_
    refine AllReadyH.cons rfl (fun K hK => ?_) (AllReadyH.cons rfl (fun K hK => ?_) (AllReadyH.cons rfl (fun K hK => ?_) AllReadyH.nil))
    · (try simp only [Act.put, List.getElem_toArray, List.getElem_cons_zero, List.getElem_cons_succ, List.setIfInBounds_toArray, List.set_cons_zero, List.set_cons_succ])
      go_simp
      (try simp only [])
      have hb := bel_alloc wd (.cells #[] 74)
      have HBn : Below W0.heap.size W0 (wd.alloc (.cells #[] 74)) := HBs.out.trans (hb.mono HBs.out.size)
      have OW : Hid (Own W0 (wd.alloc (.cells #[] 74)) 74 (.slice (some ⟨wd.heap.size, 0, none⟩) 0 0) 0 []) := Own.lit HBs.out
      refine hK.out _ _ ?_ (fun hHeld' => ?_)
      · (try dsimp only)
        exact ⟨wb_s8 (JB1.out.next HBn), HBn⟩
      clear hK K hHeld
      have hHeld := hHeld'
      clear hHeld'
      have HB1 : Hid (Below W0.heap.size W0 (wd.alloc (.cells #[] 74))) := HBn
      clear HBn hb
      generalize (wd.alloc (.cells #[] 74)) = wn1 at *
      have OL : Hid (wd.heap.size < wn1.heap.size) := (OW.out.1.lt _ rfl).2
      (try simp only [Act.put, List.getElem_toArray, List.getElem_cons_zero, List.getElem_cons_succ, List.setIfInBounds_toArray, List.set_cons_zero, List.set_cons_succ])
      refine wpAnyH_ready (rs := [4, 9]) (by kernel_rfl) (by simp) ?_
      refine AllReadyH.cons rfl (fun K hK => ?_) (AllReadyH.cons rfl (fun K hK => ?_) AllReadyH.nil)
      · (try simp only [Act.put, List.getElem_toArray, List.getElem_cons_zero, List.getElem_cons_succ, List.setIfInBounds_toArray, List.set_cons_zero, List.set_cons_succ])
        go_simp
        refine Calls.mono (CM.out _) ?_
        rintro e wn2 ⟨rfl, hb⟩
        have HBn : Below W0.heap.size W0 wn2 := HB1.out.trans (hb.mono HB1.out.size)
        replace OW : Hid (Own W0 wn2 74 (.slice (some ⟨wd.heap.size, 0, none⟩) 0 0) 0 []) := Own.step (show Own W0 _ 74 _ 0 [] from OW.out) hb
        refine hK.out _ _ ?_ (fun hHeld' => ?_)
        · (try dsimp only)
          exact ⟨wb_s8 (JB1.out.next HBn), HBn⟩
        clear hK K hHeld
        have hHeld := hHeld'
        clear hHeld'
        have HB2 : Hid (Below W0.heap.size W0 wn2) := HBn
        clear HBn hb
        have OL : Hid (wd.heap.size < wn2.heap.size) := (OW.out.1.lt _ rfl).2
        (try simp only [Act.put, List.getElem_toArray, List.getElem_cons_zero, List.getElem_cons_succ, List.setIfInBounds_toArray, List.set_cons_zero, List.set_cons_succ])
        refine wpAnyH_ready (rs := [7, 9]) (by kernel_rfl) (by simp) ?_
        refine AllReadyH.cons rfl (fun K hK => ?_) (AllReadyH.cons rfl (fun K hK => ?_) AllReadyH.nil)
        · (try simp only [Act.put, List.getElem_toArray, List.getElem_cons_zero, List.getElem_cons_succ, List.setIfInBounds_toArray, List.set_cons_zero, List.set_cons_succ])
          go_simp
          refine Calls.mono (CA.out _) ?_
          rintro e wn3 ⟨rfl, hb⟩
          have HBn : Below W0.heap.size W0 wn3 := HB2.out.trans (hb.mono HB2.out.size)
          replace OW : Hid (Own W0 wn3 74 (.slice (some ⟨wd.heap.size, 0, none⟩) 0 0) 0 []) := Own.step (show Own W0 _ 74 _ 0 [] from OW.out) hb
          refine hK.out _ _ ?_ (fun hHeld' => ?_)
          · (try dsimp only)
            exact ⟨wb_s8 (JB1.out.next HBn), HBn⟩
          clear hK K hHeld
          have hHeld := hHeld'
          clear hHeld'
          have HB3 : Hid (Below W0.heap.size W0 wn3) := HBn
          clear HBn hb
          have OL : Hid (wd.heap.size < wn3.heap.size) := (OW.out.1.lt _ rfl).2
          (try simp only [Act.put, List.getElem_toArray, List.getElem_cons_zero, List.getElem_cons_succ, List.setIfInBounds_toArray, List.set_cons_zero, List.set_cons_succ])
          refine wpAnyH_take (i := 8) (v := ?_) rfl (by kernel_rfl) (by kernel_rfl) (by kernel_rfl) (fun _ _ _ h => h) (Or.inl ⟨by rfl, ?_⟩) (by assumption) ?_
          rotate_left
          · intro w' hSw
            (try dsimp only at hSw)
            go_simp
            all_goals (try with_reducible rfl)
          (try simp only [Act.put, List.getElem_toArray, List.getElem_cons_zero, List.getElem_cons_succ, List.setIfInBounds_toArray, List.set_cons_zero, List.set_cons_succ])
          refine wpAnyH_ready (rs := [9]) (by kernel_rfl) (by simp) ?_
          refine AllReadyH.cons rfl (fun K hK => ?_) AllReadyH.nil
          (try simp only [Act.put, List.getElem_toArray, List.getElem_cons_zero, List.getElem_cons_succ, List.setIfInBounds_toArray, List.set_cons_zero, List.set_cons_succ])
          go_simp
          (try simp only [])
          have hb := bel_alloc wn3 (.cells #[.slice none 0 0, .int .i64 0, .int .i64 0, .int .i64 0] 32)
          have HBn : Below W0.heap.size W0 (wn3.alloc (.cells #[.slice none 0 0, .int .i64 0, .int .i64 0, .int .i64 0] 32)) := HB3.out.trans (hb.mono HB3.out.size)
          replace OW : Hid (Own W0 (wn3.alloc (.cells #[.slice none 0 0, .int .i64 0, .int .i64 0, .int .i64 0] 32)) 74 (.slice (some ⟨wd.heap.size, 0, none⟩) 0 0) 0 []) := Own.step (show Own W0 _ 74 _ 0 [] from OW.out) hb
          have TH : Hid (There (wn3.alloc (.cells #[.slice none 0 0, .int .i64 0, .int .i64 0, .int .i64 0] 32)) wn3.heap.size 4) := there_new
          have LG : Hid (wn3.heap.size < (wn3.alloc (.cells #[.slice none 0 0, .int .i64 0, .int .i64 0, .int .i64 0] 32)).heap.size) := lt_new
          have GE : Hid (W0.heap.size ≤ wn3.heap.size) := HB3.out.size
          have NV : Hid (wd.heap.size ≠ wn3.heap.size) := fun e => by have := OL.out; omega
          refine hK.out _ _ ?_ (fun hHeld' => ?_)
          · (try dsimp only)
            exact ⟨wb_s8 (JB1.out.next HBn), HBn⟩
          clear hK K hHeld
          have hHeld := hHeld'
          clear hHeld'
          have HB4 : Hid (Below W0.heap.size W0 (wn3.alloc (.cells #[.slice none 0 0, .int .i64 0, .int .i64 0, .int .i64 0] 32))) := HBn
          clear HBn hb
          generalize (wn3.alloc (.cells #[.slice none 0 0, .int .i64 0, .int .i64 0, .int .i64 0] 32)) = wn4 at *
          have OL : Hid (wd.heap.size < wn4.heap.size) := (OW.out.1.lt _ rfl).2
          have LG0 := LG
          (try simp only [Act.put, List.getElem_toArray, List.getElem_cons_zero, List.getElem_cons_succ, List.setIfInBounds_toArray, List.set_cons_zero, List.set_cons_succ])
          obtain ⟨t0, T0⟩ := Option.isSome_iff_exists.1 (TH.out 0 (by omega)).1
          have Z0 := (TH.out 0 (by omega)).2
          obtain ⟨t1, T1⟩ := Option.isSome_iff_exists.1 (TH.out 1 (by omega)).1
          have Z1 := (TH.out 1 (by omega)).2
          obtain ⟨t2, T2⟩ := Option.isSome_iff_exists.1 (TH.out 2 (by omega)).1
          have Z2 := (TH.out 2 (by omega)).2
          obtain ⟨t3, T3⟩ := Option.isSome_iff_exists.1 (TH.out 3 (by omega)).1
          have Z3 := (TH.out 3 (by omega)).2
          refine wpAnyH_ready (rs := [10]) (by kernel_rfl) (by simp) ?_
          refine AllReadyH.cons rfl (fun K hK => ?_) AllReadyH.nil
          (try simp only [Act.put, List.getElem_toArray, List.getElem_cons_zero, List.getElem_cons_succ, List.setIfInBounds_toArray, List.set_cons_zero, List.set_cons_succ])
          go_simp
          (try simp only [])
          have J9 : Hid _ := js_new (p := P) (q := Q) (r := R) (show Own W0 _ 74 _ 0 [] from OW.out) TH.out LG.out GE.out NV.out
          have HBn := J9.out.own.2.1
          refine hK.out _ _ ?_ (fun hHeld' => ?_)
          · (try dsimp only)
            exact ⟨wb_s8 (JB1.out.next HBn), HBn⟩
          clear hK K hHeld HBn T0 T1 T2 T3 Z0 Z1 Z2 Z3 hHeld'
          (try simp only [Act.put, List.getElem_toArray, List.getElem_cons_zero, List.getElem_cons_succ, List.setIfInBounds_toArray, List.set_cons_zero, List.set_cons_succ])
          refine wpAnyH_done (by kernel_rfl) ?_ _
          go_wp2
          go_meet
          case rel => exact ⟨_, _, rfl, J9.out⟩
        · (try simp only [Act.put, List.getElem_toArray, List.getElem_cons_zero, List.getElem_cons_succ, List.setIfInBounds_toArray, List.set_cons_zero, List.set_cons_succ])
          go_simp
          (try simp only [])
          have hb := bel_alloc wn2 (.cells #[.slice none 0 0, .int .i64 0, .int .i64 0, .int .i64 0] 32)
          have HBn : Below W0.heap.size W0 (wn2.alloc (.cells #[.slice none 0 0, .int .i64 0, .int .i64 0, .int .i64 0] 32)) := HB2.out.trans (hb.mono HB2.out.size)
          replace OW : Hid (Own W0 (wn2.alloc (.cells #[.slice none 0 0, .int .i64 0, .int .i64 0, .int .i64 0] 32)) 74 (.slice (some ⟨wd.heap.size, 0, none⟩) 0 0) 0 []) := Own.step (show Own W0 _ 74 _ 0 [] from OW.out) hb
          have TH : Hid (There (wn2.alloc (.cells #[.slice none 0 0, .int .i64 0, .int .i64 0, .int .i64 0] 32)) wn2.heap.size 4) := there_new
          have LG : Hid (wn2.heap.size < (wn2.alloc (.cells #[.slice none 0 0, .int .i64 0, .int .i64 0, .int .i64 0] 32)).heap.size) := lt_new
          have GE : Hid (W0.heap.size ≤ wn2.heap.size) := HB2.out.size
          have NV : Hid (wd.heap.size ≠ wn2.heap.size) := fun e => by have := OL.out; omega
          refine hK.out _ _ ?_ (fun hHeld' => ?_)
          · (try dsimp only)
            exact ⟨wb_s8 (JB1.out.next HBn), HBn⟩
          clear hK K hHeld
          have hHeld := hHeld'
          clear hHeld'
          have HB3 : Hid (Below W0.heap.size W0 (wn2.alloc (.cells #[.slice none 0 0, .int .i64 0, .int .i64 0, .int .i64 0] 32))) := HBn
          clear HBn hb
          generalize (wn2.alloc (.cells #[.slice none 0 0, .int .i64 0, .int .i64 0, .int .i64 0] 32)) = wn3 at *
          have OL : Hid (wd.heap.size < wn3.heap.size) := (OW.out.1.lt _ rfl).2
          have LG0 := LG
          (try simp only [Act.put, List.getElem_toArray, List.getElem_cons_zero, List.getElem_cons_succ, List.setIfInBounds_toArray, List.set_cons_zero, List.set_cons_succ])
          refine wpAnyH_ready (rs := [7]) (by kernel_rfl) (by simp) ?_
          refine AllReadyH.cons rfl (fun K hK => ?_) AllReadyH.nil
          (try simp only [Act.put, List.getElem_toArray, List.getElem_cons_zero, List.getElem_cons_succ, List.setIfInBounds_toArray, List.set_cons_zero, List.set_cons_succ])
          go_simp
          refine Calls.mono (CA.out _) ?_
          rintro e wn4 ⟨rfl, hb⟩
          have HBn : Below W0.heap.size W0 wn4 := HB3.out.trans (hb.mono HB3.out.size)
          replace OW : Hid (Own W0 wn4 74 (.slice (some ⟨wd.heap.size, 0, none⟩) 0 0) 0 []) := Own.step (show Own W0 _ 74 _ 0 [] from OW.out) hb
          replace TH := th_next TH hb LG
          replace LG := lt_next LG hb
          refine hK.out _ _ ?_ (fun hHeld' => ?_)
          · (try dsimp only)
            exact ⟨wb_s8 (JB1.out.next HBn), HBn⟩
          clear hK K hHeld
          have hHeld := hHeld'
          clear hHeld'
          have HB4 : Hid (Below W0.heap.size W0 wn4) := HBn
          clear HBn hb
          have OL : Hid (wd.heap.size < wn4.heap.size) := (OW.out.1.lt _ rfl).2
          have LG0 := LG
          (try simp only [Act.put, List.getElem_toArray, List.getElem_cons_zero, List.getElem_cons_succ, List.setIfInBounds_toArray, List.set_cons_zero, List.set_cons_succ])
          refine wpAnyH_take (i := 8) (v := ?_) rfl (by kernel_rfl) (by kernel_rfl) (by kernel_rfl) (fun _ _ _ h => h) (Or.inl ⟨by rfl, ?_⟩) (by assumption) ?_
          rotate_left
          · intro w' hSw
            (try dsimp only at hSw)
            go_simp
            all_goals (try with_reducible rfl)
          (try simp only [Act.put, List.getElem_toArray, List.getElem_cons_zero, List.getElem_cons_succ, List.setIfInBounds_toArray, List.set_cons_zero, List.set_cons_succ])
          obtain ⟨t0, T0⟩ := Option.isSome_iff_exists.1 (TH.out 0 (by omega)).1
          have Z0 := (TH.out 0 (by omega)).2
          obtain ⟨t1, T1⟩ := Option.isSome_iff_exists.1 (TH.out 1 (by omega)).1
          have Z1 := (TH.out 1 (by omega)).2
          obtain ⟨t2, T2⟩ := Option.isSome_iff_exists.1 (TH.out 2 (by omega)).1
          have Z2 := (TH.out 2 (by omega)).2
          obtain ⟨t3, T3⟩ := Option.isSome_iff_exists.1 (TH.out 3 (by omega)).1
          have Z3 := (TH.out 3 (by omega)).2
          refine wpAnyH_ready (rs := [10]) (by kernel_rfl) (by simp) ?_
          refine AllReadyH.cons rfl (fun K hK => ?_) AllReadyH.nil
          (try simp only [Act.put, List.getElem_toArray, List.getElem_cons_zero, List.getElem_cons_succ, List.setIfInBounds_toArray, List.set_cons_zero, List.set_cons_succ])
          go_simp
          (try simp only [])
          have J9 : Hid _ := js_new (p := P) (q := Q) (r := R) (show Own W0 _ 74 _ 0 [] from OW.out) TH.out LG.out GE.out NV.out
          have HBn := J9.out.own.2.1
          refine hK.out _ _ ?_ (fun hHeld' => ?_)
          · (try dsimp only)
            exact ⟨wb_s8 (JB1.out.next HBn), HBn⟩
          clear hK K hHeld HBn T0 T1 T2 T3 Z0 Z1 Z2 Z3 hHeld'
          (try simp only [Act.put, List.getElem_toArray, List.getElem_cons_zero, List.getElem_cons_succ, List.setIfInBounds_toArray, List.set_cons_zero, List.set_cons_succ])
          refine wpAnyH_done (by kernel_rfl) ?_ _
          go_wp2
          go_meet
          case rel => exact ⟨_, _, rfl, J9.out⟩
      · (try simp only [Act.put, List.getElem_toArray, List.getElem_cons_zero, List.getElem_cons_succ, List.setIfInBounds_toArray, List.set_cons_zero, List.set_cons_succ])
        go_simp
        (try simp only [])
        have hb := bel_alloc wn1 (.cells #[.slice none 0 0, .int .i64 0, .int .i64 0, .int .i64 0] 32)
        have HBn : Below W0.heap.size W0 (wn1.alloc (.cells #[.slice none 0 0, .int .i64 0, .int .i64 0, .int .i64 0] 32)) := HB1.out.trans (hb.mono HB1.out.size)
        replace OW : Hid (Own W0 (wn1.alloc (.cells #[.slice none 0 0, .int .i64 0, .int .i64 0, .int .i64 0] 32)) 74 (.slice (some ⟨wd.heap.size, 0, none⟩) 0 0) 0 []) := Own.step (show Own W0 _ 74 _ 0 [] from OW.out) hb
        have TH : Hid (There (wn1.alloc (.cells #[.slice none 0 0, .int .i64 0, .int .i64 0, .int .i64 0] 32)) wn1.heap.size 4) := there_new
        have LG : Hid (wn1.heap.size < (wn1.alloc (.cells #[.slice none 0 0, .int .i64 0, .int .i64 0, .int .i64 0] 32)).heap.size) := lt_new
        have GE : Hid (W0.heap.size ≤ wn1.heap.size) := HB1.out.size
        have NV : Hid (wd.heap.size ≠ wn1.heap.size) := fun e => by have := OL.out; omega
        refine hK.out _ _ ?_ (fun hHeld' => ?_)
        · (try dsimp only)
          exact ⟨wb_s8 (JB1.out.next HBn), HBn⟩
        clear hK K hHeld
        have hHeld := hHeld'
        clear hHeld'
        have HB2 : Hid (Below W0.heap.size W0 (wn1.alloc (.cells #[.slice none 0 0, .int .i64 0, .int .i64 0, .int .i64 0] 32))) := HBn
        clear HBn hb
        generalize (wn1.alloc (.cells #[.slice none 0 0, .int .i64 0, .int .i64 0, .int .i64 0] 32)) = wn2 at *
        have OL : Hid (wd.heap.size < wn2.heap.size) := (OW.out.1.lt _ rfl).2
        have LG0 := LG
        (try simp only [Act.put, List.getElem_toArray, List.getElem_cons_zero, List.getElem_cons_succ, List.setIfInBounds_toArray, List.set_cons_zero, List.set_cons_succ])
        refine wpAnyH_ready (rs := [4]) (by kernel_rfl) (by simp) ?_
        refine AllReadyH.cons rfl (fun K hK => ?_) AllReadyH.nil
        (try simp only [Act.put, List.getElem_toArray, List.getElem_cons_zero, List.getElem_cons_succ, List.setIfInBounds_toArray, List.set_cons_zero, List.set_cons_succ])
        go_simp
        refine Calls.mono (CM.out _) ?_
        rintro e wn3 ⟨rfl, hb⟩
        have HBn : Below W0.heap.size W0 wn3 := HB2.out.trans (hb.mono HB2.out.size)
        replace OW : Hid (Own W0 wn3 74 (.slice (some ⟨wd.heap.size, 0, none⟩) 0 0) 0 []) := Own.step (show Own W0 _ 74 _ 0 [] from OW.out) hb
        replace TH := th_next TH hb LG
        replace LG := lt_next LG hb
        refine hK.out _ _ ?_ (fun hHeld' => ?_)
        · (try dsimp only)
          exact ⟨wb_s8 (JB1.out.next HBn), HBn⟩
        clear hK K hHeld
        have hHeld := hHeld'
        clear hHeld'
        have HB3 : Hid (Below W0.heap.size W0 wn3) := HBn
        clear HBn hb
        have OL : Hid (wd.heap.size < wn3.heap.size) := (OW.out.1.lt _ rfl).2
        have LG0 := LG
        (try simp only [Act.put, List.getElem_toArray, List.getElem_cons_zero, List.getElem_cons_succ, List.setIfInBounds_toArray, List.set_cons_zero, List.set_cons_succ])
        refine wpAnyH_ready (rs := [7]) (by kernel_rfl) (by simp) ?_
        refine AllReadyH.cons rfl (fun K hK => ?_) AllReadyH.nil
        (try simp only [Act.put, List.getElem_toArray, List.getElem_cons_zero, List.getElem_cons_succ, List.setIfInBounds_toArray, List.set_cons_zero, List.set_cons_succ])
        go_simp
        refine Calls.mono (CA.out _) ?_
        rintro e wn4 ⟨rfl, hb⟩
        have HBn : Below W0.heap.size W0 wn4 := HB3.out.trans (hb.mono HB3.out.size)
        replace OW : Hid (Own W0 wn4 74 (.slice (some ⟨wd.heap.size, 0, none⟩) 0 0) 0 []) := Own.step (show Own W0 _ 74 _ 0 [] from OW.out) hb
        replace TH := th_next TH hb LG
        replace LG := lt_next LG hb
        refine hK.out _ _ ?_ (fun hHeld' => ?_)
        · (try dsimp only)
          exact ⟨wb_s8 (JB1.out.next HBn), HBn⟩
        clear hK K hHeld
        have hHeld := hHeld'
        clear hHeld'
        have HB4 : Hid (Below W0.heap.size W0 wn4) := HBn
        clear HBn hb
        have OL : Hid (wd.heap.size < wn4.heap.size) := (OW.out.1.lt _ rfl).2
        have LG0 := LG
        (try simp only [Act.put, List.getElem_toArray, List.getElem_cons_zero, List.getElem_cons_succ, List.setIfInBounds_toArray, List.set_cons_zero, List.set_cons_succ])
        refine wpAnyH_take (i := 8) (v := ?_) rfl (by kernel_rfl) (by kernel_rfl) (by kernel_rfl) (fun _ _ _ h => h) (Or.inl ⟨by rfl, ?_⟩) (by assumption) ?_
        rotate_left
        · intro w' hSw
          (try dsimp only at hSw)
          go_simp
          all_goals (try with_reducible rfl)
        (try simp only [Act.put, List.getElem_toArray, List.getElem_cons_zero, List.getElem_cons_succ, List.setIfInBounds_toArray, List.set_cons_zero, List.set_cons_succ])
        obtain ⟨t0, T0⟩ := Option.isSome_iff_exists.1 (TH.out 0 (by omega)).1
        have Z0 := (TH.out 0 (by omega)).2
        obtain ⟨t1, T1⟩ := Option.isSome_iff_exists.1 (TH.out 1 (by omega)).1
        have Z1 := (TH.out 1 (by omega)).2
        obtain ⟨t2, T2⟩ := Option.isSome_iff_exists.1 (TH.out 2 (by omega)).1
        have Z2 := (TH.out 2 (by omega)).2
        obtain ⟨t3, T3⟩ := Option.isSome_iff_exists.1 (TH.out 3 (by omega)).1
        have Z3 := (TH.out 3 (by omega)).2
        refine wpAnyH_ready (rs := [10]) (by kernel_rfl) (by simp) ?_
        refine AllReadyH.cons rfl (fun K hK => ?_) AllReadyH.nil
        (try simp only [Act.put, List.getElem_toArray, List.getElem_cons_zero, List.getElem_cons_succ, List.setIfInBounds_toArray, List.set_cons_zero, List.set_cons_succ])
        go_simp
        (try simp only [])
        have J9 : Hid _ := js_new (p := P) (q := Q) (r := R) (show Own W0 _ 74 _ 0 [] from OW.out) TH.out LG.out GE.out NV.out
        have HBn := J9.out.own.2.1
        refine hK.out _ _ ?_ (fun hHeld' => ?_)
        · (try dsimp only)
          exact ⟨wb_s8 (JB1.out.next HBn), HBn⟩
        clear hK K hHeld HBn T0 T1 T2 T3 Z0 Z1 Z2 Z3 hHeld'
        (try simp only [Act.put, List.getElem_toArray, List.getElem_cons_zero, List.getElem_cons_succ, List.setIfInBounds_toArray, List.set_cons_zero, List.set_cons_succ])
        refine wpAnyH_done (by kernel_rfl) ?_ _
        go_wp2
        go_meet
        case rel => exact ⟨_, _, rfl, J9.out⟩
    · (try simp only [Act.put, List.getElem_toArray, List.getElem_cons_zero, List.getElem_cons_succ, List.setIfInBounds_toArray, List.set_cons_zero, List.set_cons_succ])
      go_simp
      refine Calls.mono (CM.out _) ?_
      rintro e wn1 ⟨rfl, hb⟩
      have HBn : Below W0.heap.size W0 wn1 := HBs.out.trans (hb.mono HBs.out.size)
      refine hK.out _ _ ?_ (fun hHeld' => ?_)
      · (try dsimp only)
        exact ⟨wb_s8 (JB1.out.next HBn), HBn⟩
      clear hK K hHeld
      have hHeld := hHeld'
      clear hHeld'
      have HB1 : Hid (Below W0.heap.size W0 wn1) := HBn
      clear HBn hb
      (try simp only [Act.put, List.getElem_toArray, List.getElem_cons_zero, List.getElem_cons_succ, List.setIfInBounds_toArray, List.set_cons_zero, List.set_cons_succ])
      refine wpAnyH_ready (rs := [0, 7, 9]) (by kernel_rfl) (by simp) ?_
      refine AllReadyH.cons rfl (fun K hK => ?_) (AllReadyH.cons rfl (fun K hK => ?_) (AllReadyH.cons rfl (fun K hK => ?_) AllReadyH.nil))
      · (try simp only [Act.put, List.getElem_toArray, List.getElem_cons_zero, List.getElem_cons_succ, List.setIfInBounds_toArray, List.set_cons_zero, List.set_cons_succ])
        go_simp
        (try simp only [])
        have hb := bel_alloc wn1 (.cells #[] 74)
        have HBn : Below W0.heap.size W0 (wn1.alloc (.cells #[] 74)) := HB1.out.trans (hb.mono HB1.out.size)
        have OW : Hid (Own W0 (wn1.alloc (.cells #[] 74)) 74 (.slice (some ⟨wn1.heap.size, 0, none⟩) 0 0) 0 []) := Own.lit HB1.out
        refine hK.out _ _ ?_ (fun hHeld' => ?_)
        · (try dsimp only)
          exact ⟨wb_s8 (JB1.out.next HBn), HBn⟩
        clear hK K hHeld
        have hHeld := hHeld'
        clear hHeld'
        have HB2 : Hid (Below W0.heap.size W0 (wn1.alloc (.cells #[] 74))) := HBn
        clear HBn hb
        generalize (wn1.alloc (.cells #[] 74)) = wn2 at *
        have OL : Hid (wn1.heap.size < wn2.heap.size) := (OW.out.1.lt _ rfl).2
        (try simp only [Act.put, List.getElem_toArray, List.getElem_cons_zero, List.getElem_cons_succ, List.setIfInBounds_toArray, List.set_cons_zero, List.set_cons_succ])
        refine wpAnyH_ready (rs := [7, 9]) (by kernel_rfl) (by simp) ?_
        refine AllReadyH.cons rfl (fun K hK => ?_) (AllReadyH.cons rfl (fun K hK => ?_) AllReadyH.nil)
        · (try simp only [Act.put, List.getElem_toArray, List.getElem_cons_zero, List.getElem_cons_succ, List.setIfInBounds_toArray, List.set_cons_zero, List.set_cons_succ])
          go_simp
          refine Calls.mono (CA.out _) ?_
          rintro e wn3 ⟨rfl, hb⟩
          have HBn : Below W0.heap.size W0 wn3 := HB2.out.trans (hb.mono HB2.out.size)
          replace OW : Hid (Own W0 wn3 74 (.slice (some ⟨wn1.heap.size, 0, none⟩) 0 0) 0 []) := Own.step (show Own W0 _ 74 _ 0 [] from OW.out) hb
          refine hK.out _ _ ?_ (fun hHeld' => ?_)
          · (try dsimp only)
            exact ⟨wb_s8 (JB1.out.next HBn), HBn⟩
          clear hK K hHeld
          have hHeld := hHeld'
          clear hHeld'
          have HB3 : Hid (Below W0.heap.size W0 wn3) := HBn
          clear HBn hb
          have OL : Hid (wn1.heap.size < wn3.heap.size) := (OW.out.1.lt _ rfl).2
          (try simp only [Act.put, List.getElem_toArray, List.getElem_cons_zero, List.getElem_cons_succ, List.setIfInBounds_toArray, List.set_cons_zero, List.set_cons_succ])
          refine wpAnyH_take (i := 8) (v := ?_) rfl (by kernel_rfl) (by kernel_rfl) (by kernel_rfl) (fun _ _ _ h => h) (Or.inl ⟨by rfl, ?_⟩) (by assumption) ?_
          rotate_left
          · intro w' hSw
            (try dsimp only at hSw)
            go_simp
            all_goals (try with_reducible rfl)
          (try simp only [Act.put, List.getElem_toArray, List.getElem_cons_zero, List.getElem_cons_succ, List.setIfInBounds_toArray, List.set_cons_zero, List.set_cons_succ])
          refine wpAnyH_ready (rs := [9]) (by kernel_rfl) (by simp) ?_
          refine AllReadyH.cons rfl (fun K hK => ?_) AllReadyH.nil
          (try simp only [Act.put, List.getElem_toArray, List.getElem_cons_zero, List.getElem_cons_succ, List.setIfInBounds_toArray, List.set_cons_zero, List.set_cons_succ])
          go_simp
          (try simp only [])
          have hb := bel_alloc wn3 (.cells #[.slice none 0 0, .int .i64 0, .int .i64 0, .int .i64 0] 32)
          have HBn : Below W0.heap.size W0 (wn3.alloc (.cells #[.slice none 0 0, .int .i64 0, .int .i64 0, .int .i64 0] 32)) := HB3.out.trans (hb.mono HB3.out.size)
          replace OW : Hid (Own W0 (wn3.alloc (.cells #[.slice none 0 0, .int .i64 0, .int .i64 0, .int .i64 0] 32)) 74 (.slice (some ⟨wn1.heap.size, 0, none⟩) 0 0) 0 []) := Own.step (show Own W0 _ 74 _ 0 [] from OW.out) hb
          have TH : Hid (There (wn3.alloc (.cells #[.slice none 0 0, .int .i64 0, .int .i64 0, .int .i64 0] 32)) wn3.heap.size 4) := there_new
          have LG : Hid (wn3.heap.size < (wn3.alloc (.cells #[.slice none 0 0, .int .i64 0, .int .i64 0, .int .i64 0] 32)).heap.size) := lt_new
          have GE : Hid (W0.heap.size ≤ wn3.heap.size) := HB3.out.size
          have NV : Hid (wn1.heap.size ≠ wn3.heap.size) := fun e => by have := OL.out; omega
          refine hK.out _ _ ?_ (fun hHeld' => ?_)
          · (try dsimp only)
            exact ⟨wb_s8 (JB1.out.next HBn), HBn⟩
          clear hK K hHeld
          have hHeld := hHeld'
          clear hHeld'
          have HB4 : Hid (Below W0.heap.size W0 (wn3.alloc (.cells #[.slice none 0 0, .int .i64 0, .int .i64 0, .int .i64 0] 32))) := HBn
          clear HBn hb
          generalize (wn3.alloc (.cells #[.slice none 0 0, .int .i64 0, .int .i64 0, .int .i64 0] 32)) = wn4 at *
          have OL : Hid (wn1.heap.size < wn4.heap.size) := (OW.out.1.lt _ rfl).2
          have LG0 := LG
          (try simp only [Act.put, List.getElem_toArray, List.getElem_cons_zero, List.getElem_cons_succ, List.setIfInBounds_toArray, List.set_cons_zero, List.set_cons_succ])
          obtain ⟨t0, T0⟩ := Option.isSome_iff_exists.1 (TH.out 0 (by omega)).1
          have Z0 := (TH.out 0 (by omega)).2
          obtain ⟨t1, T1⟩ := Option.isSome_iff_exists.1 (TH.out 1 (by omega)).1
          have Z1 := (TH.out 1 (by omega)).2
          obtain ⟨t2, T2⟩ := Option.isSome_iff_exists.1 (TH.out 2 (by omega)).1
          have Z2 := (TH.out 2 (by omega)).2
          obtain ⟨t3, T3⟩ := Option.isSome_iff_exists.1 (TH.out 3 (by omega)).1
          have Z3 := (TH.out 3 (by omega)).2
          refine wpAnyH_ready (rs := [10]) (by kernel_rfl) (by simp) ?_
          refine AllReadyH.cons rfl (fun K hK => ?_) AllReadyH.nil
          (try simp only [Act.put, List.getElem_toArray, List.getElem_cons_zero, List.getElem_cons_succ, List.setIfInBounds_toArray, List.set_cons_zero, List.set_cons_succ])
          go_simp
          (try simp only [])
          have J9 : Hid _ := js_new (p := P) (q := Q) (r := R) (show Own W0 _ 74 _ 0 [] from OW.out) TH.out LG.out GE.out NV.out
          have HBn := J9.out.own.2.1
          refine hK.out _ _ ?_ (fun hHeld' => ?_)
          · (try dsimp only)
            exact ⟨wb_s8 (JB1.out.next HBn), HBn⟩
          clear hK K hHeld HBn T0 T1 T2 T3 Z0 Z1 Z2 Z3 hHeld'
          (try simp only [Act.put, List.getElem_toArray, List.getElem_cons_zero, List.getElem_cons_succ, List.setIfInBounds_toArray, List.set_cons_zero, List.set_cons_succ])
          refine wpAnyH_done (by kernel_rfl) ?_ _
          go_wp2
          go_meet
          case rel => exact ⟨_, _, rfl, J9.out⟩
        · (try simp only [Act.put, List.getElem_toArray, List.getElem_cons_zero, List.getElem_cons_succ, List.setIfInBounds_toArray, List.set_cons_zero, List.set_cons_succ])
          go_simp
          (try simp only [])
          have hb := bel_alloc wn2 (.cells #[.slice none 0 0, .int .i64 0, .int .i64 0, .int .i64 0] 32)
          have HBn : Below W0.heap.size W0 (wn2.alloc (.cells #[.slice none 0 0, .int .i64 0, .int .i64 0, .int .i64 0] 32)) := HB2.out.trans (hb.mono HB2.out.size)
          replace OW : Hid (Own W0 (wn2.alloc (.cells #[.slice none 0 0, .int .i64 0, .int .i64 0, .int .i64 0] 32)) 74 (.slice (some ⟨wn1.heap.size, 0, none⟩) 0 0) 0 []) := Own.step (show Own W0 _ 74 _ 0 [] from OW.out) hb
          have TH : Hid (There (wn2.alloc (.cells #[.slice none 0 0, .int .i64 0, .int .i64 0, .int .i64 0] 32)) wn2.heap.size 4) := there_new
          have LG : Hid (wn2.heap.size < (wn2.alloc (.cells #[.slice none 0 0, .int .i64 0, .int .i64 0, .int .i64 0] 32)).heap.size) := lt_new
          have GE : Hid (W0.heap.size ≤ wn2.heap.size) := HB2.out.size
          have NV : Hid (wn1.heap.size ≠ wn2.heap.size) := fun e => by have := OL.out; omega
          refine hK.out _ _ ?_ (fun hHeld' => ?_)
          · (try dsimp only)
            exact ⟨wb_s8 (JB1.out.next HBn), HBn⟩
          clear hK K hHeld
          have hHeld := hHeld'
          clear hHeld'
          have HB3 : Hid (Below W0.heap.size W0 (wn2.alloc (.cells #[.slice none 0 0, .int .i64 0, .int .i64 0, .int .i64 0] 32))) := HBn
          clear HBn hb
          generalize (wn2.alloc (.cells #[.slice none 0 0, .int .i64 0, .int .i64 0, .int .i64 0] 32)) = wn3 at *
          have OL : Hid (wn1.heap.size < wn3.heap.size) := (OW.out.1.lt _ rfl).2
          have LG0 := LG
          (try simp only [Act.put, List.getElem_toArray, List.getElem_cons_zero, List.getElem_cons_succ, List.setIfInBounds_toArray, List.set_cons_zero, List.set_cons_succ])
          refine wpAnyH_ready (rs := [7]) (by kernel_rfl) (by simp) ?_
          refine AllReadyH.cons rfl (fun K hK => ?_) AllReadyH.nil
          (try simp only [Act.put, List.getElem_toArray, List.getElem_cons_zero, List.getElem_cons_succ, List.setIfInBounds_toArray, List.set_cons_zero, List.set_cons_succ])
          go_simp
          refine Calls.mono (CA.out _) ?_
          rintro e wn4 ⟨rfl, hb⟩
          have HBn : Below W0.heap.size W0 wn4 := HB3.out.trans (hb.mono HB3.out.size)
          replace OW : Hid (Own W0 wn4 74 (.slice (some ⟨wn1.heap.size, 0, none⟩) 0 0) 0 []) := Own.step (show Own W0 _ 74 _ 0 [] from OW.out) hb
          replace TH := th_next TH hb LG
          replace LG := lt_next LG hb
          refine hK.out _ _ ?_ (fun hHeld' => ?_)
          · (try dsimp only)
            exact ⟨wb_s8 (JB1.out.next HBn), HBn⟩
          clear hK K hHeld
          have hHeld := hHeld'
          clear hHeld'
          have HB4 : Hid (Below W0.heap.size W0 wn4) := HBn
          clear HBn hb
          have OL : Hid (wn1.heap.size < wn4.heap.size) := (OW.out.1.lt _ rfl).2
          have LG0 := LG
          (try simp only [Act.put, List.getElem_toArray, List.getElem_cons_zero, List.getElem_cons_succ, List.setIfInBounds_toArray, List.set_cons_zero, List.set_cons_succ])
          refine wpAnyH_take (i := 8) (v := ?_) rfl (by kernel_rfl) (by kernel_rfl) (by kernel_rfl) (fun _ _ _ h => h) (Or.inl ⟨by rfl, ?_⟩) (by assumption) ?_
          rotate_left
          · intro w' hSw
            (try dsimp only at hSw)
            go_simp
            all_goals (try with_reducible rfl)
          (try simp only [Act.put, List.getElem_toArray, List.getElem_cons_zero, List.getElem_cons_succ, List.setIfInBounds_toArray, List.set_cons_zero, List.set_cons_succ])
          obtain ⟨t0, T0⟩ := Option.isSome_iff_exists.1 (TH.out 0 (by omega)).1
          have Z0 := (TH.out 0 (by omega)).2
          obtain ⟨t1, T1⟩ := Option.isSome_iff_exists.1 (TH.out 1 (by omega)).1
          have Z1 := (TH.out 1 (by omega)).2
          obtain ⟨t2, T2⟩ := Option.isSome_iff_exists.1 (TH.out 2 (by omega)).1
          have Z2 := (TH.out 2 (by omega)).2
          obtain ⟨t3, T3⟩ := Option.isSome_iff_exists.1 (TH.out 3 (by omega)).1
          have Z3 := (TH.out 3 (by omega)).2
          refine wpAnyH_ready (rs := [10]) (by kernel_rfl) (by simp) ?_
          refine AllReadyH.cons rfl (fun K hK => ?_) AllReadyH.nil
          (try simp only [Act.put, List.getElem_toArray, List.getElem_cons_zero, List.getElem_cons_succ, List.setIfInBounds_toArray, List.set_cons_zero, List.set_cons_succ])
          go_simp
          (try simp only [])
          have J9 : Hid _ := js_new (p := P) (q := Q) (r := R) (show Own W0 _ 74 _ 0 [] from OW.out) TH.out LG.out GE.out NV.out
          have HBn := J9.out.own.2.1
          refine hK.out _ _ ?_ (fun hHeld' => ?_)
          · (try dsimp only)
            exact ⟨wb_s8 (JB1.out.next HBn), HBn⟩
          clear hK K hHeld HBn T0 T1 T2 T3 Z0 Z1 Z2 Z3 hHeld'
          (try simp only [Act.put, List.getElem_toArray, List.getElem_cons_zero, List.getElem_cons_succ, List.setIfInBounds_toArray, List.set_cons_zero, List.set_cons_succ])
          refine wpAnyH_done (by kernel_rfl) ?_ _
          go_wp2
          go_meet
          case rel => exact ⟨_, _, rfl, J9.out⟩
      · (try simp only [Act.put, List.getElem_toArray, List.getElem_cons_zero, List.getElem_cons_succ, List.setIfInBounds_toArray, List.set_cons_zero, List.set_cons_succ])
        go_simp
        refine Calls.mono (CA.out _) ?_
        rintro e wn2 ⟨rfl, hb⟩
        have HBn : Below W0.heap.size W0 wn2 := HB1.out.trans (hb.mono HB1.out.size)
        refine hK.out _ _ ?_ (fun hHeld' => ?_)
        · (try dsimp only)
          exact ⟨wb_s8 (JB1.out.next HBn), HBn⟩
        clear hK K hHeld
        have hHeld := hHeld'
        clear hHeld'
        have HB2 : Hid (Below W0.heap.size W0 wn2) := HBn
        clear HBn hb
        (try simp only [Act.put, List.getElem_toArray, List.getElem_cons_zero, List.getElem_cons_succ, List.setIfInBounds_toArray, List.set_cons_zero, List.set_cons_succ])
        refine wpAnyH_ready (rs := [0, 9]) (by kernel_rfl) (by simp) ?_
        refine AllReadyH.cons rfl (fun K hK => ?_) (AllReadyH.cons rfl (fun K hK => ?_) AllReadyH.nil)
        · (try simp only [Act.put, List.getElem_toArray, List.getElem_cons_zero, List.getElem_cons_succ, List.setIfInBounds_toArray, List.set_cons_zero, List.set_cons_succ])
          go_simp
          (try simp only [])
          have hb := bel_alloc wn2 (.cells #[] 74)
          have HBn : Below W0.heap.size W0 (wn2.alloc (.cells #[] 74)) := HB2.out.trans (hb.mono HB2.out.size)
          have OW : Hid (Own W0 (wn2.alloc (.cells #[] 74)) 74 (.slice (some ⟨wn2.heap.size, 0, none⟩) 0 0) 0 []) := Own.lit HB2.out
          refine hK.out _ _ ?_ (fun hHeld' => ?_)
          · (try dsimp only)
            exact ⟨wb_s8 (JB1.out.next HBn), HBn⟩
          clear hK K hHeld
          have hHeld := hHeld'
          clear hHeld'
          have HB3 : Hid (Below W0.heap.size W0 (wn2.alloc (.cells #[] 74))) := HBn
          clear HBn hb
          generalize (wn2.alloc (.cells #[] 74)) = wn3 at *
          have OL : Hid (wn2.heap.size < wn3.heap.size) := (OW.out.1.lt _ rfl).2
          (try simp only [Act.put, List.getElem_toArray, List.getElem_cons_zero, List.getElem_cons_succ, List.setIfInBounds_toArray, List.set_cons_zero, List.set_cons_succ])
          refine wpAnyH_take (i := 8) (v := ?_) rfl (by kernel_rfl) (by kernel_rfl) (by kernel_rfl) (fun _ _ _ h => h) (Or.inl ⟨by rfl, ?_⟩) (by assumption) ?_
          rotate_left
          · intro w' hSw
            (try dsimp only at hSw)
            go_simp
            all_goals (try with_reducible rfl)
          (try simp only [Act.put, List.getElem_toArray, List.getElem_cons_zero, List.getElem_cons_succ, List.setIfInBounds_toArray, List.set_cons_zero, List.set_cons_succ])
          refine wpAnyH_ready (rs := [9]) (by kernel_rfl) (by simp) ?_
          refine AllReadyH.cons rfl (fun K hK => ?_) AllReadyH.nil
          (try simp only [Act.put, List.getElem_toArray, List.getElem_cons_zero, List.getElem_cons_succ, List.setIfInBounds_toArray, List.set_cons_zero, List.set_cons_succ])
          go_simp
          (try simp only [])
          have hb := bel_alloc wn3 (.cells #[.slice none 0 0, .int .i64 0, .int .i64 0, .int .i64 0] 32)
          have HBn : Below W0.heap.size W0 (wn3.alloc (.cells #[.slice none 0 0, .int .i64 0, .int .i64 0, .int .i64 0] 32)) := HB3.out.trans (hb.mono HB3.out.size)
          replace OW : Hid (Own W0 (wn3.alloc (.cells #[.slice none 0 0, .int .i64 0, .int .i64 0, .int .i64 0] 32)) 74 (.slice (some ⟨wn2.heap.size, 0, none⟩) 0 0) 0 []) := Own.step (show Own W0 _ 74 _ 0 [] from OW.out) hb
          have TH : Hid (There (wn3.alloc (.cells #[.slice none 0 0, .int .i64 0, .int .i64 0, .int .i64 0] 32)) wn3.heap.size 4) := there_new
          have LG : Hid (wn3.heap.size < (wn3.alloc (.cells #[.slice none 0 0, .int .i64 0, .int .i64 0, .int .i64 0] 32)).heap.size) := lt_new
          have GE : Hid (W0.heap.size ≤ wn3.heap.size) := HB3.out.size
          have NV : Hid (wn2.heap.size ≠ wn3.heap.size) := fun e => by have := OL.out; omega
          refine hK.out _ _ ?_ (fun hHeld' => ?_)
          · (try dsimp only)
            exact ⟨wb_s8 (JB1.out.next HBn), HBn⟩
          clear hK K hHeld
          have hHeld := hHeld'
          clear hHeld'
          have HB4 : Hid (Below W0.heap.size W0 (wn3.alloc (.cells #[.slice none 0 0, .int .i64 0, .int .i64 0, .int .i64 0] 32))) := HBn
          clear HBn hb
          generalize (wn3.alloc (.cells #[.slice none 0 0, .int .i64 0, .int .i64 0, .int .i64 0] 32)) = wn4 at *
          have OL : Hid (wn2.heap.size < wn4.heap.size) := (OW.out.1.lt _ rfl).2
          have LG0 := LG
          (try simp only [Act.put, List.getElem_toArray, List.getElem_cons_zero, List.getElem_cons_succ, List.setIfInBounds_toArray, List.set_cons_zero, List.set_cons_succ])
          obtain ⟨t0, T0⟩ := Option.isSome_iff_exists.1 (TH.out 0 (by omega)).1
          have Z0 := (TH.out 0 (by omega)).2
          obtain ⟨t1, T1⟩ := Option.isSome_iff_exists.1 (TH.out 1 (by omega)).1
          have Z1 := (TH.out 1 (by omega)).2
          obtain ⟨t2, T2⟩ := Option.isSome_iff_exists.1 (TH.out 2 (by omega)).1
          have Z2 := (TH.out 2 (by omega)).2
          obtain ⟨t3, T3⟩ := Option.isSome_iff_exists.1 (TH.out 3 (by omega)).1
          have Z3 := (TH.out 3 (by omega)).2
          refine wpAnyH_ready (rs := [10]) (by kernel_rfl) (by simp) ?_
          refine AllReadyH.cons rfl (fun K hK => ?_) AllReadyH.nil
          (try simp only [Act.put, List.getElem_toArray, List.getElem_cons_zero, List.getElem_cons_succ, List.setIfInBounds_toArray, List.set_cons_zero, List.set_cons_succ])
          go_simp
          (try simp only [])
          have J9 : Hid _ := js_new (p := P) (q := Q) (r := R) (show Own W0 _ 74 _ 0 [] from OW.out) TH.out LG.out GE.out NV.out
          have HBn := J9.out.own.2.1
          refine hK.out _ _ ?_ (fun hHeld' => ?_)
          · (try dsimp only)
            exact ⟨wb_s8 (JB1.out.next HBn), HBn⟩
          clear hK K hHeld HBn T0 T1 T2 T3 Z0 Z1 Z2 Z3 hHeld'
          (try simp only [Act.put, List.getElem_toArray, List.getElem_cons_zero, List.getElem_cons_succ, List.setIfInBounds_toArray, List.set_cons_zero, List.set_cons_succ])
          refine wpAnyH_done (by kernel_rfl) ?_ _
          go_wp2
          go_meet
          case rel => exact ⟨_, _, rfl, J9.out⟩
        · (try simp only [Act.put, List.getElem_toArray, List.getElem_cons_zero, List.getElem_cons_succ, List.setIfInBounds_toArray, List.set_cons_zero, List.set_cons_succ])
          go_simp
          (try simp only [])
          have hb := bel_alloc wn2 (.cells #[.slice none 0 0, .int .i64 0, .int .i64 0, .int .i64 0] 32)
          have HBn : Below W0.heap.size W0 (wn2.alloc (.cells #[.slice none 0 0, .int .i64 0, .int .i64 0, .int .i64 0] 32)) := HB2.out.trans (hb.mono HB2.out.size)
          have TH : Hid (There (wn2.alloc (.cells #[.slice none 0 0, .int .i64 0, .int .i64 0, .int .i64 0] 32)) wn2.heap.size 4) := there_new
          have LG : Hid (wn2.heap.size < (wn2.alloc (.cells #[.slice none 0 0, .int .i64 0, .int .i64 0, .int .i64 0] 32)).heap.size) := lt_new
          have GE : Hid (W0.heap.size ≤ wn2.heap.size) := HB2.out.size
          refine hK.out _ _ ?_ (fun hHeld' => ?_)
          · (try dsimp only)
            exact ⟨wb_s8 (JB1.out.next HBn), HBn⟩
          clear hK K hHeld
          have hHeld := hHeld'
          clear hHeld'
          have HB3 : Hid (Below W0.heap.size W0 (wn2.alloc (.cells #[.slice none 0 0, .int .i64 0, .int .i64 0, .int .i64 0] 32))) := HBn
          clear HBn hb
          generalize (wn2.alloc (.cells #[.slice none 0 0, .int .i64 0, .int .i64 0, .int .i64 0] 32)) = wn3 at *
          have LG0 := LG
          (try simp only [Act.put, List.getElem_toArray, List.getElem_cons_zero, List.getElem_cons_succ, List.setIfInBounds_toArray, List.set_cons_zero, List.set_cons_succ])
          refine wpAnyH_ready (rs := [0]) (by kernel_rfl) (by simp) ?_
          refine AllReadyH.cons rfl (fun K hK => ?_) AllReadyH.nil
          (try simp only [Act.put, List.getElem_toArray, List.getElem_cons_zero, List.getElem_cons_succ, List.setIfInBounds_toArray, List.set_cons_zero, List.set_cons_succ])
          go_simp
          (try simp only [])
          have hb := bel_alloc wn3 (.cells #[] 74)
          have HBn : Below W0.heap.size W0 (wn3.alloc (.cells #[] 74)) := HB3.out.trans (hb.mono HB3.out.size)
          replace TH := th_next TH hb LG
          replace LG := lt_next LG hb
          have OW : Hid (Own W0 (wn3.alloc (.cells #[] 74)) 74 (.slice (some ⟨wn3.heap.size, 0, none⟩) 0 0) 0 []) := Own.lit HB3.out
          have NV : Hid (wn3.heap.size ≠ wn2.heap.size) := fun e => by have := LG0.out; omega
          refine hK.out _ _ ?_ (fun hHeld' => ?_)
          · (try dsimp only)
            exact ⟨wb_s8 (JB1.out.next HBn), HBn⟩
          clear hK K hHeld
          have hHeld := hHeld'
          clear hHeld'
          have HB4 : Hid (Below W0.heap.size W0 (wn3.alloc (.cells #[] 74))) := HBn
          clear HBn hb
          generalize (wn3.alloc (.cells #[] 74)) = wn4 at *
          have OL : Hid (wn3.heap.size < wn4.heap.size) := (OW.out.1.lt _ rfl).2
          have LG0 := LG
          (try simp only [Act.put, List.getElem_toArray, List.getElem_cons_zero, List.getElem_cons_succ, List.setIfInBounds_toArray, List.set_cons_zero, List.set_cons_succ])
          refine wpAnyH_take (i := 8) (v := ?_) rfl (by kernel_rfl) (by kernel_rfl) (by kernel_rfl) (fun _ _ _ h => h) (Or.inl ⟨by rfl, ?_⟩) (by assumption) ?_
          rotate_left
          · intro w' hSw
            (try dsimp only at hSw)
            go_simp
            all_goals (try with_reducible rfl)
          (try simp only [Act.put, List.getElem_toArray, List.getElem_cons_zero, List.getElem_cons_succ, List.setIfInBounds_toArray, List.set_cons_zero, List.set_cons_succ])
          obtain ⟨t0, T0⟩ := Option.isSome_iff_exists.1 (TH.out 0 (by omega)).1
          have Z0 := (TH.out 0 (by omega)).2
          obtain ⟨t1, T1⟩ := Option.isSome_iff_exists.1 (TH.out 1 (by omega)).1
          have Z1 := (TH.out 1 (by omega)).2
          obtain ⟨t2, T2⟩ := Option.isSome_iff_exists.1 (TH.out 2 (by omega)).1
          have Z2 := (TH.out 2 (by omega)).2
          obtain ⟨t3, T3⟩ := Option.isSome_iff_exists.1 (TH.out 3 (by omega)).1
          have Z3 := (TH.out 3 (by omega)).2
          refine wpAnyH_ready (rs := [10]) (by kernel_rfl) (by simp) ?_
          refine AllReadyH.cons rfl (fun K hK => ?_) AllReadyH.nil
          (try simp only [Act.put, List.getElem_toArray, List.getElem_cons_zero, List.getElem_cons_succ, List.setIfInBounds_toArray, List.set_cons_zero, List.set_cons_succ])
          go_simp
          (try simp only [])
          have J9 : Hid _ := js_new (p := P) (q := Q) (r := R) (show Own W0 _ 74 _ 0 [] from OW.out) TH.out LG.out GE.out NV.out
          have HBn := J9.out.own.2.1
          refine hK.out _ _ ?_ (fun hHeld' => ?_)
          · (try dsimp only)
            exact ⟨wb_s8 (JB1.out.next HBn), HBn⟩
          clear hK K hHeld HBn T0 T1 T2 T3 Z0 Z1 Z2 Z3 hHeld'
          (try simp only [Act.put, List.getElem_toArray, List.getElem_cons_zero, List.getElem_cons_succ, List.setIfInBounds_toArray, List.set_cons_zero, List.set_cons_succ])
          refine wpAnyH_done (by kernel_rfl) ?_ _
          go_wp2
          go_meet
          case rel => exact ⟨_, _, rfl, J9.out⟩
      · (try simp only [Act.put, List.getElem_toArray, List.getElem_cons_zero, List.getElem_cons_succ, List.setIfInBounds_toArray, List.set_cons_zero, List.set_cons_succ])
        go_simp
        (try simp only [])
        have hb := bel_alloc wn1 (.cells #[.slice none 0 0, .int .i64 0, .int .i64 0, .int .i64 0] 32)
        have HBn : Below W0.heap.size W0 (wn1.alloc (.cells #[.slice none 0 0, .int .i64 0, .int .i64 0, .int .i64 0] 32)) := HB1.out.trans (hb.mono HB1.out.size)
        have TH : Hid (There (wn1.alloc (.cells #[.slice none 0 0, .int .i64 0, .int .i64 0, .int .i64 0] 32)) wn1.heap.size 4) := there_new
        have LG : Hid (wn1.heap.size < (wn1.alloc (.cells #[.slice none 0 0, .int .i64 0, .int .i64 0, .int .i64 0] 32)).heap.size) := lt_new
        have GE : Hid (W0.heap.size ≤ wn1.heap.size) := HB1.out.size
        refine hK.out _ _ ?_ (fun hHeld' => ?_)
        · (try dsimp only)
          exact ⟨wb_s8 (JB1.out.next HBn), HBn⟩
        clear hK K hHeld
        have hHeld := hHeld'
        clear hHeld'
        have HB2 : Hid (Below W0.heap.size W0 (wn1.alloc (.cells #[.slice none 0 0, .int .i64 0, .int .i64 0, .int .i64 0] 32))) := HBn
        clear HBn hb
        generalize (wn1.alloc (.cells #[.slice none 0 0, .int .i64 0, .int .i64 0, .int .i64 0] 32)) = wn2 at *
        have LG0 := LG
        (try simp only [Act.put, List.getElem_toArray, List.getElem_cons_zero, List.getElem_cons_succ, List.setIfInBounds_toArray, List.set_cons_zero, List.set_cons_succ])
        refine wpAnyH_ready (rs := [0, 7]) (by kernel_rfl) (by simp) ?_
        refine AllReadyH.cons rfl (fun K hK => ?_) (AllReadyH.cons rfl (fun K hK => ?_) AllReadyH.nil)
        · (try simp only [Act.put, List.getElem_toArray, List.getElem_cons_zero, List.getElem_cons_succ, List.setIfInBounds_toArray, List.set_cons_zero, List.set_cons_succ])
          go_simp
          (try simp only [])
          have hb := bel_alloc wn2 (.cells #[] 74)
          have HBn : Below W0.heap.size W0 (wn2.alloc (.cells #[] 74)) := HB2.out.trans (hb.mono HB2.out.size)
          replace TH := th_next TH hb LG
          replace LG := lt_next LG hb
          have OW : Hid (Own W0 (wn2.alloc (.cells #[] 74)) 74 (.slice (some ⟨wn2.heap.size, 0, none⟩) 0 0) 0 []) := Own.lit HB2.out
          have NV : Hid (wn2.heap.size ≠ wn1.heap.size) := fun e => by have := LG0.out; omega
          refine hK.out _ _ ?_ (fun hHeld' => ?_)
          · (try dsimp only)
            exact ⟨wb_s8 (JB1.out.next HBn), HBn⟩
          clear hK K hHeld
          have hHeld := hHeld'
          clear hHeld'
          have HB3 : Hid (Below W0.heap.size W0 (wn2.alloc (.cells #[] 74))) := HBn
          clear HBn hb
          generalize (wn2.alloc (.cells #[] 74)) = wn3 at *
          have OL : Hid (wn2.heap.size < wn3.heap.size) := (OW.out.1.lt _ rfl).2
          have LG0 := LG
          (try simp only [Act.put, List.getElem_toArray, List.getElem_cons_zero, List.getElem_cons_succ, List.setIfInBounds_toArray, List.set_cons_zero, List.set_cons_succ])
          refine wpAnyH_ready (rs := [7]) (by kernel_rfl) (by simp) ?_
          refine AllReadyH.cons rfl (fun K hK => ?_) AllReadyH.nil
          (try simp only [Act.put, List.getElem_toArray, List.getElem_cons_zero, List.getElem_cons_succ, List.setIfInBounds_toArray, List.set_cons_zero, List.set_cons_succ])
          go_simp
          refine Calls.mono (CA.out _) ?_
          rintro e wn4 ⟨rfl, hb⟩
          have HBn : Below W0.heap.size W0 wn4 := HB3.out.trans (hb.mono HB3.out.size)
          replace OW : Hid (Own W0 wn4 74 (.slice (some ⟨wn2.heap.size, 0, none⟩) 0 0) 0 []) := Own.step (show Own W0 _ 74 _ 0 [] from OW.out) hb
          replace TH := th_next TH hb LG
          replace LG := lt_next LG hb
          refine hK.out _ _ ?_ (fun hHeld' => ?_)
          · (try dsimp only)
            exact ⟨wb_s8 (JB1.out.next HBn), HBn⟩
          clear hK K hHeld
          have hHeld := hHeld'
          clear hHeld'
          have HB4 : Hid (Below W0.heap.size W0 wn4) := HBn
          clear HBn hb
          have OL : Hid (wn2.heap.size < wn4.heap.size) := (OW.out.1.lt _ rfl).2
          have LG0 := LG
          (try simp only [Act.put, List.getElem_toArray, List.getElem_cons_zero, List.getElem_cons_succ, List.setIfInBounds_toArray, List.set_cons_zero, List.set_cons_succ])
          refine wpAnyH_take (i := 8) (v := ?_) rfl (by kernel_rfl) (by kernel_rfl) (by kernel_rfl) (fun _ _ _ h => h) (Or.inl ⟨by rfl, ?_⟩) (by assumption) ?_
          rotate_left
          · intro w' hSw
            (try dsimp only at hSw)
            go_simp
            all_goals (try with_reducible rfl)
          (try simp only [Act.put, List.getElem_toArray, List.getElem_cons_zero, List.getElem_cons_succ, List.setIfInBounds_toArray, List.set_cons_zero, List.set_cons_succ])
          obtain ⟨t0, T0⟩ := Option.isSome_iff_exists.1 (TH.out 0 (by omega)).1
          have Z0 := (TH.out 0 (by omega)).2
          obtain ⟨t1, T1⟩ := Option.isSome_iff_exists.1 (TH.out 1 (by omega)).1
          have Z1 := (TH.out 1 (by omega)).2
          obtain ⟨t2, T2⟩ := Option.isSome_iff_exists.1 (TH.out 2 (by omega)).1
          have Z2 := (TH.out 2 (by omega)).2
          obtain ⟨t3, T3⟩ := Option.isSome_iff_exists.1 (TH.out 3 (by omega)).1
          have Z3 := (TH.out 3 (by omega)).2
          refine wpAnyH_ready (rs := [10]) (by kernel_rfl) (by simp) ?_
          refine AllReadyH.cons rfl (fun K hK => ?_) AllReadyH.nil
          (try simp only [Act.put, List.getElem_toArray, List.getElem_cons_zero, List.getElem_cons_succ, List.setIfInBounds_toArray, List.set_cons_zero, List.set_cons_succ])
          go_simp
          (try simp only [])
          have J9 : Hid _ := js_new (p := P) (q := Q) (r := R) (show Own W0 _ 74 _ 0 [] from OW.out) TH.out LG.out GE.out NV.out
          have HBn := J9.out.own.2.1
          refine hK.out _ _ ?_ (fun hHeld' => ?_)
          · (try dsimp only)
            exact ⟨wb_s8 (JB1.out.next HBn), HBn⟩
          clear hK K hHeld HBn T0 T1 T2 T3 Z0 Z1 Z2 Z3 hHeld'
          (try simp only [Act.put, List.getElem_toArray, List.getElem_cons_zero, List.getElem_cons_succ, List.setIfInBounds_toArray, List.set_cons_zero, List.set_cons_succ])
          refine wpAnyH_done (by kernel_rfl) ?_ _
          go_wp2
          go_meet
          case rel => exact ⟨_, _, rfl, J9.out⟩
        · (try simp only [Act.put, List.getElem_toArray, List.getElem_cons_zero, List.getElem_cons_succ, List.setIfInBounds_toArray, List.set_cons_zero, List.set_cons_succ])
          go_simp
          refine Calls.mono (CA.out _) ?_
          rintro e wn3 ⟨rfl, hb⟩
          have HBn : Below W0.heap.size W0 wn3 := HB2.out.trans (hb.mono HB2.out.size)
          replace TH := th_next TH hb LG
          replace LG := lt_next LG hb
          refine hK.out _ _ ?_ (fun hHeld' => ?_)
          · (try dsimp only)
            exact ⟨wb_s8 (JB1.out.next HBn), HBn⟩
          clear hK K hHeld
          have hHeld := hHeld'
          clear hHeld'
          have HB3 : Hid (Below W0.heap.size W0 wn3) := HBn
          clear HBn hb
          have LG0 := LG
          (try simp only [Act.put, List.getElem_toArray, List.getElem_cons_zero, List.getElem_cons_succ, List.setIfInBounds_toArray, List.set_cons_zero, List.set_cons_succ])
          refine wpAnyH_ready (rs := [0]) (by kernel_rfl) (by simp) ?_
          refine AllReadyH.cons rfl (fun K hK => ?_) AllReadyH.nil
          (try simp only [Act.put, List.getElem_toArray, List.getElem_cons_zero, List.getElem_cons_succ, List.setIfInBounds_toArray, List.set_cons_zero, List.set_cons_succ])
          go_simp
          (try simp only [])
          have hb := bel_alloc wn3 (.cells #[] 74)
          have HBn : Below W0.heap.size W0 (wn3.alloc (.cells #[] 74)) := HB3.out.trans (hb.mono HB3.out.size)
          replace TH := th_next TH hb LG
          replace LG := lt_next LG hb
          have OW : Hid (Own W0 (wn3.alloc (.cells #[] 74)) 74 (.slice (some ⟨wn3.heap.size, 0, none⟩) 0 0) 0 []) := Own.lit HB3.out
          have NV : Hid (wn3.heap.size ≠ wn1.heap.size) := fun e => by have := LG0.out; omega
          refine hK.out _ _ ?_ (fun hHeld' => ?_)
          · (try dsimp only)
            exact ⟨wb_s8 (JB1.out.next HBn), HBn⟩
          clear hK K hHeld
          have hHeld := hHeld'
          clear hHeld'
          have HB4 : Hid (Below W0.heap.size W0 (wn3.alloc (.cells #[] 74))) := HBn
          clear HBn hb
          generalize (wn3.alloc (.cells #[] 74)) = wn4 at *
          have OL : Hid (wn3.heap.size < wn4.heap.size) := (OW.out.1.lt _ rfl).2
          have LG0 := LG
          (try simp only [Act.put, List.getElem_toArray, List.getElem_cons_zero, List.getElem_cons_succ, List.setIfInBounds_toArray, List.set_cons_zero, List.set_cons_succ])
          refine wpAnyH_take (i := 8) (v := ?_) rfl (by kernel_rfl) (by kernel_rfl) (by kernel_rfl) (fun _ _ _ h => h) (Or.inl ⟨by rfl, ?_⟩) (by assumption) ?_
          rotate_left
          · intro w' hSw
            (try dsimp only at hSw)
            go_simp
            all_goals (try with_reducible rfl)
          (try simp only [Act.put, List.getElem_toArray, List.getElem_cons_zero, List.getElem_cons_succ, List.setIfInBounds_toArray, List.set_cons_zero, List.set_cons_succ])
          obtain ⟨t0, T0⟩ := Option.isSome_iff_exists.1 (TH.out 0 (by omega)).1
          have Z0 := (TH.out 0 (by omega)).2
          obtain ⟨t1, T1⟩ := Option.isSome_iff_exists.1 (TH.out 1 (by omega)).1
          have Z1 := (TH.out 1 (by omega)).2
          obtain ⟨t2, T2⟩ := Option.isSome_iff_exists.1 (TH.out 2 (by omega)).1
          have Z2 := (TH.out 2 (by omega)).2
          obtain ⟨t3, T3⟩ := Option.isSome_iff_exists.1 (TH.out 3 (by omega)).1
          have Z3 := (TH.out 3 (by omega)).2
          refine wpAnyH_ready (rs := [10]) (by kernel_rfl) (by simp) ?_
          refine AllReadyH.cons rfl (fun K hK => ?_) AllReadyH.nil
          (try simp only [Act.put, List.getElem_toArray, List.getElem_cons_zero, List.getElem_cons_succ, List.setIfInBounds_toArray, List.set_cons_zero, List.set_cons_succ])
          go_simp
          (try simp only [])
          have J9 : Hid _ := js_new (p := P) (q := Q) (r := R) (show Own W0 _ 74 _ 0 [] from OW.out) TH.out LG.out GE.out NV.out
          have HBn := J9.out.own.2.1
          refine hK.out _ _ ?_ (fun hHeld' => ?_)
          · (try dsimp only)
            exact ⟨wb_s8 (JB1.out.next HBn), HBn⟩
          clear hK K hHeld HBn T0 T1 T2 T3 Z0 Z1 Z2 Z3 hHeld'
          (try simp only [Act.put, List.getElem_toArray, List.getElem_cons_zero, List.getElem_cons_succ, List.setIfInBounds_toArray, List.set_cons_zero, List.set_cons_succ])
          refine wpAnyH_done (by kernel_rfl) ?_ _
          go_wp2
          go_meet
          case rel => exact ⟨_, _, rfl, J9.out⟩
    · (try simp only [Act.put, List.getElem_toArray, List.getElem_cons_zero, List.getElem_cons_succ, List.setIfInBounds_toArray, List.set_cons_zero, List.set_cons_succ])
      go_simp
      (try simp only [])
      have hb := bel_alloc wd (.cells #[.slice none 0 0, .int .i64 0, .int .i64 0, .int .i64 0] 32)
      have HBn : Below W0.heap.size W0 (wd.alloc (.cells #[.slice none 0 0, .int .i64 0, .int .i64 0, .int .i64 0] 32)) := HBs.out.trans (hb.mono HBs.out.size)
      have TH : Hid (There (wd.alloc (.cells #[.slice none 0 0, .int .i64 0, .int .i64 0, .int .i64 0] 32)) wd.heap.size 4) := there_new
      have LG : Hid (wd.heap.size < (wd.alloc (.cells #[.slice none 0 0, .int .i64 0, .int .i64 0, .int .i64 0] 32)).heap.size) := lt_new
      have GE : Hid (W0.heap.size ≤ wd.heap.size) := HBs.out.size
      refine hK.out _ _ ?_ (fun hHeld' => ?_)
      · (try dsimp only)
        exact ⟨wb_s8 (JB1.out.next HBn), HBn⟩
      clear hK K hHeld
      have hHeld := hHeld'
      clear hHeld'
      have HB1 : Hid (Below W0.heap.size W0 (wd.alloc (.cells #[.slice none 0 0, .int .i64 0, .int .i64 0, .int .i64 0] 32))) := HBn
      clear HBn hb
      generalize (wd.alloc (.cells #[.slice none 0 0, .int .i64 0, .int .i64 0, .int .i64 0] 32)) = wn1 at *
      have LG0 := LG
      (try simp only [Act.put, List.getElem_toArray, List.getElem_cons_zero, List.getElem_cons_succ, List.setIfInBounds_toArray, List.set_cons_zero, List.set_cons_succ])
      refine wpAnyH_ready (rs := [0, 4]) (by kernel_rfl) (by simp) ?_
      refine AllReadyH.cons rfl (fun K hK => ?_) (AllReadyH.cons rfl (fun K hK => ?_) AllReadyH.nil)
      · (try simp only [Act.put, List.getElem_toArray, List.getElem_cons_zero, List.getElem_cons_succ, List.setIfInBounds_toArray, List.set_cons_zero, List.set_cons_succ])
        go_simp
        (try simp only [])
        have hb := bel_alloc wn1 (.cells #[] 74)
        have HBn : Below W0.heap.size W0 (wn1.alloc (.cells #[] 74)) := HB1.out.trans (hb.mono HB1.out.size)
        replace TH := th_next TH hb LG
        replace LG := lt_next LG hb
        have OW : Hid (Own W0 (wn1.alloc (.cells #[] 74)) 74 (.slice (some ⟨wn1.heap.size, 0, none⟩) 0 0) 0 []) := Own.lit HB1.out
        have NV : Hid (wn1.heap.size ≠ wd.heap.size) := fun e => by have := LG0.out; omega
        refine hK.out _ _ ?_ (fun hHeld' => ?_)
        · (try dsimp only)
          exact ⟨wb_s8 (JB1.out.next HBn), HBn⟩
        clear hK K hHeld
        have hHeld := hHeld'
        clear hHeld'
        have HB2 : Hid (Below W0.heap.size W0 (wn1.alloc (.cells #[] 74))) := HBn
        clear HBn hb
        generalize (wn1.alloc (.cells #[] 74)) = wn2 at *
        have OL : Hid (wn1.heap.size < wn2.heap.size) := (OW.out.1.lt _ rfl).2
        have LG0 := LG
        (try simp only [Act.put, List.getElem_toArray, List.getElem_cons_zero, List.getElem_cons_succ, List.setIfInBounds_toArray, List.set_cons_zero, List.set_cons_succ])
        refine wpAnyH_ready (rs := [4]) (by kernel_rfl) (by simp) ?_
        refine AllReadyH.cons rfl (fun K hK => ?_) AllReadyH.nil
        (try simp only [Act.put, List.getElem_toArray, List.getElem_cons_zero, List.getElem_cons_succ, List.setIfInBounds_toArray, List.set_cons_zero, List.set_cons_succ])
        go_simp
        refine Calls.mono (CM.out _) ?_
        rintro e wn3 ⟨rfl, hb⟩
        have HBn : Below W0.heap.size W0 wn3 := HB2.out.trans (hb.mono HB2.out.size)
        replace OW : Hid (Own W0 wn3 74 (.slice (some ⟨wn1.heap.size, 0, none⟩) 0 0) 0 []) := Own.step (show Own W0 _ 74 _ 0 [] from OW.out) hb
        replace TH := th_next TH hb LG
        replace LG := lt_next LG hb
        refine hK.out _ _ ?_ (fun hHeld' => ?_)
        · (try dsimp only)
          exact ⟨wb_s8 (JB1.out.next HBn), HBn⟩
        clear hK K hHeld
        have hHeld := hHeld'
        clear hHeld'
        have HB3 : Hid (Below W0.heap.size W0 wn3) := HBn
        clear HBn hb
        have OL : Hid (wn1.heap.size < wn3.heap.size) := (OW.out.1.lt _ rfl).2
        have LG0 := LG
        (try simp only [Act.put, List.getElem_toArray, List.getElem_cons_zero, List.getElem_cons_succ, List.setIfInBounds_toArray, List.set_cons_zero, List.set_cons_succ])
        refine wpAnyH_ready (rs := [7]) (by kernel_rfl) (by simp) ?_
        refine AllReadyH.cons rfl (fun K hK => ?_) AllReadyH.nil
        (try simp only [Act.put, List.getElem_toArray, List.getElem_cons_zero, List.getElem_cons_succ, List.setIfInBounds_toArray, List.set_cons_zero, List.set_cons_succ])
        go_simp
        refine Calls.mono (CA.out _) ?_
        rintro e wn4 ⟨rfl, hb⟩
        have HBn : Below W0.heap.size W0 wn4 := HB3.out.trans (hb.mono HB3.out.size)
        replace OW : Hid (Own W0 wn4 74 (.slice (some ⟨wn1.heap.size, 0, none⟩) 0 0) 0 []) := Own.step (show Own W0 _ 74 _ 0 [] from OW.out) hb
        replace TH := th_next TH hb LG
        replace LG := lt_next LG hb
        refine hK.out _ _ ?_ (fun hHeld' => ?_)
        · (try dsimp only)
          exact ⟨wb_s8 (JB1.out.next HBn), HBn⟩
        clear hK K hHeld
        have hHeld := hHeld'
        clear hHeld'
        have HB4 : Hid (Below W0.heap.size W0 wn4) := HBn
        clear HBn hb
        have OL : Hid (wn1.heap.size < wn4.heap.size) := (OW.out.1.lt _ rfl).2
        have LG0 := LG
        (try simp only [Act.put, List.getElem_toArray, List.getElem_cons_zero, List.getElem_cons_succ, List.setIfInBounds_toArray, List.set_cons_zero, List.set_cons_succ])
        refine wpAnyH_take (i := 8) (v := ?_) rfl (by kernel_rfl) (by kernel_rfl) (by kernel_rfl) (fun _ _ _ h => h) (Or.inl ⟨by rfl, ?_⟩) (by assumption) ?_
        rotate_left
        · intro w' hSw
          (try dsimp only at hSw)
          go_simp
          all_goals (try with_reducible rfl)
        (try simp only [Act.put, List.getElem_toArray, List.getElem_cons_zero, List.getElem_cons_succ, List.setIfInBounds_toArray, List.set_cons_zero, List.set_cons_succ])
        obtain ⟨t0, T0⟩ := Option.isSome_iff_exists.1 (TH.out 0 (by omega)).1
        have Z0 := (TH.out 0 (by omega)).2
        obtain ⟨t1, T1⟩ := Option.isSome_iff_exists.1 (TH.out 1 (by omega)).1
        have Z1 := (TH.out 1 (by omega)).2
        obtain ⟨t2, T2⟩ := Option.isSome_iff_exists.1 (TH.out 2 (by omega)).1
        have Z2 := (TH.out 2 (by omega)).2
        obtain ⟨t3, T3⟩ := Option.isSome_iff_exists.1 (TH.out 3 (by omega)).1
        have Z3 := (TH.out 3 (by omega)).2
        refine wpAnyH_ready (rs := [10]) (by kernel_rfl) (by simp) ?_
        refine AllReadyH.cons rfl (fun K hK => ?_) AllReadyH.nil
        (try simp only [Act.put, List.getElem_toArray, List.getElem_cons_zero, List.getElem_cons_succ, List.setIfInBounds_toArray, List.set_cons_zero, List.set_cons_succ])
        go_simp
        (try simp only [])
        have J9 : Hid _ := js_new (p := P) (q := Q) (r := R) (show Own W0 _ 74 _ 0 [] from OW.out) TH.out LG.out GE.out NV.out
        have HBn := J9.out.own.2.1
        refine hK.out _ _ ?_ (fun hHeld' => ?_)
        · (try dsimp only)
          exact ⟨wb_s8 (JB1.out.next HBn), HBn⟩
        clear hK K hHeld HBn T0 T1 T2 T3 Z0 Z1 Z2 Z3 hHeld'
        (try simp only [Act.put, List.getElem_toArray, List.getElem_cons_zero, List.getElem_cons_succ, List.setIfInBounds_toArray, List.set_cons_zero, List.set_cons_succ])
        refine wpAnyH_done (by kernel_rfl) ?_ _
        go_wp2
        go_meet
        case rel => exact ⟨_, _, rfl, J9.out⟩
      · (try simp only [Act.put, List.getElem_toArray, List.getElem_cons_zero, List.getElem_cons_succ, List.setIfInBounds_toArray, List.set_cons_zero, List.set_cons_succ])
        go_simp
        refine Calls.mono (CM.out _) ?_
        rintro e wn2 ⟨rfl, hb⟩
        have HBn : Below W0.heap.size W0 wn2 := HB1.out.trans (hb.mono HB1.out.size)
        replace TH := th_next TH hb LG
        replace LG := lt_next LG hb
        refine hK.out _ _ ?_ (fun hHeld' => ?_)
        · (try dsimp only)
          exact ⟨wb_s8 (JB1.out.next HBn), HBn⟩
        clear hK K hHeld
        have hHeld := hHeld'
        clear hHeld'
        have HB2 : Hid (Below W0.heap.size W0 wn2) := HBn
        clear HBn hb
        have LG0 := LG
        (try simp only [Act.put, List.getElem_toArray, List.getElem_cons_zero, List.getElem_cons_succ, List.setIfInBounds_toArray, List.set_cons_zero, List.set_cons_succ])
        refine wpAnyH_ready (rs := [0, 7]) (by kernel_rfl) (by simp) ?_
        refine AllReadyH.cons rfl (fun K hK => ?_) (AllReadyH.cons rfl (fun K hK => ?_) AllReadyH.nil)
        · (try simp only [Act.put, List.getElem_toArray, List.getElem_cons_zero, List.getElem_cons_succ, List.setIfInBounds_toArray, List.set_cons_zero, List.set_cons_succ])
          go_simp
          (try simp only [])
          have hb := bel_alloc wn2 (.cells #[] 74)
          have HBn : Below W0.heap.size W0 (wn2.alloc (.cells #[] 74)) := HB2.out.trans (hb.mono HB2.out.size)
          replace TH := th_next TH hb LG
          replace LG := lt_next LG hb
          have OW : Hid (Own W0 (wn2.alloc (.cells #[] 74)) 74 (.slice (some ⟨wn2.heap.size, 0, none⟩) 0 0) 0 []) := Own.lit HB2.out
          have NV : Hid (wn2.heap.size ≠ wd.heap.size) := fun e => by have := LG0.out; omega
          refine hK.out _ _ ?_ (fun hHeld' => ?_)
          · (try dsimp only)
            exact ⟨wb_s8 (JB1.out.next HBn), HBn⟩
          clear hK K hHeld
          have hHeld := hHeld'
          clear hHeld'
          have HB3 : Hid (Below W0.heap.size W0 (wn2.alloc (.cells #[] 74))) := HBn
          clear HBn hb
          generalize (wn2.alloc (.cells #[] 74)) = wn3 at *
          have OL : Hid (wn2.heap.size < wn3.heap.size) := (OW.out.1.lt _ rfl).2
          have LG0 := LG
          (try simp only [Act.put, List.getElem_toArray, List.getElem_cons_zero, List.getElem_cons_succ, List.setIfInBounds_toArray, List.set_cons_zero, List.set_cons_succ])
          refine wpAnyH_ready (rs := [7]) (by kernel_rfl) (by simp) ?_
          refine AllReadyH.cons rfl (fun K hK => ?_) AllReadyH.nil
          (try simp only [Act.put, List.getElem_toArray, List.getElem_cons_zero, List.getElem_cons_succ, List.setIfInBounds_toArray, List.set_cons_zero, List.set_cons_succ])
          go_simp
          refine Calls.mono (CA.out _) ?_
          rintro e wn4 ⟨rfl, hb⟩
          have HBn : Below W0.heap.size W0 wn4 := HB3.out.trans (hb.mono HB3.out.size)
          replace OW : Hid (Own W0 wn4 74 (.slice (some ⟨wn2.heap.size, 0, none⟩) 0 0) 0 []) := Own.step (show Own W0 _ 74 _ 0 [] from OW.out) hb
          replace TH := th_next TH hb LG
          replace LG := lt_next LG hb
          refine hK.out _ _ ?_ (fun hHeld' => ?_)
          · (try dsimp only)
            exact ⟨wb_s8 (JB1.out.next HBn), HBn⟩
          clear hK K hHeld
          have hHeld := hHeld'
          clear hHeld'
          have HB4 : Hid (Below W0.heap.size W0 wn4) := HBn
          clear HBn hb
          have OL : Hid (wn2.heap.size < wn4.heap.size) := (OW.out.1.lt _ rfl).2
          have LG0 := LG
          (try simp only [Act.put, List.getElem_toArray, List.getElem_cons_zero, List.getElem_cons_succ, List.setIfInBounds_toArray, List.set_cons_zero, List.set_cons_succ])
          refine wpAnyH_take (i := 8) (v := ?_) rfl (by kernel_rfl) (by kernel_rfl) (by kernel_rfl) (fun _ _ _ h => h) (Or.inl ⟨by rfl, ?_⟩) (by assumption) ?_
          rotate_left
          · intro w' hSw
            (try dsimp only at hSw)
            go_simp
            all_goals (try with_reducible rfl)
          (try simp only [Act.put, List.getElem_toArray, List.getElem_cons_zero, List.getElem_cons_succ, List.setIfInBounds_toArray, List.set_cons_zero, List.set_cons_succ])
          obtain ⟨t0, T0⟩ := Option.isSome_iff_exists.1 (TH.out 0 (by omega)).1
          have Z0 := (TH.out 0 (by omega)).2
          obtain ⟨t1, T1⟩ := Option.isSome_iff_exists.1 (TH.out 1 (by omega)).1
          have Z1 := (TH.out 1 (by omega)).2
          obtain ⟨t2, T2⟩ := Option.isSome_iff_exists.1 (TH.out 2 (by omega)).1
          have Z2 := (TH.out 2 (by omega)).2
          obtain ⟨t3, T3⟩ := Option.isSome_iff_exists.1 (TH.out 3 (by omega)).1
          have Z3 := (TH.out 3 (by omega)).2
          refine wpAnyH_ready (rs := [10]) (by kernel_rfl) (by simp) ?_
          refine AllReadyH.cons rfl (fun K hK => ?_) AllReadyH.nil
          (try simp only [Act.put, List.getElem_toArray, List.getElem_cons_zero, List.getElem_cons_succ, List.setIfInBounds_toArray, List.set_cons_zero, List.set_cons_succ])
          go_simp
          (try simp only [])
          have J9 : Hid _ := js_new (p := P) (q := Q) (r := R) (show Own W0 _ 74 _ 0 [] from OW.out) TH.out LG.out GE.out NV.out
          have HBn := J9.out.own.2.1
          refine hK.out _ _ ?_ (fun hHeld' => ?_)
          · (try dsimp only)
            exact ⟨wb_s8 (JB1.out.next HBn), HBn⟩
          clear hK K hHeld HBn T0 T1 T2 T3 Z0 Z1 Z2 Z3 hHeld'
          (try simp only [Act.put, List.getElem_toArray, List.getElem_cons_zero, List.getElem_cons_succ, List.setIfInBounds_toArray, List.set_cons_zero, List.set_cons_succ])
          refine wpAnyH_done (by kernel_rfl) ?_ _
          go_wp2
          go_meet
          case rel => exact ⟨_, _, rfl, J9.out⟩
        · (try simp only [Act.put, List.getElem_toArray, List.getElem_cons_zero, List.getElem_cons_succ, List.setIfInBounds_toArray, List.set_cons_zero, List.set_cons_succ])
          go_simp
          refine Calls.mono (CA.out _) ?_
          rintro e wn3 ⟨rfl, hb⟩
          have HBn : Below W0.heap.size W0 wn3 := HB2.out.trans (hb.mono HB2.out.size)
          replace TH := th_next TH hb LG
          replace LG := lt_next LG hb
          refine hK.out _ _ ?_ (fun hHeld' => ?_)
          · (try dsimp only)
            exact ⟨wb_s8 (JB1.out.next HBn), HBn⟩
          clear hK K hHeld
          have hHeld := hHeld'
          clear hHeld'
          have HB3 : Hid (Below W0.heap.size W0 wn3) := HBn
          clear HBn hb
          have LG0 := LG
          (try simp only [Act.put, List.getElem_toArray, List.getElem_cons_zero, List.getElem_cons_succ, List.setIfInBounds_toArray, List.set_cons_zero, List.set_cons_succ])
          refine wpAnyH_ready (rs := [0]) (by kernel_rfl) (by simp) ?_
          refine AllReadyH.cons rfl (fun K hK => ?_) AllReadyH.nil
          (try simp only [Act.put, List.getElem_toArray, List.getElem_cons_zero, List.getElem_cons_succ, List.setIfInBounds_toArray, List.set_cons_zero, List.set_cons_succ])
          go_simp
          (try simp only [])
          have hb := bel_alloc wn3 (.cells #[] 74)
          have HBn : Below W0.heap.size W0 (wn3.alloc (.cells #[] 74)) := HB3.out.trans (hb.mono HB3.out.size)
          replace TH := th_next TH hb LG
          replace LG := lt_next LG hb
          have OW : Hid (Own W0 (wn3.alloc (.cells #[] 74)) 74 (.slice (some ⟨wn3.heap.size, 0, none⟩) 0 0) 0 []) := Own.lit HB3.out
          have NV : Hid (wn3.heap.size ≠ wd.heap.size) := fun e => by have := LG0.out; omega
          refine hK.out _ _ ?_ (fun hHeld' => ?_)
          · (try dsimp only)
            exact ⟨wb_s8 (JB1.out.next HBn), HBn⟩
          clear hK K hHeld
          have hHeld := hHeld'
          clear hHeld'
          have HB4 : Hid (Below W0.heap.size W0 (wn3.alloc (.cells #[] 74))) := HBn
          clear HBn hb
          generalize (wn3.alloc (.cells #[] 74)) = wn4 at *
          have OL : Hid (wn3.heap.size < wn4.heap.size) := (OW.out.1.lt _ rfl).2
          have LG0 := LG
          (try simp only [Act.put, List.getElem_toArray, List.getElem_cons_zero, List.getElem_cons_succ, List.setIfInBounds_toArray, List.set_cons_zero, List.set_cons_succ])
          refine wpAnyH_take (i := 8) (v := ?_) rfl (by kernel_rfl) (by kernel_rfl) (by kernel_rfl) (fun _ _ _ h => h) (Or.inl ⟨by rfl, ?_⟩) (by assumption) ?_
          rotate_left
          · intro w' hSw
            (try dsimp only at hSw)
            go_simp
            all_goals (try with_reducible rfl)
          (try simp only [Act.put, List.getElem_toArray, List.getElem_cons_zero, List.getElem_cons_succ, List.setIfInBounds_toArray, List.set_cons_zero, List.set_cons_succ])
          obtain ⟨t0, T0⟩ := Option.isSome_iff_exists.1 (TH.out 0 (by omega)).1
          have Z0 := (TH.out 0 (by omega)).2
          obtain ⟨t1, T1⟩ := Option.isSome_iff_exists.1 (TH.out 1 (by omega)).1
          have Z1 := (TH.out 1 (by omega)).2
          obtain ⟨t2, T2⟩ := Option.isSome_iff_exists.1 (TH.out 2 (by omega)).1
          have Z2 := (TH.out 2 (by omega)).2
          obtain ⟨t3, T3⟩ := Option.isSome_iff_exists.1 (TH.out 3 (by omega)).1
          have Z3 := (TH.out 3 (by omega)).2
          refine wpAnyH_ready (rs := [10]) (by kernel_rfl) (by simp) ?_
          refine AllReadyH.cons rfl (fun K hK => ?_) AllReadyH.nil
          (try simp only [Act.put, List.getElem_toArray, List.getElem_cons_zero, List.getElem_cons_succ, List.setIfInBounds_toArray, List.set_cons_zero, List.set_cons_succ])
          go_simp
          (try simp only [])
          have J9 : Hid _ := js_new (p := P) (q := Q) (r := R) (show Own W0 _ 74 _ 0 [] from OW.out) TH.out LG.out GE.out NV.out
          have HBn := J9.out.own.2.1
          refine hK.out _ _ ?_ (fun hHeld' => ?_)
          · (try dsimp only)
            exact ⟨wb_s8 (JB1.out.next HBn), HBn⟩
          clear hK K hHeld HBn T0 T1 T2 T3 Z0 Z1 Z2 Z3 hHeld'
          (try simp only [Act.put, List.getElem_toArray, List.getElem_cons_zero, List.getElem_cons_succ, List.setIfInBounds_toArray, List.set_cons_zero, List.set_cons_succ])
          refine wpAnyH_done (by kernel_rfl) ?_ _
          go_wp2
          go_meet
          case rel => exact ⟨_, _, rfl, J9.out⟩
  case rest =>
    obtain ⟨ob, vo0, rfl, J20⟩ := hcut
    have J2 : Hid (JS W0 wc ob vo0 0 0 P Q R []) := J20
    clear J20 CM CA
    go_wp2
    go_loopw [8] (fun s8 wr => ∃ (i : Nat) (vo : Option Addr) (n vc : Nat) (m : List Sib), i ≤ l.length ∧ s8 = .int .i64 i ∧ m = fil x y z (l.take i) ∧ JS W0 wr ob vo n vc P Q R m) (fun s8 _ => l.length - (intOf s8).toNat)
    case atStart => exact ⟨0, _, _, _, [], by omega, rfl, by simp [fil], J2.out⟩
    case round =>
      clear J2
      obtain ⟨i, vo, n, vc, m, hil, rfl, hM0, hJ0⟩ := hrel
      have hM : Hid (m = fil x y z (l.take i)) := hM0
      have hN : Hid (m.length ≤ i) := by show _ ≤ _; rw [hM0]; exact fil_le x y z l i
      have hJ : Hid (JS W0 wr ob vo n vc P Q R m) := hJ0
      have hL : Hid (n = m.length) := hJ0.len
      have hb0 : Hid (Below W0.heap.size W0 wr) := hJ0.own.2.1
      obtain ⟨⟨ca0, ca1, ca2, ca3⟩, ⟨cb0, cb1, cb2⟩, cs, hTr, hz⟩ := JB1.out.next hb0.out
      clear hJ0 hM0 ca1 ca2 ca3
      by_cases hkl : i < l.length
      · have hkl' : (i : Int) < (l.length : Int) := by omega
        have kk : (0 : Int) ≤ (i : Int) := by omega
        rcases row_of_below RA hb0 with h' | ⟨p, off, rfl, h2⟩
        · rw [h'] at hkl; simp at hkl
        obtain ⟨x0, x1, x2, x3⟩ := h2 i hkl
        obtain ⟨nd0, nd3⟩ := HN1.out i hkl
        clear h2 cs hTr hz
        go_wp2_with fail
        refine wp_region_held_drew (S := (fun w' => (w'.cell? ⟨w.heap.size + 1, 0, none⟩ = some (.int .i64 x) ∧ w'.cell? ⟨w.heap.size + 1, 1, none⟩ = some (.int .i64 y) ∧ w'.cell? ⟨w.heap.size + 1, 2, none⟩ = some (.int .i64 z)) ∧ w'.cell? ⟨w.heap.size, 0, none⟩ = some (.slice (some ⟨p, off, none⟩) l.length cap) ∧ (w'.cell? ⟨p, off + i * 4, none⟩ = some (.int .i64 l[i].p) ∧ w'.cell? ⟨p, off + i * 4 + 1, none⟩ = some (.int .i64 l[i].n)) ∧ Below wr.heap.size wr w')) (by kernel_rfl) ?_ (fun hHeld => ?_)
        · (try dsimp only)
          exact ⟨⟨cb0, cb1, cb2⟩, ca0, ⟨x0, x1⟩, bel_drew _⟩
        refine wpAnyH_take (i := 0) (v := ?_) rfl (by kernel_rfl) (by kernel_rfl) (by kernel_rfl) (fun _ _ _ h => h) (Or.inl ⟨by rfl, ?_⟩) (by assumption) ?_
        rotate_left
        · intro w' hSw
          (try dsimp only at hSw)
          go_simp
          all_goals (try with_reducible rfl)
        (try simp only [Act.put, List.getElem_toArray, List.getElem_cons_zero, List.getElem_cons_succ, List.setIfInBounds_toArray, List.set_cons_zero, List.set_cons_succ])
        refine wpAnyH_take (i := 1) (v := ?_) rfl (by kernel_rfl) (by kernel_rfl) (by kernel_rfl) (fun _ _ _ h => h) (Or.inl ⟨by rfl, ?_⟩) (by assumption) ?_
        rotate_left
        · intro w' hSw
          (try dsimp only at hSw)
          go_simp
          all_goals (try with_reducible rfl)
        (try simp only [Act.put, List.getElem_toArray, List.getElem_cons_zero, List.getElem_cons_succ, List.setIfInBounds_toArray, List.set_cons_zero, List.set_cons_succ])
        refine wpAnyH_take (i := 2) (v := ?_) rfl (by kernel_rfl) (by kernel_rfl) (by kernel_rfl) (fun _ _ _ h => h) (Or.inl ⟨by rfl, ?_⟩) (by assumption) ?_
        rotate_left
        · intro w' hSw
          (try dsimp only at hSw)
          go_simp
          all_goals (try with_reducible rfl)
        (try simp only [Act.put, List.getElem_toArray, List.getElem_cons_zero, List.getElem_cons_succ, List.setIfInBounds_toArray, List.set_cons_zero, List.set_cons_succ])
        refine wpAnyH_take (i := 3) (v := ?_) rfl (by kernel_rfl) (by kernel_rfl) (by kernel_rfl) (fun _ _ _ h => h) (Or.inl ⟨by rfl, ?_⟩) (by assumption) ?_
        rotate_left
        · intro w' hSw
          (try dsimp only at hSw)
          go_simp
          all_goals (try with_reducible rfl)
        (try simp only [Act.put, List.getElem_toArray, List.getElem_cons_zero, List.getElem_cons_succ, List.setIfInBounds_toArray, List.set_cons_zero, List.set_cons_succ])
        refine wpAnyH_take (i := 4) (v := ?_) rfl (by kernel_rfl) (by kernel_rfl) (by kernel_rfl) (fun _ _ _ h => h) (Or.inl ⟨by rfl, ?_⟩) (by assumption) ?_
        rotate_left
        · intro w' hSw
          (try dsimp only at hSw)
          go_simp
          all_goals (try with_reducible rfl)
        (try simp only [Act.put, List.getElem_toArray, List.getElem_cons_zero, List.getElem_cons_succ, List.setIfInBounds_toArray, List.set_cons_zero, List.set_cons_succ])
        refine wpAnyH_take (i := 5) (v := ?_) rfl (by kernel_rfl) (by kernel_rfl) (by kernel_rfl) (fun _ _ _ h => h) (Or.inl ⟨by rfl, ?_⟩) (by assumption) ?_
        rotate_left
        · intro w' hSw
          (try dsimp only at hSw)
          go_simp
          all_goals (try with_reducible rfl)
        (try simp only [Act.put, List.getElem_toArray, List.getElem_cons_zero, List.getElem_cons_succ, List.setIfInBounds_toArray, List.set_cons_zero, List.set_cons_succ])
        refine wpAnyH_take (i := 6) (v := ?_) rfl (by kernel_rfl) (by kernel_rfl) (by kernel_rfl) (fun _ _ _ h => h) (Or.inl ⟨by rfl, ?_⟩) (by assumption) ?_
        rotate_left
        · intro w' hSw
          (try dsimp only at hSw)
          go_simp
          all_goals (try with_reducible rfl)
        (try simp only [Act.put, List.getElem_toArray, List.getElem_cons_zero, List.getElem_cons_succ, List.setIfInBounds_toArray, List.set_cons_zero, List.set_cons_succ])
        refine wpAnyH_ready (rs := [7]) (by kernel_rfl) (by simp) ?_
        refine AllReadyH.cons rfl (fun K hK => ?_) AllReadyH.nil
        (try simp only [Act.put, List.getElem_toArray, List.getElem_cons_zero, List.getElem_cons_succ, List.setIfInBounds_toArray, List.set_cons_zero, List.set_cons_succ])
        go_simp
        (go_at_call 43; refine (l01has_any x y z l[i].p l[i].n _ nd0 nd3).mono ?_; rintro e w3 ⟨rfl, hb⟩)
        (try simp only [])
        refine hK.out _ _ ?_ (fun hHeld' => ?_)
        · (try dsimp only)
          exact ⟨⟨cell_next hb hHeld.1.1 (cell_lt hHeld.1.1), cell_next hb hHeld.1.2.1 (cell_lt hHeld.1.2.1), cell_next hb hHeld.1.2.2 (cell_lt hHeld.1.2.2)⟩, cell_next hb hHeld.2.1 (cell_lt hHeld.2.1), ⟨cell_next hb hHeld.2.2.1.1 (cell_lt hHeld.2.2.1.1), cell_next hb hHeld.2.2.1.2 (cell_lt hHeld.2.2.1.2)⟩, (bel_next' hHeld.2.2.2 hb).out⟩
        clear hK K
        clear hHeld
        have hHeld := hHeld'
        clear hHeld'
        clear hb
        (try simp only [Act.put, List.getElem_toArray, List.getElem_cons_zero, List.getElem_cons_succ, List.setIfInBounds_toArray, List.set_cons_zero, List.set_cons_succ])
        refine wpAnyH_take (i := 8) (v := ?_) rfl (by kernel_rfl) (by kernel_rfl) (by kernel_rfl) (fun _ _ _ h => h) (Or.inl ⟨by rfl, ?_⟩) (by assumption) ?_
        rotate_left
        · intro w' hSw
          (try dsimp only at hSw)
          go_simp
          all_goals (try with_reducible rfl)
        (try simp only [Act.put, List.getElem_toArray, List.getElem_cons_zero, List.getElem_cons_succ, List.setIfInBounds_toArray, List.set_cons_zero, List.set_cons_succ])
        refine wpAnyH_done (by kernel_rfl) ?_ _
        have hb3 : Hid (Below wr.heap.size wr _) := hHeld.2.2.2
        have JX : Hid (JS W0 _ ob vo n vc P Q R m) := hJ.out.next hb3.out
        have ca0' := hHeld.2.1
        have x0' := hHeld.2.2.1.1
        have x1' := hHeld.2.2.1.2
        have x2' := cell_next hb3.out x2 (cell_lt x2)
        have x3' := cell_next hb3.out x3 (cell_lt x3)
        clear hHeld x0 x1 x2 x3 ca0 cb0 cb1 cb2
        cases hd : decide (l[i].n ≤ comp x y z l[i].p)
        · have HM' : Hid (m ++ [l[i]] = fil x y z (l.take (i + 1))) := by show _ = _; rw [hM.out]; exact (fil_hit hkl hd).symm
          have hB9 := JX.out.box
          obtain ⟨⟨o0, o1, o2, o3⟩, hT9, hz9⟩ := hB9
          have hf9 := (hT9 0 (by omega)).2
          clear o1 o2 o3 hT9
          have JD : Hid (JS W0 w3.drew ob vo n vc P Q R m) := JX.out.next (bel_drew _)
          have hn6 : n + 1 ≤ maxLen := by have := hL.out; have := hN.out; unfold maxLen; omega
          have hn7 : (n + 1) * 32 ≤ 140737488355328 := by have := hL.out; have := hN.out; omega
          go_wp2_with fail
          go_region_law_o (refine step_append3 rfl (.tmp 35) (.tmp 41) 29 rfl 74 i0 (.agg #[.int .i64 0, .int .i64 0, .int .i64 0, .bool false]) 32 Tryd.underlying29 HI.out.1 HI.out.2.1 HI.out.2.2.1 HI.out.2.2.2 rfl (.slice vo n vc) n (flat m) (by simp [Act.eval, Act.put]) (JD.out.next (bel_alloc _ _)).own.1 _ 1 1 [l[i]] (by simp [Act.eval, Act.put]) src_one hn6 hn7 ?_; intro v' w6 ho6 hg6; obtain ⟨vo', vc', rfl, hJ6⟩ := (JD.out.next (bel_alloc _ _)).put (m' := m ++ [l[i]]) (.inl rfl) (own_cast ho6 rfl (by rw [flat_append])) (by have := hL.out; simp; omega) hg6; have o6 := hg6.cell (JD.out.next (bel_alloc _ _)).box.1.1 JD.out.ne; have f6 := (th_gro ((JD.out.next (bel_alloc _ _)).box.2.1) hg6 ((JD.out.next (bel_alloc _ _)).box.2.2) JD.out.ne 0 (by omega)).2; have J6 : Hid _ := hJ6; clear ho6 hg6 hJ6)
          all_goals clear o0 hf9 x0' x1' x2' x3' ca0'
          all_goals
            go_wp2
            go_roundw
            case rel => first | exact ⟨i + 1, _, _, _, m ++ [l[i]], by omega, by go_num, HM'.out, J6.out⟩ | ((repeat apply Exists.intro); exact ⟨⟨i + 1, _, _, _, m ++ [l[i]], by omega, by go_num, HM'.out, J6.out⟩, rfl⟩)
            case measure => simp [intOf]; omega
        · have HM' : Hid (m = fil x y z (l.take (i + 1))) := by show _ = _; rw [hM.out]; exact (fil_miss hkl hd).symm
          clear x0' x1' x2' x3' ca0'
          go_wp2
          go_roundw
          case rel => first | exact ⟨i + 1, _, _, _, m, by omega, by go_num, HM'.out, JX.out⟩ | ((repeat apply Exists.intro); exact ⟨⟨i + 1, _, _, _, m, by omega, by go_num, HM'.out, JX.out⟩, rfl⟩)
          case measure => simp [intOf]; omega
      · have hkl' : ¬ (i : Int) < (l.length : Int) := by omega
        have hM1 : Hid (m = fil x y z l) := by have := hM.out; rw [List.take_of_length_le (by omega)] at this; exact this
        obtain ⟨s0, s1, s2, s3⟩ := cs
        obtain ⟨⟨o0, o1, o2, o3⟩, hT9, hz9⟩ := hJ.out.box
        have of0 := (hT9 0 (by omega)).2
        go_wp2_with fail
        refine (put_gen n vc vo m s _ hL.out (by have := hN.out; omega) hJ.out.cap hJ.out.row).mono ?_
        rintro e w6 ⟨v', rfl, ho6, hg6⟩
        obtain ⟨vo', vc', rfl, hJ6⟩ := hJ.out.put (m' := pt s m) (.inr rfl) ho6 rfl hg6
        have p0 := hg6.cell o0 Gro.none_ne
        have f6 := (th_gro hT9 hg6 hz9 Gro.none_ne 0 (by omega)).2
        obtain ⟨⟨q0, q1, q2, q3⟩, hT7, hz7⟩ := hJ6.box
        obtain ⟨_, _, _, hTr7, _⟩ := JB1.out.next hJ6.own.2.1
        obtain ⟨t0, T0⟩ := Option.isSome_iff_exists.1 (hTr7 0 (by omega)).1
        obtain ⟨t1, T1⟩ := Option.isSome_iff_exists.1 (hTr7 1 (by omega)).1
        obtain ⟨t2, T2⟩ := Option.isSome_iff_exists.1 (hTr7 2 (by omega)).1
        obtain ⟨t3, T3⟩ := Option.isSome_iff_exists.1 (hTr7 3 (by omega)).1
        have Z0 := (hTr7 0 (by omega)).2
        have Z1 := (hTr7 1 (by omega)).2
        have Z2 := (hTr7 2 (by omega)).2
        have Z3 := (hTr7 3 (by omega)).2
        have O5 : Hid (_ ∧ _) := ⟨hJ6.own.1, hJ6.own.gro⟩
        clear hTr7 hT7 hz7 hTr hT9 hz9 hz ca0 cb0 cb1 cb2 s0 s1 s2 s3 o0 o1 o2 o3 of0 ho6 hg6 hJ6
        go_upto_region 8 with fail
        generalize w6.setCell ⟨ob, 0, none⟩ (.slice vo' (pt s m).length vc') = w7 at *
        clear p0 f6
        go_wp2
        refine bodyPost_ret (v := .agg #[.slice vo' (pt s m).length vc', .int .i64 P, .int .i64 Q, .int .i64 R]) (by simp [results, Tryd.results58, go_sem, T0, T1, T2, T3, Z0, Z1, Z2, Z3]) rfl ⟨_, rfl, ?_, ?_⟩
        · exact Gro.set4 (GW.out.trans O5.out.2) (by omega)
        · have hne : (Value.slice vo' (pt s m).length vc').ownBlock ≠ some (w.heap.size + 1 + 1 + 1) := nb O5.out.2 JB1.out.2.2.2.2
          exact own_cast (ownsRow_setCell_other (ownsRow_setCell_other (ownsRow_setCell_other (ownsRow_setCell_other O5.out.1 hne _) hne _) hne _) hne _) (by rw [hM1.out]) (by rw [hM1.out])
end Go.Proofs.YtcmniplbiliobaaDoor
