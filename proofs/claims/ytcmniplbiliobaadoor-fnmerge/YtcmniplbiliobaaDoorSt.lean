/- Stale replicas, of both sides. -/
import Derived.Test.YtcmniplbiliobaaDoorRows
import Derived.WalkKit
import Derived.WalkSpells
import Derived.WalkLawsBesides
import Derived.Deep.QuietTactic
import Derived.BigQuiet
import Derived.Deep.RegionHeld3
import Derived.Test.YtcmniplbiliobaaDoorMg
import Derived.Test.YtcmniplbiliobaaDoorIq
import Derived.Test.YtcmniplbiliobaaDoorSm
import Derived.Test.YtcmniplbiliobaaDoorSg
import Derived.LoopN
namespace Go.Proofs.YtcmniplbiliobaaDoor
open Go.RowKit
set_option linter.unusedSimpArgs false
set_option linter.unusedVariables false

theorem nan_any (x : Int) (w : World) : Calls Tryd.prog 98 #[.int .i64 x] w fun e w' => e = .returned (.bool false) ∧ Below w.heap.size w w' := by
  go_enter Tryd.func98, Tryd.ntmps98
  go_wp2
  go_ret
  exact ⟨by first | rfl | simp, Below.refl _ _⟩
theorem less_any (x y : Int) (w : World) (h : x < y) : Calls Tryd.prog 86 #[.int .i64 x, .int .i64 y] w fun e w' => e = .returned (.bool true) ∧ Below w.heap.size w w' := by
  go_enter Tryd.func86, Tryd.ntmps86
  go_wp2_with fail
  refine (nan_any x _).mono ?_
  rintro e w1 ⟨rfl, hb⟩
  go_wp2
  go_ret
  exact ⟨by first | rfl | simp, hb⟩

set_option maxHeartbeats 1000000 in
theorem search_0 (ao : Option Addr) (cap : Nat) (t : Int) (w : World) :
    Calls Tryd.prog 65 #[(.slice ao 0 cap), .int .i64 t] w fun e w' => e = .returned (.tuple #[.int .i64 0, .bool false]) ∧ Below w.heap.size w w' := by
  go_enter Tryd.func65, Tryd.ntmps65
  go_wp2
  refine wp_loop_rounds 3 ?_
  rw [rounds_succ]
  go_wp2
  go_ret2
  exact ⟨by first | rfl | simp, Below.refl _ _⟩

set_option maxHeartbeats 1000000 in
theorem search_1 (g cap : Nat) (x0 t : Int) (w : World) (c0 : w.cell? ⟨g, 0, none⟩ = some (.int .i64 x0)) (h0 : x0 < t) :
    Calls Tryd.prog 65 #[(.slice (some ⟨g, 0, none⟩) 1 cap), .int .i64 t] w fun e w' => e = .returned (.tuple #[.int .i64 1, .bool false]) ∧ Below w.heap.size w w' := by
  go_enter Tryd.func65, Tryd.ntmps65
  go_wp2
  refine wp_loop_rounds 3 ?_
  rw [rounds_succ]
  go_wp2_with fail
  refine (less_any x0 t _ h0).mono ?_
  rintro e w1 ⟨rfl, hb⟩
  go_wp2
  rw [rounds_succ]
  go_wp2
  go_ret2
  exact ⟨by first | rfl | simp, hb⟩

set_option maxHeartbeats 1000000 in
theorem search_2 (g cap : Nat) (x0 x1 t : Int) (w : World) (c1 : w.cell? ⟨g, 1, none⟩ = some (.int .i64 x1)) (h1 : x1 < t) :
    Calls Tryd.prog 65 #[(.slice (some ⟨g, 0, none⟩) 2 cap), .int .i64 t] w fun e w' => e = .returned (.tuple #[.int .i64 2, .bool false]) ∧ Below w.heap.size w w' := by
  go_enter Tryd.func65, Tryd.ntmps65
  go_wp2
  refine wp_loop_rounds 3 ?_
  rw [rounds_succ]
  go_wp2_with fail
  refine (less_any x1 t _ h1).mono ?_
  rintro e w1 ⟨rfl, hb⟩
  go_wp2
  rw [rounds_succ]
  go_wp2
  go_ret2
  exact ⟨by first | rfl | simp, hb⟩

def Lss (zs : List Int) (t : Int) : Prop := ∀ z ∈ zs, z < t
theorem search_any (ao : Option Addr) (cap : Nat) (zs : List Int) (t : Int) (w : World) (hz : zs.length ≤ 2) (hl : Lss zs t) (hr : w.ownsRow 0 3 1 (.slice ao zs.length cap) zs.length (zs.map (Value.int .i64))) :
    Calls Tryd.prog 65 #[.slice ao zs.length cap, .int .i64 t] w fun e w' => e = .returned (.tuple #[.int .i64 zs.length, .bool false]) ∧ Below w.heap.size w w' := by
  have hg : 0 < zs.length → ∃ g, ao = some ⟨g, 0, none⟩ := fun hp => by
    rcases hr.2 with ⟨_, h⟩ | ⟨g, cp, cur, e, _⟩
    · omega
    · cases e; exact ⟨g, rfl⟩
  match zs, hz, hl, hr, hg with
  | [], _, _, _, _ => exact search_0 ao cap t w
  | [x], _, hl, hr, hg =>
    obtain ⟨g, rfl⟩ := hg (by simp)
    exact search_1 g cap x t w (by rw [hr.cellAt 0 (by simp)]; rfl) (hl x (by simp))
  | [x, y], _, hl, hr, hg =>
    obtain ⟨g, rfl⟩ := hg (by simp)
    exact search_2 g cap x y t w (by rw [hr.cellAt 1 (by simp)]; rfl) (hl y (by simp))
set_option maxHeartbeats 1000000 in
theorem insert_any (ao : Option Addr) (n cap g : Nat) (zs : List Value) (x : Int) (w : World) (hn : n ≤ 2) (hcap : n ≤ cap) (ho0 : w.ownsRow 0 3 1 (.slice ao n cap) n zs) (hc : w.cell? ⟨g, 0, none⟩ = some (.int .i64 x)) :
    Calls Tryd.prog 66 #[.slice ao n cap, .int .i64 n, .slice (some ⟨g, 0, none⟩) 1 1] w fun e w' => ∃ v, e = .returned v ∧ Gro w w' (.slice ao n cap) v ∧ w'.ownsRow 0 3 1 v (n + 1) (zs ++ [.int .i64 x]) := by
  obtain ⟨i0, hi, hz0, hz1, hz2⟩ := info_parts info_int
  have HI : Hid (Tryd.prog.info? 3 = some i0 ∧ i0.zero = some (.int .i64 0) ∧ i0.size = 1 ∧ i0.bytes = 8) := ⟨hi, hz0, hz1, hz2⟩
  clear hi hz0 hz1 hz2
  have HO : Hid (w.ownsRow 0 3 1 (.slice ao n cap) n zs) := ho0
  have HC : Hid (∀ j u, ([Value.int .i64 x])[j]? = some u → w.cell? ((⟨g, 0, none⟩ : Addr).add j) = some u) := fun j u hu => by
    match j, hu with
    | 0, hu => simp at hu; subst hu; simpa [Addr.add] using hc
  have k1 : (n : Int) ≤ (cap : Int) := by omega
  have k0 : (0 : Int) ≤ (n : Int) := by omega
  clear ho0 hc
  by_cases hcn : n = cap
  · subst hcn
    go_enter Tryd.func66, Tryd.ntmps66
    go_wp2_with (first | (at_builtin; refine wpList_append2 rfl _ _ 41 rfl 3 i0 (.int .i64 0) 1 8 Tryd.underlying41 HI.out.1 HI.out.2.1 HI.out.2.2.1 HI.out.2.2.2 rfl (by decide) _ _ _ rfl HO.out ⟨g, 0, none⟩ 1 1 [.int .i64 x] rfl rfl HC.out int_one (by unfold maxLen; omega) (by omega) ?_) | go_in)
    intro v w1 ho hg
    have O1 : Hid (w1.ownsRow 0 3 1 v (n + 1) (zs ++ [.int .i64 x])) := ho
    have G1 : Hid (Gro w w1 _ v) := hg
    clear ho hg
    go_wp2
    go_ret
    exact ⟨_, rfl, G1.out, O1.out⟩
  · have hcn' : ¬ cap = n := fun h => hcn h.symm
    go_enter Tryd.func66, Tryd.ntmps66
    go_wp2_with (first | (at_builtin; refine wpList_append2 rfl _ _ 41 rfl 3 i0 (.int .i64 0) 1 8 Tryd.underlying41 HI.out.1 HI.out.2.1 HI.out.2.2.1 HI.out.2.2.2 rfl (by decide) _ _ _ rfl HO.out ⟨g, 0, none⟩ 1 1 [.int .i64 x] rfl rfl HC.out int_one (by unfold maxLen; omega) (by omega) ?_) | go_in)
    intro v w1 ho hg
    have O1 : Hid (w1.ownsRow 0 3 1 v (n + 1) (zs ++ [.int .i64 x])) := ho
    have G1 : Hid (Gro w w1 _ v) := hg
    clear ho hg
    go_wp2
    go_ret
    exact ⟨_, rfl, G1.out, O1.out⟩
/-- A set of places in its box q; its row lies behind. -/
structure SS (wr : World) (q : Nat) (so : Option Addr) (sc : Nat) (zs : List Int) : Prop where
  cell : wr.cell? ⟨q, 0, none⟩ = some (.slice so zs.length sc)
  fz : wr.frozen? ⟨q, 0, none⟩ = false
  lt : q < wr.heap.size
  own : wr.ownsRow 0 3 1 (.slice so zs.length sc) zs.length (zs.map (Value.int .i64))
  ge : ∀ k, Value.ownBlock (.slice so zs.length sc) = some k → q < k
theorem SS.next {W W' : World} {q sc : Nat} {so : Option Addr} {zs : List Int} (h : SS W q so sc zs) (hb : Below W.heap.size W W') : SS W' q so sc zs :=
  ⟨cell_next hb h.cell h.lt, frozen_next hb h.fz h.lt, Nat.lt_of_lt_of_le h.lt hb.size, own_next h.own hb, h.ge⟩
def AdP (q : Nat) (zs : List Int) (x : Int) (w : World) (e : Ending) (w' : World) : Prop := e = .returned (.tuple #[]) ∧ Below q w w' ∧ ∃ so sc, SS w' q so sc (zs ++ [x])
set_option maxHeartbeats 2000000 in
theorem radd_any (q sc : Nat) (so : Option Addr) (zs : List Int) (x : Int) (w : World) (hz : zs.length ≤ 2) (hl : Lss zs x) (h0 : SS w q so sc zs) :
    Calls Tryd.prog 38 #[.pointer (some ⟨q, 0, none⟩), .int .i64 x] w (AdP q zs x w) := by
  have H : Hid (SS w q so sc zs) := h0
  have HL : Hid (Lss zs x) := hl
  have c0 := H.out.cell
  have hcap : zs.length ≤ sc := by
    rcases H.out.own.2 with ⟨e, h⟩ | ⟨g, cp, cur, e, _, _, hc, _⟩
    · omega
    · simp at e; omega
  clear h0 hl
  go_enter Tryd.func38, Tryd.ntmps38
  go_wp2_with fail
  refine (search_any so sc zs x _ hz HL.out H.out.own).mono ?_
  rintro e w1 ⟨rfl, hb⟩
  have H1 : Hid (SS w1 q so sc zs) := H.out.next hb
  have HB : Hid (Below w.heap.size w w1) := hb
  have HQ : Hid (q < w.heap.size) := H.out.lt
  clear hb c0 H
  have c1 := H1.out.cell
  have hq1 := H1.out.lt
  have e0 : ∀ o, (w1.alloc o).cell? ⟨q, 0, none⟩ = _ := fun o => box_alloc c1 hq1
  go_wp2_with fail
  refine (insert_any so zs.length sc w1.heap.size _ x _ hz hcap (own_next H1.out.own (bel_alloc _ _)) (by go_simp)).mono ?_
  rintro e w2 ⟨v, rfl, hg, ho⟩
  obtain ⟨vo, vc, rfl⟩ := own_isl ho
  have hne : (Value.slice so zs.length sc).ownBlock ≠ some q := fun e => by have := H1.out.ge q e; omega
  have c2 : w2.cell? ⟨q, 0, none⟩ = _ := hg.cell (e0 _) hne
  have f2 : w2.frozen? ⟨q, 0, none⟩ = false := by
    rw [World.frozen?_of_block (w := w1.alloc (.cells #[.int .i64 x] 3)) (hg.grown.block q (by simp; omega) (fun e => hne e.symm))]
    exact frozen_next (bel_alloc _ _) H1.out.fz hq1
  have hge : ∀ k, Value.ownBlock (.slice vo (zs.length + 1) vc) = some k → q < k := fun k hk => by
    rcases hg.fresh k hk with h | h
    · exact H1.out.ge k h
    · simp at h; omega
  have HS : Hid (SS (w2.setCell ⟨q, 0, none⟩ (.slice vo (zs.length + 1) vc)) q vo vc (zs ++ [x])) := by
    have hl2 : q < w2.heap.size := Nat.lt_of_lt_of_le (by simp; omega) hg.size
    refine ⟨?_, by rw [World.frozen?_setCell]; exact f2, by simpa [World.setCell] using hl2, ?_, ?_⟩
    · simpa using cell_same c2
    · have := ownsRow_setCell_other (a := ⟨q, 0, none⟩) ho (fun e => by have := hge q e; omega) (.slice vo (zs.length + 1) vc)
      simpa using this
    · simpa using hge
  have HB2 : Hid (Below q w (w2.setCell ⟨q, 0, none⟩ (.slice vo (zs.length + 1) vc))) := by
    have h1 : Below q w w1 := HB.out.mono (Nat.le_of_lt HQ.out)
    have h2 : Below q w1 (w1.alloc (.cells #[.int .i64 x] 3)) := (bel_alloc _ _).mono (Nat.le_of_lt hq1)
    have h3 : Below q (w1.alloc (.cells #[.int .i64 x] 3)) w2 := hg.below (by simp; omega) (fun k hk => Nat.le_of_lt (H1.out.ge k hk))
    exact ((h1.trans h2).trans h3).setCell (Nat.le_refl _) _
  clear hg ho hge c1 e0 hne H1 HB
  go_wp2
  refine bodyPost_ret (v := .tuple #[]) (by simp [results, Tryd.results38, go_sem]) rfl ⟨rfl, HB2.out, vo, vc, HS.out⟩
end Go.Proofs.YtcmniplbiliobaaDoor
