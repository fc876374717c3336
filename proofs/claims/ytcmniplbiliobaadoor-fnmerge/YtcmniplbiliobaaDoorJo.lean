/- joined: one walk along both lists. -/
import Derived.Test.YtcmniplbiliobaaDoorRows
import Derived.WalkKit
import Derived.WalkSpells
import Derived.WalkLawsBesides
import Derived.Deep.QuietTactic
import Derived.BigQuiet
import Derived.Deep.RegionHeld3
import Derived.Test.YtcmniplbiliobaaDoorJn
import Derived.Test.YtcmniplbiliobaaDoorLk
import Derived.Test.YtcmniplbiliobaaDoorMk
import Derived.LoopN
import Derived.WalkMore
import Derived.Deep.LoopGhost
namespace Go.Proofs.YtcmniplbiliobaaDoor
open Go.RowKit
set_option linter.unusedSimpArgs false
set_option linter.unusedVariables false

def lenV : Value → Nat
  | .slice _ n _ => n
  | _ => 0
/-- The boxes of both objects, and the result's cell. -/
def JB (g : Nat) (W : World) (a b c x y z : Int) : Prop := (W.cell? ⟨g, 1, none⟩ = some (.int .i64 a) ∧ W.cell? ⟨g, 2, none⟩ = some (.int .i64 b) ∧ W.cell? ⟨g, 3, none⟩ = some (.int .i64 c)) ∧ (W.cell? ⟨g + 1, 1, none⟩ = some (.int .i64 x) ∧ W.cell? ⟨g + 1, 2, none⟩ = some (.int .i64 y) ∧ W.cell? ⟨g + 1, 3, none⟩ = some (.int .i64 z)) ∧ There W (g + 1 + 1) 4 ∧ g + 1 + 1 < W.heap.size
set_option maxHeartbeats 1000000 in
theorem greater_any (a b c x y z m n o : Int) (w : World) (h1 : (a < x ∧ m = x) ∨ (x ≤ a ∧ m = a)) (h2 : (b < y ∧ n = y) ∨ (y ≤ b ∧ n = b)) (h3 : (c < z ∧ o = z) ∨ (z ≤ c ∧ o = c)) :
    Calls Tryd.prog 68 #[.agg #[.int .i64 a, .int .i64 b, .int .i64 c], .agg #[.int .i64 x, .int .i64 y, .int .i64 z]] w fun e w' => e = .returned (.agg #[.int .i64 m, .int .i64 n, .int .i64 o]) ∧ Below w.heap.size w w' := by
  have i0 := idx0 x y z
  have i1 := idx1 x y z
  have i2 := idx2 x y z
  rcases h1 with ⟨h1, k1⟩ | ⟨h1, k1⟩ <;> rcases h2 with ⟨h2, k2⟩ | ⟨h2, k2⟩ <;> rcases h3 with ⟨h3, k3⟩ | ⟨h3, k3⟩ <;> subst k1 k2 k3
  all_goals
    go_enter Tryd.func68, Tryd.ntmps68
    go_wp2
    refine wp_loop_rounds 4 ?_
    repeat (rw [rounds_succ]; go_wp2)
    refine bodyPost_ret (v := .agg #[.int .i64 m, .int .i64 n, .int .i64 o]) (by simp [results, Tryd.results68, go_sem]) rfl ⟨rfl, ?_⟩
    repeat (first | exact Below.refl _ _ | refine Below.drew ?_ | refine below_drewN ?_ _ | refine Below.alloc ?_ (by first | (simp; done) | (simp; omega)) _ | refine Below.setCell ?_ (by first | (simp; done) | (simp; omega)) _)
theorem th_gro {W W' : World} {v v' : Value} {g n : Nat} (h : There W g n) (hG : Gro W W' v v') (hg : g < W.heap.size) (hne : v.ownBlock ≠ some g) : There W' g n := fun j hj => by
  have hq := hG.grown.block g hg (fun e => hne e.symm)
  obtain ⟨h1, h2⟩ := h j hj
  exact ⟨by rw [World.cell?_of_block (w := W) hq]; exact h1, by rw [World.frozen?_of_block (w := W) hq]; exact h2⟩
theorem JB.gro {W W' : World} {v' : Value} {g : Nat} {a b c x y z : Int} (h : JB g W a b c x y z) (hG : Gro W W' (.slice none 0 0) v') : JB g W' a b c x y z :=
  ⟨⟨hG.cell h.1.1 Gro.none_ne, hG.cell h.1.2.1 Gro.none_ne, hG.cell h.1.2.2 Gro.none_ne⟩, ⟨hG.cell h.2.1.1 Gro.none_ne, hG.cell h.2.1.2.1 Gro.none_ne, hG.cell h.2.1.2.2 Gro.none_ne⟩, th_gro h.2.2.1 hG h.2.2.2 Gro.none_ne, Nat.lt_of_lt_of_le h.2.2.2 hG.size⟩
theorem JB.new {w : World} {ao bo : Option Addr} {n cap m cp : Nat} {a b c x y z : Int} {t : TypeId} : JB w.heap.size (((w.alloc (.cells #[.slice ao n cap, .int .i64 a, .int .i64 b, .int .i64 c] t)).alloc (.cells #[.slice bo m cp, .int .i64 x, .int .i64 y, .int .i64 z] t)).alloc (.cells #[.slice none 0 0, .int .i64 0, .int .i64 0, .int .i64 0] t)) a b c x y z := by
  refine ⟨⟨by go_simp, by go_simp, by go_simp⟩, ⟨by go_simp, by go_simp, by go_simp⟩, fun j hj => ?_, by simp⟩
  have hj' : j = 0 ∨ j = 1 ∨ j = 2 ∨ j = 3 := by omega
  rcases hj' with rfl | rfl | rfl | rfl <;> exact ⟨by go_simp, by go_simp⟩

theorem nb {W0 wr : World} {v : Value} {k : Nat} (hG : Gro W0 wr (.slice none 0 0) v) (h : k < W0.heap.size) : v.ownBlock ≠ some k := fun e => by
  rcases hG.fresh k e with h' | h'
  · simp [Value.ownBlock] at h'
  · omega
theorem row_ne {W0 wr : World} {v : Value} {ro : Option Addr} {l : List Sib} (hG : Hid (Gro W0 wr (.slice none 0 0) v)) (hR : Hid (SibRow W0 ro l)) : ∀ x, ro = some x → l ≠ [] → v.ownBlock ≠ some x.block := fun q hq hl => by
  rcases hR.out with h | ⟨b, off, h, h2⟩
  · exact absurd h hl
  · rw [hq] at h
    cases h
    have hp : 0 < l.length := List.length_pos_iff.2 hl
    exact nb hG.out (cell_lt (x := ⟨b, off + 0 * 4, none⟩) (h2 0 hp).1)
theorem Gro.set1 {w W : World} {v : Value} {b o : Nat} {u : Value} (h : Gro w W (.slice none 0 0) v) (hb : w.heap.size ≤ b) : Gro w (W.setCell ⟨b, o, none⟩ u) (.slice none 0 0) v :=
  ⟨⟨by simpa [World.setCell] using h.grown.os, by simpa [World.setCell] using h.grown.tape, by simpa [World.setCell] using h.grown.output, by simpa [World.setCell] using h.grown.size, fun k hk hne => (Below.heap_setCell W ⟨b, o, none⟩ u k (fun e => by simp at e; omega)).trans (h.grown.block k hk hne)⟩, h.fresh⟩
theorem Gro.set4 {w W : World} {v : Value} {b o1 o2 o3 o4 : Nat} {u1 u2 u3 u4 : Value} (h : Gro w W (.slice none 0 0) v) (hb : w.heap.size ≤ b) : Gro w ((((W.setCell ⟨b, o1, none⟩ u1).setCell ⟨b, o2, none⟩ u2).setCell ⟨b, o3, none⟩ u3).setCell ⟨b, o4, none⟩ u4) (.slice none 0 0) v := (((h.set1 hb).set1 hb).set1 hb).set1 hb
theorem one_node {l : List Sib} {i : Nat} (h : Hid (∀ i (h : i < l.length), 0 ≤ l[i].p ∧ l[i].p < 3)) (hi : i < l.length) : ∀ k (hk : k < [l[i]].length), 0 ≤ ([l[i]])[k].p ∧ ([l[i]])[k].p < 3 := fun k hk => by
  have : k = 0 := by simpa using hk
  subst this
  exact h.out i hi
theorem lit_row {W : World} {x : Sib} {t : TypeId} : SibRow (W.alloc (.cells #[.int .i64 x.p, .int .i64 x.n, .int .i64 x.v, .bool x.d] t)) (some ⟨W.heap.size, 0, none⟩) [x] := .inr ⟨W.heap.size, 0, rfl, fun i hi => by
  have : i = 0 := by simpa using hi
  subst this
  simpa using (lit_at (W := W) (x := x) (t := t))⟩
theorem lit_ne {W : World} {v : Value} {n e : Nat} {xs : List Value} {l : List Sib} (h : Hid (W.ownsRow 0 e 4 v n xs)) : ∀ q, some (⟨W.heap.size, 0, none⟩ : Addr) = some q → l ≠ [] → v.ownBlock ≠ some q.block := fun q hq _ e => by
  cases hq
  exact Nat.lt_irrefl _ (h.out.lt _ e).2
theorem row_tail {W : World} {rb rof j : Nat} {l2 : List Sib} (h : SibRow W (some ⟨rb, rof, none⟩) (l2.drop j)) : SibRow W (some ⟨rb, rof + 4, none⟩) (l2.drop (j + 1)) := by
  rcases h with h | ⟨b, off, e, h2⟩
  · refine .inl ?_
    rw [List.drop_eq_nil_iff] at h ⊢
    omega
  · cases e
    refine .inr ⟨rb, rof + 4, rfl, fun i hi => ?_⟩
    have := h2 (i + 1) (by simp at hi ⊢; omega)
    simp only [List.getElem_drop] at this ⊢
    have e1 : rof + (i + 1) * 4 = rof + 4 + i * 4 := by omega
    have e2 : j + (i + 1) = j + 1 + i := by omega
    simp only [e1, e2] at this
    exact this
theorem dot_ne {p n q m : Int} (h : ¬ (p = q ∧ n = m)) : (p == q && n == m) = false := by
  rw [Bool.eq_false_iff]
  intro h'
  simp at h'
  exact h h'
theorem dot_eq {p n q m : Int} (h : p = q ∧ n = m) : (p == q && n == m) = true := by simp [h.1, h.2]
theorem lit_row1 {W : World} {o : Obj} {x : Sib} {t : TypeId} : SibRow ((W.alloc o).alloc (.cells #[.int .i64 x.p, .int .i64 x.n, .int .i64 x.v, .bool x.d] t)) (some ⟨W.heap.size + 1, 0, none⟩) [x] := by
  have := lit_row (W := W.alloc o) (x := x) (t := t)
  simpa using this
theorem lit_at1 {W : World} {o : Obj} {x : Sib} {t : TypeId} : SibAt ((W.alloc o).alloc (.cells #[.int .i64 x.p, .int .i64 x.n, .int .i64 x.v, .bool x.d] t)) (W.heap.size + 1) 0 x := by
  have := lit_at (W := W.alloc o) (x := x) (t := t)
  simpa using this
theorem lit_ne1 {W : World} {v : Value} {n e : Nat} {xs : List Value} {l : List Sib} (h : Hid (W.ownsRow 0 e 4 v n xs)) : ∀ q, some (⟨W.heap.size + 1, 0, none⟩ : Addr) = some q → l ≠ [] → v.ownBlock ≠ some q.block := fun q hq _ e => by
  cases hq
  have := (h.out.lt _ e).2
  simp at this
  omega
theorem row_none {W : World} {ro : Option Addr} {j : Nat} {l2 : List Sib} (h : l2.length ≤ j) : SibRow W ro (l2.drop j) := .inl (List.drop_eq_nil_iff.2 h)
theorem own_slice {w : World} {base e size n : Nat} {v : Value} {xs : List Value} (h : w.ownsRow base e size v n xs) : ∃ o k c, v = .slice o k c := by
  rcases h.2 with ⟨rfl, _⟩ | ⟨g, cap, cur, rfl, _⟩
  · exact ⟨_, _, _, rfl⟩
  · exact ⟨_, _, _, rfl⟩

theorem au_gen (cap n : Nat) (ao : Option Addr) (l m0 : List Sib) (a b c : Int) (v : Value) (w : World) (hn0 : n = l.length) (hm : m0.length + l.length ≤ 2097152) (hn : ∀ i (h : i < l.length), 0 ≤ l[i].p ∧ l[i].p < 3) (hr0 : SibRow w ao l) (hne0 : ∀ x, ao = some x → l ≠ [] → v.ownBlock ≠ some x.block) (ho0 : w.ownsRow 0 74 4 v m0.length (flat m0)) :
    Calls Tryd.prog 67 #[v, .agg #[.int .i64 a, .int .i64 b, .int .i64 c], .slice ao n cap] w fun e w' => ∃ v', e = .returned v' ∧ w'.ownsRow 0 74 4 v' (m0 ++ fil a b c l).length (flat (m0 ++ fil a b c l)) ∧ Gro w w' v v' := by
  subst hn0
  exact au_any cap ao l m0 a b c v w hm hn hr0 hne0 ho0
/-- What the loops keep. -/
def JI (W0 wr : World) (a b c x y z : Int) (l l2 : List Sib) (i j : Nat) (m : List Sib) (ro : Option Addr) (rc n : Nat) (v r : Value) : Prop :=
  i ≤ l.length ∧ j + n = l2.length ∧ r = .slice ro n rc ∧ n ≤ rc ∧ SibRow W0 ro (l2.drop j) ∧ Gro W0 wr (.slice none 0 0) v ∧ wr.ownsRow 0 74 4 v m.length (flat m) ∧ m ++ jn a b c x y z (l.drop i) (l2.drop j) = jn a b c x y z l l2 ∧ m.length ≤ i + j
set_option maxHeartbeats 8000000 in
theorem joined_any (cap cp : Nat) (ao bo : Option Addr) (l l2 : List Sib) (a b c x y z : Int) (w : World) (hm : (l.length : Int) ≤ 1048576) (hm2 : (l2.length : Int) ≤ 1048576) (hc2 : l2.length ≤ cp) (hn1 : ∀ i (h : i < l.length), 0 ≤ l[i].p ∧ l[i].p < 3) (hn2 : ∀ i (h : i < l2.length), 0 ≤ l2[i].p ∧ l2[i].p < 3) (hr0 : SibRow w ao l) (hs0 : SibRow w bo l2) :
    Calls Tryd.prog 40 #[.agg #[.slice ao l.length cap, .int .i64 a, .int .i64 b, .int .i64 c], .agg #[.slice bo l2.length cp, .int .i64 x, .int .i64 y, .int .i64 z]] w fun e w' => ∃ v, e = .returned (.agg #[v, .int .i64 (max a x), .int .i64 (max b y), .int .i64 (max c z)]) ∧ Gro w w' (.slice none 0 0) v ∧ w'.ownsRow 0 74 4 v (jn a b c x y z l l2).length (flat (jn a b c x y z l l2)) := by
  have RA : Hid (SibRow (((w.alloc (.cells #[.slice ao l.length cap, .int .i64 a, .int .i64 b, .int .i64 c] 32)).alloc (.cells #[.slice bo l2.length cp, .int .i64 x, .int .i64 y, .int .i64 z] 32)).alloc (.cells #[.slice none 0 0, .int .i64 0, .int .i64 0, .int .i64 0] 32)) ao l) := row_next (row_next (row_next hr0 (bel_alloc _ _)) (bel_alloc _ _)) (bel_alloc _ _)
  have RB : Hid (SibRow (((w.alloc (.cells #[.slice ao l.length cap, .int .i64 a, .int .i64 b, .int .i64 c] 32)).alloc (.cells #[.slice bo l2.length cp, .int .i64 x, .int .i64 y, .int .i64 z] 32)).alloc (.cells #[.slice none 0 0, .int .i64 0, .int .i64 0, .int .i64 0] 32)) bo l2) := row_next (row_next (row_next hs0 (bel_alloc _ _)) (bel_alloc _ _)) (bel_alloc _ _)
  have JB0 : Hid (JB w.heap.size (((w.alloc (.cells #[.slice ao l.length cap, .int .i64 a, .int .i64 b, .int .i64 c] 32)).alloc (.cells #[.slice bo l2.length cp, .int .i64 x, .int .i64 y, .int .i64 z] 32)).alloc (.cells #[.slice none 0 0, .int .i64 0, .int .i64 0, .int .i64 0] 32)) a b c x y z) := JB.new
  have GW : Hid (Gro w (((w.alloc (.cells #[.slice ao l.length cap, .int .i64 a, .int .i64 b, .int .i64 c] 32)).alloc (.cells #[.slice bo l2.length cp, .int .i64 x, .int .i64 y, .int .i64 z] 32)).alloc (.cells #[.slice none 0 0, .int .i64 0, .int .i64 0, .int .i64 0] 32)) (.slice none 0 0) (.slice none 0 0)) := (Gro.of_below (bel_alloc _ _)).trans ((Gro.of_below (bel_alloc _ _)).trans (Gro.of_below (bel_alloc _ _)))
  have HN1 : Hid (∀ i (h : i < l.length), 0 ≤ l[i].p ∧ l[i].p < 3) := hn1
  have HN2 : Hid (∀ i (h : i < l2.length), 0 ≤ l2[i].p ∧ l2[i].p < 3) := hn2
  clear hr0 hs0 hn1 hn2
  obtain ⟨i0, hi, hz0, hz1, hz2⟩ := info_parts info_sib
  have HI : Hid (Tryd.prog.info? 74 = some i0 ∧ i0.zero = some (.agg #[.int .i64 0, .int .i64 0, .int .i64 0, .bool false]) ∧ i0.size = 4 ∧ i0.bytes = 32) := ⟨hi, hz0, hz1, hz2⟩
  clear hi hz0 hz1 hz2
  go_enter Tryd.func40, Tryd.ntmps40
  go_wp2
  go_step3
  go_wp2
  go_step3
  go_wp2
  generalize (((w.alloc (.cells #[.slice ao l.length cap, .int .i64 a, .int .i64 b, .int .i64 c] 32)).alloc (.cells #[.slice bo l2.length cp, .int .i64 x, .int .i64 y, .int .i64 z] 32)).alloc (.cells #[.slice none 0 0, .int .i64 0, .int .i64 0, .int .i64 0] 32)) = W0 at *
  go_loopg [5, 6, 15] l.length (fun g s5 s6 s15 wr => ∃ (i j : Nat) (m : List Sib) (ro : Option Addr) (rc n : Nat), i + g = l.length ∧ s15 = .int .i64 i ∧ JI W0 wr a b c x y z l l2 i j m ro rc n s5 s6)
  case atStart => exact ⟨0, 0, [], bo, cp, l2.length, by omega, rfl, by omega, by omega, rfl, hc2, by simpa using RB.out, Gro.refl _ _, World.ownsRow_nil _ _ _ _, by simp, by simp⟩
  case round =>
    obtain ⟨i, j, m, ro, rc, n, hig, rfl, hil, hjl, rfl, hrc, hR0, hG0, hO0, hE0, hM0⟩ := hrel
    have hR : Hid (SibRow W0 ro (l2.drop j)) := hR0
    have hG : Hid (Gro W0 wr (.slice none 0 0) u5) := hG0
    have hO : Hid (wr.ownsRow 0 74 4 u5 m.length (flat m)) := hO0
    have hE : Hid (m ++ jn a b c x y z (l.drop i) (l2.drop j) = jn a b c x y z l l2) := hE0
    have hM : Hid (m.length ≤ i + j) := hM0
    clear hR0 hG0 hO0 hE0 hM0
    by_cases hkl : i < l.length
    · have hkl' : (i : Int) < (l.length : Int) := by omega
      have kk : (0 : Int) ≤ (i : Int) := by omega
      rcases hG.out.row RA.out (fun _ _ => Gro.none_ne) with h' | ⟨p, off, rfl, h2⟩
      · rw [h'] at hkl; simp at hkl
      obtain ⟨x0, x1, x2, x3⟩ := h2 i hkl
      clear h2
      go_wp2
      have SB : Hid (SibAt (wr.alloc (.cells #[.int .i64 l[i].p, .int .i64 l[i].n, .int .i64 l[i].v, .bool l[i].d] 74)) wr.heap.size 0 l[i]) := lit_at
      have GS : Hid (Gro W0 (wr.alloc (.cells #[.int .i64 l[i].p, .int .i64 l[i].n, .int .i64 l[i].v, .bool l[i].d] 74)) (.slice none 0 0) u5) := hG.out.trans (Gro.of_below (bel_alloc _ _))
      have OS : Hid (World.ownsRow (wr.alloc (.cells #[.int .i64 l[i].p, .int .i64 l[i].n, .int .i64 l[i].v, .bool l[i].d] 74)) 0 74 4 u5 m.length (flat m)) := hO.out.alloc _
      have NS : Hid (u5.ownBlock ≠ some wr.heap.size) := fun e => by have := (hO.out.lt _ e).2; omega
      clear hG hO x0 x1 x2 x3
      generalize wr.alloc (.cells #[.int .i64 l[i].p, .int .i64 l[i].n, .int .i64 l[i].v, .bool l[i].d] 74) = Ws at *
      generalize wr.heap.size = bs at *
      clear wr
      generalize u5 = v0 at *
      obtain ⟨go, hgo⟩ : ∃ go, gk = go + 1 := ⟨gk - 1, by omega⟩
      go_loopg [5, 6] n (fun g s5 s6 wi => ∃ (j : Nat) (m : List Sib) (ro : Option Addr) (rc n : Nat), j + g = l2.length ∧ JI W0 wi a b c x y z l l2 i j m ro rc n s5 s6 ∧ Gro Ws wi v0 s5)
      case atStart => exact ⟨j, m, ro, rc, n, by omega, ⟨hil, hjl, rfl, hrc, hR.out, GS.out, OS.out, hE.out, hM.out⟩, Gro.refl _ _⟩
      case round =>
        clear GS OS hR hE hM hrc hjl
        clear m ro rc n j
        obtain ⟨j, m, ro, rc, n, hjg, ⟨_, hjl, rfl, hrc, hR0, hG0, hO0, hE0, hM0⟩, hS0⟩ := hrel
        have hR : Hid (SibRow W0 ro (l2.drop j)) := hR0
        have hG : Hid (Gro W0 wr (.slice none 0 0) u5) := hG0
        have hO : Hid (wr.ownsRow 0 74 4 u5 m.length (flat m)) := hO0
        have hE : Hid (m ++ jn a b c x y z (l.drop i) (l2.drop j) = jn a b c x y z l l2) := hE0
        have hM : Hid (m.length ≤ i + j) := hM0
        clear hR0 hG0 hO0 hE0 hM0
        have hS : Hid (Gro Ws wr v0 u5) := hS0
        obtain ⟨s0, s1, s2, s3⟩ := hS0.at SB.out NS.out
        have nbs : Hid (u5.ownBlock ≠ some bs) := hS0.ne (cell_lt (x := ⟨bs, 0, none⟩) SB.out.1) NS.out
        clear hS0
        by_cases hj2 : j < l2.length
        · rcases hG.out.row hR.out (fun _ _ => Gro.none_ne) with h' | ⟨rb, rof, rfl, h2⟩
          · exact absurd (congrArg List.length h') (by simp; omega)
          have hy := h2 0 (by simp; omega)
          simp only [Nat.zero_mul, Nat.add_zero, List.getElem_drop] at hy
          obtain ⟨y0, y1, y2, y3⟩ := hy
          clear h2
          have dn : 0 < n := by omega
          have d0 : decide (0 < n) = true := decide_eq_true dn
          have d1 : (0 : Int) < (n : Int) := by omega
          cases hd : decide (dotsI l2[j].p l2[j].n l[i].p l[i].n ≤ 0)
          · have HP : Hid (jn a b c x y z (l.drop i) (l2.drop j) = fil x y z [l[i]] ++ jn a b c x y z (l.drop (i + 1)) (l2.drop j)) := jn_pass a b c x y z l l2 i j hkl hj2 (by have := of_decide_eq_false hd; omega)
            go_wp2
            refine wp_region_held_drew (S := (fun w' => w'.cell? ⟨rb, rof, none⟩ = some (.int .i64 l2[j].p) ∧ w'.cell? ⟨rb, rof + 1, none⟩ = some (.int .i64 l2[j].n) ∧ w'.cell? ⟨bs, 0, none⟩ = some (.int .i64 l[i].p) ∧ w'.cell? ⟨bs, 1, none⟩ = some (.int .i64 l[i].n) ∧ Below wr.heap.size wr w')) (by kernel_rfl) ?_ (fun hHeld => ?_)
            · (try dsimp only)
              exact ⟨y0, y1, s0, s1, bel_drew _⟩
            refine wpAnyH_take (i := 0) (v := ?_) rfl (by kernel_rfl) (by kernel_rfl) (by kernel_rfl) (fun _ _ _ h => h) (Or.inl ⟨by rfl, ?_⟩) (by assumption) ?_
            rotate_left
            · intro w' hSw
              (try dsimp only at hSw)
              go_simp
              all_goals (try with_reducible rfl)
            (try simp only [Act.put, List.getElem_toArray, List.getElem_cons_zero, List.getElem_cons_succ, List.setIfInBounds_toArray, List.set_cons_zero, List.set_cons_succ])
            refine wpAnyH_take (i := 1) (v := ?_) rfl (by kernel_rfl) (by kernel_rfl) (by kernel_rfl) (fun _ _ _ h => h) (Or.inl ⟨by rfl, ?_⟩) (by assumption) ?_
            rotate_left
            · intro w' hSw
              (try dsimp only at hSw)
              go_simp
              all_goals (try with_reducible rfl)
            (try simp only [Act.put, List.getElem_toArray, List.getElem_cons_zero, List.getElem_cons_succ, List.setIfInBounds_toArray, List.set_cons_zero, List.set_cons_succ])
            refine wpAnyH_take (i := 2) (v := ?_) rfl (by kernel_rfl) (by kernel_rfl) (by kernel_rfl) (fun _ _ _ h => h) (Or.inl ⟨by rfl, ?_⟩) (by assumption) ?_
            rotate_left
            · intro w' hSw
              (try dsimp only at hSw)
              go_simp
              all_goals (try with_reducible rfl)
            (try simp only [Act.put, List.getElem_toArray, List.getElem_cons_zero, List.getElem_cons_succ, List.setIfInBounds_toArray, List.set_cons_zero, List.set_cons_succ])
            refine wpAnyH_take (i := 3) (v := ?_) rfl (by kernel_rfl) (by kernel_rfl) (by kernel_rfl) (fun _ _ _ h => h) (Or.inl ⟨by rfl, ?_⟩) (by assumption) ?_
            rotate_left
            · intro w' hSw
              (try dsimp only at hSw)
              go_simp
              all_goals (try with_reducible rfl)
            (try simp only [Act.put, List.getElem_toArray, List.getElem_cons_zero, List.getElem_cons_succ, List.setIfInBounds_toArray, List.set_cons_zero, List.set_cons_succ])
            refine wpAnyH_take (i := 4) (v := ?_) rfl (by kernel_rfl) (by kernel_rfl) (by kernel_rfl) (fun _ _ _ h => h) (Or.inl ⟨by rfl, ?_⟩) (by assumption) ?_
            rotate_left
            · intro w' hSw
              (try dsimp only at hSw)
              go_simp
              all_goals (try with_reducible rfl)
            (try simp only [Act.put, List.getElem_toArray, List.getElem_cons_zero, List.getElem_cons_succ, List.setIfInBounds_toArray, List.set_cons_zero, List.set_cons_succ])
            refine wpAnyH_take (i := 5) (v := ?_) rfl (by kernel_rfl) (by kernel_rfl) (by kernel_rfl) (fun _ _ _ h => h) (Or.inl ⟨by rfl, ?_⟩) (by assumption) ?_
            rotate_left
            · intro w' hSw
              (try dsimp only at hSw)
              go_simp
              all_goals (try with_reducible rfl)
            (try simp only [Act.put, List.getElem_toArray, List.getElem_cons_zero, List.getElem_cons_succ, List.setIfInBounds_toArray, List.set_cons_zero, List.set_cons_succ])
            refine wpAnyH_take (i := 6) (v := ?_) rfl (by kernel_rfl) (by kernel_rfl) (by kernel_rfl) (fun _ _ _ h => h) (Or.inl ⟨by rfl, ?_⟩) (by assumption) ?_
            rotate_left
            · intro w' hSw
              (try dsimp only at hSw)
              go_simp
              all_goals (try with_reducible rfl)
            (try simp only [Act.put, List.getElem_toArray, List.getElem_cons_zero, List.getElem_cons_succ, List.setIfInBounds_toArray, List.set_cons_zero, List.set_cons_succ])
            refine wpAnyH_take (i := 7) (v := ?_) rfl (by kernel_rfl) (by kernel_rfl) (by kernel_rfl) (fun _ _ _ h => h) (Or.inl ⟨by rfl, ?_⟩) (by assumption) ?_
            rotate_left
            · intro w' hSw
              (try dsimp only at hSw)
              go_simp
              all_goals (try with_reducible rfl)
            (try simp only [Act.put, List.getElem_toArray, List.getElem_cons_zero, List.getElem_cons_succ, List.setIfInBounds_toArray, List.set_cons_zero, List.set_cons_succ])
            refine wpAnyH_take (i := 8) (v := ?_) rfl (by kernel_rfl) (by kernel_rfl) (by kernel_rfl) (fun _ _ _ h => h) (Or.inl ⟨by rfl, ?_⟩) (by assumption) ?_
            rotate_left
            · intro w' hSw
              (try dsimp only at hSw)
              go_simp
              all_goals (try with_reducible rfl)
            (try simp only [Act.put, List.getElem_toArray, List.getElem_cons_zero, List.getElem_cons_succ, List.setIfInBounds_toArray, List.set_cons_zero, List.set_cons_succ])
            refine wpAnyH_take (i := 9) (v := ?_) rfl (by kernel_rfl) (by kernel_rfl) (by kernel_rfl) (fun _ _ _ h => h) (Or.inl ⟨by rfl, ?_⟩) (by assumption) ?_
            rotate_left
            · intro w' hSw
              (try dsimp only at hSw)
              go_simp
              all_goals (try with_reducible rfl)
            (try simp only [Act.put, List.getElem_toArray, List.getElem_cons_zero, List.getElem_cons_succ, List.setIfInBounds_toArray, List.set_cons_zero, List.set_cons_succ])
            refine wpAnyH_ready (rs := [10]) (by kernel_rfl) (by simp) ?_
            refine AllReadyH.cons rfl (fun K hK => ?_) AllReadyH.nil
            (try simp only [Act.put, List.getElem_toArray, List.getElem_cons_zero, List.getElem_cons_succ, List.setIfInBounds_toArray, List.set_cons_zero, List.set_cons_succ])
            go_simp
            (go_at_call 64; refine (cmpDots_any l2[j].p l2[j].n l[i].p l[i].n _).mono ?_; rintro e w3 ⟨rfl, hb⟩)
            (try simp only [])
            refine hK.out _ _ ?_ (fun hHeld' => ?_)
            · (try dsimp only)
              exact ⟨cell_next hb hHeld.1 (cell_lt (x := ⟨rb, rof, none⟩) hHeld.1), cell_next hb hHeld.2.1 (cell_lt (x := ⟨rb, rof + 1, none⟩) hHeld.2.1), cell_next hb hHeld.2.2.1 (cell_lt (x := ⟨bs, 0, none⟩) hHeld.2.2.1), cell_next hb hHeld.2.2.2.1 (cell_lt (x := ⟨bs, 1, none⟩) hHeld.2.2.2.1), (bel_next hHeld.2.2.2.2 hb).out⟩
            clear hK K
            clear hHeld
            have hHeld := hHeld'
            clear hHeld'
            clear hb
            (try simp only [Act.put, List.getElem_toArray, List.getElem_cons_zero, List.getElem_cons_succ, List.setIfInBounds_toArray, List.set_cons_zero, List.set_cons_succ])
            refine wpAnyH_take (i := 11) (v := ?_) rfl (by kernel_rfl) (by kernel_rfl) (by kernel_rfl) (fun _ _ _ h => h) (Or.inl ⟨by rfl, ?_⟩) (by assumption) ?_
            rotate_left
            · intro w' hSw
              (try dsimp only at hSw)
              go_simp
              all_goals (try with_reducible rfl)
            (try simp only [Act.put, List.getElem_toArray, List.getElem_cons_zero, List.getElem_cons_succ, List.setIfInBounds_toArray, List.set_cons_zero, List.set_cons_succ])
            refine wpAnyH_take (i := 12) (v := ?_) rfl (by kernel_rfl) (by kernel_rfl) (by kernel_rfl) (fun _ _ _ h => h) (Or.inl ⟨by rfl, ?_⟩) (by assumption) ?_
            rotate_left
            · intro w' hSw
              (try dsimp only at hSw)
              go_simp
              all_goals (try with_reducible rfl)
            (try simp only [Act.put, List.getElem_toArray, List.getElem_cons_zero, List.getElem_cons_succ, List.setIfInBounds_toArray, List.set_cons_zero, List.set_cons_succ])
            refine wpAnyH_done (by kernel_rfl) ?_ _
            have hbx := hHeld.2.2.2.2
            clear hHeld y0 y1 y2 y3 hd
            obtain ⟨⟨A1, A2, A3⟩, ⟨B1, B2, B3⟩, _, hz⟩ := JB0.out.gro (hG.out.trans (Gro.of_below hbx))
            replace s0 := cell_next hbx s0 (cell_lt (x := ⟨bs, 0, none⟩) s0)
            replace s1 := cell_next hbx s1 (cell_lt (x := ⟨bs, 1, none⟩) s1)
            replace s2 := cell_next hbx s2 (cell_lt (x := ⟨bs, 2, none⟩) s2)
            replace s3 := cell_next hbx s3 (cell_lt (x := ⟨bs, 3, none⟩) s3)
            have OX : Hid (World.ownsRow (w3) 0 74 4 u5 m.length (flat m)) := own_next hO.out hbx
            have GX : Hid (Gro W0 w3 (.slice none 0 0) u5) := hG.out.trans (Gro.of_below hbx)
            clear A1 A2 A3
            go_wp2_with fail
            refine (au_gen 1 1 (some ⟨w3.heap.size, 0, none⟩) [l[i]] m x y z u5 _ rfl (by have := hM.out; simp; omega) (one_node HN1 hkl) (lit_row) (lit_ne OX) (OX.out.alloc _)).mono ?_
            rintro e w6 ⟨v', rfl, ho6, hg6⟩
            have G6 : Hid (Gro W0 w6 (.slice none 0 0) v') := GX.out.trans ((Gro.of_below (bel_alloc _ _)).trans hg6)
            have O6 : Hid (_ : Prop) := ho6
            have E6 : Hid ((m ++ fil x y z [l[i]]) ++ jn a b c x y z (l.drop (i + 1)) (l2.drop j) = jn a b c x y z l l2) := by
              show _ = _
              rw [List.append_assoc, ← HP.out]
              exact hE.out
            have M6 : Hid ((m ++ fil x y z [l[i]]).length ≤ i + 1 + j) := by
              have h1 := fil_one_le x y z l[i]
              have h2 := hM.out
              show _ ≤ _
              simp only [List.length_append]
              omega
            clear ho6 hg6 B1 B2 B3 s0 s1 s2 s3
            go_wp2
            go_roundg go
            case measure => omega
            case rel => exact ⟨i + 1, j, m ++ fil x y z [l[i]], _, rc, n, by omega, by go_num, by omega, by omega, rfl, by omega, hR.out, G6.out, O6.out, E6.out, M6.out⟩
          · cases he : decide (l2[j].p = l[i].p ∧ l2[j].n = l[i].n)
            · have HP : Hid (jn a b c x y z (l.drop i) (l2.drop j) = fil a b c [l2[j]] ++ jn a b c x y z (l.drop i) (l2.drop (j + 1))) := jn_less a b c x y z l l2 i j hkl hj2 (by have := of_decide_eq_true hd; omega) (of_decide_eq_false he)
              have hq : (l2[j].p == l[i].p && l2[j].n == l[i].n) = false := dot_ne (of_decide_eq_false he)
              clear he
              have hq1 : ¬ l2[j].p = l[i].p ∨ True := .inr trivial
              go_wp2
              refine wp_region_held_drew (S := (fun w' => w'.cell? ⟨rb, rof, none⟩ = some (.int .i64 l2[j].p) ∧ w'.cell? ⟨rb, rof + 1, none⟩ = some (.int .i64 l2[j].n) ∧ w'.cell? ⟨bs, 0, none⟩ = some (.int .i64 l[i].p) ∧ w'.cell? ⟨bs, 1, none⟩ = some (.int .i64 l[i].n) ∧ Below wr.heap.size wr w')) (by kernel_rfl) ?_ (fun hHeld => ?_)
              · (try dsimp only)
                exact ⟨y0, y1, s0, s1, bel_drew _⟩
              refine wpAnyH_take (i := 0) (v := ?_) rfl (by kernel_rfl) (by kernel_rfl) (by kernel_rfl) (fun _ _ _ h => h) (Or.inl ⟨by rfl, ?_⟩) (by assumption) ?_
              rotate_left
              · intro w' hSw
                (try dsimp only at hSw)
                go_simp
                all_goals (try with_reducible rfl)
              (try simp only [Act.put, List.getElem_toArray, List.getElem_cons_zero, List.getElem_cons_succ, List.setIfInBounds_toArray, List.set_cons_zero, List.set_cons_succ])
              refine wpAnyH_take (i := 1) (v := ?_) rfl (by kernel_rfl) (by kernel_rfl) (by kernel_rfl) (fun _ _ _ h => h) (Or.inl ⟨by rfl, ?_⟩) (by assumption) ?_
              rotate_left
              · intro w' hSw
                (try dsimp only at hSw)
                go_simp
                all_goals (try with_reducible rfl)
              (try simp only [Act.put, List.getElem_toArray, List.getElem_cons_zero, List.getElem_cons_succ, List.setIfInBounds_toArray, List.set_cons_zero, List.set_cons_succ])
              refine wpAnyH_take (i := 2) (v := ?_) rfl (by kernel_rfl) (by kernel_rfl) (by kernel_rfl) (fun _ _ _ h => h) (Or.inl ⟨by rfl, ?_⟩) (by assumption) ?_
              rotate_left
              · intro w' hSw
                (try dsimp only at hSw)
                go_simp
                all_goals (try with_reducible rfl)
              (try simp only [Act.put, List.getElem_toArray, List.getElem_cons_zero, List.getElem_cons_succ, List.setIfInBounds_toArray, List.set_cons_zero, List.set_cons_succ])
              refine wpAnyH_take (i := 3) (v := ?_) rfl (by kernel_rfl) (by kernel_rfl) (by kernel_rfl) (fun _ _ _ h => h) (Or.inl ⟨by rfl, ?_⟩) (by assumption) ?_
              rotate_left
              · intro w' hSw
                (try dsimp only at hSw)
                go_simp
                all_goals (try with_reducible rfl)
              (try simp only [Act.put, List.getElem_toArray, List.getElem_cons_zero, List.getElem_cons_succ, List.setIfInBounds_toArray, List.set_cons_zero, List.set_cons_succ])
              refine wpAnyH_take (i := 4) (v := ?_) rfl (by kernel_rfl) (by kernel_rfl) (by kernel_rfl) (fun _ _ _ h => h) (Or.inl ⟨by rfl, ?_⟩) (by assumption) ?_
              rotate_left
              · intro w' hSw
                (try dsimp only at hSw)
                go_simp
                all_goals (try with_reducible rfl)
              (try simp only [Act.put, List.getElem_toArray, List.getElem_cons_zero, List.getElem_cons_succ, List.setIfInBounds_toArray, List.set_cons_zero, List.set_cons_succ])
              refine wpAnyH_take (i := 5) (v := ?_) rfl (by kernel_rfl) (by kernel_rfl) (by kernel_rfl) (fun _ _ _ h => h) (Or.inl ⟨by rfl, ?_⟩) (by assumption) ?_
              rotate_left
              · intro w' hSw
                (try dsimp only at hSw)
                go_simp
                all_goals (try with_reducible rfl)
              (try simp only [Act.put, List.getElem_toArray, List.getElem_cons_zero, List.getElem_cons_succ, List.setIfInBounds_toArray, List.set_cons_zero, List.set_cons_succ])
              refine wpAnyH_take (i := 6) (v := ?_) rfl (by kernel_rfl) (by kernel_rfl) (by kernel_rfl) (fun _ _ _ h => h) (Or.inl ⟨by rfl, ?_⟩) (by assumption) ?_
              rotate_left
              · intro w' hSw
                (try dsimp only at hSw)
                go_simp
                all_goals (try with_reducible rfl)
              (try simp only [Act.put, List.getElem_toArray, List.getElem_cons_zero, List.getElem_cons_succ, List.setIfInBounds_toArray, List.set_cons_zero, List.set_cons_succ])
              refine wpAnyH_take (i := 7) (v := ?_) rfl (by kernel_rfl) (by kernel_rfl) (by kernel_rfl) (fun _ _ _ h => h) (Or.inl ⟨by rfl, ?_⟩) (by assumption) ?_
              rotate_left
              · intro w' hSw
                (try dsimp only at hSw)
                go_simp
                all_goals (try with_reducible rfl)
              (try simp only [Act.put, List.getElem_toArray, List.getElem_cons_zero, List.getElem_cons_succ, List.setIfInBounds_toArray, List.set_cons_zero, List.set_cons_succ])
              refine wpAnyH_take (i := 8) (v := ?_) rfl (by kernel_rfl) (by kernel_rfl) (by kernel_rfl) (fun _ _ _ h => h) (Or.inl ⟨by rfl, ?_⟩) (by assumption) ?_
              rotate_left
              · intro w' hSw
                (try dsimp only at hSw)
                go_simp
                all_goals (try with_reducible rfl)
              (try simp only [Act.put, List.getElem_toArray, List.getElem_cons_zero, List.getElem_cons_succ, List.setIfInBounds_toArray, List.set_cons_zero, List.set_cons_succ])
              refine wpAnyH_take (i := 9) (v := ?_) rfl (by kernel_rfl) (by kernel_rfl) (by kernel_rfl) (fun _ _ _ h => h) (Or.inl ⟨by rfl, ?_⟩) (by assumption) ?_
              rotate_left
              · intro w' hSw
                (try dsimp only at hSw)
                go_simp
                all_goals (try with_reducible rfl)
              (try simp only [Act.put, List.getElem_toArray, List.getElem_cons_zero, List.getElem_cons_succ, List.setIfInBounds_toArray, List.set_cons_zero, List.set_cons_succ])
              refine wpAnyH_ready (rs := [10]) (by kernel_rfl) (by simp) ?_
              refine AllReadyH.cons rfl (fun K hK => ?_) AllReadyH.nil
              (try simp only [Act.put, List.getElem_toArray, List.getElem_cons_zero, List.getElem_cons_succ, List.setIfInBounds_toArray, List.set_cons_zero, List.set_cons_succ])
              go_simp
              (go_at_call 64; refine (cmpDots_any l2[j].p l2[j].n l[i].p l[i].n _).mono ?_; rintro e w3 ⟨rfl, hb⟩)
              (try simp only [])
              refine hK.out _ _ ?_ (fun hHeld' => ?_)
              · (try dsimp only)
                exact ⟨cell_next hb hHeld.1 (cell_lt (x := ⟨rb, rof, none⟩) hHeld.1), cell_next hb hHeld.2.1 (cell_lt (x := ⟨rb, rof + 1, none⟩) hHeld.2.1), cell_next hb hHeld.2.2.1 (cell_lt (x := ⟨bs, 0, none⟩) hHeld.2.2.1), cell_next hb hHeld.2.2.2.1 (cell_lt (x := ⟨bs, 1, none⟩) hHeld.2.2.2.1), (bel_next hHeld.2.2.2.2 hb).out⟩
              clear hK K
              clear hHeld
              have hHeld := hHeld'
              clear hHeld'
              clear hb
              (try simp only [Act.put, List.getElem_toArray, List.getElem_cons_zero, List.getElem_cons_succ, List.setIfInBounds_toArray, List.set_cons_zero, List.set_cons_succ])
              refine wpAnyH_take (i := 11) (v := ?_) rfl (by kernel_rfl) (by kernel_rfl) (by kernel_rfl) (fun _ _ _ h => h) (Or.inl ⟨by rfl, ?_⟩) (by assumption) ?_
              rotate_left
              · intro w' hSw
                (try dsimp only at hSw)
                go_simp
                all_goals (try with_reducible rfl)
              (try simp only [Act.put, List.getElem_toArray, List.getElem_cons_zero, List.getElem_cons_succ, List.setIfInBounds_toArray, List.set_cons_zero, List.set_cons_succ])
              refine wpAnyH_take (i := 12) (v := ?_) rfl (by kernel_rfl) (by kernel_rfl) (by kernel_rfl) (fun _ _ _ h => h) (Or.inl ⟨by rfl, ?_⟩) (by assumption) ?_
              rotate_left
              · intro w' hSw
                (try dsimp only at hSw)
                go_simp
                all_goals (try with_reducible rfl)
              (try simp only [Act.put, List.getElem_toArray, List.getElem_cons_zero, List.getElem_cons_succ, List.setIfInBounds_toArray, List.set_cons_zero, List.set_cons_succ])
              refine wpAnyH_done (by kernel_rfl) ?_ _
              have hbx := hHeld.2.2.2.2
              clear hHeld hd hq1
              replace y0 := cell_next hbx y0 (cell_lt (x := ⟨rb, rof, none⟩) y0)
              replace y1 := cell_next hbx y1 (cell_lt (x := ⟨rb, rof + 1, none⟩) y1)
              replace y2 := cell_next hbx y2 (cell_lt (x := ⟨rb, rof + 2, none⟩) y2)
              replace y3 := cell_next hbx y3 (cell_lt (x := ⟨rb, rof + 3, none⟩) y3)
              replace s0 := cell_next hbx s0 (cell_lt (x := ⟨bs, 0, none⟩) s0)
              replace s1 := cell_next hbx s1 (cell_lt (x := ⟨bs, 1, none⟩) s1)
              replace s2 := cell_next hbx s2 (cell_lt (x := ⟨bs, 2, none⟩) s2)
              replace s3 := cell_next hbx s3 (cell_lt (x := ⟨bs, 3, none⟩) s3)
              have hbs : bs < w3.heap.size := cell_lt (x := ⟨bs, 0, none⟩) s0
              have S0 : ∀ o, (w3.alloc o).cell? ⟨bs, 0, none⟩ = some (.int .i64 l[i].p) := fun o => box_alloc s0 hbs
              have S1 : ∀ o, (w3.alloc o).cell? ⟨bs, 1, none⟩ = some (.int .i64 l[i].n) := fun o => box_alloc s1 hbs
              have S2 : ∀ o, (w3.alloc o).cell? ⟨bs, 2, none⟩ = some (.int .i64 l[i].v) := fun o => box_alloc s2 hbs
              have S3 : ∀ o, (w3.alloc o).cell? ⟨bs, 3, none⟩ = some (.bool l[i].d) := fun o => box_alloc s3 hbs
              obtain ⟨⟨A1, A2, A3⟩, _, _, hz⟩ := JB0.out.gro (hG.out.trans (Gro.of_below hbx))
              have Z1 : ∀ o, (w3.alloc o).cell? ⟨w.heap.size, 1, none⟩ = some (.int .i64 a) := fun o => box_alloc A1 (by omega)
              have Z2 : ∀ o, (w3.alloc o).cell? ⟨w.heap.size, 2, none⟩ = some (.int .i64 b) := fun o => box_alloc A2 (by omega)
              have Z3 : ∀ o, (w3.alloc o).cell? ⟨w.heap.size, 3, none⟩ = some (.int .i64 c) := fun o => box_alloc A3 (by omega)
              have OX : Hid (w3.ownsRow 0 74 4 u5 m.length (flat m)) := own_next hO.out hbx
              have GX : Hid (Gro W0 w3 (.slice none 0 0) u5) := hG.out.trans (Gro.of_below hbx)
              have SX : Hid (Gro Ws w3 v0 u5) := hS.out.trans (Gro.of_below hbx)
              have hE' : Hid (m ++ fil a b c [l2[j]] ++ jn a b c x y z (l.drop i) (l2.drop (j + 1)) = jn a b c x y z l l2) := by
                show _ = _
                rw [List.append_assoc, ← HP.out]
                exact hE.out
              have es := eqd l2[j].p l2[j].n l[i].p l[i].n
              have n1 : 1 ≤ n := dn
              have rc1 : 1 ≤ rc := by omega
              have n1' : (1 : Int) ≤ (n : Int) := by omega
              have hR1 : Hid (SibRow W0 (some ⟨rb, rof + 4, none⟩) (l2.drop (j + 1))) := row_tail hR.out
              clear hbx hO hG hS hE hR s0 s1 s2 s3 A1 A2 A3
              by_cases hr1 : rc = 1
              · obtain rfl : n = 1 := by omega
                subst hr1
                go_wp2_with fail
                refine (au_gen 1 1 (some ⟨w3.heap.size + 1, 0, none⟩) [l2[j]] m a b c u5 _ rfl (by have := hM.out; simp; omega) (one_node HN2 hj2) lit_row1 (lit_ne1 OX) ((OX.out.alloc _).alloc _)).mono ?_
                rintro e w6 ⟨v', rfl, ho6, hg6⟩
                have G6 : Hid (Gro W0 w6 (.slice none 0 0) v') := GX.out.trans ((Gro.of_below (bel_alloc _ _)).trans ((Gro.of_below (bel_alloc _ _)).trans hg6))
                have S6 : Hid (Gro Ws w6 v0 v') := SX.out.trans ((Gro.of_below (bel_alloc _ _)).trans ((Gro.of_below (bel_alloc _ _)).trans hg6))
                have O6 : Hid (w6.ownsRow 0 74 4 v' (m ++ fil a b c [l2[j]]).length (flat (m ++ fil a b c [l2[j]]))) := ho6
                have M6 : Hid ((m ++ fil a b c [l2[j]]).length ≤ i + (j + 1)) := by
                  have h1 := fil_one_le a b c l2[j]
                  have h2 := hM.out
                  show _ ≤ _
                  simp only [List.length_append]
                  omega
                clear ho6 hg6 Z1 Z2 Z3 S0 S1 S2 S3 y0 y1 y2 y3
                go_wp2
                go_roundg (gk - 1)
                case measure => omega
                case rel => exact ⟨j + 1, m ++ fil a b c [l2[j]], (some ⟨rb, rof, none⟩), 0, 0, by omega, ⟨hil, by omega, rfl, by omega, row_none (by omega), G6.out, O6.out, hE'.out, M6.out⟩, S6.out⟩
              · have rc2 : 1 < rc := by omega
                go_wp2_with fail
                refine (au_gen 1 1 (some ⟨w3.heap.size + 1, 0, none⟩) [l2[j]] m a b c u5 _ rfl (by have := hM.out; simp; omega) (one_node HN2 hj2) lit_row1 (lit_ne1 OX) ((OX.out.alloc _).alloc _)).mono ?_
                rintro e w6 ⟨v', rfl, ho6, hg6⟩
                have G6 : Hid (Gro W0 w6 (.slice none 0 0) v') := GX.out.trans ((Gro.of_below (bel_alloc _ _)).trans ((Gro.of_below (bel_alloc _ _)).trans hg6))
                have S6 : Hid (Gro Ws w6 v0 v') := SX.out.trans ((Gro.of_below (bel_alloc _ _)).trans ((Gro.of_below (bel_alloc _ _)).trans hg6))
                have O6 : Hid (w6.ownsRow 0 74 4 v' (m ++ fil a b c [l2[j]]).length (flat (m ++ fil a b c [l2[j]]))) := ho6
                have M6 : Hid ((m ++ fil a b c [l2[j]]).length ≤ i + (j + 1)) := by
                  have h1 := fil_one_le a b c l2[j]
                  have h2 := hM.out
                  show _ ≤ _
                  simp only [List.length_append]
                  omega
                clear ho6 hg6 Z1 Z2 Z3 S0 S1 S2 S3 y0 y1 y2 y3
                go_wp2
                go_roundg (gk - 1)
                case measure => omega
                case rel => exact ⟨j + 1, m ++ fil a b c [l2[j]], (some ⟨rb, rof + 4, none⟩), (rc - 1), (n - 1), by omega, ⟨hil, by omega, rfl, by omega, hR1.out, G6.out, O6.out, hE'.out, M6.out⟩, S6.out⟩
              
            · have HP : Hid (jn a b c x y z (l.drop i) (l2.drop j) = [l[i]] ++ jn a b c x y z (l.drop (i + 1)) (l2.drop (j + 1))) := jn_same a b c x y z l l2 i j hkl hj2 (by have := of_decide_eq_true hd; omega) (of_decide_eq_true he)
              have hq : (l2[j].p == l[i].p && l2[j].n == l[i].n) = true := dot_eq (of_decide_eq_true he)
              clear he
              have hq1 : ¬ l2[j].p = l[i].p ∨ True := .inr trivial
              go_wp2
              refine wp_region_held_drew (S := (fun w' => w'.cell? ⟨rb, rof, none⟩ = some (.int .i64 l2[j].p) ∧ w'.cell? ⟨rb, rof + 1, none⟩ = some (.int .i64 l2[j].n) ∧ w'.cell? ⟨bs, 0, none⟩ = some (.int .i64 l[i].p) ∧ w'.cell? ⟨bs, 1, none⟩ = some (.int .i64 l[i].n) ∧ Below wr.heap.size wr w')) (by kernel_rfl) ?_ (fun hHeld => ?_)
              · (try dsimp only)
                exact ⟨y0, y1, s0, s1, bel_drew _⟩
              refine wpAnyH_take (i := 0) (v := ?_) rfl (by kernel_rfl) (by kernel_rfl) (by kernel_rfl) (fun _ _ _ h => h) (Or.inl ⟨by rfl, ?_⟩) (by assumption) ?_
              rotate_left
              · intro w' hSw
                (try dsimp only at hSw)
                go_simp
                all_goals (try with_reducible rfl)
              (try simp only [Act.put, List.getElem_toArray, List.getElem_cons_zero, List.getElem_cons_succ, List.setIfInBounds_toArray, List.set_cons_zero, List.set_cons_succ])
              refine wpAnyH_take (i := 1) (v := ?_) rfl (by kernel_rfl) (by kernel_rfl) (by kernel_rfl) (fun _ _ _ h => h) (Or.inl ⟨by rfl, ?_⟩) (by assumption) ?_
              rotate_left
              · intro w' hSw
                (try dsimp only at hSw)
                go_simp
                all_goals (try with_reducible rfl)
              (try simp only [Act.put, List.getElem_toArray, List.getElem_cons_zero, List.getElem_cons_succ, List.setIfInBounds_toArray, List.set_cons_zero, List.set_cons_succ])
              refine wpAnyH_take (i := 2) (v := ?_) rfl (by kernel_rfl) (by kernel_rfl) (by kernel_rfl) (fun _ _ _ h => h) (Or.inl ⟨by rfl, ?_⟩) (by assumption) ?_
              rotate_left
              · intro w' hSw
                (try dsimp only at hSw)
                go_simp
                all_goals (try with_reducible rfl)
              (try simp only [Act.put, List.getElem_toArray, List.getElem_cons_zero, List.getElem_cons_succ, List.setIfInBounds_toArray, List.set_cons_zero, List.set_cons_succ])
              refine wpAnyH_take (i := 3) (v := ?_) rfl (by kernel_rfl) (by kernel_rfl) (by kernel_rfl) (fun _ _ _ h => h) (Or.inl ⟨by rfl, ?_⟩) (by assumption) ?_
              rotate_left
              · intro w' hSw
                (try dsimp only at hSw)
                go_simp
                all_goals (try with_reducible rfl)
              (try simp only [Act.put, List.getElem_toArray, List.getElem_cons_zero, List.getElem_cons_succ, List.setIfInBounds_toArray, List.set_cons_zero, List.set_cons_succ])
              refine wpAnyH_take (i := 4) (v := ?_) rfl (by kernel_rfl) (by kernel_rfl) (by kernel_rfl) (fun _ _ _ h => h) (Or.inl ⟨by rfl, ?_⟩) (by assumption) ?_
              rotate_left
              · intro w' hSw
                (try dsimp only at hSw)
                go_simp
                all_goals (try with_reducible rfl)
              (try simp only [Act.put, List.getElem_toArray, List.getElem_cons_zero, List.getElem_cons_succ, List.setIfInBounds_toArray, List.set_cons_zero, List.set_cons_succ])
              refine wpAnyH_take (i := 5) (v := ?_) rfl (by kernel_rfl) (by kernel_rfl) (by kernel_rfl) (fun _ _ _ h => h) (Or.inl ⟨by rfl, ?_⟩) (by assumption) ?_
              rotate_left
              · intro w' hSw
                (try dsimp only at hSw)
                go_simp
                all_goals (try with_reducible rfl)
              (try simp only [Act.put, List.getElem_toArray, List.getElem_cons_zero, List.getElem_cons_succ, List.setIfInBounds_toArray, List.set_cons_zero, List.set_cons_succ])
              refine wpAnyH_take (i := 6) (v := ?_) rfl (by kernel_rfl) (by kernel_rfl) (by kernel_rfl) (fun _ _ _ h => h) (Or.inl ⟨by rfl, ?_⟩) (by assumption) ?_
              rotate_left
              · intro w' hSw
                (try dsimp only at hSw)
                go_simp
                all_goals (try with_reducible rfl)
              (try simp only [Act.put, List.getElem_toArray, List.getElem_cons_zero, List.getElem_cons_succ, List.setIfInBounds_toArray, List.set_cons_zero, List.set_cons_succ])
              refine wpAnyH_take (i := 7) (v := ?_) rfl (by kernel_rfl) (by kernel_rfl) (by kernel_rfl) (fun _ _ _ h => h) (Or.inl ⟨by rfl, ?_⟩) (by assumption) ?_
              rotate_left
              · intro w' hSw
                (try dsimp only at hSw)
                go_simp
                all_goals (try with_reducible rfl)
              (try simp only [Act.put, List.getElem_toArray, List.getElem_cons_zero, List.getElem_cons_succ, List.setIfInBounds_toArray, List.set_cons_zero, List.set_cons_succ])
              refine wpAnyH_take (i := 8) (v := ?_) rfl (by kernel_rfl) (by kernel_rfl) (by kernel_rfl) (fun _ _ _ h => h) (Or.inl ⟨by rfl, ?_⟩) (by assumption) ?_
              rotate_left
              · intro w' hSw
                (try dsimp only at hSw)
                go_simp
                all_goals (try with_reducible rfl)
              (try simp only [Act.put, List.getElem_toArray, List.getElem_cons_zero, List.getElem_cons_succ, List.setIfInBounds_toArray, List.set_cons_zero, List.set_cons_succ])
              refine wpAnyH_take (i := 9) (v := ?_) rfl (by kernel_rfl) (by kernel_rfl) (by kernel_rfl) (fun _ _ _ h => h) (Or.inl ⟨by rfl, ?_⟩) (by assumption) ?_
              rotate_left
              · intro w' hSw
                (try dsimp only at hSw)
                go_simp
                all_goals (try with_reducible rfl)
              (try simp only [Act.put, List.getElem_toArray, List.getElem_cons_zero, List.getElem_cons_succ, List.setIfInBounds_toArray, List.set_cons_zero, List.set_cons_succ])
              refine wpAnyH_ready (rs := [10]) (by kernel_rfl) (by simp) ?_
              refine AllReadyH.cons rfl (fun K hK => ?_) AllReadyH.nil
              (try simp only [Act.put, List.getElem_toArray, List.getElem_cons_zero, List.getElem_cons_succ, List.setIfInBounds_toArray, List.set_cons_zero, List.set_cons_succ])
              go_simp
              (go_at_call 64; refine (cmpDots_any l2[j].p l2[j].n l[i].p l[i].n _).mono ?_; rintro e w3 ⟨rfl, hb⟩)
              (try simp only [])
              refine hK.out _ _ ?_ (fun hHeld' => ?_)
              · (try dsimp only)
                exact ⟨cell_next hb hHeld.1 (cell_lt (x := ⟨rb, rof, none⟩) hHeld.1), cell_next hb hHeld.2.1 (cell_lt (x := ⟨rb, rof + 1, none⟩) hHeld.2.1), cell_next hb hHeld.2.2.1 (cell_lt (x := ⟨bs, 0, none⟩) hHeld.2.2.1), cell_next hb hHeld.2.2.2.1 (cell_lt (x := ⟨bs, 1, none⟩) hHeld.2.2.2.1), (bel_next hHeld.2.2.2.2 hb).out⟩
              clear hK K
              clear hHeld
              have hHeld := hHeld'
              clear hHeld'
              clear hb
              (try simp only [Act.put, List.getElem_toArray, List.getElem_cons_zero, List.getElem_cons_succ, List.setIfInBounds_toArray, List.set_cons_zero, List.set_cons_succ])
              refine wpAnyH_take (i := 11) (v := ?_) rfl (by kernel_rfl) (by kernel_rfl) (by kernel_rfl) (fun _ _ _ h => h) (Or.inl ⟨by rfl, ?_⟩) (by assumption) ?_
              rotate_left
              · intro w' hSw
                (try dsimp only at hSw)
                go_simp
                all_goals (try with_reducible rfl)
              (try simp only [Act.put, List.getElem_toArray, List.getElem_cons_zero, List.getElem_cons_succ, List.setIfInBounds_toArray, List.set_cons_zero, List.set_cons_succ])
              refine wpAnyH_take (i := 12) (v := ?_) rfl (by kernel_rfl) (by kernel_rfl) (by kernel_rfl) (fun _ _ _ h => h) (Or.inl ⟨by rfl, ?_⟩) (by assumption) ?_
              rotate_left
              · intro w' hSw
                (try dsimp only at hSw)
                go_simp
                all_goals (try with_reducible rfl)
              (try simp only [Act.put, List.getElem_toArray, List.getElem_cons_zero, List.getElem_cons_succ, List.setIfInBounds_toArray, List.set_cons_zero, List.set_cons_succ])
              refine wpAnyH_done (by kernel_rfl) ?_ _
              have hbx := hHeld.2.2.2.2
              clear hHeld hd hq1
              replace y0 := cell_next hbx y0 (cell_lt (x := ⟨rb, rof, none⟩) y0)
              replace y1 := cell_next hbx y1 (cell_lt (x := ⟨rb, rof + 1, none⟩) y1)
              replace y2 := cell_next hbx y2 (cell_lt (x := ⟨rb, rof + 2, none⟩) y2)
              replace y3 := cell_next hbx y3 (cell_lt (x := ⟨rb, rof + 3, none⟩) y3)
              replace s0 := cell_next hbx s0 (cell_lt (x := ⟨bs, 0, none⟩) s0)
              replace s1 := cell_next hbx s1 (cell_lt (x := ⟨bs, 1, none⟩) s1)
              replace s2 := cell_next hbx s2 (cell_lt (x := ⟨bs, 2, none⟩) s2)
              replace s3 := cell_next hbx s3 (cell_lt (x := ⟨bs, 3, none⟩) s3)
              have hbs : bs < w3.heap.size := cell_lt (x := ⟨bs, 0, none⟩) s0
              have S0 : ∀ o, (w3.alloc o).cell? ⟨bs, 0, none⟩ = some (.int .i64 l[i].p) := fun o => box_alloc s0 hbs
              have S1 : ∀ o, (w3.alloc o).cell? ⟨bs, 1, none⟩ = some (.int .i64 l[i].n) := fun o => box_alloc s1 hbs
              have S2 : ∀ o, (w3.alloc o).cell? ⟨bs, 2, none⟩ = some (.int .i64 l[i].v) := fun o => box_alloc s2 hbs
              have S3 : ∀ o, (w3.alloc o).cell? ⟨bs, 3, none⟩ = some (.bool l[i].d) := fun o => box_alloc s3 hbs
              obtain ⟨⟨A1, A2, A3⟩, _, _, hz⟩ := JB0.out.gro (hG.out.trans (Gro.of_below hbx))
              have Z1 : ∀ o, (w3.alloc o).cell? ⟨w.heap.size, 1, none⟩ = some (.int .i64 a) := fun o => box_alloc A1 (by omega)
              have Z2 : ∀ o, (w3.alloc o).cell? ⟨w.heap.size, 2, none⟩ = some (.int .i64 b) := fun o => box_alloc A2 (by omega)
              have Z3 : ∀ o, (w3.alloc o).cell? ⟨w.heap.size, 3, none⟩ = some (.int .i64 c) := fun o => box_alloc A3 (by omega)
              have OX : Hid (w3.ownsRow 0 74 4 u5 m.length (flat m)) := own_next hO.out hbx
              have GX : Hid (Gro W0 w3 (.slice none 0 0) u5) := hG.out.trans (Gro.of_below hbx)
              have SX : Hid (Gro Ws w3 v0 u5) := hS.out.trans (Gro.of_below hbx)
              have hE' : Hid (m ++ [l[i]] ++ jn a b c x y z (l.drop (i + 1)) (l2.drop (j + 1)) = jn a b c x y z l l2) := by
                show _ = _
                rw [List.append_assoc, ← HP.out]
                exact hE.out
              have es := eqd l2[j].p l2[j].n l[i].p l[i].n
              have n1 : 1 ≤ n := dn
              have rc1 : 1 ≤ rc := by omega
              have n1' : (1 : Int) ≤ (n : Int) := by omega
              have hR1 : Hid (SibRow W0 (some ⟨rb, rof + 4, none⟩) (l2.drop (j + 1))) := row_tail hR.out
              clear hbx hO hG hS hE hR s0 s1 s2 s3 A1 A2 A3
              by_cases hr1 : rc = 1
              · obtain rfl : n = 1 := by omega
                subst hr1
                go_wp2_with (first | (at_builtin; refine wpList_append2 rfl _ _ 29 rfl 74 i0 (.agg #[.int .i64 0, .int .i64 0, .int .i64 0, .bool false]) 4 32 Tryd.underlying29 HI.out.1 HI.out.2.1 HI.out.2.2.1 HI.out.2.2.2 rfl (by decide) _ _ _ rfl ((OX.out.alloc _).alloc _) ⟨w3.heap.size + 1, 0, none⟩ 1 1 (flat [l[i]]) rfl rfl (one_cells lit_at1) (flat_one _) ?c3 ?c4 ?_) | go_in)
                case c3 => have := hM.out; unfold maxLen; omega
                case c4 => have := hM.out; omega
                intro v' w6 ho6 hg6
                have G6 : Hid (Gro W0 w6 (.slice none 0 0) v') := GX.out.trans ((Gro.of_below (bel_alloc _ _)).trans ((Gro.of_below (bel_alloc _ _)).trans hg6))
                have O6 : Hid (w6.ownsRow 0 74 4 v' (m ++ [l[i]]).length (flat (m ++ [l[i]]))) := own_cast ho6 (by simp) (by rw [flat_append])
                have M6 : Hid ((m ++ [l[i]]).length ≤ i + 1 + (j + 1)) := by
                  have h2 := hM.out
                  show _ ≤ _
                  simp only [List.length_append, List.length_cons, List.length_nil]
                  omega
                clear ho6 hg6 Z1 Z2 Z3 S0 S1 S2 S3 y0 y1 y2 y3
                go_wp2
                go_roundg go
                case measure => omega
                case rel => exact ⟨i + 1, j + 1, m ++ [l[i]], (some ⟨rb, rof, none⟩), 0, 0, by omega, by go_num, by omega, by omega, rfl, by omega, row_none (by omega), G6.out, O6.out, hE'.out, M6.out⟩
              · have rc2 : 1 < rc := by omega
                go_wp2_with (first | (at_builtin; refine wpList_append2 rfl _ _ 29 rfl 74 i0 (.agg #[.int .i64 0, .int .i64 0, .int .i64 0, .bool false]) 4 32 Tryd.underlying29 HI.out.1 HI.out.2.1 HI.out.2.2.1 HI.out.2.2.2 rfl (by decide) _ _ _ rfl ((OX.out.alloc _).alloc _) ⟨w3.heap.size + 1, 0, none⟩ 1 1 (flat [l[i]]) rfl rfl (one_cells lit_at1) (flat_one _) ?c3 ?c4 ?_) | go_in)
                case c3 => have := hM.out; unfold maxLen; omega
                case c4 => have := hM.out; omega
                intro v' w6 ho6 hg6
                have G6 : Hid (Gro W0 w6 (.slice none 0 0) v') := GX.out.trans ((Gro.of_below (bel_alloc _ _)).trans ((Gro.of_below (bel_alloc _ _)).trans hg6))
                have O6 : Hid (w6.ownsRow 0 74 4 v' (m ++ [l[i]]).length (flat (m ++ [l[i]]))) := own_cast ho6 (by simp) (by rw [flat_append])
                have M6 : Hid ((m ++ [l[i]]).length ≤ i + 1 + (j + 1)) := by
                  have h2 := hM.out
                  show _ ≤ _
                  simp only [List.length_append, List.length_cons, List.length_nil]
                  omega
                clear ho6 hg6 Z1 Z2 Z3 S0 S1 S2 S3 y0 y1 y2 y3
                go_wp2
                go_roundg go
                case measure => omega
                case rel => exact ⟨i + 1, j + 1, m ++ [l[i]], (some ⟨rb, rof + 4, none⟩), (rc - 1), (n - 1), by omega, by go_num, by omega, by omega, rfl, by omega, hR1.out, G6.out, O6.out, hE'.out, M6.out⟩
              
        · have HP : Hid (jn a b c x y z (l.drop i) (l2.drop j) = fil x y z [l[i]] ++ jn a b c x y z (l.drop (i + 1)) (l2.drop j)) := jn_out a b c x y z l l2 i j hkl (by omega)
          obtain rfl : n = 0 := by omega
          go_wp2
          refine wp_region_held_drew (S := (fun w' => Below wr.heap.size wr w')) (by kernel_rfl) ?_ (fun hHeld => ?_)
          · (try dsimp only)
            exact bel_drew _
          refine wpAnyH_take (i := 0) (v := ?_) rfl (by kernel_rfl) (by kernel_rfl) (by kernel_rfl) (fun _ _ _ h => h) (Or.inl ⟨by rfl, ?_⟩) (by assumption) ?_
          rotate_left
          · intro w' hSw
            (try dsimp only at hSw)
            go_simp
            all_goals (try with_reducible rfl)
          (try simp only [Act.put, List.getElem_toArray, List.getElem_cons_zero, List.getElem_cons_succ, List.setIfInBounds_toArray, List.set_cons_zero, List.set_cons_succ])
          refine wpAnyH_take (i := 1) (v := ?_) rfl (by kernel_rfl) (by kernel_rfl) (by kernel_rfl) (fun _ _ _ h => h) (Or.inl ⟨by rfl, ?_⟩) (by assumption) ?_
          rotate_left
          · intro w' hSw
            (try dsimp only at hSw)
            go_simp
            all_goals (try with_reducible rfl)
          (try simp only [Act.put, List.getElem_toArray, List.getElem_cons_zero, List.getElem_cons_succ, List.setIfInBounds_toArray, List.set_cons_zero, List.set_cons_succ])
          refine wpAnyH_take (i := 2) (v := ?_) rfl (by kernel_rfl) (by kernel_rfl) (by kernel_rfl) (fun _ _ _ h => h) (Or.inl ⟨by rfl, ?_⟩) (by assumption) ?_
          rotate_left
          · intro w' hSw
            (try dsimp only at hSw)
            go_simp
            all_goals (try with_reducible rfl)
          (try simp only [Act.put, List.getElem_toArray, List.getElem_cons_zero, List.getElem_cons_succ, List.setIfInBounds_toArray, List.set_cons_zero, List.set_cons_succ])
          refine wpAnyH_take (i := 3) (v := ?_) rfl (by kernel_rfl) (by kernel_rfl) (by kernel_rfl) (fun _ _ _ h => h) (Or.inl ⟨by rfl, ?_⟩) (by assumption) ?_
          rotate_left
          · intro w' hSw
            (try dsimp only at hSw)
            go_simp
            all_goals (try with_reducible rfl)
          (try simp only [Act.put, List.getElem_toArray, List.getElem_cons_zero, List.getElem_cons_succ, List.setIfInBounds_toArray, List.set_cons_zero, List.set_cons_succ])
          refine wpAnyH_take (i := 4) (v := undef) rfl (by kernel_rfl) (by kernel_rfl) (by kernel_rfl) (fun _ _ _ h => h) (Or.inr ⟨by rfl, rfl⟩) (by assumption) ?_
          (try simp only [Act.put, List.getElem_toArray, List.getElem_cons_zero, List.getElem_cons_succ, List.setIfInBounds_toArray, List.set_cons_zero, List.set_cons_succ])
          refine wpAnyH_take (i := 5) (v := undef) rfl (by kernel_rfl) (by kernel_rfl) (by kernel_rfl) (fun _ _ _ h => h) (Or.inr ⟨by rfl, rfl⟩) (by assumption) ?_
          (try simp only [Act.put, List.getElem_toArray, List.getElem_cons_zero, List.getElem_cons_succ, List.setIfInBounds_toArray, List.set_cons_zero, List.set_cons_succ])
          refine wpAnyH_take (i := 6) (v := undef) rfl (by kernel_rfl) (by kernel_rfl) (by kernel_rfl) (fun _ _ _ h => h) (Or.inr ⟨by rfl, rfl⟩) (by assumption) ?_
          (try simp only [Act.put, List.getElem_toArray, List.getElem_cons_zero, List.getElem_cons_succ, List.setIfInBounds_toArray, List.set_cons_zero, List.set_cons_succ])
          refine wpAnyH_take (i := 7) (v := undef) rfl (by kernel_rfl) (by kernel_rfl) (by kernel_rfl) (fun _ _ _ h => h) (Or.inr ⟨by rfl, rfl⟩) (by assumption) ?_
          (try simp only [Act.put, List.getElem_toArray, List.getElem_cons_zero, List.getElem_cons_succ, List.setIfInBounds_toArray, List.set_cons_zero, List.set_cons_succ])
          refine wpAnyH_take (i := 8) (v := undef) rfl (by kernel_rfl) (by kernel_rfl) (by kernel_rfl) (fun _ _ _ h => h) (Or.inr ⟨by rfl, rfl⟩) (by assumption) ?_
          (try simp only [Act.put, List.getElem_toArray, List.getElem_cons_zero, List.getElem_cons_succ, List.setIfInBounds_toArray, List.set_cons_zero, List.set_cons_succ])
          refine wpAnyH_take (i := 9) (v := undef) rfl (by kernel_rfl) (by kernel_rfl) (by kernel_rfl) (fun _ _ _ h => h) (Or.inr ⟨by rfl, rfl⟩) (by assumption) ?_
          (try simp only [Act.put, List.getElem_toArray, List.getElem_cons_zero, List.getElem_cons_succ, List.setIfInBounds_toArray, List.set_cons_zero, List.set_cons_succ])
          refine wpAnyH_take (i := 10) (v := undef) rfl (by kernel_rfl) (by kernel_rfl) (by kernel_rfl) (fun _ _ _ h => h) (Or.inr ⟨by rfl, rfl⟩) (by assumption) ?_
          (try simp only [Act.put, List.getElem_toArray, List.getElem_cons_zero, List.getElem_cons_succ, List.setIfInBounds_toArray, List.set_cons_zero, List.set_cons_succ])
          refine wpAnyH_take (i := 11) (v := undef) rfl (by kernel_rfl) (by kernel_rfl) (by kernel_rfl) (fun _ _ _ h => h) (Or.inr ⟨by rfl, rfl⟩) (by assumption) ?_
          (try simp only [Act.put, List.getElem_toArray, List.getElem_cons_zero, List.getElem_cons_succ, List.setIfInBounds_toArray, List.set_cons_zero, List.set_cons_succ])
          refine wpAnyH_take (i := 12) (v := ?_) rfl (by kernel_rfl) (by kernel_rfl) (by kernel_rfl) (fun _ _ _ h => h) (Or.inl ⟨by rfl, ?_⟩) (by assumption) ?_
          rotate_left
          · intro w' hSw
            (try dsimp only at hSw)
            go_simp
            all_goals (try with_reducible rfl)
          (try simp only [Act.put, List.getElem_toArray, List.getElem_cons_zero, List.getElem_cons_succ, List.setIfInBounds_toArray, List.set_cons_zero, List.set_cons_succ])
          refine wpAnyH_done (by kernel_rfl) ?_ _
          have hbx := hHeld
          clear hHeld
          obtain ⟨⟨A1, A2, A3⟩, ⟨B1, B2, B3⟩, _, hz⟩ := JB0.out.gro (hG.out.trans (Gro.of_below hbx))
          replace s0 := cell_next hbx s0 (cell_lt (x := ⟨bs, 0, none⟩) s0)
          replace s1 := cell_next hbx s1 (cell_lt (x := ⟨bs, 1, none⟩) s1)
          replace s2 := cell_next hbx s2 (cell_lt (x := ⟨bs, 2, none⟩) s2)
          replace s3 := cell_next hbx s3 (cell_lt (x := ⟨bs, 3, none⟩) s3)
          have OX : Hid (World.ownsRow (wr.drew) 0 74 4 u5 m.length (flat m)) := own_next hO.out hbx
          have GX : Hid (Gro W0 wr.drew (.slice none 0 0) u5) := hG.out.trans (Gro.of_below hbx)
          clear A1 A2 A3
          go_wp2_with fail
          refine (au_gen 1 1 (some ⟨wr.drew.heap.size, 0, none⟩) [l[i]] m x y z u5 _ rfl (by have := hM.out; simp; omega) (one_node HN1 hkl) (lit_row) (lit_ne OX) (OX.out.alloc _)).mono ?_
          rintro e w6 ⟨v', rfl, ho6, hg6⟩
          have G6 : Hid (Gro W0 w6 (.slice none 0 0) v') := GX.out.trans ((Gro.of_below (bel_alloc _ _)).trans hg6)
          have O6 : Hid (_ : Prop) := ho6
          have E6 : Hid ((m ++ fil x y z [l[i]]) ++ jn a b c x y z (l.drop (i + 1)) (l2.drop j) = jn a b c x y z l l2) := by
            show _ = _
            rw [List.append_assoc, ← HP.out]
            exact hE.out
          have M6 : Hid ((m ++ fil x y z [l[i]]).length ≤ i + 1 + j) := by
            have h1 := fil_one_le x y z l[i]
            have h2 := hM.out
            show _ ≤ _
            simp only [List.length_append]
            omega
          clear ho6 hg6 B1 B2 B3 s0 s1 s2 s3
          go_wp2
          go_roundg go
          case measure => omega
          case rel => exact ⟨i + 1, j, m ++ fil x y z [l[i]], _, rc, 0, by omega, by go_num, by omega, by omega, rfl, by omega, hR.out, G6.out, O6.out, E6.out, M6.out⟩
    · have hkl' : ¬ (i : Int) < (l.length : Int) := by omega
      have HEE : Hid (m ++ fil a b c (l2.drop j) = jn a b c x y z l l2) := by
        have := hE.out
        rw [jn_end _ _ _ _ _ _ _ _ _ _ (by omega)] at this
        exact this
      have HD2 : Hid (∀ i (h : i < (l2.drop j).length), 0 ≤ (l2.drop j)[i].p ∧ (l2.drop j)[i].p < 3) := fun i h => by
        rw [List.getElem_drop]
        exact HN2.out _ _
      obtain ⟨⟨A1, A2, A3⟩, ⟨B1, B2, B3⟩, _, hz⟩ := JB0.out.gro hG.out
      go_wp2
      refine wp_region_held_drew (S := (fun w' => w'.cell? ⟨w.heap.size, 1, none⟩ = some (.int .i64 a) ∧ w'.cell? ⟨w.heap.size, 2, none⟩ = some (.int .i64 b) ∧ w'.cell? ⟨w.heap.size, 3, none⟩ = some (.int .i64 c) ∧ w'.cell? ⟨w.heap.size + 1, 1, none⟩ = some (.int .i64 x) ∧ w'.cell? ⟨w.heap.size + 1, 2, none⟩ = some (.int .i64 y) ∧ w'.cell? ⟨w.heap.size + 1, 3, none⟩ = some (.int .i64 z))) (by kernel_rfl) ?_ (fun hHeld => ?_)
      · (try dsimp only)
        exact ⟨A1, A2, A3, B1, B2, B3⟩
      refine wpAnyH_take (i := 0) (v := ?_) rfl (by kernel_rfl) (by kernel_rfl) (by kernel_rfl) (fun _ _ _ h => h) (Or.inl ⟨by rfl, ?_⟩) (by assumption) ?_
      rotate_left
      · intro w' hSw
        (try dsimp only at hSw)
        go_simp
        all_goals (try with_reducible rfl)
      (try simp only [Act.put, List.getElem_toArray, List.getElem_cons_zero, List.getElem_cons_succ, List.setIfInBounds_toArray, List.set_cons_zero, List.set_cons_succ])
      refine wpAnyH_take (i := 1) (v := ?_) rfl (by kernel_rfl) (by kernel_rfl) (by kernel_rfl) (fun _ _ _ h => h) (Or.inl ⟨by rfl, ?_⟩) (by assumption) ?_
      rotate_left
      · intro w' hSw
        (try dsimp only at hSw)
        go_simp
        all_goals (try with_reducible rfl)
      (try simp only [Act.put, List.getElem_toArray, List.getElem_cons_zero, List.getElem_cons_succ, List.setIfInBounds_toArray, List.set_cons_zero, List.set_cons_succ])
      refine wpAnyH_take (i := 2) (v := ?_) rfl (by kernel_rfl) (by kernel_rfl) (by kernel_rfl) (fun _ _ _ h => h) (Or.inl ⟨by rfl, ?_⟩) (by assumption) ?_
      rotate_left
      · intro w' hSw
        (try dsimp only at hSw)
        go_simp
        all_goals (try with_reducible rfl)
      (try simp only [Act.put, List.getElem_toArray, List.getElem_cons_zero, List.getElem_cons_succ, List.setIfInBounds_toArray, List.set_cons_zero, List.set_cons_succ])
      refine wpAnyH_take (i := 3) (v := ?_) rfl (by kernel_rfl) (by kernel_rfl) (by kernel_rfl) (fun _ _ _ h => h) (Or.inl ⟨by rfl, ?_⟩) (by assumption) ?_
      rotate_left
      · intro w' hSw
        (try dsimp only at hSw)
        go_simp
        all_goals (try with_reducible rfl)
      (try simp only [Act.put, List.getElem_toArray, List.getElem_cons_zero, List.getElem_cons_succ, List.setIfInBounds_toArray, List.set_cons_zero, List.set_cons_succ])
      refine wpAnyH_take (i := 5) (v := ?_) rfl (by kernel_rfl) (by kernel_rfl) (by kernel_rfl) (fun _ _ _ h => h) (Or.inl ⟨by rfl, ?_⟩) (by assumption) ?_
      rotate_left
      · intro w' hSw
        (try dsimp only at hSw)
        go_simp
        all_goals (try with_reducible rfl)
      (try simp only [Act.put, List.getElem_toArray, List.getElem_cons_zero, List.getElem_cons_succ, List.setIfInBounds_toArray, List.set_cons_zero, List.set_cons_succ])
      refine wpAnyH_take (i := 6) (v := ?_) rfl (by kernel_rfl) (by kernel_rfl) (by kernel_rfl) (fun _ _ _ h => h) (Or.inl ⟨by rfl, ?_⟩) (by assumption) ?_
      rotate_left
      · intro w' hSw
        (try dsimp only at hSw)
        go_simp
        all_goals (try with_reducible rfl)
      (try simp only [Act.put, List.getElem_toArray, List.getElem_cons_zero, List.getElem_cons_succ, List.setIfInBounds_toArray, List.set_cons_zero, List.set_cons_succ])
      refine wpAnyH_take (i := 7) (v := ?_) rfl (by kernel_rfl) (by kernel_rfl) (by kernel_rfl) (fun _ _ _ h => h) (Or.inl ⟨by rfl, ?_⟩) (by assumption) ?_
      rotate_left
      · intro w' hSw
        (try dsimp only at hSw)
        go_simp
        all_goals (try with_reducible rfl)
      (try simp only [Act.put, List.getElem_toArray, List.getElem_cons_zero, List.getElem_cons_succ, List.setIfInBounds_toArray, List.set_cons_zero, List.set_cons_succ])
      refine wpAnyH_take (i := 8) (v := ?_) rfl (by kernel_rfl) (by kernel_rfl) (by kernel_rfl) (fun _ _ _ h => h) (Or.inl ⟨by rfl, ?_⟩) (by assumption) ?_
      rotate_left
      · intro w' hSw
        (try dsimp only at hSw)
        go_simp
        all_goals (try with_reducible rfl)
      (try simp only [Act.put, List.getElem_toArray, List.getElem_cons_zero, List.getElem_cons_succ, List.setIfInBounds_toArray, List.set_cons_zero, List.set_cons_succ])
      refine wpAnyH_ready (rs := [4]) (by kernel_rfl) (by simp) ?_
      refine AllReadyH.cons rfl (fun K hK => ?_) AllReadyH.nil
      (try simp only [Act.put, List.getElem_toArray, List.getElem_cons_zero, List.getElem_cons_succ, List.setIfInBounds_toArray, List.set_cons_zero, List.set_cons_succ])
      go_simp
      (go_at_call 67; refine (au_gen rc n ro (l2.drop j) m a b c u5 _ (by simp; omega) (by have := hM.out; simp; omega) HD2.out (row_next (hG.out.row hR.out (fun _ _ => Gro.none_ne)) (bel_drew _)).out (row_ne hG hR) (hO.out.drew)).mono ?_; rintro e w4 ⟨v', rfl, ho4, hg4⟩; obtain ⟨vo, vn, vc, hv'⟩ := own_slice ho4; subst hv'; have G4 : Gro W0 w4 (.slice none 0 0) (.slice vo vn vc) := hG.out.trans ((Gro.of_below (bel_drew _)).trans hg4); have J4 := JB0.out.gro G4)
      (try simp only [])
      refine hK.out _ _ ?_ (fun hHeld' => ?_)
      · (try dsimp only)
        exact ⟨J4.1.1, J4.1.2.1, J4.1.2.2, J4.2.1.1, J4.2.1.2.1, J4.2.1.2.2⟩
      clear hK K
      clear hHeld
      have hHeld := hHeld'
      clear hHeld'
      (try simp only [Act.put, List.getElem_toArray, List.getElem_cons_zero, List.getElem_cons_succ, List.setIfInBounds_toArray, List.set_cons_zero, List.set_cons_succ])
      refine wpAnyH_ready (rs := [9]) (by kernel_rfl) (by simp) ?_
      refine AllReadyH.cons rfl (fun K hK => ?_) AllReadyH.nil
      (try simp only [Act.put, List.getElem_toArray, List.getElem_cons_zero, List.getElem_cons_succ, List.setIfInBounds_toArray, List.set_cons_zero, List.set_cons_succ])
      go_simp
      (go_at_call 68; refine (greater_any a b c x y z (max a x) (max b y) (max c z) _ (by omega) (by omega) (by omega)).mono ?_; rintro e w5 ⟨rfl, hb⟩; have G5 : Gro W0 w5 (.slice none 0 0) (.slice vo vn vc) := G4.trans (Gro.of_below hb); have J5 := JB0.out.gro G5; have O5 := own_next ho4 hb)
      (try simp only [])
      refine hK.out _ _ ?_ (fun hHeld' => ?_)
      · (try dsimp only)
        exact ⟨J5.1.1, J5.1.2.1, J5.1.2.2, J5.2.1.1, J5.2.1.2.1, J5.2.1.2.2⟩
      clear hK K
      clear hHeld
      have hHeld := hHeld'
      clear hHeld'
      obtain ⟨t0, T0⟩ := Option.isSome_iff_exists.1 (J5.2.2.1 0 (by omega)).1
      have Z0 := (J5.2.2.1 0 (by omega)).2
      obtain ⟨t1, T1⟩ := Option.isSome_iff_exists.1 (J5.2.2.1 1 (by omega)).1
      have Z1 := (J5.2.2.1 1 (by omega)).2
      obtain ⟨t2, T2⟩ := Option.isSome_iff_exists.1 (J5.2.2.1 2 (by omega)).1
      have Z2 := (J5.2.2.1 2 (by omega)).2
      obtain ⟨t3, T3⟩ := Option.isSome_iff_exists.1 (J5.2.2.1 3 (by omega)).1
      have Z3 := (J5.2.2.1 3 (by omega)).2
      (try simp only [Act.put, List.getElem_toArray, List.getElem_cons_zero, List.getElem_cons_succ, List.setIfInBounds_toArray, List.set_cons_zero, List.set_cons_succ])
      refine wpAnyH_take (i := 10) (v := ?_) rfl (by kernel_rfl) (by kernel_rfl) (by kernel_rfl) (fun _ _ _ h => h) (Or.inl ⟨by rfl, ?_⟩) (by assumption) ?_
      rotate_left
      · intro w' hSw
        (try dsimp only at hSw)
        go_simp
        all_goals (try with_reducible rfl)
      (try simp only [Act.put, List.getElem_toArray, List.getElem_cons_zero, List.getElem_cons_succ, List.setIfInBounds_toArray, List.set_cons_zero, List.set_cons_succ])
      refine wpAnyH_ready (rs := [11]) (by kernel_rfl) (by simp) ?_
      refine AllReadyH.cons rfl (fun K hK => ?_) AllReadyH.nil
      (try simp only [Act.put, List.getElem_toArray, List.getElem_cons_zero, List.getElem_cons_succ, List.setIfInBounds_toArray, List.set_cons_zero, List.set_cons_succ])
      go_simp
      (skip)
      (try simp only [])
      refine hK.out _ _ ?_ (fun hHeld' => ?_)
      · (try dsimp only)
        exact ⟨by rw [cell_blk (by omega), cell_blk (by omega), cell_blk (by omega), cell_blk (by omega)]; exact J5.1.1, by rw [cell_blk (by omega), cell_blk (by omega), cell_blk (by omega), cell_blk (by omega)]; exact J5.1.2.1, by rw [cell_blk (by omega), cell_blk (by omega), cell_blk (by omega), cell_blk (by omega)]; exact J5.1.2.2, by rw [cell_blk (by omega), cell_blk (by omega), cell_blk (by omega), cell_blk (by omega)]; exact J5.2.1.1, by rw [cell_blk (by omega), cell_blk (by omega), cell_blk (by omega), cell_blk (by omega)]; exact J5.2.1.2.1, by rw [cell_blk (by omega), cell_blk (by omega), cell_blk (by omega), cell_blk (by omega)]; exact J5.2.1.2.2⟩
      clear hK K
      clear hHeld
      have hHeld := hHeld'
      clear hHeld'
      (try simp only [Act.put, List.getElem_toArray, List.getElem_cons_zero, List.getElem_cons_succ, List.setIfInBounds_toArray, List.set_cons_zero, List.set_cons_succ])
      refine wpAnyH_done (by kernel_rfl) ?_ _
      clear hHeld
      have O6 : Hid (_ : Prop) := O5
      clear HD2 A1 A2 A3 B1 B2 B3
      go_wp2
      (try rw [Exit.noGoto_ret])
      refine bodyPost_ret (v := .agg #[.slice vo vn vc, .int .i64 (max a x), .int .i64 (max b y), .int .i64 (max c z)]) (by simp [results, Tryd.results40, go_sem, T0, T1, T2, T3, Z0, Z1, Z2, Z3]) rfl ⟨_, rfl, ?_, ?_⟩
      · exact Gro.set4 (GW.out.trans G5) (by omega)
      · have hne : (Value.slice vo vn vc).ownBlock ≠ some (w.heap.size + 1 + 1) := nb G5 JB0.out.2.2.2
        exact own_cast (ownsRow_setCell_other (ownsRow_setCell_other (ownsRow_setCell_other (ownsRow_setCell_other O5 hne _) hne _) hne _) hne _) (by rw [HEE.out]) (by rw [HEE.out])
end Go.Proofs.YtcmniplbiliobaaDoor
