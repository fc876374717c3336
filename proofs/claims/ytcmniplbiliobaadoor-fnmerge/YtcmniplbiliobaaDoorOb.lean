/- Three replicas that are drawn. -/
import Derived.Test.YtcmniplbiliobaaDoorRows
import Derived.WalkKit
import Derived.WalkSpells
import Derived.WalkLawsBesides
import Derived.Deep.QuietTactic
import Derived.BigQuiet
import Derived.Deep.RegionHeld3
import Derived.Test.YtcmniplbiliobaaDoorQi
import Derived.LoopN
import Derived.Deep.Cut
namespace Go.Proofs.YtcmniplbiliobaaDoor
open Go.RowKit
set_option linter.unusedSimpArgs false
set_option linter.unusedVariables false
set_option maxRecDepth 100000

section
variable {w wr w1 : World} {g : Nat} {ao : Option Addr} {len cap : Nat} {zs : List Int} {k k' : Int} {V V' : Int → Int → Int × Bool} {m m' n : Nat → Int} {o : Nat → Ov}
theorem qi_by (h : Hid (QI w wr g ao len cap zs k V m n o)) (hgw : g < w.heap.size) (hS : ∃ s, SrcAt w1 g ao len cap k' s) (hR : Gen.IsRow .u8 w1 ao len cap zs) (hG : wr.grownBy w1 (some g)) : Hid (QI w w1 g ao len cap zs k' V m n o) := h.out.by hgw hS hR hG
theorem qi_below (h : Hid (QI w wr g ao len cap zs k V m n o)) (hb : Below wr.heap.size wr w1) : Hid (QI w w1 g ao len cap zs k V m n o) := h.out.below hb
theorem qi_other (h : Hid (QI w wr g ao len cap zs k V m n o)) (hgw : g < w.heap.size) (hold : ∀ x, ao = some x → 0 < cap → x.block < w.heap.size) {q i : Nat} {u : Value} (hq : w.heap.size + 5 ≤ q) (hne : ∀ j, j < 3 → ∀ x, (o j).ao = some x → (o j).l ≠ [] → x.block ≠ q) : Hid (QI w (wr.setCell ⟨q, i, none⟩ u) g ao len cap zs k V m n o) := h.out.other hgw hold hq hne
end
theorem gbl {W W' : World} {v : Value} (h : Gro W W' (.slice none 0 0) v) : Below W.heap.size W W' := h.below (Nat.le_refl _) (fun k hk => absurd hk Gro.none_ne)
theorem max_lt {a b c x y z p n : Int} (h : comp a b c p < n ∧ comp x y z p < n) (hp : p = 0 ∨ p = 1 ∨ p = 2) : comp (max a x) (max b y) (max c z) p < n := by
  rcases hp with rfl | rfl | rfl <;> simp [comp] at * <;> omega
theorem add_any (a b c p n P Q R : Int) (h : p = 0 ∨ p = 1 ∨ p = 2) (hn : comp a b c p < n) (hP : P = if p = 0 then n else a) (hQ : Q = if p = 1 then n else b) (hR : R = if p = 2 then n else c) (w : World) :
    Calls Tryd.prog 81 #[.agg #[.int .i64 a, .int .i64 b, .int .i64 c], .agg #[.int .i64 p, .int .i64 n]] w fun e w' => e = .returned (.agg #[.int .i64 P, .int .i64 Q, .int .i64 R]) ∧ Below w.heap.size w w' := by
  subst hP hQ hR
  rcases h with rfl | rfl | rfl
  · simpa using l01add_0lt a b c n w (by simpa [comp] using hn)
  · simpa using l01add_1lt a b c n w (by simpa [comp] using hn)
  · simpa using l01add_2lt a b c n w (by simpa [comp] using hn)
theorem comp_at (m : Nat → Int) (i : Nat) (hi : i < 3) : comp (m 0) (m 1) (m 2) (i : Int) = m i := by
  have : i = 0 ∨ i = 1 ∨ i = 2 := by omega
  rcases this with rfl | rfl | rfl <;> simp [comp]
theorem upd_same (o : Nat → Ov) (j : Nat) (x : Ov) : upd o j x j = x := if_pos rfl
theorem upd_other (o : Nat → Ov) {j i : Nat} (x : Ov) (h : i ≠ j) : upd o j x i = o i := if_neg h
theorem rp_join {V : Int → Int → Int × Bool} {m : Nat → Int} {o : Nat → Ov} (h : ∀ j, j < 3 → Rp V (m 0) (m 1) (m 2) (o j).l (o j).a (o j).b (o j).c) {i i2 : Nat} (hi : i < 3) (hi2 : i2 < 3) (p : Option Addr) (q : Nat) :
    ∀ j, j < 3 → Rp V (m 0) (m 1) (m 2) (upd o i ⟨p, q, sj (o i).a (o i).b (o i).c (o i2).a (o i2).b (o i2).c (o i).l (o i2).l, max (o i).a (o i2).a, max (o i).b (o i2).b, max (o i).c (o i2).c⟩ j).l (upd o i ⟨p, q, sj (o i).a (o i).b (o i).c (o i2).a (o i2).b (o i2).c (o i).l (o i2).l, max (o i).a (o i2).a, max (o i).b (o i2).b, max (o i).c (o i2).c⟩ j).a (upd o i ⟨p, q, sj (o i).a (o i).b (o i).c (o i2).a (o i2).b (o i2).c (o i).l (o i2).l, max (o i).a (o i2).a, max (o i).b (o i2).b, max (o i).c (o i2).c⟩ j).b (upd o i ⟨p, q, sj (o i).a (o i).b (o i).c (o i2).a (o i2).b (o i2).c (o i).l (o i2).l, max (o i).a (o i2).a, max (o i).b (o i2).b, max (o i).c (o i2).c⟩ j).c := fun j hj => by
  by_cases e : j = i
  · subst e
    rw [upd_same]
    exact (h j hj).join (h i2 hi2)
  · rw [upd_other _ _ e]
    exact h j hj
theorem rp_write {V : Int → Int → Int × Bool} {m : Nat → Int} {o : Nat → Ov} (h : ∀ j, j < 3 → Rp V (m 0) (m 1) (m 2) (o j).l (o j).a (o j).b (o j).c) {i : Nat} (hi : i < 3) (p : Option Addr) (q : Nat) {X Y Z v P Q R : Int} {d : Bool}
    (hX : X ≤ m 0 ∧ Y ≤ m 1 ∧ Z ≤ m 2) (hm : 0 ≤ m 0 ∧ 0 ≤ m 1 ∧ 0 ≤ m 2) (hM : m 0 + m 1 + m 2 ≤ 16) (hv : 0 ≤ v ∧ v ≤ 999) (hd : d = true → v = 0)
    (hP : P = if (i : Int) = 0 then m i + 1 else max (o i).a X) (hQ : Q = if (i : Int) = 1 then m i + 1 else max (o i).b Y) (hR : R = if (i : Int) = 2 then m i + 1 else max (o i).c Z) :
    ∃ V' : Int → Int → Int × Bool, ∀ j, j < 3 → Rp V' (updn m i (m i + 1) 0) (updn m i (m i + 1) 1) (updn m i (m i + 1) 2) (upd o i ⟨p, q, pt ⟨i, m i + 1, v, d⟩ (fil X Y Z (o i).l), P, Q, R⟩ j).l (upd o i ⟨p, q, pt ⟨i, m i + 1, v, d⟩ (fil X Y Z (o i).l), P, Q, R⟩ j).a (upd o i ⟨p, q, pt ⟨i, m i + 1, v, d⟩ (fil X Y Z (o i).l), P, Q, R⟩ j).b (upd o i ⟨p, q, pt ⟨i, m i + 1, v, d⟩ (fil X Y Z (o i).l), P, Q, R⟩ j).c := by
  refine ⟨fun p n => if p = (i : Int) ∧ n = m i + 1 then (v, d) else V p n, fun j hj => ?_⟩
  have hk : m 0 ≤ updn m i (m i + 1) 0 ∧ m 1 ≤ updn m i (m i + 1) 1 ∧ m 2 ≤ updn m i (m i + 1) 2 := by
    unfold updn
    refine ⟨?_, ?_, ?_⟩ <;> (split <;> rename_i e <;> first | omega | (rw [← e]; omega))
  have hV : ∀ (p n : Int), n ≤ comp (m 0) (m 1) (m 2) p → (fun p n => if p = (i : Int) ∧ n = m i + 1 then (v, d) else V p n) p n = V p n := fun p n hn => by
    refine if_neg fun ⟨e1, e2⟩ => ?_
    rw [e1, comp_at m i hi] at hn
    omega
  by_cases e : j = i
  · subst e
    rw [upd_same]
    have q1 := (h j hj).le
    have q2 := (h j hj).pos
    have h3 : j = 0 ∨ j = 1 ∨ j = 2 := by omega
    refine (h j hj).write hk hV ?_ ?_ ?_ ?_ ?_ ?_
    · have : dotB (j : Int) (m j + 1) = true := decide_eq_true (by rcases h3 with rfl | rfl | rfl <;> omega)
      unfold sibOK
      simp only [this, Bool.true_and]
      cases d with
      | false => simp; omega
      | true => simp [hd rfl]
    · rw [comp_at m j hj]
      exact Int.lt_succ _
    · exact (if_pos ⟨rfl, rfl⟩).symm
    · rw [hP, hQ, hR]
      rcases h3 with rfl | rfl | rfl <;> simp <;> omega
    · rw [hP, hQ, hR]
      unfold updn
      rcases h3 with rfl | rfl | rfl <;> simp <;> omega
    · rw [hP, hQ, hR]
      rcases h3 with rfl | rfl | rfl <;> simp [comp]
  · rw [upd_other _ _ e]
    exact (h j hj).more hk hV

theorem ll_of {W : World} {p : Nat} {o : Nat → Ov} (h : ∀ j, j < 3 → ObAt W p (j * 4) (o j)) : W.cell? ⟨p, 0, none⟩ = some (.slice (o 0).ao (o 0).l.length (o 0).cap) ∧ W.cell? ⟨p, 1, none⟩ = some (.int .i64 (o 0).a) ∧ W.cell? ⟨p, 2, none⟩ = some (.int .i64 (o 0).b) ∧ W.cell? ⟨p, 3, none⟩ = some (.int .i64 (o 0).c) ∧ W.cell? ⟨p, 4, none⟩ = some (.slice (o 1).ao (o 1).l.length (o 1).cap) ∧ W.cell? ⟨p, 5, none⟩ = some (.int .i64 (o 1).a) ∧ W.cell? ⟨p, 6, none⟩ = some (.int .i64 (o 1).b) ∧ W.cell? ⟨p, 7, none⟩ = some (.int .i64 (o 1).c) ∧ W.cell? ⟨p, 8, none⟩ = some (.slice (o 2).ao (o 2).l.length (o 2).cap) ∧ W.cell? ⟨p, 9, none⟩ = some (.int .i64 (o 2).a) ∧ W.cell? ⟨p, 10, none⟩ = some (.int .i64 (o 2).b) ∧ W.cell? ⟨p, 11, none⟩ = some (.int .i64 (o 2).c) := by
  obtain ⟨a0, a1, a2, a3⟩ := h 0 (by omega)
  obtain ⟨b0, b1, b2, b3⟩ := h 1 (by omega)
  obtain ⟨c0, c1, c2, c3⟩ := h 2 (by omega)
  exact ⟨a0, a1, a2, a3, b0, b1, b2, b3, c0, c1, c2, c3⟩
theorem m_le {m : Nat → Int} (h : ∀ j, j < 3 → 0 ≤ m j) {i : Nat} (hi : i < 3) {j : Nat} (hs : ((j + 1 : Nat) : Int) + m 0 + m 1 + m 2 ≤ 17) : m i ≤ 16 := by
  have h0 := h 0 (by omega)
  have h1 := h 1 (by omega)
  have h2 := h 2 (by omega)
  have h3 : i = 0 ∨ i = 1 ∨ i = 2 := by omega
  rcases h3 with rfl | rfl | rfl <;> omega
theorem updn_pos {m : Nat → Int} (h : ∀ j, j < 3 → 0 ≤ m j) {i : Nat} {x : Int} (hx : 0 ≤ x) : ∀ j, j < 3 → 0 ≤ updn m i (x + 1) j := fun j hj => by
  unfold updn
  split
  · omega
  · exact h j hj
theorem updn_sum {m : Nat → Int} {i : Nat} (hi : i < 3) {j : Int} (hs : j + 1 + m 0 + m 1 + m 2 ≤ 17) : j + updn m i (m i + 1) 0 + updn m i (m i + 1) 1 + updn m i (m i + 1) 2 ≤ 17 := by
  have h3 : i = 0 ∨ i = 1 ∨ i = 2 := by omega
  rcases h3 with rfl | rfl | rfl <;> simp [updn] <;> omega
theorem ob_new {W : World} {t : TypeId} {p0 p1 p2 : Option Addr} {q0 q1 q2 : Nat} {o : Nat → Ov} : ∀ j, j < 3 → ObAt (W.alloc (.cells #[.slice p0 (o 0).l.length q0, .int .i64 (o 0).a, .int .i64 (o 0).b, .int .i64 (o 0).c, .slice p1 (o 1).l.length q1, .int .i64 (o 1).a, .int .i64 (o 1).b, .int .i64 (o 1).c, .slice p2 (o 2).l.length q2, .int .i64 (o 2).a, .int .i64 (o 2).b, .int .i64 (o 2).c] t)) W.heap.size (j * 4) ((fun j => if j = 0 then (⟨p0, q0, (o 0).l, (o 0).a, (o 0).b, (o 0).c⟩ : Ov) else if j = 1 then ⟨p1, q1, (o 1).l, (o 1).a, (o 1).b, (o 1).c⟩ else ⟨p2, q2, (o 2).l, (o 2).a, (o 2).b, (o 2).c⟩) j) := fun j hj => by
  have h3 : j = 0 ∨ j = 1 ∨ j = 2 := by omega
  rcases h3 with rfl | rfl | rfl <;> (refine ⟨?_, ?_, ?_, ?_⟩ <;> go_simp)
/-- What drawing replicas leaves. -/
def ObP (w : World) (g : Nat) (e : Ending) (w' : World) : Prop := ∃ (V : Int → Int → Int × Bool) (m : Nat → Int) (o : Nat → Ov) (q : Nat), e = .returned (.slice (some ⟨q, 0, none⟩) 3 3) ∧ w.heap.size ≤ q ∧ q < w'.heap.size ∧ (∀ j, j < 3 → ObAt w' q (j * 4) (o j)) ∧ (∀ j, j < 3 → RowO w' g g g (o j)) ∧ (∀ j, j < 3 → Rp V (m 0) (m 1) (m 2) (o j).l (o j).a (o j).b (o j).c) ∧ (m 0 ≤ 17 ∧ m 1 ≤ 17 ∧ m 2 ≤ 17) ∧ w.grownBy w' (some g)
set_option maxHeartbeats 8000000 in
theorem objs_any (g len cap : Nat) (ao : Option Addr) (zs : List Int) (s : Int) (w : World) (h : SrcAt w g ao len cap 0 s) (hr : Gen.IsRow .u8 w ao len cap zs) (hn : ∀ x, ao = some x → 0 < cap → x.block ≠ g) (hold : ∀ x, ao = some x → 0 < cap → x.block < w.heap.size) (hl : (len : Int) ≤ 1048576) :
    Calls Tryd.prog 30 #[.pointer (some ⟨g, 0, none⟩)] w fun e w' => ObP w g e w' := by
  have hgw : g < w.heap.size := h.2.2.2.2.2.1
  have HN : Hid (∀ x, ao = some x → 0 < cap → x.block ≠ g) := hn
  have HOLD : Hid (∀ x, ao = some x → 0 < cap → x.block < w.heap.size) := hold
  have B0 : Below w.heap.size w (((((w.alloc (.cells #[] 74)).alloc (.cells #[] 74)).alloc (.cells #[] 74)).alloc (.cells #[.slice (some ⟨w.heap.size, 0, none⟩) 0 0, .int .i64 0, .int .i64 0, .int .i64 0, .slice (some ⟨w.heap.size + 1, 0, none⟩) 0 0, .int .i64 0, .int .i64 0, .int .i64 0, .slice (some ⟨w.heap.size + 1 + 1, 0, none⟩) 0 0, .int .i64 0, .int .i64 0, .int .i64 0] 32)).alloc (.cells #[.int .i64 0, .int .i64 0, .int .i64 0] 30)) := (((((Below.refl _ _).alloc (Nat.le_refl _) _).alloc (by simp) _).alloc (by simp; omega) _).alloc (by simp; omega) _).alloc (by simp; omega) _
  have D0 : Hid (QI w (((((w.alloc (.cells #[] 74)).alloc (.cells #[] 74)).alloc (.cells #[] 74)).alloc (.cells #[.slice (some ⟨w.heap.size, 0, none⟩) 0 0, .int .i64 0, .int .i64 0, .int .i64 0, .slice (some ⟨w.heap.size + 1, 0, none⟩) 0 0, .int .i64 0, .int .i64 0, .int .i64 0, .slice (some ⟨w.heap.size + 1 + 1, 0, none⟩) 0 0, .int .i64 0, .int .i64 0, .int .i64 0] 32)).alloc (.cells #[.int .i64 0, .int .i64 0, .int .i64 0] 30)) g ao len cap zs 0 (fun _ _ => (0, false)) (fun _ => 0) (fun _ => 0) (fun j => ⟨some ⟨w.heap.size + j, 0, none⟩, 0, [], 0, 0, 0⟩)) := by
    refine ⟨⟨s, h.below B0⟩, row_below hr B0, fun j hj => ?_, fun j hj => ?_, fun j hj => ?_, fun j hj => ?_, fun j hj => ⟨.inl rfl, by simp, fun x hx hl => (hl rfl).elim⟩, fun j hj => rp_nil, by simp, ⟨B0.os, B0.tape, B0.output, B0.size, fun b hb _ => B0.block b hb⟩⟩
    · have h3 : j = 0 ∨ j = 1 ∨ j = 2 := by omega
      rcases h3 with rfl | rfl | rfl <;> (refine ⟨?_, ?_, ?_, ?_⟩ <;> go_simp)
    · have h3 : j = 0 ∨ j = 1 ∨ j = 2 ∨ j = 3 ∨ j = 4 ∨ j = 5 ∨ j = 6 ∨ j = 7 ∨ j = 8 ∨ j = 9 ∨ j = 10 ∨ j = 11 := by omega
      rcases h3 with rfl | rfl | rfl | rfl | rfl | rfl | rfl | rfl | rfl | rfl | rfl | rfl <;> exact ⟨by go_simp, by go_simp⟩
    · have h3 : j = 0 ∨ j = 1 ∨ j = 2 := by omega
      rcases h3 with rfl | rfl | rfl <;> go_simp
    · have h3 : j = 0 ∨ j = 1 ∨ j = 2 := by omega
      rcases h3 with rfl | rfl | rfl <;> exact ⟨by go_simp, by go_simp⟩
  clear h hr hn hold B0
  obtain ⟨s0, hs0⟩ := D0.out.src
  have CS : Hid _ := size_any g len cap ao 0 s0 14 (by omega) (by omega) _ hs0 hl
  clear hs0
  go_enter Tryd.func30, Tryd.ntmps30
  go_wp2_with fail
  refine Calls.mono CS.out ?_
  rintro e w0 ⟨n0, ⟨n1, n2⟩, rfl, hb0⟩
  replace D0 := qi_below D0 hb0
  clear hb0 CS
  obtain ⟨s1, hs1⟩ := D0.out.src
  have CN : Hid _ := next_any g len cap ao zs 0 s1 (n0 + 4) (by omega) (by omega) _ hs1 D0.out.row HN.out hl (by omega) (by omega)
  clear hs1
  have q0 : IntKind.i64.wrap (n0 + 4) = n0 + 4 := by rw [IntKind.wrap_i64]; omega
  go_wp2_with fail
  refine Calls.mono CN.out ?_
  rintro e w1 ⟨n3, t1, ⟨n4, n5⟩, rfl, hS1, hG1⟩
  replace D0 := qi_by D0 hgw ⟨t1, hS1⟩ (row_grown D0.out.row HN.out hG1) hG1
  clear hS1 hG1
  clear CN q0
  obtain ⟨i0, rfl⟩ : ∃ i0 : Nat, n3 = (i0 : Int) := ⟨n3.toNat, by omega⟩
  go_wp2
  go_loopw [5] (fun s5 wr => ∃ (i : Nat) (k : Int) (V : Int → Int → Int × Bool) (m : Nat → Int) (o : Nat → Ov), s5 = .int .i64 i ∧ (∀ j, j < 3 → 0 ≤ m j) ∧ (i : Int) + m 0 + m 1 + m 2 ≤ 17 ∧ 0 ≤ k ∧ k ≤ 1000 - 10 * (i : Int) ∧ QI w wr g ao len cap zs k V m m o) (fun s5 _ => (intOf s5).toNat)
  case atStart => exact ⟨i0, 0 + 1, _, _, _, rfl, fun _ _ => Int.le_refl _, by omega, by omega, by omega, D0.out⟩
  case round =>
    clear D0
    obtain ⟨i, k, V, m, o, rfl, hp0, hsum, hk0, hk1, hD0⟩ := hrel
    have HP : Hid (∀ j, j < 3 → 0 ≤ m j) := hp0
    have DD : Hid (QI w wr g ao len cap zs k V m m o) := hD0
    have HM : Hid (m 0 ≤ 17 ∧ m 1 ≤ 17 ∧ m 2 ≤ 17) := by
      have h0 := hp0 0 (by omega)
      have h1 := hp0 1 (by omega)
      have h2 := hp0 2 (by omega)
      exact ⟨by omega, by omega, by omega⟩
    clear hp0 hD0
    by_cases hi : 0 < i
    · obtain ⟨j, rfl⟩ : ∃ j, i = j + 1 := ⟨i - 1, by omega⟩
      have hi' : (0 : Int) < ((j + 1 : Nat) : Int) := by omega
      have hmin : Hid (∀ j, j < 3 → 0 ≤ m j) := HP
      have g0 := HP.out 0 (by omega)
      have g1 := HP.out 1 (by omega)
      have g2 := HP.out 2 (by omega)
      obtain ⟨sq, hsq⟩ := DD.out.src
      have CC : Hid _ := next_any g len cap ao zs k sq 3 (by omega) (by omega) wr hsq DD.out.row HN.out hl (by omega) (by omega)
      clear hsq
      go_wp2_with fail
      refine Calls.mono CC.out ?_
      rintro e w1 ⟨n2, t1, ⟨b0, b1⟩, rfl, hS1, hG1⟩
      clear CC
      replace DD := qi_by DD hgw ⟨t1, hS1⟩ (row_grown DD.out.row HN.out hG1) hG1
      clear hS1 hG1
      obtain ⟨kk, rfl⟩ : ∃ kk : Nat, n2 = (kk : Int) := ⟨n2.toNat, by omega⟩
      have hk3 : kk < 3 := by omega
      have hkI : (kk : Int) < 3 := by omega
      have hkN : (0 : Int) ≤ (kk : Int) := by omega
      clear b0 b1
      obtain ⟨sq, hsq⟩ := DD.out.src
      have CC : Hid _ := chance_any g len cap ao zs (k + 1) sq 3 (by omega) (by omega) w1 hsq DD.out.row HN.out hl (by omega) (by omega)
      clear hsq
      go_wp2_with fail
      refine Calls.mono CC.out ?_
      rintro e w2 ⟨b, t1, rfl, hS1, hG1⟩
      clear CC
      replace DD := qi_by DD hgw ⟨t1, hS1⟩ (row_grown DD.out.row HN.out hG1) hG1
      clear hS1 hG1
      cases b with
      | true =>
        go_wp2
        refine wp_region_held_drew (S := (fun _ => True)) (by kernel_rfl) trivial (fun hHeld => ?_)
        refine wpAnyH_take (i := 0) (v := ?_) rfl (by kernel_rfl) (by kernel_rfl) (by kernel_rfl) (fun _ _ _ h => h) (Or.inl ⟨by rfl, ?_⟩) (by assumption) ?_
        rotate_left
        · intro w' hSw
          (try dsimp only at hSw)
          go_simp
          all_goals (try with_reducible rfl)
        (try simp only [Act.put, List.getElem_toArray, List.getElem_cons_zero, List.getElem_cons_succ, List.setIfInBounds_toArray, List.set_cons_zero, List.set_cons_succ])
        refine wpAnyH_take (i := 1) (v := ?_) rfl (by kernel_rfl) (by kernel_rfl) (by kernel_rfl) (fun _ _ _ h => h) (Or.inl ⟨by rfl, ?_⟩) (by assumption) ?_
        rotate_left
        · intro w' hSw
          (try dsimp only at hSw)
          go_simp
          all_goals (try with_reducible rfl)
        (try simp only [Act.put, List.getElem_toArray, List.getElem_cons_zero, List.getElem_cons_succ, List.setIfInBounds_toArray, List.set_cons_zero, List.set_cons_succ])
        refine wpAnyH_take (i := 2) (v := ?_) rfl (by kernel_rfl) (by kernel_rfl) (by kernel_rfl) (fun _ _ _ h => h) (Or.inl ⟨by rfl, ?_⟩) (by assumption) ?_
        rotate_left
        · intro w' hSw
          (try dsimp only at hSw)
          go_simp
          all_goals (try with_reducible rfl)
        (try simp only [Act.put, List.getElem_toArray, List.getElem_cons_zero, List.getElem_cons_succ, List.setIfInBounds_toArray, List.set_cons_zero, List.set_cons_succ])
        refine wpAnyH_take (i := 3) (v := ?_) rfl (by kernel_rfl) (by kernel_rfl) (by kernel_rfl) (fun _ _ _ h => h) (Or.inl ⟨by rfl, ?_⟩) (by assumption) ?_
        rotate_left
        · intro w' hSw
          (try dsimp only at hSw)
          go_simp
          all_goals (try with_reducible rfl)
        (try simp only [Act.put, List.getElem_toArray, List.getElem_cons_zero, List.getElem_cons_succ, List.setIfInBounds_toArray, List.set_cons_zero, List.set_cons_succ])
        refine wpAnyH_take (i := 4) (v := ?_) rfl (by kernel_rfl) (by kernel_rfl) (by kernel_rfl) (fun _ _ _ h => h) (Or.inl ⟨by rfl, ?_⟩) (by assumption) ?_
        rotate_left
        · intro w' hSw
          (try dsimp only at hSw)
          go_simp
          all_goals (try with_reducible rfl)
        (try simp only [Act.put, List.getElem_toArray, List.getElem_cons_zero, List.getElem_cons_succ, List.setIfInBounds_toArray, List.set_cons_zero, List.set_cons_succ])
        refine wpAnyH_take (i := 6) (v := ?_) rfl (by kernel_rfl) (by kernel_rfl) (by kernel_rfl) (fun _ _ _ h => h) (Or.inl ⟨by rfl, ?_⟩) (by assumption) ?_
        rotate_left
        · intro w' hSw
          (try dsimp only at hSw)
          go_simp
          all_goals (try with_reducible rfl)
        (try simp only [Act.put, List.getElem_toArray, List.getElem_cons_zero, List.getElem_cons_succ, List.setIfInBounds_toArray, List.set_cons_zero, List.set_cons_succ])
        refine wpAnyH_take (i := 7) (v := ?_) rfl (by kernel_rfl) (by kernel_rfl) (by kernel_rfl) (fun _ _ _ h => h) (Or.inl ⟨by rfl, ?_⟩) (by assumption) ?_
        rotate_left
        · intro w' hSw
          (try dsimp only at hSw)
          go_simp
          all_goals (try with_reducible rfl)
        (try simp only [Act.put, List.getElem_toArray, List.getElem_cons_zero, List.getElem_cons_succ, List.setIfInBounds_toArray, List.set_cons_zero, List.set_cons_succ])
        have DX := qi_below DD (bel_drew _)
        clear DD
        generalize w2.drew = wd at *
        refine wpAnyH_ready (rs := [5, 8]) (by kernel_rfl) (by simp) ?_
        refine AllReadyH.cons rfl (fun K hK => ?_) (AllReadyH.cons rfl (fun K hK => ?_) AllReadyH.nil)
        · (try simp only [Act.put, List.getElem_toArray, List.getElem_cons_zero, List.getElem_cons_succ, List.setIfInBounds_toArray, List.set_cons_zero, List.set_cons_succ])
          obtain ⟨e0, e1, e2, e3⟩ := DX.out.ob kk hk3
          go_simp
          (try simp only [])
          refine hK.out _ _ ?_ (fun hHeld' => ?_)
          · (try dsimp only)
            all_goals trivial
          clear hK K hHeld
          have hHeld := hHeld'
          clear hHeld'
          (try simp only [Act.put, List.getElem_toArray, List.getElem_cons_zero, List.getElem_cons_succ, List.setIfInBounds_toArray, List.set_cons_zero, List.set_cons_succ])
          clear e0 e1 e2 e3
          refine wpAnyH_ready (rs := [8]) (by kernel_rfl) (by simp) ?_
          refine AllReadyH.cons rfl (fun K hK => ?_) AllReadyH.nil
          (try simp only [Act.put, List.getElem_toArray, List.getElem_cons_zero, List.getElem_cons_succ, List.setIfInBounds_toArray, List.set_cons_zero, List.set_cons_succ])
          obtain ⟨sq, hsq⟩ := DX.out.src
          go_simp
          go_at_call 54
          refine (next_any g len cap ao zs (k + 1 + 1) sq 3 (by omega) (by omega) _ hsq DX.out.row HN.out hl (by omega) (by omega)).mono ?_
          rintro e x1 ⟨n2, t1, ⟨b0, b1⟩, rfl, hS1, hG1⟩
          clear hsq
          replace DX := qi_by DX hgw ⟨t1, hS1⟩ (row_grown DX.out.row HN.out hG1) hG1
          clear hS1 hG1
          obtain ⟨mm, rfl⟩ : ∃ mm : Nat, n2 = (mm : Int) := ⟨n2.toNat, by omega⟩
          have hm3 : mm < 3 := by omega
          have hmI : (mm : Int) < 3 := by omega
          have hm0 : (0 : Int) ≤ (mm : Int) := by omega
          clear b0 b1
          refine hK.out _ _ ?_ (fun hHeld' => ?_)
          · (try dsimp only)
            all_goals trivial
          clear hK K hHeld
          have hHeld := hHeld'
          clear hHeld'
          (try simp only [Act.put, List.getElem_toArray, List.getElem_cons_zero, List.getElem_cons_succ, List.setIfInBounds_toArray, List.set_cons_zero, List.set_cons_succ])
          refine wpAnyH_take (i := 9) (v := ?_) rfl (by kernel_rfl) (by kernel_rfl) (by kernel_rfl) (fun _ _ _ h => h) (Or.inl ⟨by rfl, ?_⟩) (by assumption) ?_
          rotate_left
          · intro w' hSw
            (try dsimp only at hSw)
            go_simp
            all_goals (try with_reducible rfl)
          (try simp only [Act.put, List.getElem_toArray, List.getElem_cons_zero, List.getElem_cons_succ, List.setIfInBounds_toArray, List.set_cons_zero, List.set_cons_succ])
          refine wpAnyH_ready (rs := [10]) (by kernel_rfl) (by simp) ?_
          refine AllReadyH.cons rfl (fun K hK => ?_) AllReadyH.nil
          (try simp only [Act.put, List.getElem_toArray, List.getElem_cons_zero, List.getElem_cons_succ, List.setIfInBounds_toArray, List.set_cons_zero, List.set_cons_succ])
          obtain ⟨e0, e1, e2, e3⟩ := DX.out.ob mm hm3
          go_simp
          (try simp only [])
          refine hK.out _ _ ?_ (fun hHeld' => ?_)
          · (try dsimp only)
            all_goals trivial
          clear hK K hHeld
          have hHeld := hHeld'
          clear hHeld'
          (try simp only [Act.put, List.getElem_toArray, List.getElem_cons_zero, List.getElem_cons_succ, List.setIfInBounds_toArray, List.set_cons_zero, List.set_cons_succ])
          clear e0 e1 e2 e3
          refine wpAnyH_ready (rs := [11]) (by kernel_rfl) (by simp) ?_
          refine AllReadyH.cons rfl (fun K hK => ?_) AllReadyH.nil
          (try simp only [Act.put, List.getElem_toArray, List.getElem_cons_zero, List.getElem_cons_succ, List.setIfInBounds_toArray, List.set_cons_zero, List.set_cons_succ])
          go_simp
          go_at_call 57
          refine Calls.mono (l02join_sj (o kk).cap (o mm).cap (o kk).ao (o mm).ao (o kk).l (o mm).l (o kk).a (o kk).b (o kk).c (o mm).a (o mm).b (o mm).c _ ((DX.out.rp kk hk3).okP HM.out.1 HM.out.2.1 HM.out.2.2) ((DX.out.rp mm hm3).okP HM.out.1 HM.out.2.1 HM.out.2.2) (DX.out.ro mm hm3).cap (DX.out.ro kk hk3).row (DX.out.ro mm hm3).row) ?_
          rintro e x3 ⟨v, rfl, hG, hO⟩
          have hsz2 := DX.out.size
          obtain ⟨ao', cap', rfl, hro⟩ := rowO_own (g := g) (p := w.heap.size + 1 + 1 + 1) (q := w.heap.size + 1 + 1 + 1 + 1) (a := max (o kk).a (o mm).a) (b := max (o kk).b (o mm).b) (c := max (o kk).c (o mm).c) hG hO (by omega) (by omega) (by omega)
          replace DX := qi_below DX (gbl hG)
          have RO : Hid (RowO x3 g (w.heap.size + 1 + 1 + 1) (w.heap.size + 1 + 1 + 1 + 1) _) := hro
          clear hG hO hro hsz2
          refine hK.out _ _ ?_ (fun hHeld' => ?_)
          · (try dsimp only)
            all_goals trivial
          clear hK K hHeld
          have hHeld := hHeld'
          clear hHeld'
          (try simp only [Act.put, List.getElem_toArray, List.getElem_cons_zero, List.getElem_cons_succ, List.setIfInBounds_toArray, List.set_cons_zero, List.set_cons_succ])
          refine wpAnyH_take (i := 12) (v := ?_) rfl (by kernel_rfl) (by kernel_rfl) (by kernel_rfl) (fun _ _ _ h => h) (Or.inl ⟨by rfl, ?_⟩) (by assumption) ?_
          rotate_left
          · intro w' hSw
            (try dsimp only at hSw)
            go_simp
            all_goals (try with_reducible rfl)
          (try simp only [Act.put, List.getElem_toArray, List.getElem_cons_zero, List.getElem_cons_succ, List.setIfInBounds_toArray, List.set_cons_zero, List.set_cons_succ])
          have DS : Hid (QI w ((((x3.setCell ⟨w.heap.size + 1 + 1 + 1, kk * 4, none⟩ (.slice ao' (sj (o kk).a (o kk).b (o kk).c (o mm).a (o mm).b (o mm).c (o kk).l (o mm).l).length cap')).setCell ⟨w.heap.size + 1 + 1 + 1, kk * 4 + 1, none⟩ (.int .i64 (max (o kk).a (o mm).a))).setCell ⟨w.heap.size + 1 + 1 + 1, kk * 4 + 2, none⟩ (.int .i64 (max (o kk).b (o mm).b))).setCell ⟨w.heap.size + 1 + 1 + 1, kk * 4 + 3, none⟩ (.int .i64 (max (o kk).c (o mm).c))) g ao len cap zs (k + 1 + 1 + 1) V m m (upd o kk ⟨ao', cap', sj (o kk).a (o kk).b (o kk).c (o mm).a (o mm).b (o mm).c (o kk).l (o mm).l, max (o kk).a (o mm).a, max (o kk).b (o mm).b, max (o kk).c (o mm).c⟩)) := DX.out.store hgw HOLD.out ⟨ao', cap', sj (o kk).a (o kk).b (o kk).c (o mm).a (o mm).b (o mm).c (o kk).l (o mm).l, max (o kk).a (o mm).a, max (o kk).b (o mm).b, max (o kk).c (o mm).c⟩ hk3 RO.out (rp_join DX.out.rp hk3 hm3 ao' cap')
          obtain ⟨u0, T0⟩ := Option.isSome_iff_exists.1 (DX.out.th (kk * 4) (by omega)).1
          have Z0 := (DX.out.th (kk * 4) (by omega)).2
          obtain ⟨u1, T1⟩ := Option.isSome_iff_exists.1 (DX.out.th (kk * 4 + 1) (by omega)).1
          have Z1 := (DX.out.th (kk * 4 + 1) (by omega)).2
          obtain ⟨u2, T2⟩ := Option.isSome_iff_exists.1 (DX.out.th (kk * 4 + 2) (by omega)).1
          have Z2 := (DX.out.th (kk * 4 + 2) (by omega)).2
          obtain ⟨u3, T3⟩ := Option.isSome_iff_exists.1 (DX.out.th (kk * 4 + 3) (by omega)).1
          have Z3 := (DX.out.th (kk * 4 + 3) (by omega)).2
          refine wpAnyH_ready (rs := [13]) (by kernel_rfl) (by simp) ?_
          refine AllReadyH.cons rfl (fun K hK => ?_) AllReadyH.nil
          (try simp only [Act.put, List.getElem_toArray, List.getElem_cons_zero, List.getElem_cons_succ, List.setIfInBounds_toArray, List.set_cons_zero, List.set_cons_succ])
          go_simp
          (try simp only [])
          refine hK.out _ _ ?_ (fun hHeld' => ?_)
          · (try dsimp only)
            all_goals trivial
          clear hK K hHeld
          have hHeld := hHeld'
          clear hHeld'
          (try simp only [Act.put, List.getElem_toArray, List.getElem_cons_zero, List.getElem_cons_succ, List.setIfInBounds_toArray, List.set_cons_zero, List.set_cons_succ])
          refine wpAnyH_done (by kernel_rfl) ?_ _
          clear T0 Z0 T1 Z1 T2 Z2 T3 Z3 DX RO hHeld
          generalize ((((x3.setCell ⟨w.heap.size + 1 + 1 + 1, kk * 4, none⟩ (.slice ao' (sj (o kk).a (o kk).b (o kk).c (o mm).a (o mm).b (o mm).c (o kk).l (o mm).l).length cap')).setCell ⟨w.heap.size + 1 + 1 + 1, kk * 4 + 1, none⟩ (.int .i64 (max (o kk).a (o mm).a))).setCell ⟨w.heap.size + 1 + 1 + 1, kk * 4 + 2, none⟩ (.int .i64 (max (o kk).b (o mm).b))).setCell ⟨w.heap.size + 1 + 1 + 1, kk * 4 + 3, none⟩ (.int .i64 (max (o kk).c (o mm).c))) = x4 at *
          go_wp2
          go_roundw
          case rel => exact ⟨j, k + 1 + 1 + 1, V, m, _, by go_num, HP.out, by omega, by omega, by omega, DS.out⟩
          case measure => simp [intOf]
        · (try simp only [Act.put, List.getElem_toArray, List.getElem_cons_zero, List.getElem_cons_succ, List.setIfInBounds_toArray, List.set_cons_zero, List.set_cons_succ])
          obtain ⟨sq, hsq⟩ := DX.out.src
          go_simp
          go_at_call 54
          refine (next_any g len cap ao zs (k + 1 + 1) sq 3 (by omega) (by omega) _ hsq DX.out.row HN.out hl (by omega) (by omega)).mono ?_
          rintro e x1 ⟨n2, t1, ⟨b0, b1⟩, rfl, hS1, hG1⟩
          clear hsq
          replace DX := qi_by DX hgw ⟨t1, hS1⟩ (row_grown DX.out.row HN.out hG1) hG1
          clear hS1 hG1
          obtain ⟨mm, rfl⟩ : ∃ mm : Nat, n2 = (mm : Int) := ⟨n2.toNat, by omega⟩
          have hm3 : mm < 3 := by omega
          have hmI : (mm : Int) < 3 := by omega
          have hm0 : (0 : Int) ≤ (mm : Int) := by omega
          clear b0 b1
          refine hK.out _ _ ?_ (fun hHeld' => ?_)
          · (try dsimp only)
            all_goals trivial
          clear hK K hHeld
          have hHeld := hHeld'
          clear hHeld'
          (try simp only [Act.put, List.getElem_toArray, List.getElem_cons_zero, List.getElem_cons_succ, List.setIfInBounds_toArray, List.set_cons_zero, List.set_cons_succ])
          refine wpAnyH_take (i := 9) (v := ?_) rfl (by kernel_rfl) (by kernel_rfl) (by kernel_rfl) (fun _ _ _ h => h) (Or.inl ⟨by rfl, ?_⟩) (by assumption) ?_
          rotate_left
          · intro w' hSw
            (try dsimp only at hSw)
            go_simp
            all_goals (try with_reducible rfl)
          (try simp only [Act.put, List.getElem_toArray, List.getElem_cons_zero, List.getElem_cons_succ, List.setIfInBounds_toArray, List.set_cons_zero, List.set_cons_succ])
          refine wpAnyH_ready (rs := [5, 10]) (by kernel_rfl) (by simp) ?_
          refine AllReadyH.cons rfl (fun K hK => ?_) (AllReadyH.cons rfl (fun K hK => ?_) AllReadyH.nil)
          · (try simp only [Act.put, List.getElem_toArray, List.getElem_cons_zero, List.getElem_cons_succ, List.setIfInBounds_toArray, List.set_cons_zero, List.set_cons_succ])
            obtain ⟨e0, e1, e2, e3⟩ := DX.out.ob kk hk3
            go_simp
            (try simp only [])
            refine hK.out _ _ ?_ (fun hHeld' => ?_)
            · (try dsimp only)
              all_goals trivial
            clear hK K hHeld
            have hHeld := hHeld'
            clear hHeld'
            (try simp only [Act.put, List.getElem_toArray, List.getElem_cons_zero, List.getElem_cons_succ, List.setIfInBounds_toArray, List.set_cons_zero, List.set_cons_succ])
            clear e0 e1 e2 e3
            refine wpAnyH_ready (rs := [10]) (by kernel_rfl) (by simp) ?_
            refine AllReadyH.cons rfl (fun K hK => ?_) AllReadyH.nil
            (try simp only [Act.put, List.getElem_toArray, List.getElem_cons_zero, List.getElem_cons_succ, List.setIfInBounds_toArray, List.set_cons_zero, List.set_cons_succ])
            obtain ⟨e0, e1, e2, e3⟩ := DX.out.ob mm hm3
            go_simp
            (try simp only [])
            refine hK.out _ _ ?_ (fun hHeld' => ?_)
            · (try dsimp only)
              all_goals trivial
            clear hK K hHeld
            have hHeld := hHeld'
            clear hHeld'
            (try simp only [Act.put, List.getElem_toArray, List.getElem_cons_zero, List.getElem_cons_succ, List.setIfInBounds_toArray, List.set_cons_zero, List.set_cons_succ])
            clear e0 e1 e2 e3
            refine wpAnyH_ready (rs := [11]) (by kernel_rfl) (by simp) ?_
            refine AllReadyH.cons rfl (fun K hK => ?_) AllReadyH.nil
            (try simp only [Act.put, List.getElem_toArray, List.getElem_cons_zero, List.getElem_cons_succ, List.setIfInBounds_toArray, List.set_cons_zero, List.set_cons_succ])
            go_simp
            go_at_call 57
            refine Calls.mono (l02join_sj (o kk).cap (o mm).cap (o kk).ao (o mm).ao (o kk).l (o mm).l (o kk).a (o kk).b (o kk).c (o mm).a (o mm).b (o mm).c _ ((DX.out.rp kk hk3).okP HM.out.1 HM.out.2.1 HM.out.2.2) ((DX.out.rp mm hm3).okP HM.out.1 HM.out.2.1 HM.out.2.2) (DX.out.ro mm hm3).cap (DX.out.ro kk hk3).row (DX.out.ro mm hm3).row) ?_
            rintro e x3 ⟨v, rfl, hG, hO⟩
            have hsz2 := DX.out.size
            obtain ⟨ao', cap', rfl, hro⟩ := rowO_own (g := g) (p := w.heap.size + 1 + 1 + 1) (q := w.heap.size + 1 + 1 + 1 + 1) (a := max (o kk).a (o mm).a) (b := max (o kk).b (o mm).b) (c := max (o kk).c (o mm).c) hG hO (by omega) (by omega) (by omega)
            replace DX := qi_below DX (gbl hG)
            have RO : Hid (RowO x3 g (w.heap.size + 1 + 1 + 1) (w.heap.size + 1 + 1 + 1 + 1) _) := hro
            clear hG hO hro hsz2
            refine hK.out _ _ ?_ (fun hHeld' => ?_)
            · (try dsimp only)
              all_goals trivial
            clear hK K hHeld
            have hHeld := hHeld'
            clear hHeld'
            (try simp only [Act.put, List.getElem_toArray, List.getElem_cons_zero, List.getElem_cons_succ, List.setIfInBounds_toArray, List.set_cons_zero, List.set_cons_succ])
            refine wpAnyH_take (i := 12) (v := ?_) rfl (by kernel_rfl) (by kernel_rfl) (by kernel_rfl) (fun _ _ _ h => h) (Or.inl ⟨by rfl, ?_⟩) (by assumption) ?_
            rotate_left
            · intro w' hSw
              (try dsimp only at hSw)
              go_simp
              all_goals (try with_reducible rfl)
            (try simp only [Act.put, List.getElem_toArray, List.getElem_cons_zero, List.getElem_cons_succ, List.setIfInBounds_toArray, List.set_cons_zero, List.set_cons_succ])
            have DS : Hid (QI w ((((x3.setCell ⟨w.heap.size + 1 + 1 + 1, kk * 4, none⟩ (.slice ao' (sj (o kk).a (o kk).b (o kk).c (o mm).a (o mm).b (o mm).c (o kk).l (o mm).l).length cap')).setCell ⟨w.heap.size + 1 + 1 + 1, kk * 4 + 1, none⟩ (.int .i64 (max (o kk).a (o mm).a))).setCell ⟨w.heap.size + 1 + 1 + 1, kk * 4 + 2, none⟩ (.int .i64 (max (o kk).b (o mm).b))).setCell ⟨w.heap.size + 1 + 1 + 1, kk * 4 + 3, none⟩ (.int .i64 (max (o kk).c (o mm).c))) g ao len cap zs (k + 1 + 1 + 1) V m m (upd o kk ⟨ao', cap', sj (o kk).a (o kk).b (o kk).c (o mm).a (o mm).b (o mm).c (o kk).l (o mm).l, max (o kk).a (o mm).a, max (o kk).b (o mm).b, max (o kk).c (o mm).c⟩)) := DX.out.store hgw HOLD.out ⟨ao', cap', sj (o kk).a (o kk).b (o kk).c (o mm).a (o mm).b (o mm).c (o kk).l (o mm).l, max (o kk).a (o mm).a, max (o kk).b (o mm).b, max (o kk).c (o mm).c⟩ hk3 RO.out (rp_join DX.out.rp hk3 hm3 ao' cap')
            obtain ⟨u0, T0⟩ := Option.isSome_iff_exists.1 (DX.out.th (kk * 4) (by omega)).1
            have Z0 := (DX.out.th (kk * 4) (by omega)).2
            obtain ⟨u1, T1⟩ := Option.isSome_iff_exists.1 (DX.out.th (kk * 4 + 1) (by omega)).1
            have Z1 := (DX.out.th (kk * 4 + 1) (by omega)).2
            obtain ⟨u2, T2⟩ := Option.isSome_iff_exists.1 (DX.out.th (kk * 4 + 2) (by omega)).1
            have Z2 := (DX.out.th (kk * 4 + 2) (by omega)).2
            obtain ⟨u3, T3⟩ := Option.isSome_iff_exists.1 (DX.out.th (kk * 4 + 3) (by omega)).1
            have Z3 := (DX.out.th (kk * 4 + 3) (by omega)).2
            refine wpAnyH_ready (rs := [13]) (by kernel_rfl) (by simp) ?_
            refine AllReadyH.cons rfl (fun K hK => ?_) AllReadyH.nil
            (try simp only [Act.put, List.getElem_toArray, List.getElem_cons_zero, List.getElem_cons_succ, List.setIfInBounds_toArray, List.set_cons_zero, List.set_cons_succ])
            go_simp
            (try simp only [])
            refine hK.out _ _ ?_ (fun hHeld' => ?_)
            · (try dsimp only)
              all_goals trivial
            clear hK K hHeld
            have hHeld := hHeld'
            clear hHeld'
            (try simp only [Act.put, List.getElem_toArray, List.getElem_cons_zero, List.getElem_cons_succ, List.setIfInBounds_toArray, List.set_cons_zero, List.set_cons_succ])
            refine wpAnyH_done (by kernel_rfl) ?_ _
            clear T0 Z0 T1 Z1 T2 Z2 T3 Z3 DX RO hHeld
            generalize ((((x3.setCell ⟨w.heap.size + 1 + 1 + 1, kk * 4, none⟩ (.slice ao' (sj (o kk).a (o kk).b (o kk).c (o mm).a (o mm).b (o mm).c (o kk).l (o mm).l).length cap')).setCell ⟨w.heap.size + 1 + 1 + 1, kk * 4 + 1, none⟩ (.int .i64 (max (o kk).a (o mm).a))).setCell ⟨w.heap.size + 1 + 1 + 1, kk * 4 + 2, none⟩ (.int .i64 (max (o kk).b (o mm).b))).setCell ⟨w.heap.size + 1 + 1 + 1, kk * 4 + 3, none⟩ (.int .i64 (max (o kk).c (o mm).c))) = x4 at *
            go_wp2
            go_roundw
            case rel => exact ⟨j, k + 1 + 1 + 1, V, m, _, by go_num, HP.out, by omega, by omega, by omega, DS.out⟩
            case measure => simp [intOf]
          · (try simp only [Act.put, List.getElem_toArray, List.getElem_cons_zero, List.getElem_cons_succ, List.setIfInBounds_toArray, List.set_cons_zero, List.set_cons_succ])
            obtain ⟨e0, e1, e2, e3⟩ := DX.out.ob mm hm3
            go_simp
            (try simp only [])
            refine hK.out _ _ ?_ (fun hHeld' => ?_)
            · (try dsimp only)
              all_goals trivial
            clear hK K hHeld
            have hHeld := hHeld'
            clear hHeld'
            (try simp only [Act.put, List.getElem_toArray, List.getElem_cons_zero, List.getElem_cons_succ, List.setIfInBounds_toArray, List.set_cons_zero, List.set_cons_succ])
            clear e0 e1 e2 e3
            refine wpAnyH_ready (rs := [5]) (by kernel_rfl) (by simp) ?_
            refine AllReadyH.cons rfl (fun K hK => ?_) AllReadyH.nil
            (try simp only [Act.put, List.getElem_toArray, List.getElem_cons_zero, List.getElem_cons_succ, List.setIfInBounds_toArray, List.set_cons_zero, List.set_cons_succ])
            obtain ⟨e0, e1, e2, e3⟩ := DX.out.ob kk hk3
            go_simp
            (try simp only [])
            refine hK.out _ _ ?_ (fun hHeld' => ?_)
            · (try dsimp only)
              all_goals trivial
            clear hK K hHeld
            have hHeld := hHeld'
            clear hHeld'
            (try simp only [Act.put, List.getElem_toArray, List.getElem_cons_zero, List.getElem_cons_succ, List.setIfInBounds_toArray, List.set_cons_zero, List.set_cons_succ])
            clear e0 e1 e2 e3
            refine wpAnyH_ready (rs := [11]) (by kernel_rfl) (by simp) ?_
            refine AllReadyH.cons rfl (fun K hK => ?_) AllReadyH.nil
            (try simp only [Act.put, List.getElem_toArray, List.getElem_cons_zero, List.getElem_cons_succ, List.setIfInBounds_toArray, List.set_cons_zero, List.set_cons_succ])
            go_simp
            go_at_call 57
            refine Calls.mono (l02join_sj (o kk).cap (o mm).cap (o kk).ao (o mm).ao (o kk).l (o mm).l (o kk).a (o kk).b (o kk).c (o mm).a (o mm).b (o mm).c _ ((DX.out.rp kk hk3).okP HM.out.1 HM.out.2.1 HM.out.2.2) ((DX.out.rp mm hm3).okP HM.out.1 HM.out.2.1 HM.out.2.2) (DX.out.ro mm hm3).cap (DX.out.ro kk hk3).row (DX.out.ro mm hm3).row) ?_
            rintro e x3 ⟨v, rfl, hG, hO⟩
            have hsz2 := DX.out.size
            obtain ⟨ao', cap', rfl, hro⟩ := rowO_own (g := g) (p := w.heap.size + 1 + 1 + 1) (q := w.heap.size + 1 + 1 + 1 + 1) (a := max (o kk).a (o mm).a) (b := max (o kk).b (o mm).b) (c := max (o kk).c (o mm).c) hG hO (by omega) (by omega) (by omega)
            replace DX := qi_below DX (gbl hG)
            have RO : Hid (RowO x3 g (w.heap.size + 1 + 1 + 1) (w.heap.size + 1 + 1 + 1 + 1) _) := hro
            clear hG hO hro hsz2
            refine hK.out _ _ ?_ (fun hHeld' => ?_)
            · (try dsimp only)
              all_goals trivial
            clear hK K hHeld
            have hHeld := hHeld'
            clear hHeld'
            (try simp only [Act.put, List.getElem_toArray, List.getElem_cons_zero, List.getElem_cons_succ, List.setIfInBounds_toArray, List.set_cons_zero, List.set_cons_succ])
            refine wpAnyH_take (i := 12) (v := ?_) rfl (by kernel_rfl) (by kernel_rfl) (by kernel_rfl) (fun _ _ _ h => h) (Or.inl ⟨by rfl, ?_⟩) (by assumption) ?_
            rotate_left
            · intro w' hSw
              (try dsimp only at hSw)
              go_simp
              all_goals (try with_reducible rfl)
            (try simp only [Act.put, List.getElem_toArray, List.getElem_cons_zero, List.getElem_cons_succ, List.setIfInBounds_toArray, List.set_cons_zero, List.set_cons_succ])
            have DS : Hid (QI w ((((x3.setCell ⟨w.heap.size + 1 + 1 + 1, kk * 4, none⟩ (.slice ao' (sj (o kk).a (o kk).b (o kk).c (o mm).a (o mm).b (o mm).c (o kk).l (o mm).l).length cap')).setCell ⟨w.heap.size + 1 + 1 + 1, kk * 4 + 1, none⟩ (.int .i64 (max (o kk).a (o mm).a))).setCell ⟨w.heap.size + 1 + 1 + 1, kk * 4 + 2, none⟩ (.int .i64 (max (o kk).b (o mm).b))).setCell ⟨w.heap.size + 1 + 1 + 1, kk * 4 + 3, none⟩ (.int .i64 (max (o kk).c (o mm).c))) g ao len cap zs (k + 1 + 1 + 1) V m m (upd o kk ⟨ao', cap', sj (o kk).a (o kk).b (o kk).c (o mm).a (o mm).b (o mm).c (o kk).l (o mm).l, max (o kk).a (o mm).a, max (o kk).b (o mm).b, max (o kk).c (o mm).c⟩)) := DX.out.store hgw HOLD.out ⟨ao', cap', sj (o kk).a (o kk).b (o kk).c (o mm).a (o mm).b (o mm).c (o kk).l (o mm).l, max (o kk).a (o mm).a, max (o kk).b (o mm).b, max (o kk).c (o mm).c⟩ hk3 RO.out (rp_join DX.out.rp hk3 hm3 ao' cap')
            obtain ⟨u0, T0⟩ := Option.isSome_iff_exists.1 (DX.out.th (kk * 4) (by omega)).1
            have Z0 := (DX.out.th (kk * 4) (by omega)).2
            obtain ⟨u1, T1⟩ := Option.isSome_iff_exists.1 (DX.out.th (kk * 4 + 1) (by omega)).1
            have Z1 := (DX.out.th (kk * 4 + 1) (by omega)).2
            obtain ⟨u2, T2⟩ := Option.isSome_iff_exists.1 (DX.out.th (kk * 4 + 2) (by omega)).1
            have Z2 := (DX.out.th (kk * 4 + 2) (by omega)).2
            obtain ⟨u3, T3⟩ := Option.isSome_iff_exists.1 (DX.out.th (kk * 4 + 3) (by omega)).1
            have Z3 := (DX.out.th (kk * 4 + 3) (by omega)).2
            refine wpAnyH_ready (rs := [13]) (by kernel_rfl) (by simp) ?_
            refine AllReadyH.cons rfl (fun K hK => ?_) AllReadyH.nil
            (try simp only [Act.put, List.getElem_toArray, List.getElem_cons_zero, List.getElem_cons_succ, List.setIfInBounds_toArray, List.set_cons_zero, List.set_cons_succ])
            go_simp
            (try simp only [])
            refine hK.out _ _ ?_ (fun hHeld' => ?_)
            · (try dsimp only)
              all_goals trivial
            clear hK K hHeld
            have hHeld := hHeld'
            clear hHeld'
            (try simp only [Act.put, List.getElem_toArray, List.getElem_cons_zero, List.getElem_cons_succ, List.setIfInBounds_toArray, List.set_cons_zero, List.set_cons_succ])
            refine wpAnyH_done (by kernel_rfl) ?_ _
            clear T0 Z0 T1 Z1 T2 Z2 T3 Z3 DX RO hHeld
            generalize ((((x3.setCell ⟨w.heap.size + 1 + 1 + 1, kk * 4, none⟩ (.slice ao' (sj (o kk).a (o kk).b (o kk).c (o mm).a (o mm).b (o mm).c (o kk).l (o mm).l).length cap')).setCell ⟨w.heap.size + 1 + 1 + 1, kk * 4 + 1, none⟩ (.int .i64 (max (o kk).a (o mm).a))).setCell ⟨w.heap.size + 1 + 1 + 1, kk * 4 + 2, none⟩ (.int .i64 (max (o kk).b (o mm).b))).setCell ⟨w.heap.size + 1 + 1 + 1, kk * 4 + 3, none⟩ (.int .i64 (max (o kk).c (o mm).c))) = x4 at *
            go_wp2
            go_roundw
            case rel => exact ⟨j, k + 1 + 1 + 1, V, m, _, by go_num, HP.out, by omega, by omega, by omega, DS.out⟩
            case measure => simp [intOf]
      | false =>
        have d0 := DD.out.cn kk hk3
        have y0 := (DD.out.tc kk hk3).2
        have q1 : IntKind.i64.wrap (m kk + 1) = m kk + 1 := by
          have := m_le HP.out hk3 hsum
          have := HP.out kk hk3
          rw [IntKind.wrap_i64]
          omega
        have DQ : Hid (QI w (w2.setCell ⟨w.heap.size + 1 + 1 + 1 + 1, kk, none⟩ (.int .i64 (m kk + 1))) g ao len cap zs (k + 1 + 1) V m (updn m kk (m kk + 1)) o) := DD.out.count hgw HOLD.out hk3
        clear DD
        go_wp2_with fail
        clear d0 y0 q1
        generalize w2.setCell ⟨w.heap.size + 1 + 1 + 1 + 1, kk, none⟩ (.int .i64 (m kk + 1)) = w3 at *
        obtain ⟨sq, hsq⟩ := DQ.out.src
        refine (next_any g len cap ao zs (k + 1 + 1) sq 3 (by omega) (by omega) _ hsq DQ.out.row HN.out hl (by omega) (by omega)).mono ?_
        rintro e w4 ⟨n2, t1, ⟨b0, b1⟩, rfl, hS1, hG1⟩
        clear hsq
        replace DQ := qi_by DQ hgw ⟨t1, hS1⟩ (row_grown DQ.out.row HN.out hG1) hG1
        clear hS1 hG1
        obtain ⟨mm, rfl⟩ : ∃ mm : Nat, n2 = (mm : Int) := ⟨n2.toNat, by omega⟩
        have hm3 : mm < 3 := by omega
        have hmI : (mm : Int) < 3 := by omega
        have hm0 : (0 : Int) ≤ (mm : Int) := by omega
        clear b0 b1
        obtain ⟨e0, e1, e2, e3⟩ := DQ.out.ob mm hm3
        have HX1 : Hid ((o mm).a ≤ m 0 ∧ (o mm).b ≤ m 1 ∧ (o mm).c ≤ m 2) := (DQ.out.rp mm hm3).le
        go_wp2_with fail
        clear e0 e1 e2 e3
        have hgx : w.heap.size + 5 ≤ w4.heap.size := DQ.out.size
        have hgg : w4.heap.size ≠ g := by omega
        have HGX : Hid (∀ j, j < 3 → ∀ x, (o j).ao = some x → (o j).l ≠ [] → x.block ≠ w4.heap.size) := fun j hj x hx hl => Nat.ne_of_lt (row_ltS (DQ.out.ro j hj).row x hx hl)
        have CX : Hid (Cells3 (w4.alloc (.cells #[.int .i64 (o mm).a, .int .i64 (o mm).b, .int .i64 (o mm).c] 30)) w4.heap.size (o mm).a (o mm).b (o mm).c) := by refine ⟨?_, ?_, ?_⟩ <;> go_simp
        have TX : Hid (There (w4.alloc (.cells #[.int .i64 (o mm).a, .int .i64 (o mm).b, .int .i64 (o mm).c] 30)) w4.heap.size 3) := by
          show There _ _ _
          intro j hj
          have hj' : j = 0 ∨ j = 1 ∨ j = 2 := by omega
          rcases hj' with rfl | rfl | rfl <;> exact ⟨by go_simp, by go_simp⟩
        have hxz : w4.heap.size < (w4.alloc (.cells #[.int .i64 (o mm).a, .int .i64 (o mm).b, .int .i64 (o mm).c] 30)).heap.size := by simp
        replace DQ := qi_below DQ (bel_alloc w4 (.cells #[.int .i64 (o mm).a, .int .i64 (o mm).b, .int .i64 (o mm).c] 30))
        generalize w4.alloc (.cells #[.int .i64 (o mm).a, .int .i64 (o mm).b, .int .i64 (o mm).c] 30) = w5 at *
        generalize w4.heap.size = gx at *
        obtain ⟨sq, hsq⟩ := DQ.out.src
        refine (chance_any g len cap ao zs (k + 1 + 1 + 1) sq 3 (by omega) (by omega) _ hsq DQ.out.row HN.out hl (by omega) (by omega)).mono ?_
        rintro e w6 ⟨b2, t1, rfl, hS1, hG1⟩
        clear hsq
        have CX1 : Hid (Cells3 w6 gx (o mm).a (o mm).b (o mm).c) := ⟨grown_cell hG1 CX.out.1 hgg, grown_cell hG1 CX.out.2.1 hgg, grown_cell hG1 CX.out.2.2 hgg⟩
        have TX1 : Hid (There w6 gx 3) := TX.out.grown hG1 hxz hgg
        replace hxz := Nat.lt_of_lt_of_le hxz hG1.size
        replace DQ := qi_by DQ hgw ⟨t1, hS1⟩ (row_grown DQ.out.row HN.out hG1) hG1
        clear hS1 hG1
        clear CX TX
        cases b2 with
        | false =>
          have HX := HX1
          have CX := CX1
          clear HX1 CX1 TX1
          go_wp2
          have DX := qi_below DQ (bel_drew _)
          have CXd : Hid (Cells3 w6.drew gx (o mm).a (o mm).b (o mm).c) := c3_next CX.out (bel_drew _) hxz
          have hxzd : gx < w6.drew.heap.size := hxz
          refine wp_region_held_drew (S := (fun w' => w'.cell? ⟨w.heap.size + 1 + 1 + 1 + 1, kk, none⟩ = some (.int .i64 (m kk + 1)))) (by kernel_rfl) (by simpa [updn] using DQ.out.cn kk hk3) (fun hHeld => ?_)
          clear DQ CX hxz
          have CX := CXd
          have hxz := hxzd
          clear CXd hxzd
          refine wpAnyH_take (i := 0) (v := ?_) rfl (by kernel_rfl) (by kernel_rfl) (by kernel_rfl) (fun _ _ _ h => h) (Or.inl ⟨by rfl, ?_⟩) (by assumption) ?_
          rotate_left
          · intro w' hSw
            (try dsimp only at hSw)
            go_simp
            all_goals (try with_reducible rfl)
          (try simp only [Act.put, List.getElem_toArray, List.getElem_cons_zero, List.getElem_cons_succ, List.setIfInBounds_toArray, List.set_cons_zero, List.set_cons_succ])
          refine wpAnyH_take (i := 1) (v := ?_) rfl (by kernel_rfl) (by kernel_rfl) (by kernel_rfl) (fun _ _ _ h => h) (Or.inl ⟨by rfl, ?_⟩) (by assumption) ?_
          rotate_left
          · intro w' hSw
            (try dsimp only at hSw)
            go_simp
            all_goals (try with_reducible rfl)
          (try simp only [Act.put, List.getElem_toArray, List.getElem_cons_zero, List.getElem_cons_succ, List.setIfInBounds_toArray, List.set_cons_zero, List.set_cons_succ])
          refine wpAnyH_take (i := 2) (v := ?_) rfl (by kernel_rfl) (by kernel_rfl) (by kernel_rfl) (fun _ _ _ h => h) (Or.inl ⟨by rfl, ?_⟩) (by assumption) ?_
          rotate_left
          · intro w' hSw
            (try dsimp only at hSw)
            go_simp
            all_goals (try with_reducible rfl)
          (try simp only [Act.put, List.getElem_toArray, List.getElem_cons_zero, List.getElem_cons_succ, List.setIfInBounds_toArray, List.set_cons_zero, List.set_cons_succ])
          refine wpAnyH_take (i := 3) (v := ?_) rfl (by kernel_rfl) (by kernel_rfl) (by kernel_rfl) (fun _ _ _ h => h) (Or.inl ⟨by rfl, ?_⟩) (by assumption) ?_
          rotate_left
          · intro w' hSw
            (try dsimp only at hSw)
            go_simp
            all_goals (try with_reducible rfl)
          (try simp only [Act.put, List.getElem_toArray, List.getElem_cons_zero, List.getElem_cons_succ, List.setIfInBounds_toArray, List.set_cons_zero, List.set_cons_succ])
          refine wpAnyH_take (i := 4) (v := ?_) rfl (by kernel_rfl) (by kernel_rfl) (by kernel_rfl) (fun _ _ _ h => h) (Or.inl ⟨by rfl, ?_⟩) (by assumption) ?_
          rotate_left
          · intro w' hSw
            (try dsimp only at hSw)
            go_simp
            all_goals (try with_reducible rfl)
          (try simp only [Act.put, List.getElem_toArray, List.getElem_cons_zero, List.getElem_cons_succ, List.setIfInBounds_toArray, List.set_cons_zero, List.set_cons_succ])
          refine wpAnyH_take (i := 5) (v := ?_) rfl (by kernel_rfl) (by kernel_rfl) (by kernel_rfl) (fun _ _ _ h => h) (Or.inl ⟨by rfl, ?_⟩) (by assumption) ?_
          rotate_left
          · intro w' hSw
            (try dsimp only at hSw)
            go_simp
            all_goals (try with_reducible rfl)
          (try simp only [Act.put, List.getElem_toArray, List.getElem_cons_zero, List.getElem_cons_succ, List.setIfInBounds_toArray, List.set_cons_zero, List.set_cons_succ])
          generalize w6.drew = wd at *
          refine wpAnyH_ready (rs := [6, 8]) (by kernel_rfl) (by simp) ?_
          refine AllReadyH.cons rfl (fun K hK => ?_) (AllReadyH.cons rfl (fun K hK => ?_) AllReadyH.nil)
          · (try simp only [Act.put, List.getElem_toArray, List.getElem_cons_zero, List.getElem_cons_succ, List.setIfInBounds_toArray, List.set_cons_zero, List.set_cons_succ])
            obtain ⟨sq, hsq⟩ := DX.out.src
            go_simp
            go_at_call 54
            refine (next_any g len cap ao zs (k + 1 + 1 + 1 + 1) sq 20 (by omega) (by omega) _ hsq DX.out.row HN.out hl (by omega) (by omega)).mono ?_
            rintro e x1 ⟨vv, t1, ⟨b0, b1⟩, rfl, hS1, hG1⟩
            clear hsq
            have CX2 : Hid (Cells3 x1 gx (o mm).a (o mm).b (o mm).c) := ⟨grown_cell hG1 CX.out.1 hgg, grown_cell hG1 CX.out.2.1 hgg, grown_cell hG1 CX.out.2.2 hgg⟩
            have hxz2 := Nat.lt_of_lt_of_le hxz hG1.size
            replace DX := qi_by DX hgw ⟨t1, hS1⟩ (row_grown DX.out.row HN.out hG1) hG1
            clear hS1 hG1
            clear CX hxz
            have CX := CX2
            have hxz := hxz2
            clear CX2 hxz2
            refine hK.out _ _ ?_ (fun hHeld' => ?_)
            · (try dsimp only)
              exact (by simpa [updn] using DX.out.cn kk hk3)
            clear hK K hHeld
            have hHeld := hHeld'
            clear hHeld'
            (try simp only [Act.put, List.getElem_toArray, List.getElem_cons_zero, List.getElem_cons_succ, List.setIfInBounds_toArray, List.set_cons_zero, List.set_cons_succ])
            refine wpAnyH_take (i := 7) (v := ?_) rfl (by kernel_rfl) (by kernel_rfl) (by kernel_rfl) (fun _ _ _ h => h) (Or.inl ⟨by rfl, ?_⟩) (by assumption) ?_
            rotate_left
            · intro w' hSw
              (try dsimp only at hSw)
              go_simp
              all_goals (try with_reducible rfl)
            (try simp only [Act.put, List.getElem_toArray, List.getElem_cons_zero, List.getElem_cons_succ, List.setIfInBounds_toArray, List.set_cons_zero, List.set_cons_succ])
            refine wpAnyH_ready (rs := [8]) (by kernel_rfl) (by simp) ?_
            refine AllReadyH.cons rfl (fun K hK => ?_) AllReadyH.nil
            (try simp only [Act.put, List.getElem_toArray, List.getElem_cons_zero, List.getElem_cons_succ, List.setIfInBounds_toArray, List.set_cons_zero, List.set_cons_succ])
            go_simp
            (try simp only [])
            have CX2 : Hid (Cells3 (x1.alloc (.cells #[.int .i64 0, .int .i64 0, .int .i64 0, .bool false] 74)) gx (o mm).a (o mm).b (o mm).c) := c3_next CX.out (bel_alloc _ _) hxz
            have SY : Hid (SibAt (x1.alloc (.cells #[.int .i64 0, .int .i64 0, .int .i64 0, .bool false] 74)) x1.heap.size 0 ⟨0, 0, 0, false⟩) := by refine ⟨?_, ?_, ?_, ?_⟩ <;> go_simp
            have TY : Hid (There (x1.alloc (.cells #[.int .i64 0, .int .i64 0, .int .i64 0, .bool false] 74)) x1.heap.size 4) := by
              show There _ _ _
              intro j hj
              have hj' : j = 0 ∨ j = 1 ∨ j = 2 ∨ j = 3 := by omega
              rcases hj' with rfl | rfl | rfl | rfl <;> exact ⟨by go_simp, by go_simp⟩
            have HGY : Hid (∀ j, j < 3 → ∀ x, (o j).ao = some x → (o j).l ≠ [] → x.block ≠ x1.heap.size) := fun j hj x hx hl => Nat.ne_of_lt (row_ltS (DX.out.ro j hj).row x hx hl)
            have hyz : x1.heap.size < (x1.alloc (.cells #[.int .i64 0, .int .i64 0, .int .i64 0, .bool false] 74)).heap.size := by simp
            have hyx : x1.heap.size ≠ gx := Nat.ne_of_gt hxz
            have hyb : w.heap.size + 5 ≤ x1.heap.size := DX.out.size
            have hyg : x1.heap.size ≠ g := by omega
            have hxz2 : gx < (x1.alloc (.cells #[.int .i64 0, .int .i64 0, .int .i64 0, .bool false] 74)).heap.size := Nat.lt_of_lt_of_le hxz (bel_alloc _ _).size
            replace DX := qi_below DX (bel_alloc x1 (.cells #[.int .i64 0, .int .i64 0, .int .i64 0, .bool false] 74))
            clear CX hxz
            have CX := CX2
            have hxz := hxz2
            clear CX2 hxz2
            refine hK.out _ _ ?_ (fun hHeld' => ?_)
            · (try dsimp only)
              exact (by simpa [updn] using DX.out.cn kk hk3)
            clear hK K hHeld
            have hHeld := hHeld'
            clear hHeld'
            (try simp only [Act.put, List.getElem_toArray, List.getElem_cons_zero, List.getElem_cons_succ, List.setIfInBounds_toArray, List.set_cons_zero, List.set_cons_succ])
            generalize (x1.alloc (.cells #[.int .i64 0, .int .i64 0, .int .i64 0, .bool false] 74)) = wa at *
            generalize x1.heap.size = gy at *
            have DS : Hid (QI w ((((wa.setCell ⟨gy, 0, none⟩ (.int .i64 (kk : Int))).setCell ⟨gy, 1, none⟩ (.int .i64 (m kk + 1))).setCell ⟨gy, 2, none⟩ (.int .i64 vv)).setCell ⟨gy, 3, none⟩ (.bool false)) g ao len cap zs (k + 1 + 1 + 1 + 1 + 1) V m (updn m kk (m kk + 1)) o) := qi_other (qi_other (qi_other (qi_other DX hgw HOLD.out hyb HGY.out) hgw HOLD.out hyb HGY.out) hgw HOLD.out hyb HGY.out) hgw HOLD.out hyb HGY.out
            have CX2 : Hid (Cells3 ((((wa.setCell ⟨gy, 0, none⟩ (.int .i64 (kk : Int))).setCell ⟨gy, 1, none⟩ (.int .i64 (m kk + 1))).setCell ⟨gy, 2, none⟩ (.int .i64 vv)).setCell ⟨gy, 3, none⟩ (.bool false)) gx (o mm).a (o mm).b (o mm).c) := ⟨cell_set (cell_set (cell_set (cell_set CX.out.1 hyx.symm) hyx.symm) hyx.symm) hyx.symm, cell_set (cell_set (cell_set (cell_set CX.out.2.1 hyx.symm) hyx.symm) hyx.symm) hyx.symm, cell_set (cell_set (cell_set (cell_set CX.out.2.2 hyx.symm) hyx.symm) hyx.symm) hyx.symm⟩
            have SY2 : Hid (SibAt ((((wa.setCell ⟨gy, 0, none⟩ (.int .i64 (kk : Int))).setCell ⟨gy, 1, none⟩ (.int .i64 (m kk + 1))).setCell ⟨gy, 2, none⟩ (.int .i64 vv)).setCell ⟨gy, 3, none⟩ (.bool false)) gy 0 ⟨kk, m kk + 1, vv, false⟩) := ⟨cell_oth (cell_oth (cell_oth (cell_same SY.out.1) (by omega)) (by omega)) (by omega), cell_oth (cell_oth (cell_same (cell_oth SY.out.2.1 (by omega))) (by omega)) (by omega), cell_oth (cell_same (cell_oth (cell_oth SY.out.2.2.1 (by omega)) (by omega))) (by omega), cell_same (cell_oth (cell_oth (cell_oth SY.out.2.2.2 (by omega)) (by omega)) (by omega))⟩
            have TY2 : Hid (There ((((wa.setCell ⟨gy, 0, none⟩ (.int .i64 (kk : Int))).setCell ⟨gy, 1, none⟩ (.int .i64 (m kk + 1))).setCell ⟨gy, 2, none⟩ (.int .i64 vv)).setCell ⟨gy, 3, none⟩ (.bool false)) gy 4) := TY.out.set.set.set.set
            have hxz2 : gx < ((((wa.setCell ⟨gy, 0, none⟩ (.int .i64 (kk : Int))).setCell ⟨gy, 1, none⟩ (.int .i64 (m kk + 1))).setCell ⟨gy, 2, none⟩ (.int .i64 vv)).setCell ⟨gy, 3, none⟩ (.bool false)).heap.size := by simpa [World.setCell] using hxz
            have hyz2 : gy < ((((wa.setCell ⟨gy, 0, none⟩ (.int .i64 (kk : Int))).setCell ⟨gy, 1, none⟩ (.int .i64 (m kk + 1))).setCell ⟨gy, 2, none⟩ (.int .i64 vv)).setCell ⟨gy, 3, none⟩ (.bool false)).heap.size := by simpa [World.setCell] using hyz
            obtain ⟨a0, a1, a2, a3⟩ := SY.out
            have y0 := (TY.out 0 (by omega)).2
            have y1 := (TY.out 1 (by omega)).2
            have y2 := (TY.out 2 (by omega)).2
            have y3 := (TY.out 3 (by omega)).2
            simp only [Nat.zero_add] at a1 a2 a3
            refine wpAnyH_ready (rs := [9]) (by kernel_rfl) (by simp) ?_
            refine AllReadyH.cons rfl (fun K hK => ?_) AllReadyH.nil
            (try simp only [Act.put, List.getElem_toArray, List.getElem_cons_zero, List.getElem_cons_succ, List.setIfInBounds_toArray, List.set_cons_zero, List.set_cons_succ])
            go_simp
            (try simp only [])
            refine hK.out _ _ ?_ (fun hHeld' => ?_)
            · (try dsimp only)
              exact (by simpa [updn] using DS.out.cn kk hk3)
            clear hK K hHeld
            have hHeld := hHeld'
            clear hHeld'
            (try simp only [Act.put, List.getElem_toArray, List.getElem_cons_zero, List.getElem_cons_succ, List.setIfInBounds_toArray, List.set_cons_zero, List.set_cons_succ])
            refine wpAnyH_done (by kernel_rfl) ?_ _
            clear a0 a1 a2 a3 y0 y1 y2 y3 DX CX SY TY hHeld hxz hyz
            generalize ((((wa.setCell ⟨gy, 0, none⟩ (.int .i64 (kk : Int))).setCell ⟨gy, 1, none⟩ (.int .i64 (m kk + 1))).setCell ⟨gy, 2, none⟩ (.int .i64 vv)).setCell ⟨gy, 3, none⟩ (.bool false)) = x4 at *
            obtain ⟨sq, hsq⟩ := DS.out.src
            have CC : Hid _ := chance_any g len cap ao zs (k + 1 + 1 + 1 + 1 + 1) sq 5 (by omega) (by omega) x4 hsq DS.out.row HN.out hl (by omega) (by omega)
            clear hsq
            go_wp2_with fail
            refine Calls.mono CC.out ?_
            rintro e x5 ⟨b3, t1, rfl, hS1, hG1⟩
            clear CC
            have CX : Hid (Cells3 x5 gx (o mm).a (o mm).b (o mm).c) := ⟨grown_cell hG1 CX2.out.1 hgg, grown_cell hG1 CX2.out.2.1 hgg, grown_cell hG1 CX2.out.2.2 hgg⟩
            have SY : Hid (SibAt x5 gy 0 ⟨kk, m kk + 1, vv, false⟩) := ⟨grown_cell hG1 SY2.out.1 hyg, grown_cell hG1 SY2.out.2.1 hyg, grown_cell hG1 SY2.out.2.2.1 hyg, grown_cell hG1 SY2.out.2.2.2 hyg⟩
            have TY : Hid (There x5 gy 4) := TY2.out.grown hG1 hyz2 hyg
            have hxz := Nat.lt_of_lt_of_le hxz2 hG1.size
            have hyz := Nat.lt_of_lt_of_le hyz2 hG1.size
            replace DS := qi_by DS hgw ⟨t1, hS1⟩ (row_grown DS.out.row HN.out hG1) hG1
            clear hS1 hG1
            clear CX2 SY2 TY2 hxz2 hyz2
            cases b3 with
            | false =>
              go_wp2
              have DX := qi_below DS (bel_drew _)
              have hxl : gx ≠ w.heap.size + 1 + 1 + 1 := by omega
              have hyl : gy ≠ w.heap.size + 1 + 1 + 1 := by omega
              obtain ⟨Pp, hPp⟩ : ∃ Pp : Int, Pp = if (kk : Int) = 0 then m kk + 1 else max (o kk).a (o mm).a := ⟨_, rfl⟩
              obtain ⟨Qq, hQq⟩ : ∃ Qq : Int, Qq = if (kk : Int) = 1 then m kk + 1 else max (o kk).b (o mm).b := ⟨_, rfl⟩
              obtain ⟨Rr, hRr⟩ : ∃ Rr : Int, Rr = if (kk : Int) = 2 then m kk + 1 else max (o kk).c (o mm).c := ⟨_, rfl⟩
              have CW : Hid (∀ W : World, SibRow W (o kk).ao (o kk).l → Calls Tryd.prog 58 #[.agg #[.slice (o kk).ao (o kk).l.length (o kk).cap, .int .i64 (o kk).a, .int .i64 (o kk).b, .int .i64 (o kk).c], .agg #[.int .i64 (o mm).a, .int .i64 (o mm).b, .int .i64 (o mm).c], .agg #[.int .i64 (kk : Int), .int .i64 (m kk + 1), .int .i64 vv, .bool false]] W fun e w' => ∃ v, e = .returned (.agg #[v, .int .i64 Pp, .int .i64 Qq, .int .i64 Rr]) ∧ Gro W w' (.slice none 0 0) v ∧ w'.ownsRow 0 74 4 v (pt ⟨kk, m kk + 1, vv, false⟩ (fil (o mm).a (o mm).b (o mm).c (o kk).l)).length (flat (pt ⟨kk, m kk + 1, vv, false⟩ (fil (o mm).a (o mm).b (o mm).c (o kk).l)))) := fun W hW => by
                have hok := (DS.out.rp kk hk3).okP HM.out.1 HM.out.2.1 HM.out.2.2
                have hle := (DS.out.rp kk hk3).le
                have hps := (DS.out.rp kk hk3).pos
                refine l02write_any (o kk).cap (o kk).ao (o kk).l (o kk).a (o kk).b (o kk).c (o mm).a (o mm).b (o mm).c Pp Qq Rr ⟨kk, m kk + 1, vv, false⟩ W (by have := hok.1; omega) (ok_nodes hok) hW (fun W' => ?_)
                refine add_any _ _ _ (kk : Int) (m kk + 1) Pp Qq Rr (by omega) (max_lt ⟨?_, ?_⟩ (by omega)) hPp hQq hRr W'
                · have := comp_mono (p := (kk : Int)) hle
                  rw [comp_at m kk hk3] at this
                  omega
                · have := comp_mono (p := (kk : Int)) HX.out
                  rw [comp_at m kk hk3] at this
                  omega
              obtain ⟨V', hV'⟩ : ∃ V' : Int → Int → Int × Bool, ∀ (p : Option Addr) (q : Nat), ∀ j, j < 3 → Rp V' (updn m kk (m kk + 1) 0) (updn m kk (m kk + 1) 1) (updn m kk (m kk + 1) 2) (upd o kk ⟨p, q, pt ⟨kk, m kk + 1, vv, false⟩ (fil (o mm).a (o mm).b (o mm).c (o kk).l), Pp, Qq, Rr⟩ j).l (upd o kk ⟨p, q, pt ⟨kk, m kk + 1, vv, false⟩ (fil (o mm).a (o mm).b (o mm).c (o kk).l), Pp, Qq, Rr⟩ j).a (upd o kk ⟨p, q, pt ⟨kk, m kk + 1, vv, false⟩ (fil (o mm).a (o mm).b (o mm).c (o kk).l), Pp, Qq, Rr⟩ j).b (upd o kk ⟨p, q, pt ⟨kk, m kk + 1, vv, false⟩ (fil (o mm).a (o mm).b (o mm).c (o kk).l), Pp, Qq, Rr⟩ j).c := by
                obtain ⟨V', h⟩ := rp_write DS.out.rp hk3 none 0 (v := vv) (d := false) HX.out ⟨HP.out 0 (by omega), HP.out 1 (by omega), HP.out 2 (by omega)⟩ (by omega) (by omega) (by simp) hPp hQq hRr
                refine ⟨V', fun p q j hj => ?_⟩
                have h1 := h j hj
                by_cases e : j = kk
                · subst e
                  rw [upd_same] at h1 ⊢
                  exact h1
                · rw [upd_other _ _ e] at h1 ⊢
                  exact h1
              have HV : Hid _ := hV'
              clear hV' hPp hQq hRr
              refine wp_region_held_drew (S := (fun w' => (w'.cell? ⟨gx, 0, none⟩ = some (.int .i64 (o mm).a) ∧ w'.cell? ⟨gx, 1, none⟩ = some (.int .i64 (o mm).b) ∧ w'.cell? ⟨gx, 2, none⟩ = some (.int .i64 (o mm).c)) ∧ w'.cell? ⟨gy, 0, none⟩ = some (.int .i64 (kk : Int)) ∧ w'.cell? ⟨gy, 1, none⟩ = some (.int .i64 (m kk + 1)) ∧ w'.cell? ⟨gy, 2, none⟩ = some (.int .i64 vv) ∧ w'.cell? ⟨gy, 3, none⟩ = some (.bool false))) (by kernel_rfl) ⟨⟨CX.out.1, CX.out.2.1, CX.out.2.2⟩, SY.out.1, by simpa using SY.out.2.1, by simpa using SY.out.2.2.1, by simpa using SY.out.2.2.2⟩ (fun hHeld => ?_)
              clear DS CX SY
              refine wpAnyH_take (i := 0) (v := ?_) rfl (by kernel_rfl) (by kernel_rfl) (by kernel_rfl) (fun _ _ _ h => h) (Or.inl ⟨by rfl, ?_⟩) (by assumption) ?_
              rotate_left
              · intro w' hSw
                (try dsimp only at hSw)
                go_simp
                all_goals (try with_reducible rfl)
              (try simp only [Act.put, List.getElem_toArray, List.getElem_cons_zero, List.getElem_cons_succ, List.setIfInBounds_toArray, List.set_cons_zero, List.set_cons_succ])
              refine wpAnyH_take (i := 1) (v := ?_) rfl (by kernel_rfl) (by kernel_rfl) (by kernel_rfl) (fun _ _ _ h => h) (Or.inl ⟨by rfl, ?_⟩) (by assumption) ?_
              rotate_left
              · intro w' hSw
                (try dsimp only at hSw)
                go_simp
                all_goals (try with_reducible rfl)
              (try simp only [Act.put, List.getElem_toArray, List.getElem_cons_zero, List.getElem_cons_succ, List.setIfInBounds_toArray, List.set_cons_zero, List.set_cons_succ])
              refine wpAnyH_take (i := 2) (v := ?_) rfl (by kernel_rfl) (by kernel_rfl) (by kernel_rfl) (fun _ _ _ h => h) (Or.inl ⟨by rfl, ?_⟩) (by assumption) ?_
              rotate_left
              · intro w' hSw
                (try dsimp only at hSw)
                go_simp
                all_goals (try with_reducible rfl)
              (try simp only [Act.put, List.getElem_toArray, List.getElem_cons_zero, List.getElem_cons_succ, List.setIfInBounds_toArray, List.set_cons_zero, List.set_cons_succ])
              refine wpAnyH_take (i := 3) (v := ?_) rfl (by kernel_rfl) (by kernel_rfl) (by kernel_rfl) (fun _ _ _ h => h) (Or.inl ⟨by rfl, ?_⟩) (by assumption) ?_
              rotate_left
              · intro w' hSw
                (try dsimp only at hSw)
                go_simp
                all_goals (try with_reducible rfl)
              (try simp only [Act.put, List.getElem_toArray, List.getElem_cons_zero, List.getElem_cons_succ, List.setIfInBounds_toArray, List.set_cons_zero, List.set_cons_succ])
              refine wpAnyH_take (i := 4) (v := ?_) rfl (by kernel_rfl) (by kernel_rfl) (by kernel_rfl) (fun _ _ _ h => h) (Or.inl ⟨by rfl, ?_⟩) (by assumption) ?_
              rotate_left
              · intro w' hSw
                (try dsimp only at hSw)
                go_simp
                all_goals (try with_reducible rfl)
              (try simp only [Act.put, List.getElem_toArray, List.getElem_cons_zero, List.getElem_cons_succ, List.setIfInBounds_toArray, List.set_cons_zero, List.set_cons_succ])
              refine wpAnyH_take (i := 6) (v := ?_) rfl (by kernel_rfl) (by kernel_rfl) (by kernel_rfl) (fun _ _ _ h => h) (Or.inl ⟨by rfl, ?_⟩) (by assumption) ?_
              rotate_left
              · intro w' hSw
                (try dsimp only at hSw)
                go_simp
                all_goals (try with_reducible rfl)
              (try simp only [Act.put, List.getElem_toArray, List.getElem_cons_zero, List.getElem_cons_succ, List.setIfInBounds_toArray, List.set_cons_zero, List.set_cons_succ])
              refine wpAnyH_take (i := 7) (v := ?_) rfl (by kernel_rfl) (by kernel_rfl) (by kernel_rfl) (fun _ _ _ h => h) (Or.inl ⟨by rfl, ?_⟩) (by assumption) ?_
              rotate_left
              · intro w' hSw
                (try dsimp only at hSw)
                go_simp
                all_goals (try with_reducible rfl)
              (try simp only [Act.put, List.getElem_toArray, List.getElem_cons_zero, List.getElem_cons_succ, List.setIfInBounds_toArray, List.set_cons_zero, List.set_cons_succ])
              generalize x5.drew = wd at *
              obtain ⟨e0, e1, e2, e3⟩ := DX.out.ob kk hk3
              refine wpAnyH_ready (rs := [5]) (by kernel_rfl) (by simp) ?_
              refine AllReadyH.cons rfl (fun K hK => ?_) AllReadyH.nil
              (try simp only [Act.put, List.getElem_toArray, List.getElem_cons_zero, List.getElem_cons_succ, List.setIfInBounds_toArray, List.set_cons_zero, List.set_cons_succ])
              go_simp
              (try simp only [])
              refine hK.out _ _ ?_ (fun hHeld' => ?_)
              · (try dsimp only)
                exact hHeld
              clear hK K hHeld
              have hHeld := hHeld'
              clear hHeld'
              (try simp only [Act.put, List.getElem_toArray, List.getElem_cons_zero, List.getElem_cons_succ, List.setIfInBounds_toArray, List.set_cons_zero, List.set_cons_succ])
              clear e0 e1 e2 e3
              refine wpAnyH_ready (rs := [8]) (by kernel_rfl) (by simp) ?_
              refine AllReadyH.cons rfl (fun K hK => ?_) AllReadyH.nil
              (try simp only [Act.put, List.getElem_toArray, List.getElem_cons_zero, List.getElem_cons_succ, List.setIfInBounds_toArray, List.set_cons_zero, List.set_cons_succ])
              go_simp
              go_at_call 58
              refine Calls.mono (CW.out _ (DX.out.ro kk hk3).row) ?_
              rintro e x8 ⟨v, rfl, hG, hO⟩
              have hsz2 := DX.out.size
              obtain ⟨ao', cap', rfl, hro⟩ := rowO_own (g := g) (p := w.heap.size + 1 + 1 + 1) (q := w.heap.size + 1 + 1 + 1 + 1) (a := Pp) (b := Qq) (c := Rr) hG hO (by omega) (by omega) (by omega)
              replace DX := qi_below DX (gbl hG)
              have RO : Hid (RowO x8 g (w.heap.size + 1 + 1 + 1) (w.heap.size + 1 + 1 + 1 + 1) _) := hro
              have hb8 := (gbl hG)
              clear hG hO hro hsz2
              refine hK.out _ _ ?_ (fun hHeld' => ?_)
              · (try dsimp only)
                exact ⟨⟨cell_next hb8 hHeld.1.1 (cell_lt hHeld.1.1), cell_next hb8 hHeld.1.2.1 (cell_lt hHeld.1.2.1), cell_next hb8 hHeld.1.2.2 (cell_lt hHeld.1.2.2)⟩, cell_next hb8 hHeld.2.1 (cell_lt hHeld.2.1), cell_next hb8 hHeld.2.2.1 (cell_lt hHeld.2.2.1), cell_next hb8 hHeld.2.2.2.1 (cell_lt hHeld.2.2.2.1), cell_next hb8 hHeld.2.2.2.2 (cell_lt hHeld.2.2.2.2)⟩
              clear hK K hHeld
              have hHeld := hHeld'
              clear hHeld'
              (try simp only [Act.put, List.getElem_toArray, List.getElem_cons_zero, List.getElem_cons_succ, List.setIfInBounds_toArray, List.set_cons_zero, List.set_cons_succ])
              clear hb8
              refine wpAnyH_take (i := 9) (v := ?_) rfl (by kernel_rfl) (by kernel_rfl) (by kernel_rfl) (fun _ _ _ h => h) (Or.inl ⟨by rfl, ?_⟩) (by assumption) ?_
              rotate_left
              · intro w' hSw
                (try dsimp only at hSw)
                go_simp
                all_goals (try with_reducible rfl)
              (try simp only [Act.put, List.getElem_toArray, List.getElem_cons_zero, List.getElem_cons_succ, List.setIfInBounds_toArray, List.set_cons_zero, List.set_cons_succ])
              have DZ : Hid (QI w ((((x8.setCell ⟨w.heap.size + 1 + 1 + 1, kk * 4, none⟩ (.slice ao' (pt ⟨kk, m kk + 1, vv, false⟩ (fil (o mm).a (o mm).b (o mm).c (o kk).l)).length cap')).setCell ⟨w.heap.size + 1 + 1 + 1, kk * 4 + 1, none⟩ (.int .i64 Pp)).setCell ⟨w.heap.size + 1 + 1 + 1, kk * 4 + 2, none⟩ (.int .i64 Qq)).setCell ⟨w.heap.size + 1 + 1 + 1, kk * 4 + 3, none⟩ (.int .i64 Rr)) g ao len cap zs (k + 1 + 1 + 1 + 1 + 1 + 1) V' (updn m kk (m kk + 1)) (updn m kk (m kk + 1)) (upd o kk ⟨ao', cap', pt ⟨kk, m kk + 1, vv, false⟩ (fil (o mm).a (o mm).b (o mm).c (o kk).l), Pp, Qq, Rr⟩)) := DX.out.store hgw HOLD.out ⟨ao', cap', pt ⟨kk, m kk + 1, vv, false⟩ (fil (o mm).a (o mm).b (o mm).c (o kk).l), Pp, Qq, Rr⟩ hk3 RO.out (HV.out ao' cap')
              obtain ⟨u0, T0⟩ := Option.isSome_iff_exists.1 (DX.out.th (kk * 4) (by omega)).1
              have Z0 := (DX.out.th (kk * 4) (by omega)).2
              obtain ⟨u1, T1⟩ := Option.isSome_iff_exists.1 (DX.out.th (kk * 4 + 1) (by omega)).1
              have Z1 := (DX.out.th (kk * 4 + 1) (by omega)).2
              obtain ⟨u2, T2⟩ := Option.isSome_iff_exists.1 (DX.out.th (kk * 4 + 2) (by omega)).1
              have Z2 := (DX.out.th (kk * 4 + 2) (by omega)).2
              obtain ⟨u3, T3⟩ := Option.isSome_iff_exists.1 (DX.out.th (kk * 4 + 3) (by omega)).1
              have Z3 := (DX.out.th (kk * 4 + 3) (by omega)).2
              refine wpAnyH_ready (rs := [10]) (by kernel_rfl) (by simp) ?_
              refine AllReadyH.cons rfl (fun K hK => ?_) AllReadyH.nil
              (try simp only [Act.put, List.getElem_toArray, List.getElem_cons_zero, List.getElem_cons_succ, List.setIfInBounds_toArray, List.set_cons_zero, List.set_cons_succ])
              go_simp
              (try simp only [])
              refine hK.out _ _ ?_ (fun hHeld' => ?_)
              · (try dsimp only)
                exact ⟨⟨cell_set (cell_set (cell_set (cell_set hHeld.1.1 hxl) hxl) hxl) hxl, cell_set (cell_set (cell_set (cell_set hHeld.1.2.1 hxl) hxl) hxl) hxl, cell_set (cell_set (cell_set (cell_set hHeld.1.2.2 hxl) hxl) hxl) hxl⟩, cell_set (cell_set (cell_set (cell_set hHeld.2.1 hyl) hyl) hyl) hyl, cell_set (cell_set (cell_set (cell_set hHeld.2.2.1 hyl) hyl) hyl) hyl, cell_set (cell_set (cell_set (cell_set hHeld.2.2.2.1 hyl) hyl) hyl) hyl, cell_set (cell_set (cell_set (cell_set hHeld.2.2.2.2 hyl) hyl) hyl) hyl⟩
              clear hK K hHeld
              have hHeld := hHeld'
              clear hHeld'
              (try simp only [Act.put, List.getElem_toArray, List.getElem_cons_zero, List.getElem_cons_succ, List.setIfInBounds_toArray, List.set_cons_zero, List.set_cons_succ])
              refine wpAnyH_done (by kernel_rfl) ?_ _
              clear T0 Z0 T1 Z1 T2 Z2 T3 Z3 DX RO hHeld CW HV
              generalize ((((x8.setCell ⟨w.heap.size + 1 + 1 + 1, kk * 4, none⟩ (.slice ao' (pt ⟨kk, m kk + 1, vv, false⟩ (fil (o mm).a (o mm).b (o mm).c (o kk).l)).length cap')).setCell ⟨w.heap.size + 1 + 1 + 1, kk * 4 + 1, none⟩ (.int .i64 Pp)).setCell ⟨w.heap.size + 1 + 1 + 1, kk * 4 + 2, none⟩ (.int .i64 Qq)).setCell ⟨w.heap.size + 1 + 1 + 1, kk * 4 + 3, none⟩ (.int .i64 Rr)) = x9 at *
              go_wp2
              go_roundw
              case rel => exact ⟨j, k + 1 + 1 + 1 + 1 + 1 + 1, V', _, _, by go_num, updn_pos HP.out (HP.out kk hk3), updn_sum hk3 (by omega), by omega, by omega, DZ.out⟩
              case measure => simp [intOf]
            | true =>
              have W5 : Hid (QI w ((x5.setCell ⟨gy, 3, none⟩ (.bool true)).setCell ⟨gy, 2, none⟩ (.int .i64 0)) g ao len cap zs (k + 1 + 1 + 1 + 1 + 1 + 1) V m (updn m kk (m kk + 1)) o) := qi_other (qi_other DS hgw HOLD.out hyb HGY.out) hgw HOLD.out hyb HGY.out
              have CX2 : Hid (Cells3 ((x5.setCell ⟨gy, 3, none⟩ (.bool true)).setCell ⟨gy, 2, none⟩ (.int .i64 0)) gx (o mm).a (o mm).b (o mm).c) := ⟨cell_set (cell_set CX.out.1 hyx.symm) hyx.symm, cell_set (cell_set CX.out.2.1 hyx.symm) hyx.symm, cell_set (cell_set CX.out.2.2 hyx.symm) hyx.symm⟩
              have SY2 : Hid (SibAt ((x5.setCell ⟨gy, 3, none⟩ (.bool true)).setCell ⟨gy, 2, none⟩ (.int .i64 0)) gy 0 ⟨kk, m kk + 1, 0, true⟩) := ⟨cell_oth (cell_oth SY.out.1 (by omega)) (by omega), cell_oth (cell_oth SY.out.2.1 (by omega)) (by omega), cell_same (cell_oth SY.out.2.2.1 (by omega)), cell_oth (cell_same SY.out.2.2.2) (by omega)⟩
              have hxz2 : gx < ((x5.setCell ⟨gy, 3, none⟩ (.bool true)).setCell ⟨gy, 2, none⟩ (.int .i64 0)).heap.size := by simpa [World.setCell] using hxz
              obtain ⟨a0, a1, a2, a3⟩ := SY.out
              simp only [Nat.zero_add] at a1 a2 a3
              have y2 := (TY.out 2 (by omega)).2
              have y3 := (TY.out 3 (by omega)).2
              clear DS CX SY TY hxz
              go_wp2
              clear a0 a1 a2 a3 y2 y3
              generalize ((x5.setCell ⟨gy, 3, none⟩ (.bool true)).setCell ⟨gy, 2, none⟩ (.int .i64 0)) = x6 at *
              have DS := W5
              have CX := CX2
              have SY := SY2
              have hxz := hxz2
              clear W5 CX2 SY2 hxz2
              have DX := qi_below DS (bel_drew _)
              have hxl : gx ≠ w.heap.size + 1 + 1 + 1 := by omega
              have hyl : gy ≠ w.heap.size + 1 + 1 + 1 := by omega
              obtain ⟨Pp, hPp⟩ : ∃ Pp : Int, Pp = if (kk : Int) = 0 then m kk + 1 else max (o kk).a (o mm).a := ⟨_, rfl⟩
              obtain ⟨Qq, hQq⟩ : ∃ Qq : Int, Qq = if (kk : Int) = 1 then m kk + 1 else max (o kk).b (o mm).b := ⟨_, rfl⟩
              obtain ⟨Rr, hRr⟩ : ∃ Rr : Int, Rr = if (kk : Int) = 2 then m kk + 1 else max (o kk).c (o mm).c := ⟨_, rfl⟩
              have CW : Hid (∀ W : World, SibRow W (o kk).ao (o kk).l → Calls Tryd.prog 58 #[.agg #[.slice (o kk).ao (o kk).l.length (o kk).cap, .int .i64 (o kk).a, .int .i64 (o kk).b, .int .i64 (o kk).c], .agg #[.int .i64 (o mm).a, .int .i64 (o mm).b, .int .i64 (o mm).c], .agg #[.int .i64 (kk : Int), .int .i64 (m kk + 1), .int .i64 0, .bool true]] W fun e w' => ∃ v, e = .returned (.agg #[v, .int .i64 Pp, .int .i64 Qq, .int .i64 Rr]) ∧ Gro W w' (.slice none 0 0) v ∧ w'.ownsRow 0 74 4 v (pt ⟨kk, m kk + 1, 0, true⟩ (fil (o mm).a (o mm).b (o mm).c (o kk).l)).length (flat (pt ⟨kk, m kk + 1, 0, true⟩ (fil (o mm).a (o mm).b (o mm).c (o kk).l)))) := fun W hW => by
                have hok := (DS.out.rp kk hk3).okP HM.out.1 HM.out.2.1 HM.out.2.2
                have hle := (DS.out.rp kk hk3).le
                have hps := (DS.out.rp kk hk3).pos
                refine l02write_any (o kk).cap (o kk).ao (o kk).l (o kk).a (o kk).b (o kk).c (o mm).a (o mm).b (o mm).c Pp Qq Rr ⟨kk, m kk + 1, 0, true⟩ W (by have := hok.1; omega) (ok_nodes hok) hW (fun W' => ?_)
                refine add_any _ _ _ (kk : Int) (m kk + 1) Pp Qq Rr (by omega) (max_lt ⟨?_, ?_⟩ (by omega)) hPp hQq hRr W'
                · have := comp_mono (p := (kk : Int)) hle
                  rw [comp_at m kk hk3] at this
                  omega
                · have := comp_mono (p := (kk : Int)) HX.out
                  rw [comp_at m kk hk3] at this
                  omega
              obtain ⟨V', hV'⟩ : ∃ V' : Int → Int → Int × Bool, ∀ (p : Option Addr) (q : Nat), ∀ j, j < 3 → Rp V' (updn m kk (m kk + 1) 0) (updn m kk (m kk + 1) 1) (updn m kk (m kk + 1) 2) (upd o kk ⟨p, q, pt ⟨kk, m kk + 1, 0, true⟩ (fil (o mm).a (o mm).b (o mm).c (o kk).l), Pp, Qq, Rr⟩ j).l (upd o kk ⟨p, q, pt ⟨kk, m kk + 1, 0, true⟩ (fil (o mm).a (o mm).b (o mm).c (o kk).l), Pp, Qq, Rr⟩ j).a (upd o kk ⟨p, q, pt ⟨kk, m kk + 1, 0, true⟩ (fil (o mm).a (o mm).b (o mm).c (o kk).l), Pp, Qq, Rr⟩ j).b (upd o kk ⟨p, q, pt ⟨kk, m kk + 1, 0, true⟩ (fil (o mm).a (o mm).b (o mm).c (o kk).l), Pp, Qq, Rr⟩ j).c := by
                obtain ⟨V', h⟩ := rp_write DS.out.rp hk3 none 0 (v := 0) (d := true) HX.out ⟨HP.out 0 (by omega), HP.out 1 (by omega), HP.out 2 (by omega)⟩ (by omega) (by omega) (by simp) hPp hQq hRr
                refine ⟨V', fun p q j hj => ?_⟩
                have h1 := h j hj
                by_cases e : j = kk
                · subst e
                  rw [upd_same] at h1 ⊢
                  exact h1
                · rw [upd_other _ _ e] at h1 ⊢
                  exact h1
              have HV : Hid _ := hV'
              clear hV' hPp hQq hRr
              refine wp_region_held_drew (S := (fun w' => (w'.cell? ⟨gx, 0, none⟩ = some (.int .i64 (o mm).a) ∧ w'.cell? ⟨gx, 1, none⟩ = some (.int .i64 (o mm).b) ∧ w'.cell? ⟨gx, 2, none⟩ = some (.int .i64 (o mm).c)) ∧ w'.cell? ⟨gy, 0, none⟩ = some (.int .i64 (kk : Int)) ∧ w'.cell? ⟨gy, 1, none⟩ = some (.int .i64 (m kk + 1)) ∧ w'.cell? ⟨gy, 2, none⟩ = some (.int .i64 0) ∧ w'.cell? ⟨gy, 3, none⟩ = some (.bool true))) (by kernel_rfl) ⟨⟨CX.out.1, CX.out.2.1, CX.out.2.2⟩, SY.out.1, by simpa using SY.out.2.1, by simpa using SY.out.2.2.1, by simpa using SY.out.2.2.2⟩ (fun hHeld => ?_)
              clear DS CX SY
              refine wpAnyH_take (i := 0) (v := ?_) rfl (by kernel_rfl) (by kernel_rfl) (by kernel_rfl) (fun _ _ _ h => h) (Or.inl ⟨by rfl, ?_⟩) (by assumption) ?_
              rotate_left
              · intro w' hSw
                (try dsimp only at hSw)
                go_simp
                all_goals (try with_reducible rfl)
              (try simp only [Act.put, List.getElem_toArray, List.getElem_cons_zero, List.getElem_cons_succ, List.setIfInBounds_toArray, List.set_cons_zero, List.set_cons_succ])
              refine wpAnyH_take (i := 1) (v := ?_) rfl (by kernel_rfl) (by kernel_rfl) (by kernel_rfl) (fun _ _ _ h => h) (Or.inl ⟨by rfl, ?_⟩) (by assumption) ?_
              rotate_left
              · intro w' hSw
                (try dsimp only at hSw)
                go_simp
                all_goals (try with_reducible rfl)
              (try simp only [Act.put, List.getElem_toArray, List.getElem_cons_zero, List.getElem_cons_succ, List.setIfInBounds_toArray, List.set_cons_zero, List.set_cons_succ])
              refine wpAnyH_take (i := 2) (v := ?_) rfl (by kernel_rfl) (by kernel_rfl) (by kernel_rfl) (fun _ _ _ h => h) (Or.inl ⟨by rfl, ?_⟩) (by assumption) ?_
              rotate_left
              · intro w' hSw
                (try dsimp only at hSw)
                go_simp
                all_goals (try with_reducible rfl)
              (try simp only [Act.put, List.getElem_toArray, List.getElem_cons_zero, List.getElem_cons_succ, List.setIfInBounds_toArray, List.set_cons_zero, List.set_cons_succ])
              refine wpAnyH_take (i := 3) (v := ?_) rfl (by kernel_rfl) (by kernel_rfl) (by kernel_rfl) (fun _ _ _ h => h) (Or.inl ⟨by rfl, ?_⟩) (by assumption) ?_
              rotate_left
              · intro w' hSw
                (try dsimp only at hSw)
                go_simp
                all_goals (try with_reducible rfl)
              (try simp only [Act.put, List.getElem_toArray, List.getElem_cons_zero, List.getElem_cons_succ, List.setIfInBounds_toArray, List.set_cons_zero, List.set_cons_succ])
              refine wpAnyH_take (i := 4) (v := ?_) rfl (by kernel_rfl) (by kernel_rfl) (by kernel_rfl) (fun _ _ _ h => h) (Or.inl ⟨by rfl, ?_⟩) (by assumption) ?_
              rotate_left
              · intro w' hSw
                (try dsimp only at hSw)
                go_simp
                all_goals (try with_reducible rfl)
              (try simp only [Act.put, List.getElem_toArray, List.getElem_cons_zero, List.getElem_cons_succ, List.setIfInBounds_toArray, List.set_cons_zero, List.set_cons_succ])
              refine wpAnyH_take (i := 6) (v := ?_) rfl (by kernel_rfl) (by kernel_rfl) (by kernel_rfl) (fun _ _ _ h => h) (Or.inl ⟨by rfl, ?_⟩) (by assumption) ?_
              rotate_left
              · intro w' hSw
                (try dsimp only at hSw)
                go_simp
                all_goals (try with_reducible rfl)
              (try simp only [Act.put, List.getElem_toArray, List.getElem_cons_zero, List.getElem_cons_succ, List.setIfInBounds_toArray, List.set_cons_zero, List.set_cons_succ])
              refine wpAnyH_take (i := 7) (v := ?_) rfl (by kernel_rfl) (by kernel_rfl) (by kernel_rfl) (fun _ _ _ h => h) (Or.inl ⟨by rfl, ?_⟩) (by assumption) ?_
              rotate_left
              · intro w' hSw
                (try dsimp only at hSw)
                go_simp
                all_goals (try with_reducible rfl)
              (try simp only [Act.put, List.getElem_toArray, List.getElem_cons_zero, List.getElem_cons_succ, List.setIfInBounds_toArray, List.set_cons_zero, List.set_cons_succ])
              generalize x6.drew = wd at *
              obtain ⟨e0, e1, e2, e3⟩ := DX.out.ob kk hk3
              refine wpAnyH_ready (rs := [5]) (by kernel_rfl) (by simp) ?_
              refine AllReadyH.cons rfl (fun K hK => ?_) AllReadyH.nil
              (try simp only [Act.put, List.getElem_toArray, List.getElem_cons_zero, List.getElem_cons_succ, List.setIfInBounds_toArray, List.set_cons_zero, List.set_cons_succ])
              go_simp
              (try simp only [])
              refine hK.out _ _ ?_ (fun hHeld' => ?_)
              · (try dsimp only)
                exact hHeld
              clear hK K hHeld
              have hHeld := hHeld'
              clear hHeld'
              (try simp only [Act.put, List.getElem_toArray, List.getElem_cons_zero, List.getElem_cons_succ, List.setIfInBounds_toArray, List.set_cons_zero, List.set_cons_succ])
              clear e0 e1 e2 e3
              refine wpAnyH_ready (rs := [8]) (by kernel_rfl) (by simp) ?_
              refine AllReadyH.cons rfl (fun K hK => ?_) AllReadyH.nil
              (try simp only [Act.put, List.getElem_toArray, List.getElem_cons_zero, List.getElem_cons_succ, List.setIfInBounds_toArray, List.set_cons_zero, List.set_cons_succ])
              go_simp
              go_at_call 58
              refine Calls.mono (CW.out _ (DX.out.ro kk hk3).row) ?_
              rintro e x8 ⟨v, rfl, hG, hO⟩
              have hsz2 := DX.out.size
              obtain ⟨ao', cap', rfl, hro⟩ := rowO_own (g := g) (p := w.heap.size + 1 + 1 + 1) (q := w.heap.size + 1 + 1 + 1 + 1) (a := Pp) (b := Qq) (c := Rr) hG hO (by omega) (by omega) (by omega)
              replace DX := qi_below DX (gbl hG)
              have RO : Hid (RowO x8 g (w.heap.size + 1 + 1 + 1) (w.heap.size + 1 + 1 + 1 + 1) _) := hro
              have hb8 := (gbl hG)
              clear hG hO hro hsz2
              refine hK.out _ _ ?_ (fun hHeld' => ?_)
              · (try dsimp only)
                exact ⟨⟨cell_next hb8 hHeld.1.1 (cell_lt hHeld.1.1), cell_next hb8 hHeld.1.2.1 (cell_lt hHeld.1.2.1), cell_next hb8 hHeld.1.2.2 (cell_lt hHeld.1.2.2)⟩, cell_next hb8 hHeld.2.1 (cell_lt hHeld.2.1), cell_next hb8 hHeld.2.2.1 (cell_lt hHeld.2.2.1), cell_next hb8 hHeld.2.2.2.1 (cell_lt hHeld.2.2.2.1), cell_next hb8 hHeld.2.2.2.2 (cell_lt hHeld.2.2.2.2)⟩
              clear hK K hHeld
              have hHeld := hHeld'
              clear hHeld'
              (try simp only [Act.put, List.getElem_toArray, List.getElem_cons_zero, List.getElem_cons_succ, List.setIfInBounds_toArray, List.set_cons_zero, List.set_cons_succ])
              clear hb8
              refine wpAnyH_take (i := 9) (v := ?_) rfl (by kernel_rfl) (by kernel_rfl) (by kernel_rfl) (fun _ _ _ h => h) (Or.inl ⟨by rfl, ?_⟩) (by assumption) ?_
              rotate_left
              · intro w' hSw
                (try dsimp only at hSw)
                go_simp
                all_goals (try with_reducible rfl)
              (try simp only [Act.put, List.getElem_toArray, List.getElem_cons_zero, List.getElem_cons_succ, List.setIfInBounds_toArray, List.set_cons_zero, List.set_cons_succ])
              have DZ : Hid (QI w ((((x8.setCell ⟨w.heap.size + 1 + 1 + 1, kk * 4, none⟩ (.slice ao' (pt ⟨kk, m kk + 1, 0, true⟩ (fil (o mm).a (o mm).b (o mm).c (o kk).l)).length cap')).setCell ⟨w.heap.size + 1 + 1 + 1, kk * 4 + 1, none⟩ (.int .i64 Pp)).setCell ⟨w.heap.size + 1 + 1 + 1, kk * 4 + 2, none⟩ (.int .i64 Qq)).setCell ⟨w.heap.size + 1 + 1 + 1, kk * 4 + 3, none⟩ (.int .i64 Rr)) g ao len cap zs (k + 1 + 1 + 1 + 1 + 1 + 1) V' (updn m kk (m kk + 1)) (updn m kk (m kk + 1)) (upd o kk ⟨ao', cap', pt ⟨kk, m kk + 1, 0, true⟩ (fil (o mm).a (o mm).b (o mm).c (o kk).l), Pp, Qq, Rr⟩)) := DX.out.store hgw HOLD.out ⟨ao', cap', pt ⟨kk, m kk + 1, 0, true⟩ (fil (o mm).a (o mm).b (o mm).c (o kk).l), Pp, Qq, Rr⟩ hk3 RO.out (HV.out ao' cap')
              obtain ⟨u0, T0⟩ := Option.isSome_iff_exists.1 (DX.out.th (kk * 4) (by omega)).1
              have Z0 := (DX.out.th (kk * 4) (by omega)).2
              obtain ⟨u1, T1⟩ := Option.isSome_iff_exists.1 (DX.out.th (kk * 4 + 1) (by omega)).1
              have Z1 := (DX.out.th (kk * 4 + 1) (by omega)).2
              obtain ⟨u2, T2⟩ := Option.isSome_iff_exists.1 (DX.out.th (kk * 4 + 2) (by omega)).1
              have Z2 := (DX.out.th (kk * 4 + 2) (by omega)).2
              obtain ⟨u3, T3⟩ := Option.isSome_iff_exists.1 (DX.out.th (kk * 4 + 3) (by omega)).1
              have Z3 := (DX.out.th (kk * 4 + 3) (by omega)).2
              refine wpAnyH_ready (rs := [10]) (by kernel_rfl) (by simp) ?_
              refine AllReadyH.cons rfl (fun K hK => ?_) AllReadyH.nil
              (try simp only [Act.put, List.getElem_toArray, List.getElem_cons_zero, List.getElem_cons_succ, List.setIfInBounds_toArray, List.set_cons_zero, List.set_cons_succ])
              go_simp
              (try simp only [])
              refine hK.out _ _ ?_ (fun hHeld' => ?_)
              · (try dsimp only)
                exact ⟨⟨cell_set (cell_set (cell_set (cell_set hHeld.1.1 hxl) hxl) hxl) hxl, cell_set (cell_set (cell_set (cell_set hHeld.1.2.1 hxl) hxl) hxl) hxl, cell_set (cell_set (cell_set (cell_set hHeld.1.2.2 hxl) hxl) hxl) hxl⟩, cell_set (cell_set (cell_set (cell_set hHeld.2.1 hyl) hyl) hyl) hyl, cell_set (cell_set (cell_set (cell_set hHeld.2.2.1 hyl) hyl) hyl) hyl, cell_set (cell_set (cell_set (cell_set hHeld.2.2.2.1 hyl) hyl) hyl) hyl, cell_set (cell_set (cell_set (cell_set hHeld.2.2.2.2 hyl) hyl) hyl) hyl⟩
              clear hK K hHeld
              have hHeld := hHeld'
              clear hHeld'
              (try simp only [Act.put, List.getElem_toArray, List.getElem_cons_zero, List.getElem_cons_succ, List.setIfInBounds_toArray, List.set_cons_zero, List.set_cons_succ])
              refine wpAnyH_done (by kernel_rfl) ?_ _
              clear T0 Z0 T1 Z1 T2 Z2 T3 Z3 DX RO hHeld CW HV
              generalize ((((x8.setCell ⟨w.heap.size + 1 + 1 + 1, kk * 4, none⟩ (.slice ao' (pt ⟨kk, m kk + 1, 0, true⟩ (fil (o mm).a (o mm).b (o mm).c (o kk).l)).length cap')).setCell ⟨w.heap.size + 1 + 1 + 1, kk * 4 + 1, none⟩ (.int .i64 Pp)).setCell ⟨w.heap.size + 1 + 1 + 1, kk * 4 + 2, none⟩ (.int .i64 Qq)).setCell ⟨w.heap.size + 1 + 1 + 1, kk * 4 + 3, none⟩ (.int .i64 Rr)) = x9 at *
              go_wp2
              go_roundw
              case rel => exact ⟨j, k + 1 + 1 + 1 + 1 + 1 + 1, V', _, _, by go_num, updn_pos HP.out (HP.out kk hk3), updn_sum hk3 (by omega), by omega, by omega, DZ.out⟩
              case measure => simp [intOf]
          · (try simp only [Act.put, List.getElem_toArray, List.getElem_cons_zero, List.getElem_cons_succ, List.setIfInBounds_toArray, List.set_cons_zero, List.set_cons_succ])
            go_simp
            (try simp only [])
            have CX2 : Hid (Cells3 (wd.alloc (.cells #[.int .i64 0, .int .i64 0, .int .i64 0, .bool false] 74)) gx (o mm).a (o mm).b (o mm).c) := c3_next CX.out (bel_alloc _ _) hxz
            have SY : Hid (SibAt (wd.alloc (.cells #[.int .i64 0, .int .i64 0, .int .i64 0, .bool false] 74)) wd.heap.size 0 ⟨0, 0, 0, false⟩) := by refine ⟨?_, ?_, ?_, ?_⟩ <;> go_simp
            have TY : Hid (There (wd.alloc (.cells #[.int .i64 0, .int .i64 0, .int .i64 0, .bool false] 74)) wd.heap.size 4) := by
              show There _ _ _
              intro j hj
              have hj' : j = 0 ∨ j = 1 ∨ j = 2 ∨ j = 3 := by omega
              rcases hj' with rfl | rfl | rfl | rfl <;> exact ⟨by go_simp, by go_simp⟩
            have HGY : Hid (∀ j, j < 3 → ∀ x, (o j).ao = some x → (o j).l ≠ [] → x.block ≠ wd.heap.size) := fun j hj x hx hl => Nat.ne_of_lt (row_ltS (DX.out.ro j hj).row x hx hl)
            have hyz : wd.heap.size < (wd.alloc (.cells #[.int .i64 0, .int .i64 0, .int .i64 0, .bool false] 74)).heap.size := by simp
            have hyx : wd.heap.size ≠ gx := Nat.ne_of_gt hxz
            have hyb : w.heap.size + 5 ≤ wd.heap.size := DX.out.size
            have hyg : wd.heap.size ≠ g := by omega
            have hxz2 : gx < (wd.alloc (.cells #[.int .i64 0, .int .i64 0, .int .i64 0, .bool false] 74)).heap.size := Nat.lt_of_lt_of_le hxz (bel_alloc _ _).size
            replace DX := qi_below DX (bel_alloc wd (.cells #[.int .i64 0, .int .i64 0, .int .i64 0, .bool false] 74))
            clear CX hxz
            have CX := CX2
            have hxz := hxz2
            clear CX2 hxz2
            refine hK.out _ _ ?_ (fun hHeld' => ?_)
            · (try dsimp only)
              exact (by simpa [updn] using DX.out.cn kk hk3)
            clear hK K hHeld
            have hHeld := hHeld'
            clear hHeld'
            (try simp only [Act.put, List.getElem_toArray, List.getElem_cons_zero, List.getElem_cons_succ, List.setIfInBounds_toArray, List.set_cons_zero, List.set_cons_succ])
            generalize (wd.alloc (.cells #[.int .i64 0, .int .i64 0, .int .i64 0, .bool false] 74)) = wa at *
            generalize wd.heap.size = gy at *
            refine wpAnyH_ready (rs := [6]) (by kernel_rfl) (by simp) ?_
            refine AllReadyH.cons rfl (fun K hK => ?_) AllReadyH.nil
            (try simp only [Act.put, List.getElem_toArray, List.getElem_cons_zero, List.getElem_cons_succ, List.setIfInBounds_toArray, List.set_cons_zero, List.set_cons_succ])
            obtain ⟨sq, hsq⟩ := DX.out.src
            go_simp
            go_at_call 54
            refine (next_any g len cap ao zs (k + 1 + 1 + 1 + 1) sq 20 (by omega) (by omega) _ hsq DX.out.row HN.out hl (by omega) (by omega)).mono ?_
            rintro e x1 ⟨vv, t1, ⟨b0, b1⟩, rfl, hS1, hG1⟩
            clear hsq
            have CX2 : Hid (Cells3 x1 gx (o mm).a (o mm).b (o mm).c) := ⟨grown_cell hG1 CX.out.1 hgg, grown_cell hG1 CX.out.2.1 hgg, grown_cell hG1 CX.out.2.2 hgg⟩
            have hxz2 := Nat.lt_of_lt_of_le hxz hG1.size
            have SY2 : Hid (SibAt x1 gy 0 ⟨0, 0, 0, false⟩) := ⟨grown_cell hG1 SY.out.1 hyg, grown_cell hG1 SY.out.2.1 hyg, grown_cell hG1 SY.out.2.2.1 hyg, grown_cell hG1 SY.out.2.2.2 hyg⟩
            have TY2 : Hid (There x1 gy 4) := TY.out.grown hG1 hyz hyg
            replace hyz := Nat.lt_of_lt_of_le hyz hG1.size
            clear SY TY
            have SY := SY2
            have TY := TY2
            clear SY2 TY2
            replace DX := qi_by DX hgw ⟨t1, hS1⟩ (row_grown DX.out.row HN.out hG1) hG1
            clear hS1 hG1
            clear CX hxz
            have CX := CX2
            have hxz := hxz2
            clear CX2 hxz2
            refine hK.out _ _ ?_ (fun hHeld' => ?_)
            · (try dsimp only)
              exact (by simpa [updn] using DX.out.cn kk hk3)
            clear hK K hHeld
            have hHeld := hHeld'
            clear hHeld'
            (try simp only [Act.put, List.getElem_toArray, List.getElem_cons_zero, List.getElem_cons_succ, List.setIfInBounds_toArray, List.set_cons_zero, List.set_cons_succ])
            refine wpAnyH_take (i := 7) (v := ?_) rfl (by kernel_rfl) (by kernel_rfl) (by kernel_rfl) (fun _ _ _ h => h) (Or.inl ⟨by rfl, ?_⟩) (by assumption) ?_
            rotate_left
            · intro w' hSw
              (try dsimp only at hSw)
              go_simp
              all_goals (try with_reducible rfl)
            (try simp only [Act.put, List.getElem_toArray, List.getElem_cons_zero, List.getElem_cons_succ, List.setIfInBounds_toArray, List.set_cons_zero, List.set_cons_succ])
            have DS : Hid (QI w ((((x1.setCell ⟨gy, 0, none⟩ (.int .i64 (kk : Int))).setCell ⟨gy, 1, none⟩ (.int .i64 (m kk + 1))).setCell ⟨gy, 2, none⟩ (.int .i64 vv)).setCell ⟨gy, 3, none⟩ (.bool false)) g ao len cap zs (k + 1 + 1 + 1 + 1 + 1) V m (updn m kk (m kk + 1)) o) := qi_other (qi_other (qi_other (qi_other DX hgw HOLD.out hyb HGY.out) hgw HOLD.out hyb HGY.out) hgw HOLD.out hyb HGY.out) hgw HOLD.out hyb HGY.out
            have CX2 : Hid (Cells3 ((((x1.setCell ⟨gy, 0, none⟩ (.int .i64 (kk : Int))).setCell ⟨gy, 1, none⟩ (.int .i64 (m kk + 1))).setCell ⟨gy, 2, none⟩ (.int .i64 vv)).setCell ⟨gy, 3, none⟩ (.bool false)) gx (o mm).a (o mm).b (o mm).c) := ⟨cell_set (cell_set (cell_set (cell_set CX.out.1 hyx.symm) hyx.symm) hyx.symm) hyx.symm, cell_set (cell_set (cell_set (cell_set CX.out.2.1 hyx.symm) hyx.symm) hyx.symm) hyx.symm, cell_set (cell_set (cell_set (cell_set CX.out.2.2 hyx.symm) hyx.symm) hyx.symm) hyx.symm⟩
            have SY2 : Hid (SibAt ((((x1.setCell ⟨gy, 0, none⟩ (.int .i64 (kk : Int))).setCell ⟨gy, 1, none⟩ (.int .i64 (m kk + 1))).setCell ⟨gy, 2, none⟩ (.int .i64 vv)).setCell ⟨gy, 3, none⟩ (.bool false)) gy 0 ⟨kk, m kk + 1, vv, false⟩) := ⟨cell_oth (cell_oth (cell_oth (cell_same SY.out.1) (by omega)) (by omega)) (by omega), cell_oth (cell_oth (cell_same (cell_oth SY.out.2.1 (by omega))) (by omega)) (by omega), cell_oth (cell_same (cell_oth (cell_oth SY.out.2.2.1 (by omega)) (by omega))) (by omega), cell_same (cell_oth (cell_oth (cell_oth SY.out.2.2.2 (by omega)) (by omega)) (by omega))⟩
            have TY2 : Hid (There ((((x1.setCell ⟨gy, 0, none⟩ (.int .i64 (kk : Int))).setCell ⟨gy, 1, none⟩ (.int .i64 (m kk + 1))).setCell ⟨gy, 2, none⟩ (.int .i64 vv)).setCell ⟨gy, 3, none⟩ (.bool false)) gy 4) := TY.out.set.set.set.set
            have hxz2 : gx < ((((x1.setCell ⟨gy, 0, none⟩ (.int .i64 (kk : Int))).setCell ⟨gy, 1, none⟩ (.int .i64 (m kk + 1))).setCell ⟨gy, 2, none⟩ (.int .i64 vv)).setCell ⟨gy, 3, none⟩ (.bool false)).heap.size := by simpa [World.setCell] using hxz
            have hyz2 : gy < ((((x1.setCell ⟨gy, 0, none⟩ (.int .i64 (kk : Int))).setCell ⟨gy, 1, none⟩ (.int .i64 (m kk + 1))).setCell ⟨gy, 2, none⟩ (.int .i64 vv)).setCell ⟨gy, 3, none⟩ (.bool false)).heap.size := by simpa [World.setCell] using hyz
            obtain ⟨a0, a1, a2, a3⟩ := SY.out
            have y0 := (TY.out 0 (by omega)).2
            have y1 := (TY.out 1 (by omega)).2
            have y2 := (TY.out 2 (by omega)).2
            have y3 := (TY.out 3 (by omega)).2
            simp only [Nat.zero_add] at a1 a2 a3
            refine wpAnyH_ready (rs := [9]) (by kernel_rfl) (by simp) ?_
            refine AllReadyH.cons rfl (fun K hK => ?_) AllReadyH.nil
            (try simp only [Act.put, List.getElem_toArray, List.getElem_cons_zero, List.getElem_cons_succ, List.setIfInBounds_toArray, List.set_cons_zero, List.set_cons_succ])
            go_simp
            (try simp only [])
            refine hK.out _ _ ?_ (fun hHeld' => ?_)
            · (try dsimp only)
              exact (by simpa [updn] using DS.out.cn kk hk3)
            clear hK K hHeld
            have hHeld := hHeld'
            clear hHeld'
            (try simp only [Act.put, List.getElem_toArray, List.getElem_cons_zero, List.getElem_cons_succ, List.setIfInBounds_toArray, List.set_cons_zero, List.set_cons_succ])
            refine wpAnyH_done (by kernel_rfl) ?_ _
            clear a0 a1 a2 a3 y0 y1 y2 y3 DX CX SY TY hHeld hxz hyz
            generalize ((((x1.setCell ⟨gy, 0, none⟩ (.int .i64 (kk : Int))).setCell ⟨gy, 1, none⟩ (.int .i64 (m kk + 1))).setCell ⟨gy, 2, none⟩ (.int .i64 vv)).setCell ⟨gy, 3, none⟩ (.bool false)) = x4 at *
            obtain ⟨sq, hsq⟩ := DS.out.src
            have CC : Hid _ := chance_any g len cap ao zs (k + 1 + 1 + 1 + 1 + 1) sq 5 (by omega) (by omega) x4 hsq DS.out.row HN.out hl (by omega) (by omega)
            clear hsq
            go_wp2_with fail
            refine Calls.mono CC.out ?_
            rintro e x5 ⟨b3, t1, rfl, hS1, hG1⟩
            clear CC
            have CX : Hid (Cells3 x5 gx (o mm).a (o mm).b (o mm).c) := ⟨grown_cell hG1 CX2.out.1 hgg, grown_cell hG1 CX2.out.2.1 hgg, grown_cell hG1 CX2.out.2.2 hgg⟩
            have SY : Hid (SibAt x5 gy 0 ⟨kk, m kk + 1, vv, false⟩) := ⟨grown_cell hG1 SY2.out.1 hyg, grown_cell hG1 SY2.out.2.1 hyg, grown_cell hG1 SY2.out.2.2.1 hyg, grown_cell hG1 SY2.out.2.2.2 hyg⟩
            have TY : Hid (There x5 gy 4) := TY2.out.grown hG1 hyz2 hyg
            have hxz := Nat.lt_of_lt_of_le hxz2 hG1.size
            have hyz := Nat.lt_of_lt_of_le hyz2 hG1.size
            replace DS := qi_by DS hgw ⟨t1, hS1⟩ (row_grown DS.out.row HN.out hG1) hG1
            clear hS1 hG1
            clear CX2 SY2 TY2 hxz2 hyz2
            cases b3 with
            | false =>
              go_wp2
              have DX := qi_below DS (bel_drew _)
              have hxl : gx ≠ w.heap.size + 1 + 1 + 1 := by omega
              have hyl : gy ≠ w.heap.size + 1 + 1 + 1 := by omega
              obtain ⟨Pp, hPp⟩ : ∃ Pp : Int, Pp = if (kk : Int) = 0 then m kk + 1 else max (o kk).a (o mm).a := ⟨_, rfl⟩
              obtain ⟨Qq, hQq⟩ : ∃ Qq : Int, Qq = if (kk : Int) = 1 then m kk + 1 else max (o kk).b (o mm).b := ⟨_, rfl⟩
              obtain ⟨Rr, hRr⟩ : ∃ Rr : Int, Rr = if (kk : Int) = 2 then m kk + 1 else max (o kk).c (o mm).c := ⟨_, rfl⟩
              have CW : Hid (∀ W : World, SibRow W (o kk).ao (o kk).l → Calls Tryd.prog 58 #[.agg #[.slice (o kk).ao (o kk).l.length (o kk).cap, .int .i64 (o kk).a, .int .i64 (o kk).b, .int .i64 (o kk).c], .agg #[.int .i64 (o mm).a, .int .i64 (o mm).b, .int .i64 (o mm).c], .agg #[.int .i64 (kk : Int), .int .i64 (m kk + 1), .int .i64 vv, .bool false]] W fun e w' => ∃ v, e = .returned (.agg #[v, .int .i64 Pp, .int .i64 Qq, .int .i64 Rr]) ∧ Gro W w' (.slice none 0 0) v ∧ w'.ownsRow 0 74 4 v (pt ⟨kk, m kk + 1, vv, false⟩ (fil (o mm).a (o mm).b (o mm).c (o kk).l)).length (flat (pt ⟨kk, m kk + 1, vv, false⟩ (fil (o mm).a (o mm).b (o mm).c (o kk).l)))) := fun W hW => by
                have hok := (DS.out.rp kk hk3).okP HM.out.1 HM.out.2.1 HM.out.2.2
                have hle := (DS.out.rp kk hk3).le
                have hps := (DS.out.rp kk hk3).pos
                refine l02write_any (o kk).cap (o kk).ao (o kk).l (o kk).a (o kk).b (o kk).c (o mm).a (o mm).b (o mm).c Pp Qq Rr ⟨kk, m kk + 1, vv, false⟩ W (by have := hok.1; omega) (ok_nodes hok) hW (fun W' => ?_)
                refine add_any _ _ _ (kk : Int) (m kk + 1) Pp Qq Rr (by omega) (max_lt ⟨?_, ?_⟩ (by omega)) hPp hQq hRr W'
                · have := comp_mono (p := (kk : Int)) hle
                  rw [comp_at m kk hk3] at this
                  omega
                · have := comp_mono (p := (kk : Int)) HX.out
                  rw [comp_at m kk hk3] at this
                  omega
              obtain ⟨V', hV'⟩ : ∃ V' : Int → Int → Int × Bool, ∀ (p : Option Addr) (q : Nat), ∀ j, j < 3 → Rp V' (updn m kk (m kk + 1) 0) (updn m kk (m kk + 1) 1) (updn m kk (m kk + 1) 2) (upd o kk ⟨p, q, pt ⟨kk, m kk + 1, vv, false⟩ (fil (o mm).a (o mm).b (o mm).c (o kk).l), Pp, Qq, Rr⟩ j).l (upd o kk ⟨p, q, pt ⟨kk, m kk + 1, vv, false⟩ (fil (o mm).a (o mm).b (o mm).c (o kk).l), Pp, Qq, Rr⟩ j).a (upd o kk ⟨p, q, pt ⟨kk, m kk + 1, vv, false⟩ (fil (o mm).a (o mm).b (o mm).c (o kk).l), Pp, Qq, Rr⟩ j).b (upd o kk ⟨p, q, pt ⟨kk, m kk + 1, vv, false⟩ (fil (o mm).a (o mm).b (o mm).c (o kk).l), Pp, Qq, Rr⟩ j).c := by
                obtain ⟨V', h⟩ := rp_write DS.out.rp hk3 none 0 (v := vv) (d := false) HX.out ⟨HP.out 0 (by omega), HP.out 1 (by omega), HP.out 2 (by omega)⟩ (by omega) (by omega) (by simp) hPp hQq hRr
                refine ⟨V', fun p q j hj => ?_⟩
                have h1 := h j hj
                by_cases e : j = kk
                · subst e
                  rw [upd_same] at h1 ⊢
                  exact h1
                · rw [upd_other _ _ e] at h1 ⊢
                  exact h1
              have HV : Hid _ := hV'
              clear hV' hPp hQq hRr
              refine wp_region_held_drew (S := (fun w' => (w'.cell? ⟨gx, 0, none⟩ = some (.int .i64 (o mm).a) ∧ w'.cell? ⟨gx, 1, none⟩ = some (.int .i64 (o mm).b) ∧ w'.cell? ⟨gx, 2, none⟩ = some (.int .i64 (o mm).c)) ∧ w'.cell? ⟨gy, 0, none⟩ = some (.int .i64 (kk : Int)) ∧ w'.cell? ⟨gy, 1, none⟩ = some (.int .i64 (m kk + 1)) ∧ w'.cell? ⟨gy, 2, none⟩ = some (.int .i64 vv) ∧ w'.cell? ⟨gy, 3, none⟩ = some (.bool false))) (by kernel_rfl) ⟨⟨CX.out.1, CX.out.2.1, CX.out.2.2⟩, SY.out.1, by simpa using SY.out.2.1, by simpa using SY.out.2.2.1, by simpa using SY.out.2.2.2⟩ (fun hHeld => ?_)
              clear DS CX SY
              refine wpAnyH_take (i := 0) (v := ?_) rfl (by kernel_rfl) (by kernel_rfl) (by kernel_rfl) (fun _ _ _ h => h) (Or.inl ⟨by rfl, ?_⟩) (by assumption) ?_
              rotate_left
              · intro w' hSw
                (try dsimp only at hSw)
                go_simp
                all_goals (try with_reducible rfl)
              (try simp only [Act.put, List.getElem_toArray, List.getElem_cons_zero, List.getElem_cons_succ, List.setIfInBounds_toArray, List.set_cons_zero, List.set_cons_succ])
              refine wpAnyH_take (i := 1) (v := ?_) rfl (by kernel_rfl) (by kernel_rfl) (by kernel_rfl) (fun _ _ _ h => h) (Or.inl ⟨by rfl, ?_⟩) (by assumption) ?_
              rotate_left
              · intro w' hSw
                (try dsimp only at hSw)
                go_simp
                all_goals (try with_reducible rfl)
              (try simp only [Act.put, List.getElem_toArray, List.getElem_cons_zero, List.getElem_cons_succ, List.setIfInBounds_toArray, List.set_cons_zero, List.set_cons_succ])
              refine wpAnyH_take (i := 2) (v := ?_) rfl (by kernel_rfl) (by kernel_rfl) (by kernel_rfl) (fun _ _ _ h => h) (Or.inl ⟨by rfl, ?_⟩) (by assumption) ?_
              rotate_left
              · intro w' hSw
                (try dsimp only at hSw)
                go_simp
                all_goals (try with_reducible rfl)
              (try simp only [Act.put, List.getElem_toArray, List.getElem_cons_zero, List.getElem_cons_succ, List.setIfInBounds_toArray, List.set_cons_zero, List.set_cons_succ])
              refine wpAnyH_take (i := 3) (v := ?_) rfl (by kernel_rfl) (by kernel_rfl) (by kernel_rfl) (fun _ _ _ h => h) (Or.inl ⟨by rfl, ?_⟩) (by assumption) ?_
              rotate_left
              · intro w' hSw
                (try dsimp only at hSw)
                go_simp
                all_goals (try with_reducible rfl)
              (try simp only [Act.put, List.getElem_toArray, List.getElem_cons_zero, List.getElem_cons_succ, List.setIfInBounds_toArray, List.set_cons_zero, List.set_cons_succ])
              refine wpAnyH_take (i := 4) (v := ?_) rfl (by kernel_rfl) (by kernel_rfl) (by kernel_rfl) (fun _ _ _ h => h) (Or.inl ⟨by rfl, ?_⟩) (by assumption) ?_
              rotate_left
              · intro w' hSw
                (try dsimp only at hSw)
                go_simp
                all_goals (try with_reducible rfl)
              (try simp only [Act.put, List.getElem_toArray, List.getElem_cons_zero, List.getElem_cons_succ, List.setIfInBounds_toArray, List.set_cons_zero, List.set_cons_succ])
              refine wpAnyH_take (i := 6) (v := ?_) rfl (by kernel_rfl) (by kernel_rfl) (by kernel_rfl) (fun _ _ _ h => h) (Or.inl ⟨by rfl, ?_⟩) (by assumption) ?_
              rotate_left
              · intro w' hSw
                (try dsimp only at hSw)
                go_simp
                all_goals (try with_reducible rfl)
              (try simp only [Act.put, List.getElem_toArray, List.getElem_cons_zero, List.getElem_cons_succ, List.setIfInBounds_toArray, List.set_cons_zero, List.set_cons_succ])
              refine wpAnyH_take (i := 7) (v := ?_) rfl (by kernel_rfl) (by kernel_rfl) (by kernel_rfl) (fun _ _ _ h => h) (Or.inl ⟨by rfl, ?_⟩) (by assumption) ?_
              rotate_left
              · intro w' hSw
                (try dsimp only at hSw)
                go_simp
                all_goals (try with_reducible rfl)
              (try simp only [Act.put, List.getElem_toArray, List.getElem_cons_zero, List.getElem_cons_succ, List.setIfInBounds_toArray, List.set_cons_zero, List.set_cons_succ])
              generalize x5.drew = wd at *
              obtain ⟨e0, e1, e2, e3⟩ := DX.out.ob kk hk3
              refine wpAnyH_ready (rs := [5]) (by kernel_rfl) (by simp) ?_
              refine AllReadyH.cons rfl (fun K hK => ?_) AllReadyH.nil
              (try simp only [Act.put, List.getElem_toArray, List.getElem_cons_zero, List.getElem_cons_succ, List.setIfInBounds_toArray, List.set_cons_zero, List.set_cons_succ])
              go_simp
              (try simp only [])
              refine hK.out _ _ ?_ (fun hHeld' => ?_)
              · (try dsimp only)
                exact hHeld
              clear hK K hHeld
              have hHeld := hHeld'
              clear hHeld'
              (try simp only [Act.put, List.getElem_toArray, List.getElem_cons_zero, List.getElem_cons_succ, List.setIfInBounds_toArray, List.set_cons_zero, List.set_cons_succ])
              clear e0 e1 e2 e3
              refine wpAnyH_ready (rs := [8]) (by kernel_rfl) (by simp) ?_
              refine AllReadyH.cons rfl (fun K hK => ?_) AllReadyH.nil
              (try simp only [Act.put, List.getElem_toArray, List.getElem_cons_zero, List.getElem_cons_succ, List.setIfInBounds_toArray, List.set_cons_zero, List.set_cons_succ])
              go_simp
              go_at_call 58
              refine Calls.mono (CW.out _ (DX.out.ro kk hk3).row) ?_
              rintro e x8 ⟨v, rfl, hG, hO⟩
              have hsz2 := DX.out.size
              obtain ⟨ao', cap', rfl, hro⟩ := rowO_own (g := g) (p := w.heap.size + 1 + 1 + 1) (q := w.heap.size + 1 + 1 + 1 + 1) (a := Pp) (b := Qq) (c := Rr) hG hO (by omega) (by omega) (by omega)
              replace DX := qi_below DX (gbl hG)
              have RO : Hid (RowO x8 g (w.heap.size + 1 + 1 + 1) (w.heap.size + 1 + 1 + 1 + 1) _) := hro
              have hb8 := (gbl hG)
              clear hG hO hro hsz2
              refine hK.out _ _ ?_ (fun hHeld' => ?_)
              · (try dsimp only)
                exact ⟨⟨cell_next hb8 hHeld.1.1 (cell_lt hHeld.1.1), cell_next hb8 hHeld.1.2.1 (cell_lt hHeld.1.2.1), cell_next hb8 hHeld.1.2.2 (cell_lt hHeld.1.2.2)⟩, cell_next hb8 hHeld.2.1 (cell_lt hHeld.2.1), cell_next hb8 hHeld.2.2.1 (cell_lt hHeld.2.2.1), cell_next hb8 hHeld.2.2.2.1 (cell_lt hHeld.2.2.2.1), cell_next hb8 hHeld.2.2.2.2 (cell_lt hHeld.2.2.2.2)⟩
              clear hK K hHeld
              have hHeld := hHeld'
              clear hHeld'
              (try simp only [Act.put, List.getElem_toArray, List.getElem_cons_zero, List.getElem_cons_succ, List.setIfInBounds_toArray, List.set_cons_zero, List.set_cons_succ])
              clear hb8
              refine wpAnyH_take (i := 9) (v := ?_) rfl (by kernel_rfl) (by kernel_rfl) (by kernel_rfl) (fun _ _ _ h => h) (Or.inl ⟨by rfl, ?_⟩) (by assumption) ?_
              rotate_left
              · intro w' hSw
                (try dsimp only at hSw)
                go_simp
                all_goals (try with_reducible rfl)
              (try simp only [Act.put, List.getElem_toArray, List.getElem_cons_zero, List.getElem_cons_succ, List.setIfInBounds_toArray, List.set_cons_zero, List.set_cons_succ])
              have DZ : Hid (QI w ((((x8.setCell ⟨w.heap.size + 1 + 1 + 1, kk * 4, none⟩ (.slice ao' (pt ⟨kk, m kk + 1, vv, false⟩ (fil (o mm).a (o mm).b (o mm).c (o kk).l)).length cap')).setCell ⟨w.heap.size + 1 + 1 + 1, kk * 4 + 1, none⟩ (.int .i64 Pp)).setCell ⟨w.heap.size + 1 + 1 + 1, kk * 4 + 2, none⟩ (.int .i64 Qq)).setCell ⟨w.heap.size + 1 + 1 + 1, kk * 4 + 3, none⟩ (.int .i64 Rr)) g ao len cap zs (k + 1 + 1 + 1 + 1 + 1 + 1) V' (updn m kk (m kk + 1)) (updn m kk (m kk + 1)) (upd o kk ⟨ao', cap', pt ⟨kk, m kk + 1, vv, false⟩ (fil (o mm).a (o mm).b (o mm).c (o kk).l), Pp, Qq, Rr⟩)) := DX.out.store hgw HOLD.out ⟨ao', cap', pt ⟨kk, m kk + 1, vv, false⟩ (fil (o mm).a (o mm).b (o mm).c (o kk).l), Pp, Qq, Rr⟩ hk3 RO.out (HV.out ao' cap')
              obtain ⟨u0, T0⟩ := Option.isSome_iff_exists.1 (DX.out.th (kk * 4) (by omega)).1
              have Z0 := (DX.out.th (kk * 4) (by omega)).2
              obtain ⟨u1, T1⟩ := Option.isSome_iff_exists.1 (DX.out.th (kk * 4 + 1) (by omega)).1
              have Z1 := (DX.out.th (kk * 4 + 1) (by omega)).2
              obtain ⟨u2, T2⟩ := Option.isSome_iff_exists.1 (DX.out.th (kk * 4 + 2) (by omega)).1
              have Z2 := (DX.out.th (kk * 4 + 2) (by omega)).2
              obtain ⟨u3, T3⟩ := Option.isSome_iff_exists.1 (DX.out.th (kk * 4 + 3) (by omega)).1
              have Z3 := (DX.out.th (kk * 4 + 3) (by omega)).2
              refine wpAnyH_ready (rs := [10]) (by kernel_rfl) (by simp) ?_
              refine AllReadyH.cons rfl (fun K hK => ?_) AllReadyH.nil
              (try simp only [Act.put, List.getElem_toArray, List.getElem_cons_zero, List.getElem_cons_succ, List.setIfInBounds_toArray, List.set_cons_zero, List.set_cons_succ])
              go_simp
              (try simp only [])
              refine hK.out _ _ ?_ (fun hHeld' => ?_)
              · (try dsimp only)
                exact ⟨⟨cell_set (cell_set (cell_set (cell_set hHeld.1.1 hxl) hxl) hxl) hxl, cell_set (cell_set (cell_set (cell_set hHeld.1.2.1 hxl) hxl) hxl) hxl, cell_set (cell_set (cell_set (cell_set hHeld.1.2.2 hxl) hxl) hxl) hxl⟩, cell_set (cell_set (cell_set (cell_set hHeld.2.1 hyl) hyl) hyl) hyl, cell_set (cell_set (cell_set (cell_set hHeld.2.2.1 hyl) hyl) hyl) hyl, cell_set (cell_set (cell_set (cell_set hHeld.2.2.2.1 hyl) hyl) hyl) hyl, cell_set (cell_set (cell_set (cell_set hHeld.2.2.2.2 hyl) hyl) hyl) hyl⟩
              clear hK K hHeld
              have hHeld := hHeld'
              clear hHeld'
              (try simp only [Act.put, List.getElem_toArray, List.getElem_cons_zero, List.getElem_cons_succ, List.setIfInBounds_toArray, List.set_cons_zero, List.set_cons_succ])
              refine wpAnyH_done (by kernel_rfl) ?_ _
              clear T0 Z0 T1 Z1 T2 Z2 T3 Z3 DX RO hHeld CW HV
              generalize ((((x8.setCell ⟨w.heap.size + 1 + 1 + 1, kk * 4, none⟩ (.slice ao' (pt ⟨kk, m kk + 1, vv, false⟩ (fil (o mm).a (o mm).b (o mm).c (o kk).l)).length cap')).setCell ⟨w.heap.size + 1 + 1 + 1, kk * 4 + 1, none⟩ (.int .i64 Pp)).setCell ⟨w.heap.size + 1 + 1 + 1, kk * 4 + 2, none⟩ (.int .i64 Qq)).setCell ⟨w.heap.size + 1 + 1 + 1, kk * 4 + 3, none⟩ (.int .i64 Rr)) = x9 at *
              go_wp2
              go_roundw
              case rel => exact ⟨j, k + 1 + 1 + 1 + 1 + 1 + 1, V', _, _, by go_num, updn_pos HP.out (HP.out kk hk3), updn_sum hk3 (by omega), by omega, by omega, DZ.out⟩
              case measure => simp [intOf]
            | true =>
              have W5 : Hid (QI w ((x5.setCell ⟨gy, 3, none⟩ (.bool true)).setCell ⟨gy, 2, none⟩ (.int .i64 0)) g ao len cap zs (k + 1 + 1 + 1 + 1 + 1 + 1) V m (updn m kk (m kk + 1)) o) := qi_other (qi_other DS hgw HOLD.out hyb HGY.out) hgw HOLD.out hyb HGY.out
              have CX2 : Hid (Cells3 ((x5.setCell ⟨gy, 3, none⟩ (.bool true)).setCell ⟨gy, 2, none⟩ (.int .i64 0)) gx (o mm).a (o mm).b (o mm).c) := ⟨cell_set (cell_set CX.out.1 hyx.symm) hyx.symm, cell_set (cell_set CX.out.2.1 hyx.symm) hyx.symm, cell_set (cell_set CX.out.2.2 hyx.symm) hyx.symm⟩
              have SY2 : Hid (SibAt ((x5.setCell ⟨gy, 3, none⟩ (.bool true)).setCell ⟨gy, 2, none⟩ (.int .i64 0)) gy 0 ⟨kk, m kk + 1, 0, true⟩) := ⟨cell_oth (cell_oth SY.out.1 (by omega)) (by omega), cell_oth (cell_oth SY.out.2.1 (by omega)) (by omega), cell_same (cell_oth SY.out.2.2.1 (by omega)), cell_oth (cell_same SY.out.2.2.2) (by omega)⟩
              have hxz2 : gx < ((x5.setCell ⟨gy, 3, none⟩ (.bool true)).setCell ⟨gy, 2, none⟩ (.int .i64 0)).heap.size := by simpa [World.setCell] using hxz
              obtain ⟨a0, a1, a2, a3⟩ := SY.out
              simp only [Nat.zero_add] at a1 a2 a3
              have y2 := (TY.out 2 (by omega)).2
              have y3 := (TY.out 3 (by omega)).2
              clear DS CX SY TY hxz
              go_wp2
              clear a0 a1 a2 a3 y2 y3
              generalize ((x5.setCell ⟨gy, 3, none⟩ (.bool true)).setCell ⟨gy, 2, none⟩ (.int .i64 0)) = x6 at *
              have DS := W5
              have CX := CX2
              have SY := SY2
              have hxz := hxz2
              clear W5 CX2 SY2 hxz2
              have DX := qi_below DS (bel_drew _)
              have hxl : gx ≠ w.heap.size + 1 + 1 + 1 := by omega
              have hyl : gy ≠ w.heap.size + 1 + 1 + 1 := by omega
              obtain ⟨Pp, hPp⟩ : ∃ Pp : Int, Pp = if (kk : Int) = 0 then m kk + 1 else max (o kk).a (o mm).a := ⟨_, rfl⟩
              obtain ⟨Qq, hQq⟩ : ∃ Qq : Int, Qq = if (kk : Int) = 1 then m kk + 1 else max (o kk).b (o mm).b := ⟨_, rfl⟩
              obtain ⟨Rr, hRr⟩ : ∃ Rr : Int, Rr = if (kk : Int) = 2 then m kk + 1 else max (o kk).c (o mm).c := ⟨_, rfl⟩
              have CW : Hid (∀ W : World, SibRow W (o kk).ao (o kk).l → Calls Tryd.prog 58 #[.agg #[.slice (o kk).ao (o kk).l.length (o kk).cap, .int .i64 (o kk).a, .int .i64 (o kk).b, .int .i64 (o kk).c], .agg #[.int .i64 (o mm).a, .int .i64 (o mm).b, .int .i64 (o mm).c], .agg #[.int .i64 (kk : Int), .int .i64 (m kk + 1), .int .i64 0, .bool true]] W fun e w' => ∃ v, e = .returned (.agg #[v, .int .i64 Pp, .int .i64 Qq, .int .i64 Rr]) ∧ Gro W w' (.slice none 0 0) v ∧ w'.ownsRow 0 74 4 v (pt ⟨kk, m kk + 1, 0, true⟩ (fil (o mm).a (o mm).b (o mm).c (o kk).l)).length (flat (pt ⟨kk, m kk + 1, 0, true⟩ (fil (o mm).a (o mm).b (o mm).c (o kk).l)))) := fun W hW => by
                have hok := (DS.out.rp kk hk3).okP HM.out.1 HM.out.2.1 HM.out.2.2
                have hle := (DS.out.rp kk hk3).le
                have hps := (DS.out.rp kk hk3).pos
                refine l02write_any (o kk).cap (o kk).ao (o kk).l (o kk).a (o kk).b (o kk).c (o mm).a (o mm).b (o mm).c Pp Qq Rr ⟨kk, m kk + 1, 0, true⟩ W (by have := hok.1; omega) (ok_nodes hok) hW (fun W' => ?_)
                refine add_any _ _ _ (kk : Int) (m kk + 1) Pp Qq Rr (by omega) (max_lt ⟨?_, ?_⟩ (by omega)) hPp hQq hRr W'
                · have := comp_mono (p := (kk : Int)) hle
                  rw [comp_at m kk hk3] at this
                  omega
                · have := comp_mono (p := (kk : Int)) HX.out
                  rw [comp_at m kk hk3] at this
                  omega
              obtain ⟨V', hV'⟩ : ∃ V' : Int → Int → Int × Bool, ∀ (p : Option Addr) (q : Nat), ∀ j, j < 3 → Rp V' (updn m kk (m kk + 1) 0) (updn m kk (m kk + 1) 1) (updn m kk (m kk + 1) 2) (upd o kk ⟨p, q, pt ⟨kk, m kk + 1, 0, true⟩ (fil (o mm).a (o mm).b (o mm).c (o kk).l), Pp, Qq, Rr⟩ j).l (upd o kk ⟨p, q, pt ⟨kk, m kk + 1, 0, true⟩ (fil (o mm).a (o mm).b (o mm).c (o kk).l), Pp, Qq, Rr⟩ j).a (upd o kk ⟨p, q, pt ⟨kk, m kk + 1, 0, true⟩ (fil (o mm).a (o mm).b (o mm).c (o kk).l), Pp, Qq, Rr⟩ j).b (upd o kk ⟨p, q, pt ⟨kk, m kk + 1, 0, true⟩ (fil (o mm).a (o mm).b (o mm).c (o kk).l), Pp, Qq, Rr⟩ j).c := by
                obtain ⟨V', h⟩ := rp_write DS.out.rp hk3 none 0 (v := 0) (d := true) HX.out ⟨HP.out 0 (by omega), HP.out 1 (by omega), HP.out 2 (by omega)⟩ (by omega) (by omega) (by simp) hPp hQq hRr
                refine ⟨V', fun p q j hj => ?_⟩
                have h1 := h j hj
                by_cases e : j = kk
                · subst e
                  rw [upd_same] at h1 ⊢
                  exact h1
                · rw [upd_other _ _ e] at h1 ⊢
                  exact h1
              have HV : Hid _ := hV'
              clear hV' hPp hQq hRr
              refine wp_region_held_drew (S := (fun w' => (w'.cell? ⟨gx, 0, none⟩ = some (.int .i64 (o mm).a) ∧ w'.cell? ⟨gx, 1, none⟩ = some (.int .i64 (o mm).b) ∧ w'.cell? ⟨gx, 2, none⟩ = some (.int .i64 (o mm).c)) ∧ w'.cell? ⟨gy, 0, none⟩ = some (.int .i64 (kk : Int)) ∧ w'.cell? ⟨gy, 1, none⟩ = some (.int .i64 (m kk + 1)) ∧ w'.cell? ⟨gy, 2, none⟩ = some (.int .i64 0) ∧ w'.cell? ⟨gy, 3, none⟩ = some (.bool true))) (by kernel_rfl) ⟨⟨CX.out.1, CX.out.2.1, CX.out.2.2⟩, SY.out.1, by simpa using SY.out.2.1, by simpa using SY.out.2.2.1, by simpa using SY.out.2.2.2⟩ (fun hHeld => ?_)
              clear DS CX SY
              refine wpAnyH_take (i := 0) (v := ?_) rfl (by kernel_rfl) (by kernel_rfl) (by kernel_rfl) (fun _ _ _ h => h) (Or.inl ⟨by rfl, ?_⟩) (by assumption) ?_
              rotate_left
              · intro w' hSw
                (try dsimp only at hSw)
                go_simp
                all_goals (try with_reducible rfl)
              (try simp only [Act.put, List.getElem_toArray, List.getElem_cons_zero, List.getElem_cons_succ, List.setIfInBounds_toArray, List.set_cons_zero, List.set_cons_succ])
              refine wpAnyH_take (i := 1) (v := ?_) rfl (by kernel_rfl) (by kernel_rfl) (by kernel_rfl) (fun _ _ _ h => h) (Or.inl ⟨by rfl, ?_⟩) (by assumption) ?_
              rotate_left
              · intro w' hSw
                (try dsimp only at hSw)
                go_simp
                all_goals (try with_reducible rfl)
              (try simp only [Act.put, List.getElem_toArray, List.getElem_cons_zero, List.getElem_cons_succ, List.setIfInBounds_toArray, List.set_cons_zero, List.set_cons_succ])
              refine wpAnyH_take (i := 2) (v := ?_) rfl (by kernel_rfl) (by kernel_rfl) (by kernel_rfl) (fun _ _ _ h => h) (Or.inl ⟨by rfl, ?_⟩) (by assumption) ?_
              rotate_left
              · intro w' hSw
                (try dsimp only at hSw)
                go_simp
                all_goals (try with_reducible rfl)
              (try simp only [Act.put, List.getElem_toArray, List.getElem_cons_zero, List.getElem_cons_succ, List.setIfInBounds_toArray, List.set_cons_zero, List.set_cons_succ])
              refine wpAnyH_take (i := 3) (v := ?_) rfl (by kernel_rfl) (by kernel_rfl) (by kernel_rfl) (fun _ _ _ h => h) (Or.inl ⟨by rfl, ?_⟩) (by assumption) ?_
              rotate_left
              · intro w' hSw
                (try dsimp only at hSw)
                go_simp
                all_goals (try with_reducible rfl)
              (try simp only [Act.put, List.getElem_toArray, List.getElem_cons_zero, List.getElem_cons_succ, List.setIfInBounds_toArray, List.set_cons_zero, List.set_cons_succ])
              refine wpAnyH_take (i := 4) (v := ?_) rfl (by kernel_rfl) (by kernel_rfl) (by kernel_rfl) (fun _ _ _ h => h) (Or.inl ⟨by rfl, ?_⟩) (by assumption) ?_
              rotate_left
              · intro w' hSw
                (try dsimp only at hSw)
                go_simp
                all_goals (try with_reducible rfl)
              (try simp only [Act.put, List.getElem_toArray, List.getElem_cons_zero, List.getElem_cons_succ, List.setIfInBounds_toArray, List.set_cons_zero, List.set_cons_succ])
              refine wpAnyH_take (i := 6) (v := ?_) rfl (by kernel_rfl) (by kernel_rfl) (by kernel_rfl) (fun _ _ _ h => h) (Or.inl ⟨by rfl, ?_⟩) (by assumption) ?_
              rotate_left
              · intro w' hSw
                (try dsimp only at hSw)
                go_simp
                all_goals (try with_reducible rfl)
              (try simp only [Act.put, List.getElem_toArray, List.getElem_cons_zero, List.getElem_cons_succ, List.setIfInBounds_toArray, List.set_cons_zero, List.set_cons_succ])
              refine wpAnyH_take (i := 7) (v := ?_) rfl (by kernel_rfl) (by kernel_rfl) (by kernel_rfl) (fun _ _ _ h => h) (Or.inl ⟨by rfl, ?_⟩) (by assumption) ?_
              rotate_left
              · intro w' hSw
                (try dsimp only at hSw)
                go_simp
                all_goals (try with_reducible rfl)
              (try simp only [Act.put, List.getElem_toArray, List.getElem_cons_zero, List.getElem_cons_succ, List.setIfInBounds_toArray, List.set_cons_zero, List.set_cons_succ])
              generalize x6.drew = wd at *
              obtain ⟨e0, e1, e2, e3⟩ := DX.out.ob kk hk3
              refine wpAnyH_ready (rs := [5]) (by kernel_rfl) (by simp) ?_
              refine AllReadyH.cons rfl (fun K hK => ?_) AllReadyH.nil
              (try simp only [Act.put, List.getElem_toArray, List.getElem_cons_zero, List.getElem_cons_succ, List.setIfInBounds_toArray, List.set_cons_zero, List.set_cons_succ])
              go_simp
              (try simp only [])
              refine hK.out _ _ ?_ (fun hHeld' => ?_)
              · (try dsimp only)
                exact hHeld
              clear hK K hHeld
              have hHeld := hHeld'
              clear hHeld'
              (try simp only [Act.put, List.getElem_toArray, List.getElem_cons_zero, List.getElem_cons_succ, List.setIfInBounds_toArray, List.set_cons_zero, List.set_cons_succ])
              clear e0 e1 e2 e3
              refine wpAnyH_ready (rs := [8]) (by kernel_rfl) (by simp) ?_
              refine AllReadyH.cons rfl (fun K hK => ?_) AllReadyH.nil
              (try simp only [Act.put, List.getElem_toArray, List.getElem_cons_zero, List.getElem_cons_succ, List.setIfInBounds_toArray, List.set_cons_zero, List.set_cons_succ])
              go_simp
              go_at_call 58
              refine Calls.mono (CW.out _ (DX.out.ro kk hk3).row) ?_
              rintro e x8 ⟨v, rfl, hG, hO⟩
              have hsz2 := DX.out.size
              obtain ⟨ao', cap', rfl, hro⟩ := rowO_own (g := g) (p := w.heap.size + 1 + 1 + 1) (q := w.heap.size + 1 + 1 + 1 + 1) (a := Pp) (b := Qq) (c := Rr) hG hO (by omega) (by omega) (by omega)
              replace DX := qi_below DX (gbl hG)
              have RO : Hid (RowO x8 g (w.heap.size + 1 + 1 + 1) (w.heap.size + 1 + 1 + 1 + 1) _) := hro
              have hb8 := (gbl hG)
              clear hG hO hro hsz2
              refine hK.out _ _ ?_ (fun hHeld' => ?_)
              · (try dsimp only)
                exact ⟨⟨cell_next hb8 hHeld.1.1 (cell_lt hHeld.1.1), cell_next hb8 hHeld.1.2.1 (cell_lt hHeld.1.2.1), cell_next hb8 hHeld.1.2.2 (cell_lt hHeld.1.2.2)⟩, cell_next hb8 hHeld.2.1 (cell_lt hHeld.2.1), cell_next hb8 hHeld.2.2.1 (cell_lt hHeld.2.2.1), cell_next hb8 hHeld.2.2.2.1 (cell_lt hHeld.2.2.2.1), cell_next hb8 hHeld.2.2.2.2 (cell_lt hHeld.2.2.2.2)⟩
              clear hK K hHeld
              have hHeld := hHeld'
              clear hHeld'
              (try simp only [Act.put, List.getElem_toArray, List.getElem_cons_zero, List.getElem_cons_succ, List.setIfInBounds_toArray, List.set_cons_zero, List.set_cons_succ])
              clear hb8
              refine wpAnyH_take (i := 9) (v := ?_) rfl (by kernel_rfl) (by kernel_rfl) (by kernel_rfl) (fun _ _ _ h => h) (Or.inl ⟨by rfl, ?_⟩) (by assumption) ?_
              rotate_left
              · intro w' hSw
                (try dsimp only at hSw)
                go_simp
                all_goals (try with_reducible rfl)
              (try simp only [Act.put, List.getElem_toArray, List.getElem_cons_zero, List.getElem_cons_succ, List.setIfInBounds_toArray, List.set_cons_zero, List.set_cons_succ])
              have DZ : Hid (QI w ((((x8.setCell ⟨w.heap.size + 1 + 1 + 1, kk * 4, none⟩ (.slice ao' (pt ⟨kk, m kk + 1, 0, true⟩ (fil (o mm).a (o mm).b (o mm).c (o kk).l)).length cap')).setCell ⟨w.heap.size + 1 + 1 + 1, kk * 4 + 1, none⟩ (.int .i64 Pp)).setCell ⟨w.heap.size + 1 + 1 + 1, kk * 4 + 2, none⟩ (.int .i64 Qq)).setCell ⟨w.heap.size + 1 + 1 + 1, kk * 4 + 3, none⟩ (.int .i64 Rr)) g ao len cap zs (k + 1 + 1 + 1 + 1 + 1 + 1) V' (updn m kk (m kk + 1)) (updn m kk (m kk + 1)) (upd o kk ⟨ao', cap', pt ⟨kk, m kk + 1, 0, true⟩ (fil (o mm).a (o mm).b (o mm).c (o kk).l), Pp, Qq, Rr⟩)) := DX.out.store hgw HOLD.out ⟨ao', cap', pt ⟨kk, m kk + 1, 0, true⟩ (fil (o mm).a (o mm).b (o mm).c (o kk).l), Pp, Qq, Rr⟩ hk3 RO.out (HV.out ao' cap')
              obtain ⟨u0, T0⟩ := Option.isSome_iff_exists.1 (DX.out.th (kk * 4) (by omega)).1
              have Z0 := (DX.out.th (kk * 4) (by omega)).2
              obtain ⟨u1, T1⟩ := Option.isSome_iff_exists.1 (DX.out.th (kk * 4 + 1) (by omega)).1
              have Z1 := (DX.out.th (kk * 4 + 1) (by omega)).2
              obtain ⟨u2, T2⟩ := Option.isSome_iff_exists.1 (DX.out.th (kk * 4 + 2) (by omega)).1
              have Z2 := (DX.out.th (kk * 4 + 2) (by omega)).2
              obtain ⟨u3, T3⟩ := Option.isSome_iff_exists.1 (DX.out.th (kk * 4 + 3) (by omega)).1
              have Z3 := (DX.out.th (kk * 4 + 3) (by omega)).2
              refine wpAnyH_ready (rs := [10]) (by kernel_rfl) (by simp) ?_
              refine AllReadyH.cons rfl (fun K hK => ?_) AllReadyH.nil
              (try simp only [Act.put, List.getElem_toArray, List.getElem_cons_zero, List.getElem_cons_succ, List.setIfInBounds_toArray, List.set_cons_zero, List.set_cons_succ])
              go_simp
              (try simp only [])
              refine hK.out _ _ ?_ (fun hHeld' => ?_)
              · (try dsimp only)
                exact ⟨⟨cell_set (cell_set (cell_set (cell_set hHeld.1.1 hxl) hxl) hxl) hxl, cell_set (cell_set (cell_set (cell_set hHeld.1.2.1 hxl) hxl) hxl) hxl, cell_set (cell_set (cell_set (cell_set hHeld.1.2.2 hxl) hxl) hxl) hxl⟩, cell_set (cell_set (cell_set (cell_set hHeld.2.1 hyl) hyl) hyl) hyl, cell_set (cell_set (cell_set (cell_set hHeld.2.2.1 hyl) hyl) hyl) hyl, cell_set (cell_set (cell_set (cell_set hHeld.2.2.2.1 hyl) hyl) hyl) hyl, cell_set (cell_set (cell_set (cell_set hHeld.2.2.2.2 hyl) hyl) hyl) hyl⟩
              clear hK K hHeld
              have hHeld := hHeld'
              clear hHeld'
              (try simp only [Act.put, List.getElem_toArray, List.getElem_cons_zero, List.getElem_cons_succ, List.setIfInBounds_toArray, List.set_cons_zero, List.set_cons_succ])
              refine wpAnyH_done (by kernel_rfl) ?_ _
              clear T0 Z0 T1 Z1 T2 Z2 T3 Z3 DX RO hHeld CW HV
              generalize ((((x8.setCell ⟨w.heap.size + 1 + 1 + 1, kk * 4, none⟩ (.slice ao' (pt ⟨kk, m kk + 1, 0, true⟩ (fil (o mm).a (o mm).b (o mm).c (o kk).l)).length cap')).setCell ⟨w.heap.size + 1 + 1 + 1, kk * 4 + 1, none⟩ (.int .i64 Pp)).setCell ⟨w.heap.size + 1 + 1 + 1, kk * 4 + 2, none⟩ (.int .i64 Qq)).setCell ⟨w.heap.size + 1 + 1 + 1, kk * 4 + 3, none⟩ (.int .i64 Rr)) = x9 at *
              go_wp2
              go_roundw
              case rel => exact ⟨j, k + 1 + 1 + 1 + 1 + 1 + 1, V', _, _, by go_num, updn_pos HP.out (HP.out kk hk3), updn_sum hk3 (by omega), by omega, by omega, DZ.out⟩
              case measure => simp [intOf]
        | true =>
          have HX : Hid ((0 : Int) ≤ m 0 ∧ (0 : Int) ≤ m 1 ∧ (0 : Int) ≤ m 2) := ⟨HP.out 0 (by omega), HP.out 1 (by omega), HP.out 2 (by omega)⟩
          obtain ⟨a0, a1, a2⟩ := CX1.out
          have y0 := (TX1.out 0 (by omega)).2
          have y1 := (TX1.out 1 (by omega)).2
          have y2 := (TX1.out 2 (by omega)).2
          have DQ2 : Hid (QI w (((w6.setCell ⟨gx, 0, none⟩ (.int .i64 0)).setCell ⟨gx, 1, none⟩ (.int .i64 0)).setCell ⟨gx, 2, none⟩ (.int .i64 0)) g ao len cap zs (k + 1 + 1 + 1 + 1) V m (updn m kk (m kk + 1)) o) := qi_other (qi_other (qi_other DQ hgw HOLD.out hgx HGX.out) hgw HOLD.out hgx HGX.out) hgw HOLD.out hgx HGX.out
          have CX : Hid (Cells3 (((w6.setCell ⟨gx, 0, none⟩ (.int .i64 0)).setCell ⟨gx, 1, none⟩ (.int .i64 0)).setCell ⟨gx, 2, none⟩ (.int .i64 0)) gx 0 0 0) := ⟨cell_oth (cell_oth (cell_same a0) (by omega)) (by omega), cell_oth (cell_same (cell_oth a1 (by omega))) (by omega), cell_same (cell_oth (cell_oth a2 (by omega)) (by omega))⟩
          have hxz2 : gx < (((w6.setCell ⟨gx, 0, none⟩ (.int .i64 0)).setCell ⟨gx, 1, none⟩ (.int .i64 0)).setCell ⟨gx, 2, none⟩ (.int .i64 0)).heap.size := by simpa [World.setCell] using hxz
          clear DQ HX1 CX1 TX1 hxz
          have hxz := hxz2
          clear hxz2
          go_wp2
          clear a0 a1 a2 y0 y1 y2
          generalize (((w6.setCell ⟨gx, 0, none⟩ (.int .i64 0)).setCell ⟨gx, 1, none⟩ (.int .i64 0)).setCell ⟨gx, 2, none⟩ (.int .i64 0)) = w7 at *
          have DX := qi_below DQ2 (bel_drew _)
          have CXd : Hid (Cells3 w7.drew gx 0 0 0) := c3_next CX.out (bel_drew _) hxz
          have hxzd : gx < w7.drew.heap.size := hxz
          refine wp_region_held_drew (S := (fun w' => w'.cell? ⟨w.heap.size + 1 + 1 + 1 + 1, kk, none⟩ = some (.int .i64 (m kk + 1)))) (by kernel_rfl) (by simpa [updn] using DQ2.out.cn kk hk3) (fun hHeld => ?_)
          clear DQ2 CX hxz
          have CX := CXd
          have hxz := hxzd
          clear CXd hxzd
          refine wpAnyH_take (i := 0) (v := ?_) rfl (by kernel_rfl) (by kernel_rfl) (by kernel_rfl) (fun _ _ _ h => h) (Or.inl ⟨by rfl, ?_⟩) (by assumption) ?_
          rotate_left
          · intro w' hSw
            (try dsimp only at hSw)
            go_simp
            all_goals (try with_reducible rfl)
          (try simp only [Act.put, List.getElem_toArray, List.getElem_cons_zero, List.getElem_cons_succ, List.setIfInBounds_toArray, List.set_cons_zero, List.set_cons_succ])
          refine wpAnyH_take (i := 1) (v := ?_) rfl (by kernel_rfl) (by kernel_rfl) (by kernel_rfl) (fun _ _ _ h => h) (Or.inl ⟨by rfl, ?_⟩) (by assumption) ?_
          rotate_left
          · intro w' hSw
            (try dsimp only at hSw)
            go_simp
            all_goals (try with_reducible rfl)
          (try simp only [Act.put, List.getElem_toArray, List.getElem_cons_zero, List.getElem_cons_succ, List.setIfInBounds_toArray, List.set_cons_zero, List.set_cons_succ])
          refine wpAnyH_take (i := 2) (v := ?_) rfl (by kernel_rfl) (by kernel_rfl) (by kernel_rfl) (fun _ _ _ h => h) (Or.inl ⟨by rfl, ?_⟩) (by assumption) ?_
          rotate_left
          · intro w' hSw
            (try dsimp only at hSw)
            go_simp
            all_goals (try with_reducible rfl)
          (try simp only [Act.put, List.getElem_toArray, List.getElem_cons_zero, List.getElem_cons_succ, List.setIfInBounds_toArray, List.set_cons_zero, List.set_cons_succ])
          refine wpAnyH_take (i := 3) (v := ?_) rfl (by kernel_rfl) (by kernel_rfl) (by kernel_rfl) (fun _ _ _ h => h) (Or.inl ⟨by rfl, ?_⟩) (by assumption) ?_
          rotate_left
          · intro w' hSw
            (try dsimp only at hSw)
            go_simp
            all_goals (try with_reducible rfl)
          (try simp only [Act.put, List.getElem_toArray, List.getElem_cons_zero, List.getElem_cons_succ, List.setIfInBounds_toArray, List.set_cons_zero, List.set_cons_succ])
          refine wpAnyH_take (i := 4) (v := ?_) rfl (by kernel_rfl) (by kernel_rfl) (by kernel_rfl) (fun _ _ _ h => h) (Or.inl ⟨by rfl, ?_⟩) (by assumption) ?_
          rotate_left
          · intro w' hSw
            (try dsimp only at hSw)
            go_simp
            all_goals (try with_reducible rfl)
          (try simp only [Act.put, List.getElem_toArray, List.getElem_cons_zero, List.getElem_cons_succ, List.setIfInBounds_toArray, List.set_cons_zero, List.set_cons_succ])
          refine wpAnyH_take (i := 5) (v := ?_) rfl (by kernel_rfl) (by kernel_rfl) (by kernel_rfl) (fun _ _ _ h => h) (Or.inl ⟨by rfl, ?_⟩) (by assumption) ?_
          rotate_left
          · intro w' hSw
            (try dsimp only at hSw)
            go_simp
            all_goals (try with_reducible rfl)
          (try simp only [Act.put, List.getElem_toArray, List.getElem_cons_zero, List.getElem_cons_succ, List.setIfInBounds_toArray, List.set_cons_zero, List.set_cons_succ])
          generalize w7.drew = wd at *
          refine wpAnyH_ready (rs := [6, 8]) (by kernel_rfl) (by simp) ?_
          refine AllReadyH.cons rfl (fun K hK => ?_) (AllReadyH.cons rfl (fun K hK => ?_) AllReadyH.nil)
          · (try simp only [Act.put, List.getElem_toArray, List.getElem_cons_zero, List.getElem_cons_succ, List.setIfInBounds_toArray, List.set_cons_zero, List.set_cons_succ])
            obtain ⟨sq, hsq⟩ := DX.out.src
            go_simp
            go_at_call 54
            refine (next_any g len cap ao zs (k + 1 + 1 + 1 + 1) sq 20 (by omega) (by omega) _ hsq DX.out.row HN.out hl (by omega) (by omega)).mono ?_
            rintro e x1 ⟨vv, t1, ⟨b0, b1⟩, rfl, hS1, hG1⟩
            clear hsq
            have CX2 : Hid (Cells3 x1 gx 0 0 0) := ⟨grown_cell hG1 CX.out.1 hgg, grown_cell hG1 CX.out.2.1 hgg, grown_cell hG1 CX.out.2.2 hgg⟩
            have hxz2 := Nat.lt_of_lt_of_le hxz hG1.size
            replace DX := qi_by DX hgw ⟨t1, hS1⟩ (row_grown DX.out.row HN.out hG1) hG1
            clear hS1 hG1
            clear CX hxz
            have CX := CX2
            have hxz := hxz2
            clear CX2 hxz2
            refine hK.out _ _ ?_ (fun hHeld' => ?_)
            · (try dsimp only)
              exact (by simpa [updn] using DX.out.cn kk hk3)
            clear hK K hHeld
            have hHeld := hHeld'
            clear hHeld'
            (try simp only [Act.put, List.getElem_toArray, List.getElem_cons_zero, List.getElem_cons_succ, List.setIfInBounds_toArray, List.set_cons_zero, List.set_cons_succ])
            refine wpAnyH_take (i := 7) (v := ?_) rfl (by kernel_rfl) (by kernel_rfl) (by kernel_rfl) (fun _ _ _ h => h) (Or.inl ⟨by rfl, ?_⟩) (by assumption) ?_
            rotate_left
            · intro w' hSw
              (try dsimp only at hSw)
              go_simp
              all_goals (try with_reducible rfl)
            (try simp only [Act.put, List.getElem_toArray, List.getElem_cons_zero, List.getElem_cons_succ, List.setIfInBounds_toArray, List.set_cons_zero, List.set_cons_succ])
            refine wpAnyH_ready (rs := [8]) (by kernel_rfl) (by simp) ?_
            refine AllReadyH.cons rfl (fun K hK => ?_) AllReadyH.nil
            (try simp only [Act.put, List.getElem_toArray, List.getElem_cons_zero, List.getElem_cons_succ, List.setIfInBounds_toArray, List.set_cons_zero, List.set_cons_succ])
            go_simp
            (try simp only [])
            have CX2 : Hid (Cells3 (x1.alloc (.cells #[.int .i64 0, .int .i64 0, .int .i64 0, .bool false] 74)) gx 0 0 0) := c3_next CX.out (bel_alloc _ _) hxz
            have SY : Hid (SibAt (x1.alloc (.cells #[.int .i64 0, .int .i64 0, .int .i64 0, .bool false] 74)) x1.heap.size 0 ⟨0, 0, 0, false⟩) := by refine ⟨?_, ?_, ?_, ?_⟩ <;> go_simp
            have TY : Hid (There (x1.alloc (.cells #[.int .i64 0, .int .i64 0, .int .i64 0, .bool false] 74)) x1.heap.size 4) := by
              show There _ _ _
              intro j hj
              have hj' : j = 0 ∨ j = 1 ∨ j = 2 ∨ j = 3 := by omega
              rcases hj' with rfl | rfl | rfl | rfl <;> exact ⟨by go_simp, by go_simp⟩
            have HGY : Hid (∀ j, j < 3 → ∀ x, (o j).ao = some x → (o j).l ≠ [] → x.block ≠ x1.heap.size) := fun j hj x hx hl => Nat.ne_of_lt (row_ltS (DX.out.ro j hj).row x hx hl)
            have hyz : x1.heap.size < (x1.alloc (.cells #[.int .i64 0, .int .i64 0, .int .i64 0, .bool false] 74)).heap.size := by simp
            have hyx : x1.heap.size ≠ gx := Nat.ne_of_gt hxz
            have hyb : w.heap.size + 5 ≤ x1.heap.size := DX.out.size
            have hyg : x1.heap.size ≠ g := by omega
            have hxz2 : gx < (x1.alloc (.cells #[.int .i64 0, .int .i64 0, .int .i64 0, .bool false] 74)).heap.size := Nat.lt_of_lt_of_le hxz (bel_alloc _ _).size
            replace DX := qi_below DX (bel_alloc x1 (.cells #[.int .i64 0, .int .i64 0, .int .i64 0, .bool false] 74))
            clear CX hxz
            have CX := CX2
            have hxz := hxz2
            clear CX2 hxz2
            refine hK.out _ _ ?_ (fun hHeld' => ?_)
            · (try dsimp only)
              exact (by simpa [updn] using DX.out.cn kk hk3)
            clear hK K hHeld
            have hHeld := hHeld'
            clear hHeld'
            (try simp only [Act.put, List.getElem_toArray, List.getElem_cons_zero, List.getElem_cons_succ, List.setIfInBounds_toArray, List.set_cons_zero, List.set_cons_succ])
            generalize (x1.alloc (.cells #[.int .i64 0, .int .i64 0, .int .i64 0, .bool false] 74)) = wa at *
            generalize x1.heap.size = gy at *
            have DS : Hid (QI w ((((wa.setCell ⟨gy, 0, none⟩ (.int .i64 (kk : Int))).setCell ⟨gy, 1, none⟩ (.int .i64 (m kk + 1))).setCell ⟨gy, 2, none⟩ (.int .i64 vv)).setCell ⟨gy, 3, none⟩ (.bool false)) g ao len cap zs (k + 1 + 1 + 1 + 1 + 1) V m (updn m kk (m kk + 1)) o) := qi_other (qi_other (qi_other (qi_other DX hgw HOLD.out hyb HGY.out) hgw HOLD.out hyb HGY.out) hgw HOLD.out hyb HGY.out) hgw HOLD.out hyb HGY.out
            have CX2 : Hid (Cells3 ((((wa.setCell ⟨gy, 0, none⟩ (.int .i64 (kk : Int))).setCell ⟨gy, 1, none⟩ (.int .i64 (m kk + 1))).setCell ⟨gy, 2, none⟩ (.int .i64 vv)).setCell ⟨gy, 3, none⟩ (.bool false)) gx 0 0 0) := ⟨cell_set (cell_set (cell_set (cell_set CX.out.1 hyx.symm) hyx.symm) hyx.symm) hyx.symm, cell_set (cell_set (cell_set (cell_set CX.out.2.1 hyx.symm) hyx.symm) hyx.symm) hyx.symm, cell_set (cell_set (cell_set (cell_set CX.out.2.2 hyx.symm) hyx.symm) hyx.symm) hyx.symm⟩
            have SY2 : Hid (SibAt ((((wa.setCell ⟨gy, 0, none⟩ (.int .i64 (kk : Int))).setCell ⟨gy, 1, none⟩ (.int .i64 (m kk + 1))).setCell ⟨gy, 2, none⟩ (.int .i64 vv)).setCell ⟨gy, 3, none⟩ (.bool false)) gy 0 ⟨kk, m kk + 1, vv, false⟩) := ⟨cell_oth (cell_oth (cell_oth (cell_same SY.out.1) (by omega)) (by omega)) (by omega), cell_oth (cell_oth (cell_same (cell_oth SY.out.2.1 (by omega))) (by omega)) (by omega), cell_oth (cell_same (cell_oth (cell_oth SY.out.2.2.1 (by omega)) (by omega))) (by omega), cell_same (cell_oth (cell_oth (cell_oth SY.out.2.2.2 (by omega)) (by omega)) (by omega))⟩
            have TY2 : Hid (There ((((wa.setCell ⟨gy, 0, none⟩ (.int .i64 (kk : Int))).setCell ⟨gy, 1, none⟩ (.int .i64 (m kk + 1))).setCell ⟨gy, 2, none⟩ (.int .i64 vv)).setCell ⟨gy, 3, none⟩ (.bool false)) gy 4) := TY.out.set.set.set.set
            have hxz2 : gx < ((((wa.setCell ⟨gy, 0, none⟩ (.int .i64 (kk : Int))).setCell ⟨gy, 1, none⟩ (.int .i64 (m kk + 1))).setCell ⟨gy, 2, none⟩ (.int .i64 vv)).setCell ⟨gy, 3, none⟩ (.bool false)).heap.size := by simpa [World.setCell] using hxz
            have hyz2 : gy < ((((wa.setCell ⟨gy, 0, none⟩ (.int .i64 (kk : Int))).setCell ⟨gy, 1, none⟩ (.int .i64 (m kk + 1))).setCell ⟨gy, 2, none⟩ (.int .i64 vv)).setCell ⟨gy, 3, none⟩ (.bool false)).heap.size := by simpa [World.setCell] using hyz
            obtain ⟨a0, a1, a2, a3⟩ := SY.out
            have y0 := (TY.out 0 (by omega)).2
            have y1 := (TY.out 1 (by omega)).2
            have y2 := (TY.out 2 (by omega)).2
            have y3 := (TY.out 3 (by omega)).2
            simp only [Nat.zero_add] at a1 a2 a3
            refine wpAnyH_ready (rs := [9]) (by kernel_rfl) (by simp) ?_
            refine AllReadyH.cons rfl (fun K hK => ?_) AllReadyH.nil
            (try simp only [Act.put, List.getElem_toArray, List.getElem_cons_zero, List.getElem_cons_succ, List.setIfInBounds_toArray, List.set_cons_zero, List.set_cons_succ])
            go_simp
            (try simp only [])
            refine hK.out _ _ ?_ (fun hHeld' => ?_)
            · (try dsimp only)
              exact (by simpa [updn] using DS.out.cn kk hk3)
            clear hK K hHeld
            have hHeld := hHeld'
            clear hHeld'
            (try simp only [Act.put, List.getElem_toArray, List.getElem_cons_zero, List.getElem_cons_succ, List.setIfInBounds_toArray, List.set_cons_zero, List.set_cons_succ])
            refine wpAnyH_done (by kernel_rfl) ?_ _
            clear a0 a1 a2 a3 y0 y1 y2 y3 DX CX SY TY hHeld hxz hyz
            generalize ((((wa.setCell ⟨gy, 0, none⟩ (.int .i64 (kk : Int))).setCell ⟨gy, 1, none⟩ (.int .i64 (m kk + 1))).setCell ⟨gy, 2, none⟩ (.int .i64 vv)).setCell ⟨gy, 3, none⟩ (.bool false)) = x4 at *
            obtain ⟨sq, hsq⟩ := DS.out.src
            have CC : Hid _ := chance_any g len cap ao zs (k + 1 + 1 + 1 + 1 + 1) sq 5 (by omega) (by omega) x4 hsq DS.out.row HN.out hl (by omega) (by omega)
            clear hsq
            go_wp2_with fail
            refine Calls.mono CC.out ?_
            rintro e x5 ⟨b3, t1, rfl, hS1, hG1⟩
            clear CC
            have CX : Hid (Cells3 x5 gx 0 0 0) := ⟨grown_cell hG1 CX2.out.1 hgg, grown_cell hG1 CX2.out.2.1 hgg, grown_cell hG1 CX2.out.2.2 hgg⟩
            have SY : Hid (SibAt x5 gy 0 ⟨kk, m kk + 1, vv, false⟩) := ⟨grown_cell hG1 SY2.out.1 hyg, grown_cell hG1 SY2.out.2.1 hyg, grown_cell hG1 SY2.out.2.2.1 hyg, grown_cell hG1 SY2.out.2.2.2 hyg⟩
            have TY : Hid (There x5 gy 4) := TY2.out.grown hG1 hyz2 hyg
            have hxz := Nat.lt_of_lt_of_le hxz2 hG1.size
            have hyz := Nat.lt_of_lt_of_le hyz2 hG1.size
            replace DS := qi_by DS hgw ⟨t1, hS1⟩ (row_grown DS.out.row HN.out hG1) hG1
            clear hS1 hG1
            clear CX2 SY2 TY2 hxz2 hyz2
            cases b3 with
            | false =>
              go_wp2
              have DX := qi_below DS (bel_drew _)
              have hxl : gx ≠ w.heap.size + 1 + 1 + 1 := by omega
              have hyl : gy ≠ w.heap.size + 1 + 1 + 1 := by omega
              obtain ⟨Pp, hPp⟩ : ∃ Pp : Int, Pp = if (kk : Int) = 0 then m kk + 1 else max (o kk).a 0 := ⟨_, rfl⟩
              obtain ⟨Qq, hQq⟩ : ∃ Qq : Int, Qq = if (kk : Int) = 1 then m kk + 1 else max (o kk).b 0 := ⟨_, rfl⟩
              obtain ⟨Rr, hRr⟩ : ∃ Rr : Int, Rr = if (kk : Int) = 2 then m kk + 1 else max (o kk).c 0 := ⟨_, rfl⟩
              have CW : Hid (∀ W : World, SibRow W (o kk).ao (o kk).l → Calls Tryd.prog 58 #[.agg #[.slice (o kk).ao (o kk).l.length (o kk).cap, .int .i64 (o kk).a, .int .i64 (o kk).b, .int .i64 (o kk).c], .agg #[.int .i64 0, .int .i64 0, .int .i64 0], .agg #[.int .i64 (kk : Int), .int .i64 (m kk + 1), .int .i64 vv, .bool false]] W fun e w' => ∃ v, e = .returned (.agg #[v, .int .i64 Pp, .int .i64 Qq, .int .i64 Rr]) ∧ Gro W w' (.slice none 0 0) v ∧ w'.ownsRow 0 74 4 v (pt ⟨kk, m kk + 1, vv, false⟩ (fil 0 0 0 (o kk).l)).length (flat (pt ⟨kk, m kk + 1, vv, false⟩ (fil 0 0 0 (o kk).l)))) := fun W hW => by
                have hok := (DS.out.rp kk hk3).okP HM.out.1 HM.out.2.1 HM.out.2.2
                have hle := (DS.out.rp kk hk3).le
                have hps := (DS.out.rp kk hk3).pos
                refine l02write_any (o kk).cap (o kk).ao (o kk).l (o kk).a (o kk).b (o kk).c 0 0 0 Pp Qq Rr ⟨kk, m kk + 1, vv, false⟩ W (by have := hok.1; omega) (ok_nodes hok) hW (fun W' => ?_)
                refine add_any _ _ _ (kk : Int) (m kk + 1) Pp Qq Rr (by omega) (max_lt ⟨?_, ?_⟩ (by omega)) hPp hQq hRr W'
                · have := comp_mono (p := (kk : Int)) hle
                  rw [comp_at m kk hk3] at this
                  omega
                · have := comp_mono (p := (kk : Int)) HX.out
                  rw [comp_at m kk hk3] at this
                  omega
              obtain ⟨V', hV'⟩ : ∃ V' : Int → Int → Int × Bool, ∀ (p : Option Addr) (q : Nat), ∀ j, j < 3 → Rp V' (updn m kk (m kk + 1) 0) (updn m kk (m kk + 1) 1) (updn m kk (m kk + 1) 2) (upd o kk ⟨p, q, pt ⟨kk, m kk + 1, vv, false⟩ (fil 0 0 0 (o kk).l), Pp, Qq, Rr⟩ j).l (upd o kk ⟨p, q, pt ⟨kk, m kk + 1, vv, false⟩ (fil 0 0 0 (o kk).l), Pp, Qq, Rr⟩ j).a (upd o kk ⟨p, q, pt ⟨kk, m kk + 1, vv, false⟩ (fil 0 0 0 (o kk).l), Pp, Qq, Rr⟩ j).b (upd o kk ⟨p, q, pt ⟨kk, m kk + 1, vv, false⟩ (fil 0 0 0 (o kk).l), Pp, Qq, Rr⟩ j).c := by
                obtain ⟨V', h⟩ := rp_write DS.out.rp hk3 none 0 (v := vv) (d := false) HX.out ⟨HP.out 0 (by omega), HP.out 1 (by omega), HP.out 2 (by omega)⟩ (by omega) (by omega) (by simp) hPp hQq hRr
                refine ⟨V', fun p q j hj => ?_⟩
                have h1 := h j hj
                by_cases e : j = kk
                · subst e
                  rw [upd_same] at h1 ⊢
                  exact h1
                · rw [upd_other _ _ e] at h1 ⊢
                  exact h1
              have HV : Hid _ := hV'
              clear hV' hPp hQq hRr
              refine wp_region_held_drew (S := (fun w' => (w'.cell? ⟨gx, 0, none⟩ = some (.int .i64 0) ∧ w'.cell? ⟨gx, 1, none⟩ = some (.int .i64 0) ∧ w'.cell? ⟨gx, 2, none⟩ = some (.int .i64 0)) ∧ w'.cell? ⟨gy, 0, none⟩ = some (.int .i64 (kk : Int)) ∧ w'.cell? ⟨gy, 1, none⟩ = some (.int .i64 (m kk + 1)) ∧ w'.cell? ⟨gy, 2, none⟩ = some (.int .i64 vv) ∧ w'.cell? ⟨gy, 3, none⟩ = some (.bool false))) (by kernel_rfl) ⟨⟨CX.out.1, CX.out.2.1, CX.out.2.2⟩, SY.out.1, by simpa using SY.out.2.1, by simpa using SY.out.2.2.1, by simpa using SY.out.2.2.2⟩ (fun hHeld => ?_)
              clear DS CX SY
              refine wpAnyH_take (i := 0) (v := ?_) rfl (by kernel_rfl) (by kernel_rfl) (by kernel_rfl) (fun _ _ _ h => h) (Or.inl ⟨by rfl, ?_⟩) (by assumption) ?_
              rotate_left
              · intro w' hSw
                (try dsimp only at hSw)
                go_simp
                all_goals (try with_reducible rfl)
              (try simp only [Act.put, List.getElem_toArray, List.getElem_cons_zero, List.getElem_cons_succ, List.setIfInBounds_toArray, List.set_cons_zero, List.set_cons_succ])
              refine wpAnyH_take (i := 1) (v := ?_) rfl (by kernel_rfl) (by kernel_rfl) (by kernel_rfl) (fun _ _ _ h => h) (Or.inl ⟨by rfl, ?_⟩) (by assumption) ?_
              rotate_left
              · intro w' hSw
                (try dsimp only at hSw)
                go_simp
                all_goals (try with_reducible rfl)
              (try simp only [Act.put, List.getElem_toArray, List.getElem_cons_zero, List.getElem_cons_succ, List.setIfInBounds_toArray, List.set_cons_zero, List.set_cons_succ])
              refine wpAnyH_take (i := 2) (v := ?_) rfl (by kernel_rfl) (by kernel_rfl) (by kernel_rfl) (fun _ _ _ h => h) (Or.inl ⟨by rfl, ?_⟩) (by assumption) ?_
              rotate_left
              · intro w' hSw
                (try dsimp only at hSw)
                go_simp
                all_goals (try with_reducible rfl)
              (try simp only [Act.put, List.getElem_toArray, List.getElem_cons_zero, List.getElem_cons_succ, List.setIfInBounds_toArray, List.set_cons_zero, List.set_cons_succ])
              refine wpAnyH_take (i := 3) (v := ?_) rfl (by kernel_rfl) (by kernel_rfl) (by kernel_rfl) (fun _ _ _ h => h) (Or.inl ⟨by rfl, ?_⟩) (by assumption) ?_
              rotate_left
              · intro w' hSw
                (try dsimp only at hSw)
                go_simp
                all_goals (try with_reducible rfl)
              (try simp only [Act.put, List.getElem_toArray, List.getElem_cons_zero, List.getElem_cons_succ, List.setIfInBounds_toArray, List.set_cons_zero, List.set_cons_succ])
              refine wpAnyH_take (i := 4) (v := ?_) rfl (by kernel_rfl) (by kernel_rfl) (by kernel_rfl) (fun _ _ _ h => h) (Or.inl ⟨by rfl, ?_⟩) (by assumption) ?_
              rotate_left
              · intro w' hSw
                (try dsimp only at hSw)
                go_simp
                all_goals (try with_reducible rfl)
              (try simp only [Act.put, List.getElem_toArray, List.getElem_cons_zero, List.getElem_cons_succ, List.setIfInBounds_toArray, List.set_cons_zero, List.set_cons_succ])
              refine wpAnyH_take (i := 6) (v := ?_) rfl (by kernel_rfl) (by kernel_rfl) (by kernel_rfl) (fun _ _ _ h => h) (Or.inl ⟨by rfl, ?_⟩) (by assumption) ?_
              rotate_left
              · intro w' hSw
                (try dsimp only at hSw)
                go_simp
                all_goals (try with_reducible rfl)
              (try simp only [Act.put, List.getElem_toArray, List.getElem_cons_zero, List.getElem_cons_succ, List.setIfInBounds_toArray, List.set_cons_zero, List.set_cons_succ])
              refine wpAnyH_take (i := 7) (v := ?_) rfl (by kernel_rfl) (by kernel_rfl) (by kernel_rfl) (fun _ _ _ h => h) (Or.inl ⟨by rfl, ?_⟩) (by assumption) ?_
              rotate_left
              · intro w' hSw
                (try dsimp only at hSw)
                go_simp
                all_goals (try with_reducible rfl)
              (try simp only [Act.put, List.getElem_toArray, List.getElem_cons_zero, List.getElem_cons_succ, List.setIfInBounds_toArray, List.set_cons_zero, List.set_cons_succ])
              generalize x5.drew = wd at *
              obtain ⟨e0, e1, e2, e3⟩ := DX.out.ob kk hk3
              refine wpAnyH_ready (rs := [5]) (by kernel_rfl) (by simp) ?_
              refine AllReadyH.cons rfl (fun K hK => ?_) AllReadyH.nil
              (try simp only [Act.put, List.getElem_toArray, List.getElem_cons_zero, List.getElem_cons_succ, List.setIfInBounds_toArray, List.set_cons_zero, List.set_cons_succ])
              go_simp
              (try simp only [])
              refine hK.out _ _ ?_ (fun hHeld' => ?_)
              · (try dsimp only)
                exact hHeld
              clear hK K hHeld
              have hHeld := hHeld'
              clear hHeld'
              (try simp only [Act.put, List.getElem_toArray, List.getElem_cons_zero, List.getElem_cons_succ, List.setIfInBounds_toArray, List.set_cons_zero, List.set_cons_succ])
              clear e0 e1 e2 e3
              refine wpAnyH_ready (rs := [8]) (by kernel_rfl) (by simp) ?_
              refine AllReadyH.cons rfl (fun K hK => ?_) AllReadyH.nil
              (try simp only [Act.put, List.getElem_toArray, List.getElem_cons_zero, List.getElem_cons_succ, List.setIfInBounds_toArray, List.set_cons_zero, List.set_cons_succ])
              go_simp
              go_at_call 58
              refine Calls.mono (CW.out _ (DX.out.ro kk hk3).row) ?_
              rintro e x8 ⟨v, rfl, hG, hO⟩
              have hsz2 := DX.out.size
              obtain ⟨ao', cap', rfl, hro⟩ := rowO_own (g := g) (p := w.heap.size + 1 + 1 + 1) (q := w.heap.size + 1 + 1 + 1 + 1) (a := Pp) (b := Qq) (c := Rr) hG hO (by omega) (by omega) (by omega)
              replace DX := qi_below DX (gbl hG)
              have RO : Hid (RowO x8 g (w.heap.size + 1 + 1 + 1) (w.heap.size + 1 + 1 + 1 + 1) _) := hro
              have hb8 := (gbl hG)
              clear hG hO hro hsz2
              refine hK.out _ _ ?_ (fun hHeld' => ?_)
              · (try dsimp only)
                exact ⟨⟨cell_next hb8 hHeld.1.1 (cell_lt hHeld.1.1), cell_next hb8 hHeld.1.2.1 (cell_lt hHeld.1.2.1), cell_next hb8 hHeld.1.2.2 (cell_lt hHeld.1.2.2)⟩, cell_next hb8 hHeld.2.1 (cell_lt hHeld.2.1), cell_next hb8 hHeld.2.2.1 (cell_lt hHeld.2.2.1), cell_next hb8 hHeld.2.2.2.1 (cell_lt hHeld.2.2.2.1), cell_next hb8 hHeld.2.2.2.2 (cell_lt hHeld.2.2.2.2)⟩
              clear hK K hHeld
              have hHeld := hHeld'
              clear hHeld'
              (try simp only [Act.put, List.getElem_toArray, List.getElem_cons_zero, List.getElem_cons_succ, List.setIfInBounds_toArray, List.set_cons_zero, List.set_cons_succ])
              clear hb8
              refine wpAnyH_take (i := 9) (v := ?_) rfl (by kernel_rfl) (by kernel_rfl) (by kernel_rfl) (fun _ _ _ h => h) (Or.inl ⟨by rfl, ?_⟩) (by assumption) ?_
              rotate_left
              · intro w' hSw
                (try dsimp only at hSw)
                go_simp
                all_goals (try with_reducible rfl)
              (try simp only [Act.put, List.getElem_toArray, List.getElem_cons_zero, List.getElem_cons_succ, List.setIfInBounds_toArray, List.set_cons_zero, List.set_cons_succ])
              have DZ : Hid (QI w ((((x8.setCell ⟨w.heap.size + 1 + 1 + 1, kk * 4, none⟩ (.slice ao' (pt ⟨kk, m kk + 1, vv, false⟩ (fil 0 0 0 (o kk).l)).length cap')).setCell ⟨w.heap.size + 1 + 1 + 1, kk * 4 + 1, none⟩ (.int .i64 Pp)).setCell ⟨w.heap.size + 1 + 1 + 1, kk * 4 + 2, none⟩ (.int .i64 Qq)).setCell ⟨w.heap.size + 1 + 1 + 1, kk * 4 + 3, none⟩ (.int .i64 Rr)) g ao len cap zs (k + 1 + 1 + 1 + 1 + 1 + 1) V' (updn m kk (m kk + 1)) (updn m kk (m kk + 1)) (upd o kk ⟨ao', cap', pt ⟨kk, m kk + 1, vv, false⟩ (fil 0 0 0 (o kk).l), Pp, Qq, Rr⟩)) := DX.out.store hgw HOLD.out ⟨ao', cap', pt ⟨kk, m kk + 1, vv, false⟩ (fil 0 0 0 (o kk).l), Pp, Qq, Rr⟩ hk3 RO.out (HV.out ao' cap')
              obtain ⟨u0, T0⟩ := Option.isSome_iff_exists.1 (DX.out.th (kk * 4) (by omega)).1
              have Z0 := (DX.out.th (kk * 4) (by omega)).2
              obtain ⟨u1, T1⟩ := Option.isSome_iff_exists.1 (DX.out.th (kk * 4 + 1) (by omega)).1
              have Z1 := (DX.out.th (kk * 4 + 1) (by omega)).2
              obtain ⟨u2, T2⟩ := Option.isSome_iff_exists.1 (DX.out.th (kk * 4 + 2) (by omega)).1
              have Z2 := (DX.out.th (kk * 4 + 2) (by omega)).2
              obtain ⟨u3, T3⟩ := Option.isSome_iff_exists.1 (DX.out.th (kk * 4 + 3) (by omega)).1
              have Z3 := (DX.out.th (kk * 4 + 3) (by omega)).2
              refine wpAnyH_ready (rs := [10]) (by kernel_rfl) (by simp) ?_
              refine AllReadyH.cons rfl (fun K hK => ?_) AllReadyH.nil
              (try simp only [Act.put, List.getElem_toArray, List.getElem_cons_zero, List.getElem_cons_succ, List.setIfInBounds_toArray, List.set_cons_zero, List.set_cons_succ])
              go_simp
              (try simp only [])
              refine hK.out _ _ ?_ (fun hHeld' => ?_)
              · (try dsimp only)
                exact ⟨⟨cell_set (cell_set (cell_set (cell_set hHeld.1.1 hxl) hxl) hxl) hxl, cell_set (cell_set (cell_set (cell_set hHeld.1.2.1 hxl) hxl) hxl) hxl, cell_set (cell_set (cell_set (cell_set hHeld.1.2.2 hxl) hxl) hxl) hxl⟩, cell_set (cell_set (cell_set (cell_set hHeld.2.1 hyl) hyl) hyl) hyl, cell_set (cell_set (cell_set (cell_set hHeld.2.2.1 hyl) hyl) hyl) hyl, cell_set (cell_set (cell_set (cell_set hHeld.2.2.2.1 hyl) hyl) hyl) hyl, cell_set (cell_set (cell_set (cell_set hHeld.2.2.2.2 hyl) hyl) hyl) hyl⟩
              clear hK K hHeld
              have hHeld := hHeld'
              clear hHeld'
              (try simp only [Act.put, List.getElem_toArray, List.getElem_cons_zero, List.getElem_cons_succ, List.setIfInBounds_toArray, List.set_cons_zero, List.set_cons_succ])
              refine wpAnyH_done (by kernel_rfl) ?_ _
              clear T0 Z0 T1 Z1 T2 Z2 T3 Z3 DX RO hHeld CW HV
              generalize ((((x8.setCell ⟨w.heap.size + 1 + 1 + 1, kk * 4, none⟩ (.slice ao' (pt ⟨kk, m kk + 1, vv, false⟩ (fil 0 0 0 (o kk).l)).length cap')).setCell ⟨w.heap.size + 1 + 1 + 1, kk * 4 + 1, none⟩ (.int .i64 Pp)).setCell ⟨w.heap.size + 1 + 1 + 1, kk * 4 + 2, none⟩ (.int .i64 Qq)).setCell ⟨w.heap.size + 1 + 1 + 1, kk * 4 + 3, none⟩ (.int .i64 Rr)) = x9 at *
              go_wp2
              go_roundw
              case rel => exact ⟨j, k + 1 + 1 + 1 + 1 + 1 + 1, V', _, _, by go_num, updn_pos HP.out (HP.out kk hk3), updn_sum hk3 (by omega), by omega, by omega, DZ.out⟩
              case measure => simp [intOf]
            | true =>
              have W5 : Hid (QI w ((x5.setCell ⟨gy, 3, none⟩ (.bool true)).setCell ⟨gy, 2, none⟩ (.int .i64 0)) g ao len cap zs (k + 1 + 1 + 1 + 1 + 1 + 1) V m (updn m kk (m kk + 1)) o) := qi_other (qi_other DS hgw HOLD.out hyb HGY.out) hgw HOLD.out hyb HGY.out
              have CX2 : Hid (Cells3 ((x5.setCell ⟨gy, 3, none⟩ (.bool true)).setCell ⟨gy, 2, none⟩ (.int .i64 0)) gx 0 0 0) := ⟨cell_set (cell_set CX.out.1 hyx.symm) hyx.symm, cell_set (cell_set CX.out.2.1 hyx.symm) hyx.symm, cell_set (cell_set CX.out.2.2 hyx.symm) hyx.symm⟩
              have SY2 : Hid (SibAt ((x5.setCell ⟨gy, 3, none⟩ (.bool true)).setCell ⟨gy, 2, none⟩ (.int .i64 0)) gy 0 ⟨kk, m kk + 1, 0, true⟩) := ⟨cell_oth (cell_oth SY.out.1 (by omega)) (by omega), cell_oth (cell_oth SY.out.2.1 (by omega)) (by omega), cell_same (cell_oth SY.out.2.2.1 (by omega)), cell_oth (cell_same SY.out.2.2.2) (by omega)⟩
              have hxz2 : gx < ((x5.setCell ⟨gy, 3, none⟩ (.bool true)).setCell ⟨gy, 2, none⟩ (.int .i64 0)).heap.size := by simpa [World.setCell] using hxz
              obtain ⟨a0, a1, a2, a3⟩ := SY.out
              simp only [Nat.zero_add] at a1 a2 a3
              have y2 := (TY.out 2 (by omega)).2
              have y3 := (TY.out 3 (by omega)).2
              clear DS CX SY TY hxz
              go_wp2
              clear a0 a1 a2 a3 y2 y3
              generalize ((x5.setCell ⟨gy, 3, none⟩ (.bool true)).setCell ⟨gy, 2, none⟩ (.int .i64 0)) = x6 at *
              have DS := W5
              have CX := CX2
              have SY := SY2
              have hxz := hxz2
              clear W5 CX2 SY2 hxz2
              have DX := qi_below DS (bel_drew _)
              have hxl : gx ≠ w.heap.size + 1 + 1 + 1 := by omega
              have hyl : gy ≠ w.heap.size + 1 + 1 + 1 := by omega
              obtain ⟨Pp, hPp⟩ : ∃ Pp : Int, Pp = if (kk : Int) = 0 then m kk + 1 else max (o kk).a 0 := ⟨_, rfl⟩
              obtain ⟨Qq, hQq⟩ : ∃ Qq : Int, Qq = if (kk : Int) = 1 then m kk + 1 else max (o kk).b 0 := ⟨_, rfl⟩
              obtain ⟨Rr, hRr⟩ : ∃ Rr : Int, Rr = if (kk : Int) = 2 then m kk + 1 else max (o kk).c 0 := ⟨_, rfl⟩
              have CW : Hid (∀ W : World, SibRow W (o kk).ao (o kk).l → Calls Tryd.prog 58 #[.agg #[.slice (o kk).ao (o kk).l.length (o kk).cap, .int .i64 (o kk).a, .int .i64 (o kk).b, .int .i64 (o kk).c], .agg #[.int .i64 0, .int .i64 0, .int .i64 0], .agg #[.int .i64 (kk : Int), .int .i64 (m kk + 1), .int .i64 0, .bool true]] W fun e w' => ∃ v, e = .returned (.agg #[v, .int .i64 Pp, .int .i64 Qq, .int .i64 Rr]) ∧ Gro W w' (.slice none 0 0) v ∧ w'.ownsRow 0 74 4 v (pt ⟨kk, m kk + 1, 0, true⟩ (fil 0 0 0 (o kk).l)).length (flat (pt ⟨kk, m kk + 1, 0, true⟩ (fil 0 0 0 (o kk).l)))) := fun W hW => by
                have hok := (DS.out.rp kk hk3).okP HM.out.1 HM.out.2.1 HM.out.2.2
                have hle := (DS.out.rp kk hk3).le
                have hps := (DS.out.rp kk hk3).pos
                refine l02write_any (o kk).cap (o kk).ao (o kk).l (o kk).a (o kk).b (o kk).c 0 0 0 Pp Qq Rr ⟨kk, m kk + 1, 0, true⟩ W (by have := hok.1; omega) (ok_nodes hok) hW (fun W' => ?_)
                refine add_any _ _ _ (kk : Int) (m kk + 1) Pp Qq Rr (by omega) (max_lt ⟨?_, ?_⟩ (by omega)) hPp hQq hRr W'
                · have := comp_mono (p := (kk : Int)) hle
                  rw [comp_at m kk hk3] at this
                  omega
                · have := comp_mono (p := (kk : Int)) HX.out
                  rw [comp_at m kk hk3] at this
                  omega
              obtain ⟨V', hV'⟩ : ∃ V' : Int → Int → Int × Bool, ∀ (p : Option Addr) (q : Nat), ∀ j, j < 3 → Rp V' (updn m kk (m kk + 1) 0) (updn m kk (m kk + 1) 1) (updn m kk (m kk + 1) 2) (upd o kk ⟨p, q, pt ⟨kk, m kk + 1, 0, true⟩ (fil 0 0 0 (o kk).l), Pp, Qq, Rr⟩ j).l (upd o kk ⟨p, q, pt ⟨kk, m kk + 1, 0, true⟩ (fil 0 0 0 (o kk).l), Pp, Qq, Rr⟩ j).a (upd o kk ⟨p, q, pt ⟨kk, m kk + 1, 0, true⟩ (fil 0 0 0 (o kk).l), Pp, Qq, Rr⟩ j).b (upd o kk ⟨p, q, pt ⟨kk, m kk + 1, 0, true⟩ (fil 0 0 0 (o kk).l), Pp, Qq, Rr⟩ j).c := by
                obtain ⟨V', h⟩ := rp_write DS.out.rp hk3 none 0 (v := 0) (d := true) HX.out ⟨HP.out 0 (by omega), HP.out 1 (by omega), HP.out 2 (by omega)⟩ (by omega) (by omega) (by simp) hPp hQq hRr
                refine ⟨V', fun p q j hj => ?_⟩
                have h1 := h j hj
                by_cases e : j = kk
                · subst e
                  rw [upd_same] at h1 ⊢
                  exact h1
                · rw [upd_other _ _ e] at h1 ⊢
                  exact h1
              have HV : Hid _ := hV'
              clear hV' hPp hQq hRr
              refine wp_region_held_drew (S := (fun w' => (w'.cell? ⟨gx, 0, none⟩ = some (.int .i64 0) ∧ w'.cell? ⟨gx, 1, none⟩ = some (.int .i64 0) ∧ w'.cell? ⟨gx, 2, none⟩ = some (.int .i64 0)) ∧ w'.cell? ⟨gy, 0, none⟩ = some (.int .i64 (kk : Int)) ∧ w'.cell? ⟨gy, 1, none⟩ = some (.int .i64 (m kk + 1)) ∧ w'.cell? ⟨gy, 2, none⟩ = some (.int .i64 0) ∧ w'.cell? ⟨gy, 3, none⟩ = some (.bool true))) (by kernel_rfl) ⟨⟨CX.out.1, CX.out.2.1, CX.out.2.2⟩, SY.out.1, by simpa using SY.out.2.1, by simpa using SY.out.2.2.1, by simpa using SY.out.2.2.2⟩ (fun hHeld => ?_)
              clear DS CX SY
              refine wpAnyH_take (i := 0) (v := ?_) rfl (by kernel_rfl) (by kernel_rfl) (by kernel_rfl) (fun _ _ _ h => h) (Or.inl ⟨by rfl, ?_⟩) (by assumption) ?_
              rotate_left
              · intro w' hSw
                (try dsimp only at hSw)
                go_simp
                all_goals (try with_reducible rfl)
              (try simp only [Act.put, List.getElem_toArray, List.getElem_cons_zero, List.getElem_cons_succ, List.setIfInBounds_toArray, List.set_cons_zero, List.set_cons_succ])
              refine wpAnyH_take (i := 1) (v := ?_) rfl (by kernel_rfl) (by kernel_rfl) (by kernel_rfl) (fun _ _ _ h => h) (Or.inl ⟨by rfl, ?_⟩) (by assumption) ?_
              rotate_left
              · intro w' hSw
                (try dsimp only at hSw)
                go_simp
                all_goals (try with_reducible rfl)
              (try simp only [Act.put, List.getElem_toArray, List.getElem_cons_zero, List.getElem_cons_succ, List.setIfInBounds_toArray, List.set_cons_zero, List.set_cons_succ])
              refine wpAnyH_take (i := 2) (v := ?_) rfl (by kernel_rfl) (by kernel_rfl) (by kernel_rfl) (fun _ _ _ h => h) (Or.inl ⟨by rfl, ?_⟩) (by assumption) ?_
              rotate_left
              · intro w' hSw
                (try dsimp only at hSw)
                go_simp
                all_goals (try with_reducible rfl)
              (try simp only [Act.put, List.getElem_toArray, List.getElem_cons_zero, List.getElem_cons_succ, List.setIfInBounds_toArray, List.set_cons_zero, List.set_cons_succ])
              refine wpAnyH_take (i := 3) (v := ?_) rfl (by kernel_rfl) (by kernel_rfl) (by kernel_rfl) (fun _ _ _ h => h) (Or.inl ⟨by rfl, ?_⟩) (by assumption) ?_
              rotate_left
              · intro w' hSw
                (try dsimp only at hSw)
                go_simp
                all_goals (try with_reducible rfl)
              (try simp only [Act.put, List.getElem_toArray, List.getElem_cons_zero, List.getElem_cons_succ, List.setIfInBounds_toArray, List.set_cons_zero, List.set_cons_succ])
              refine wpAnyH_take (i := 4) (v := ?_) rfl (by kernel_rfl) (by kernel_rfl) (by kernel_rfl) (fun _ _ _ h => h) (Or.inl ⟨by rfl, ?_⟩) (by assumption) ?_
              rotate_left
              · intro w' hSw
                (try dsimp only at hSw)
                go_simp
                all_goals (try with_reducible rfl)
              (try simp only [Act.put, List.getElem_toArray, List.getElem_cons_zero, List.getElem_cons_succ, List.setIfInBounds_toArray, List.set_cons_zero, List.set_cons_succ])
              refine wpAnyH_take (i := 6) (v := ?_) rfl (by kernel_rfl) (by kernel_rfl) (by kernel_rfl) (fun _ _ _ h => h) (Or.inl ⟨by rfl, ?_⟩) (by assumption) ?_
              rotate_left
              · intro w' hSw
                (try dsimp only at hSw)
                go_simp
                all_goals (try with_reducible rfl)
              (try simp only [Act.put, List.getElem_toArray, List.getElem_cons_zero, List.getElem_cons_succ, List.setIfInBounds_toArray, List.set_cons_zero, List.set_cons_succ])
              refine wpAnyH_take (i := 7) (v := ?_) rfl (by kernel_rfl) (by kernel_rfl) (by kernel_rfl) (fun _ _ _ h => h) (Or.inl ⟨by rfl, ?_⟩) (by assumption) ?_
              rotate_left
              · intro w' hSw
                (try dsimp only at hSw)
                go_simp
                all_goals (try with_reducible rfl)
              (try simp only [Act.put, List.getElem_toArray, List.getElem_cons_zero, List.getElem_cons_succ, List.setIfInBounds_toArray, List.set_cons_zero, List.set_cons_succ])
              generalize x6.drew = wd at *
              obtain ⟨e0, e1, e2, e3⟩ := DX.out.ob kk hk3
              refine wpAnyH_ready (rs := [5]) (by kernel_rfl) (by simp) ?_
              refine AllReadyH.cons rfl (fun K hK => ?_) AllReadyH.nil
              (try simp only [Act.put, List.getElem_toArray, List.getElem_cons_zero, List.getElem_cons_succ, List.setIfInBounds_toArray, List.set_cons_zero, List.set_cons_succ])
              go_simp
              (try simp only [])
              refine hK.out _ _ ?_ (fun hHeld' => ?_)
              · (try dsimp only)
                exact hHeld
              clear hK K hHeld
              have hHeld := hHeld'
              clear hHeld'
              (try simp only [Act.put, List.getElem_toArray, List.getElem_cons_zero, List.getElem_cons_succ, List.setIfInBounds_toArray, List.set_cons_zero, List.set_cons_succ])
              clear e0 e1 e2 e3
              refine wpAnyH_ready (rs := [8]) (by kernel_rfl) (by simp) ?_
              refine AllReadyH.cons rfl (fun K hK => ?_) AllReadyH.nil
              (try simp only [Act.put, List.getElem_toArray, List.getElem_cons_zero, List.getElem_cons_succ, List.setIfInBounds_toArray, List.set_cons_zero, List.set_cons_succ])
              go_simp
              go_at_call 58
              refine Calls.mono (CW.out _ (DX.out.ro kk hk3).row) ?_
              rintro e x8 ⟨v, rfl, hG, hO⟩
              have hsz2 := DX.out.size
              obtain ⟨ao', cap', rfl, hro⟩ := rowO_own (g := g) (p := w.heap.size + 1 + 1 + 1) (q := w.heap.size + 1 + 1 + 1 + 1) (a := Pp) (b := Qq) (c := Rr) hG hO (by omega) (by omega) (by omega)
              replace DX := qi_below DX (gbl hG)
              have RO : Hid (RowO x8 g (w.heap.size + 1 + 1 + 1) (w.heap.size + 1 + 1 + 1 + 1) _) := hro
              have hb8 := (gbl hG)
              clear hG hO hro hsz2
              refine hK.out _ _ ?_ (fun hHeld' => ?_)
              · (try dsimp only)
                exact ⟨⟨cell_next hb8 hHeld.1.1 (cell_lt hHeld.1.1), cell_next hb8 hHeld.1.2.1 (cell_lt hHeld.1.2.1), cell_next hb8 hHeld.1.2.2 (cell_lt hHeld.1.2.2)⟩, cell_next hb8 hHeld.2.1 (cell_lt hHeld.2.1), cell_next hb8 hHeld.2.2.1 (cell_lt hHeld.2.2.1), cell_next hb8 hHeld.2.2.2.1 (cell_lt hHeld.2.2.2.1), cell_next hb8 hHeld.2.2.2.2 (cell_lt hHeld.2.2.2.2)⟩
              clear hK K hHeld
              have hHeld := hHeld'
              clear hHeld'
              (try simp only [Act.put, List.getElem_toArray, List.getElem_cons_zero, List.getElem_cons_succ, List.setIfInBounds_toArray, List.set_cons_zero, List.set_cons_succ])
              clear hb8
              refine wpAnyH_take (i := 9) (v := ?_) rfl (by kernel_rfl) (by kernel_rfl) (by kernel_rfl) (fun _ _ _ h => h) (Or.inl ⟨by rfl, ?_⟩) (by assumption) ?_
              rotate_left
              · intro w' hSw
                (try dsimp only at hSw)
                go_simp
                all_goals (try with_reducible rfl)
              (try simp only [Act.put, List.getElem_toArray, List.getElem_cons_zero, List.getElem_cons_succ, List.setIfInBounds_toArray, List.set_cons_zero, List.set_cons_succ])
              have DZ : Hid (QI w ((((x8.setCell ⟨w.heap.size + 1 + 1 + 1, kk * 4, none⟩ (.slice ao' (pt ⟨kk, m kk + 1, 0, true⟩ (fil 0 0 0 (o kk).l)).length cap')).setCell ⟨w.heap.size + 1 + 1 + 1, kk * 4 + 1, none⟩ (.int .i64 Pp)).setCell ⟨w.heap.size + 1 + 1 + 1, kk * 4 + 2, none⟩ (.int .i64 Qq)).setCell ⟨w.heap.size + 1 + 1 + 1, kk * 4 + 3, none⟩ (.int .i64 Rr)) g ao len cap zs (k + 1 + 1 + 1 + 1 + 1 + 1) V' (updn m kk (m kk + 1)) (updn m kk (m kk + 1)) (upd o kk ⟨ao', cap', pt ⟨kk, m kk + 1, 0, true⟩ (fil 0 0 0 (o kk).l), Pp, Qq, Rr⟩)) := DX.out.store hgw HOLD.out ⟨ao', cap', pt ⟨kk, m kk + 1, 0, true⟩ (fil 0 0 0 (o kk).l), Pp, Qq, Rr⟩ hk3 RO.out (HV.out ao' cap')
              obtain ⟨u0, T0⟩ := Option.isSome_iff_exists.1 (DX.out.th (kk * 4) (by omega)).1
              have Z0 := (DX.out.th (kk * 4) (by omega)).2
              obtain ⟨u1, T1⟩ := Option.isSome_iff_exists.1 (DX.out.th (kk * 4 + 1) (by omega)).1
              have Z1 := (DX.out.th (kk * 4 + 1) (by omega)).2
              obtain ⟨u2, T2⟩ := Option.isSome_iff_exists.1 (DX.out.th (kk * 4 + 2) (by omega)).1
              have Z2 := (DX.out.th (kk * 4 + 2) (by omega)).2
              obtain ⟨u3, T3⟩ := Option.isSome_iff_exists.1 (DX.out.th (kk * 4 + 3) (by omega)).1
              have Z3 := (DX.out.th (kk * 4 + 3) (by omega)).2
              refine wpAnyH_ready (rs := [10]) (by kernel_rfl) (by simp) ?_
              refine AllReadyH.cons rfl (fun K hK => ?_) AllReadyH.nil
              (try simp only [Act.put, List.getElem_toArray, List.getElem_cons_zero, List.getElem_cons_succ, List.setIfInBounds_toArray, List.set_cons_zero, List.set_cons_succ])
              go_simp
              (try simp only [])
              refine hK.out _ _ ?_ (fun hHeld' => ?_)
              · (try dsimp only)
                exact ⟨⟨cell_set (cell_set (cell_set (cell_set hHeld.1.1 hxl) hxl) hxl) hxl, cell_set (cell_set (cell_set (cell_set hHeld.1.2.1 hxl) hxl) hxl) hxl, cell_set (cell_set (cell_set (cell_set hHeld.1.2.2 hxl) hxl) hxl) hxl⟩, cell_set (cell_set (cell_set (cell_set hHeld.2.1 hyl) hyl) hyl) hyl, cell_set (cell_set (cell_set (cell_set hHeld.2.2.1 hyl) hyl) hyl) hyl, cell_set (cell_set (cell_set (cell_set hHeld.2.2.2.1 hyl) hyl) hyl) hyl, cell_set (cell_set (cell_set (cell_set hHeld.2.2.2.2 hyl) hyl) hyl) hyl⟩
              clear hK K hHeld
              have hHeld := hHeld'
              clear hHeld'
              (try simp only [Act.put, List.getElem_toArray, List.getElem_cons_zero, List.getElem_cons_succ, List.setIfInBounds_toArray, List.set_cons_zero, List.set_cons_succ])
              refine wpAnyH_done (by kernel_rfl) ?_ _
              clear T0 Z0 T1 Z1 T2 Z2 T3 Z3 DX RO hHeld CW HV
              generalize ((((x8.setCell ⟨w.heap.size + 1 + 1 + 1, kk * 4, none⟩ (.slice ao' (pt ⟨kk, m kk + 1, 0, true⟩ (fil 0 0 0 (o kk).l)).length cap')).setCell ⟨w.heap.size + 1 + 1 + 1, kk * 4 + 1, none⟩ (.int .i64 Pp)).setCell ⟨w.heap.size + 1 + 1 + 1, kk * 4 + 2, none⟩ (.int .i64 Qq)).setCell ⟨w.heap.size + 1 + 1 + 1, kk * 4 + 3, none⟩ (.int .i64 Rr)) = x9 at *
              go_wp2
              go_roundw
              case rel => exact ⟨j, k + 1 + 1 + 1 + 1 + 1 + 1, V', _, _, by go_num, updn_pos HP.out (HP.out kk hk3), updn_sum hk3 (by omega), by omega, by omega, DZ.out⟩
              case measure => simp [intOf]
          · (try simp only [Act.put, List.getElem_toArray, List.getElem_cons_zero, List.getElem_cons_succ, List.setIfInBounds_toArray, List.set_cons_zero, List.set_cons_succ])
            go_simp
            (try simp only [])
            have CX2 : Hid (Cells3 (wd.alloc (.cells #[.int .i64 0, .int .i64 0, .int .i64 0, .bool false] 74)) gx 0 0 0) := c3_next CX.out (bel_alloc _ _) hxz
            have SY : Hid (SibAt (wd.alloc (.cells #[.int .i64 0, .int .i64 0, .int .i64 0, .bool false] 74)) wd.heap.size 0 ⟨0, 0, 0, false⟩) := by refine ⟨?_, ?_, ?_, ?_⟩ <;> go_simp
            have TY : Hid (There (wd.alloc (.cells #[.int .i64 0, .int .i64 0, .int .i64 0, .bool false] 74)) wd.heap.size 4) := by
              show There _ _ _
              intro j hj
              have hj' : j = 0 ∨ j = 1 ∨ j = 2 ∨ j = 3 := by omega
              rcases hj' with rfl | rfl | rfl | rfl <;> exact ⟨by go_simp, by go_simp⟩
            have HGY : Hid (∀ j, j < 3 → ∀ x, (o j).ao = some x → (o j).l ≠ [] → x.block ≠ wd.heap.size) := fun j hj x hx hl => Nat.ne_of_lt (row_ltS (DX.out.ro j hj).row x hx hl)
            have hyz : wd.heap.size < (wd.alloc (.cells #[.int .i64 0, .int .i64 0, .int .i64 0, .bool false] 74)).heap.size := by simp
            have hyx : wd.heap.size ≠ gx := Nat.ne_of_gt hxz
            have hyb : w.heap.size + 5 ≤ wd.heap.size := DX.out.size
            have hyg : wd.heap.size ≠ g := by omega
            have hxz2 : gx < (wd.alloc (.cells #[.int .i64 0, .int .i64 0, .int .i64 0, .bool false] 74)).heap.size := Nat.lt_of_lt_of_le hxz (bel_alloc _ _).size
            replace DX := qi_below DX (bel_alloc wd (.cells #[.int .i64 0, .int .i64 0, .int .i64 0, .bool false] 74))
            clear CX hxz
            have CX := CX2
            have hxz := hxz2
            clear CX2 hxz2
            refine hK.out _ _ ?_ (fun hHeld' => ?_)
            · (try dsimp only)
              exact (by simpa [updn] using DX.out.cn kk hk3)
            clear hK K hHeld
            have hHeld := hHeld'
            clear hHeld'
            (try simp only [Act.put, List.getElem_toArray, List.getElem_cons_zero, List.getElem_cons_succ, List.setIfInBounds_toArray, List.set_cons_zero, List.set_cons_succ])
            generalize (wd.alloc (.cells #[.int .i64 0, .int .i64 0, .int .i64 0, .bool false] 74)) = wa at *
            generalize wd.heap.size = gy at *
            refine wpAnyH_ready (rs := [6]) (by kernel_rfl) (by simp) ?_
            refine AllReadyH.cons rfl (fun K hK => ?_) AllReadyH.nil
            (try simp only [Act.put, List.getElem_toArray, List.getElem_cons_zero, List.getElem_cons_succ, List.setIfInBounds_toArray, List.set_cons_zero, List.set_cons_succ])
            obtain ⟨sq, hsq⟩ := DX.out.src
            go_simp
            go_at_call 54
            refine (next_any g len cap ao zs (k + 1 + 1 + 1 + 1) sq 20 (by omega) (by omega) _ hsq DX.out.row HN.out hl (by omega) (by omega)).mono ?_
            rintro e x1 ⟨vv, t1, ⟨b0, b1⟩, rfl, hS1, hG1⟩
            clear hsq
            have CX2 : Hid (Cells3 x1 gx 0 0 0) := ⟨grown_cell hG1 CX.out.1 hgg, grown_cell hG1 CX.out.2.1 hgg, grown_cell hG1 CX.out.2.2 hgg⟩
            have hxz2 := Nat.lt_of_lt_of_le hxz hG1.size
            have SY2 : Hid (SibAt x1 gy 0 ⟨0, 0, 0, false⟩) := ⟨grown_cell hG1 SY.out.1 hyg, grown_cell hG1 SY.out.2.1 hyg, grown_cell hG1 SY.out.2.2.1 hyg, grown_cell hG1 SY.out.2.2.2 hyg⟩
            have TY2 : Hid (There x1 gy 4) := TY.out.grown hG1 hyz hyg
            replace hyz := Nat.lt_of_lt_of_le hyz hG1.size
            clear SY TY
            have SY := SY2
            have TY := TY2
            clear SY2 TY2
            replace DX := qi_by DX hgw ⟨t1, hS1⟩ (row_grown DX.out.row HN.out hG1) hG1
            clear hS1 hG1
            clear CX hxz
            have CX := CX2
            have hxz := hxz2
            clear CX2 hxz2
            refine hK.out _ _ ?_ (fun hHeld' => ?_)
            · (try dsimp only)
              exact (by simpa [updn] using DX.out.cn kk hk3)
            clear hK K hHeld
            have hHeld := hHeld'
            clear hHeld'
            (try simp only [Act.put, List.getElem_toArray, List.getElem_cons_zero, List.getElem_cons_succ, List.setIfInBounds_toArray, List.set_cons_zero, List.set_cons_succ])
            refine wpAnyH_take (i := 7) (v := ?_) rfl (by kernel_rfl) (by kernel_rfl) (by kernel_rfl) (fun _ _ _ h => h) (Or.inl ⟨by rfl, ?_⟩) (by assumption) ?_
            rotate_left
            · intro w' hSw
              (try dsimp only at hSw)
              go_simp
              all_goals (try with_reducible rfl)
            (try simp only [Act.put, List.getElem_toArray, List.getElem_cons_zero, List.getElem_cons_succ, List.setIfInBounds_toArray, List.set_cons_zero, List.set_cons_succ])
            have DS : Hid (QI w ((((x1.setCell ⟨gy, 0, none⟩ (.int .i64 (kk : Int))).setCell ⟨gy, 1, none⟩ (.int .i64 (m kk + 1))).setCell ⟨gy, 2, none⟩ (.int .i64 vv)).setCell ⟨gy, 3, none⟩ (.bool false)) g ao len cap zs (k + 1 + 1 + 1 + 1 + 1) V m (updn m kk (m kk + 1)) o) := qi_other (qi_other (qi_other (qi_other DX hgw HOLD.out hyb HGY.out) hgw HOLD.out hyb HGY.out) hgw HOLD.out hyb HGY.out) hgw HOLD.out hyb HGY.out
            have CX2 : Hid (Cells3 ((((x1.setCell ⟨gy, 0, none⟩ (.int .i64 (kk : Int))).setCell ⟨gy, 1, none⟩ (.int .i64 (m kk + 1))).setCell ⟨gy, 2, none⟩ (.int .i64 vv)).setCell ⟨gy, 3, none⟩ (.bool false)) gx 0 0 0) := ⟨cell_set (cell_set (cell_set (cell_set CX.out.1 hyx.symm) hyx.symm) hyx.symm) hyx.symm, cell_set (cell_set (cell_set (cell_set CX.out.2.1 hyx.symm) hyx.symm) hyx.symm) hyx.symm, cell_set (cell_set (cell_set (cell_set CX.out.2.2 hyx.symm) hyx.symm) hyx.symm) hyx.symm⟩
            have SY2 : Hid (SibAt ((((x1.setCell ⟨gy, 0, none⟩ (.int .i64 (kk : Int))).setCell ⟨gy, 1, none⟩ (.int .i64 (m kk + 1))).setCell ⟨gy, 2, none⟩ (.int .i64 vv)).setCell ⟨gy, 3, none⟩ (.bool false)) gy 0 ⟨kk, m kk + 1, vv, false⟩) := ⟨cell_oth (cell_oth (cell_oth (cell_same SY.out.1) (by omega)) (by omega)) (by omega), cell_oth (cell_oth (cell_same (cell_oth SY.out.2.1 (by omega))) (by omega)) (by omega), cell_oth (cell_same (cell_oth (cell_oth SY.out.2.2.1 (by omega)) (by omega))) (by omega), cell_same (cell_oth (cell_oth (cell_oth SY.out.2.2.2 (by omega)) (by omega)) (by omega))⟩
            have TY2 : Hid (There ((((x1.setCell ⟨gy, 0, none⟩ (.int .i64 (kk : Int))).setCell ⟨gy, 1, none⟩ (.int .i64 (m kk + 1))).setCell ⟨gy, 2, none⟩ (.int .i64 vv)).setCell ⟨gy, 3, none⟩ (.bool false)) gy 4) := TY.out.set.set.set.set
            have hxz2 : gx < ((((x1.setCell ⟨gy, 0, none⟩ (.int .i64 (kk : Int))).setCell ⟨gy, 1, none⟩ (.int .i64 (m kk + 1))).setCell ⟨gy, 2, none⟩ (.int .i64 vv)).setCell ⟨gy, 3, none⟩ (.bool false)).heap.size := by simpa [World.setCell] using hxz
            have hyz2 : gy < ((((x1.setCell ⟨gy, 0, none⟩ (.int .i64 (kk : Int))).setCell ⟨gy, 1, none⟩ (.int .i64 (m kk + 1))).setCell ⟨gy, 2, none⟩ (.int .i64 vv)).setCell ⟨gy, 3, none⟩ (.bool false)).heap.size := by simpa [World.setCell] using hyz
            obtain ⟨a0, a1, a2, a3⟩ := SY.out
            have y0 := (TY.out 0 (by omega)).2
            have y1 := (TY.out 1 (by omega)).2
            have y2 := (TY.out 2 (by omega)).2
            have y3 := (TY.out 3 (by omega)).2
            simp only [Nat.zero_add] at a1 a2 a3
            refine wpAnyH_ready (rs := [9]) (by kernel_rfl) (by simp) ?_
            refine AllReadyH.cons rfl (fun K hK => ?_) AllReadyH.nil
            (try simp only [Act.put, List.getElem_toArray, List.getElem_cons_zero, List.getElem_cons_succ, List.setIfInBounds_toArray, List.set_cons_zero, List.set_cons_succ])
            go_simp
            (try simp only [])
            refine hK.out _ _ ?_ (fun hHeld' => ?_)
            · (try dsimp only)
              exact (by simpa [updn] using DS.out.cn kk hk3)
            clear hK K hHeld
            have hHeld := hHeld'
            clear hHeld'
            (try simp only [Act.put, List.getElem_toArray, List.getElem_cons_zero, List.getElem_cons_succ, List.setIfInBounds_toArray, List.set_cons_zero, List.set_cons_succ])
            refine wpAnyH_done (by kernel_rfl) ?_ _
            clear a0 a1 a2 a3 y0 y1 y2 y3 DX CX SY TY hHeld hxz hyz
            generalize ((((x1.setCell ⟨gy, 0, none⟩ (.int .i64 (kk : Int))).setCell ⟨gy, 1, none⟩ (.int .i64 (m kk + 1))).setCell ⟨gy, 2, none⟩ (.int .i64 vv)).setCell ⟨gy, 3, none⟩ (.bool false)) = x4 at *
            obtain ⟨sq, hsq⟩ := DS.out.src
            have CC : Hid _ := chance_any g len cap ao zs (k + 1 + 1 + 1 + 1 + 1) sq 5 (by omega) (by omega) x4 hsq DS.out.row HN.out hl (by omega) (by omega)
            clear hsq
            go_wp2_with fail
            refine Calls.mono CC.out ?_
            rintro e x5 ⟨b3, t1, rfl, hS1, hG1⟩
            clear CC
            have CX : Hid (Cells3 x5 gx 0 0 0) := ⟨grown_cell hG1 CX2.out.1 hgg, grown_cell hG1 CX2.out.2.1 hgg, grown_cell hG1 CX2.out.2.2 hgg⟩
            have SY : Hid (SibAt x5 gy 0 ⟨kk, m kk + 1, vv, false⟩) := ⟨grown_cell hG1 SY2.out.1 hyg, grown_cell hG1 SY2.out.2.1 hyg, grown_cell hG1 SY2.out.2.2.1 hyg, grown_cell hG1 SY2.out.2.2.2 hyg⟩
            have TY : Hid (There x5 gy 4) := TY2.out.grown hG1 hyz2 hyg
            have hxz := Nat.lt_of_lt_of_le hxz2 hG1.size
            have hyz := Nat.lt_of_lt_of_le hyz2 hG1.size
            replace DS := qi_by DS hgw ⟨t1, hS1⟩ (row_grown DS.out.row HN.out hG1) hG1
            clear hS1 hG1
            clear CX2 SY2 TY2 hxz2 hyz2
            cases b3 with
            | false =>
              go_wp2
              have DX := qi_below DS (bel_drew _)
              have hxl : gx ≠ w.heap.size + 1 + 1 + 1 := by omega
              have hyl : gy ≠ w.heap.size + 1 + 1 + 1 := by omega
              obtain ⟨Pp, hPp⟩ : ∃ Pp : Int, Pp = if (kk : Int) = 0 then m kk + 1 else max (o kk).a 0 := ⟨_, rfl⟩
              obtain ⟨Qq, hQq⟩ : ∃ Qq : Int, Qq = if (kk : Int) = 1 then m kk + 1 else max (o kk).b 0 := ⟨_, rfl⟩
              obtain ⟨Rr, hRr⟩ : ∃ Rr : Int, Rr = if (kk : Int) = 2 then m kk + 1 else max (o kk).c 0 := ⟨_, rfl⟩
              have CW : Hid (∀ W : World, SibRow W (o kk).ao (o kk).l → Calls Tryd.prog 58 #[.agg #[.slice (o kk).ao (o kk).l.length (o kk).cap, .int .i64 (o kk).a, .int .i64 (o kk).b, .int .i64 (o kk).c], .agg #[.int .i64 0, .int .i64 0, .int .i64 0], .agg #[.int .i64 (kk : Int), .int .i64 (m kk + 1), .int .i64 vv, .bool false]] W fun e w' => ∃ v, e = .returned (.agg #[v, .int .i64 Pp, .int .i64 Qq, .int .i64 Rr]) ∧ Gro W w' (.slice none 0 0) v ∧ w'.ownsRow 0 74 4 v (pt ⟨kk, m kk + 1, vv, false⟩ (fil 0 0 0 (o kk).l)).length (flat (pt ⟨kk, m kk + 1, vv, false⟩ (fil 0 0 0 (o kk).l)))) := fun W hW => by
                have hok := (DS.out.rp kk hk3).okP HM.out.1 HM.out.2.1 HM.out.2.2
                have hle := (DS.out.rp kk hk3).le
                have hps := (DS.out.rp kk hk3).pos
                refine l02write_any (o kk).cap (o kk).ao (o kk).l (o kk).a (o kk).b (o kk).c 0 0 0 Pp Qq Rr ⟨kk, m kk + 1, vv, false⟩ W (by have := hok.1; omega) (ok_nodes hok) hW (fun W' => ?_)
                refine add_any _ _ _ (kk : Int) (m kk + 1) Pp Qq Rr (by omega) (max_lt ⟨?_, ?_⟩ (by omega)) hPp hQq hRr W'
                · have := comp_mono (p := (kk : Int)) hle
                  rw [comp_at m kk hk3] at this
                  omega
                · have := comp_mono (p := (kk : Int)) HX.out
                  rw [comp_at m kk hk3] at this
                  omega
              obtain ⟨V', hV'⟩ : ∃ V' : Int → Int → Int × Bool, ∀ (p : Option Addr) (q : Nat), ∀ j, j < 3 → Rp V' (updn m kk (m kk + 1) 0) (updn m kk (m kk + 1) 1) (updn m kk (m kk + 1) 2) (upd o kk ⟨p, q, pt ⟨kk, m kk + 1, vv, false⟩ (fil 0 0 0 (o kk).l), Pp, Qq, Rr⟩ j).l (upd o kk ⟨p, q, pt ⟨kk, m kk + 1, vv, false⟩ (fil 0 0 0 (o kk).l), Pp, Qq, Rr⟩ j).a (upd o kk ⟨p, q, pt ⟨kk, m kk + 1, vv, false⟩ (fil 0 0 0 (o kk).l), Pp, Qq, Rr⟩ j).b (upd o kk ⟨p, q, pt ⟨kk, m kk + 1, vv, false⟩ (fil 0 0 0 (o kk).l), Pp, Qq, Rr⟩ j).c := by
                obtain ⟨V', h⟩ := rp_write DS.out.rp hk3 none 0 (v := vv) (d := false) HX.out ⟨HP.out 0 (by omega), HP.out 1 (by omega), HP.out 2 (by omega)⟩ (by omega) (by omega) (by simp) hPp hQq hRr
                refine ⟨V', fun p q j hj => ?_⟩
                have h1 := h j hj
                by_cases e : j = kk
                · subst e
                  rw [upd_same] at h1 ⊢
                  exact h1
                · rw [upd_other _ _ e] at h1 ⊢
                  exact h1
              have HV : Hid _ := hV'
              clear hV' hPp hQq hRr
              refine wp_region_held_drew (S := (fun w' => (w'.cell? ⟨gx, 0, none⟩ = some (.int .i64 0) ∧ w'.cell? ⟨gx, 1, none⟩ = some (.int .i64 0) ∧ w'.cell? ⟨gx, 2, none⟩ = some (.int .i64 0)) ∧ w'.cell? ⟨gy, 0, none⟩ = some (.int .i64 (kk : Int)) ∧ w'.cell? ⟨gy, 1, none⟩ = some (.int .i64 (m kk + 1)) ∧ w'.cell? ⟨gy, 2, none⟩ = some (.int .i64 vv) ∧ w'.cell? ⟨gy, 3, none⟩ = some (.bool false))) (by kernel_rfl) ⟨⟨CX.out.1, CX.out.2.1, CX.out.2.2⟩, SY.out.1, by simpa using SY.out.2.1, by simpa using SY.out.2.2.1, by simpa using SY.out.2.2.2⟩ (fun hHeld => ?_)
              clear DS CX SY
              refine wpAnyH_take (i := 0) (v := ?_) rfl (by kernel_rfl) (by kernel_rfl) (by kernel_rfl) (fun _ _ _ h => h) (Or.inl ⟨by rfl, ?_⟩) (by assumption) ?_
              rotate_left
              · intro w' hSw
                (try dsimp only at hSw)
                go_simp
                all_goals (try with_reducible rfl)
              (try simp only [Act.put, List.getElem_toArray, List.getElem_cons_zero, List.getElem_cons_succ, List.setIfInBounds_toArray, List.set_cons_zero, List.set_cons_succ])
              refine wpAnyH_take (i := 1) (v := ?_) rfl (by kernel_rfl) (by kernel_rfl) (by kernel_rfl) (fun _ _ _ h => h) (Or.inl ⟨by rfl, ?_⟩) (by assumption) ?_
              rotate_left
              · intro w' hSw
                (try dsimp only at hSw)
                go_simp
                all_goals (try with_reducible rfl)
              (try simp only [Act.put, List.getElem_toArray, List.getElem_cons_zero, List.getElem_cons_succ, List.setIfInBounds_toArray, List.set_cons_zero, List.set_cons_succ])
              refine wpAnyH_take (i := 2) (v := ?_) rfl (by kernel_rfl) (by kernel_rfl) (by kernel_rfl) (fun _ _ _ h => h) (Or.inl ⟨by rfl, ?_⟩) (by assumption) ?_
              rotate_left
              · intro w' hSw
                (try dsimp only at hSw)
                go_simp
                all_goals (try with_reducible rfl)
              (try simp only [Act.put, List.getElem_toArray, List.getElem_cons_zero, List.getElem_cons_succ, List.setIfInBounds_toArray, List.set_cons_zero, List.set_cons_succ])
              refine wpAnyH_take (i := 3) (v := ?_) rfl (by kernel_rfl) (by kernel_rfl) (by kernel_rfl) (fun _ _ _ h => h) (Or.inl ⟨by rfl, ?_⟩) (by assumption) ?_
              rotate_left
              · intro w' hSw
                (try dsimp only at hSw)
                go_simp
                all_goals (try with_reducible rfl)
              (try simp only [Act.put, List.getElem_toArray, List.getElem_cons_zero, List.getElem_cons_succ, List.setIfInBounds_toArray, List.set_cons_zero, List.set_cons_succ])
              refine wpAnyH_take (i := 4) (v := ?_) rfl (by kernel_rfl) (by kernel_rfl) (by kernel_rfl) (fun _ _ _ h => h) (Or.inl ⟨by rfl, ?_⟩) (by assumption) ?_
              rotate_left
              · intro w' hSw
                (try dsimp only at hSw)
                go_simp
                all_goals (try with_reducible rfl)
              (try simp only [Act.put, List.getElem_toArray, List.getElem_cons_zero, List.getElem_cons_succ, List.setIfInBounds_toArray, List.set_cons_zero, List.set_cons_succ])
              refine wpAnyH_take (i := 6) (v := ?_) rfl (by kernel_rfl) (by kernel_rfl) (by kernel_rfl) (fun _ _ _ h => h) (Or.inl ⟨by rfl, ?_⟩) (by assumption) ?_
              rotate_left
              · intro w' hSw
                (try dsimp only at hSw)
                go_simp
                all_goals (try with_reducible rfl)
              (try simp only [Act.put, List.getElem_toArray, List.getElem_cons_zero, List.getElem_cons_succ, List.setIfInBounds_toArray, List.set_cons_zero, List.set_cons_succ])
              refine wpAnyH_take (i := 7) (v := ?_) rfl (by kernel_rfl) (by kernel_rfl) (by kernel_rfl) (fun _ _ _ h => h) (Or.inl ⟨by rfl, ?_⟩) (by assumption) ?_
              rotate_left
              · intro w' hSw
                (try dsimp only at hSw)
                go_simp
                all_goals (try with_reducible rfl)
              (try simp only [Act.put, List.getElem_toArray, List.getElem_cons_zero, List.getElem_cons_succ, List.setIfInBounds_toArray, List.set_cons_zero, List.set_cons_succ])
              generalize x5.drew = wd at *
              obtain ⟨e0, e1, e2, e3⟩ := DX.out.ob kk hk3
              refine wpAnyH_ready (rs := [5]) (by kernel_rfl) (by simp) ?_
              refine AllReadyH.cons rfl (fun K hK => ?_) AllReadyH.nil
              (try simp only [Act.put, List.getElem_toArray, List.getElem_cons_zero, List.getElem_cons_succ, List.setIfInBounds_toArray, List.set_cons_zero, List.set_cons_succ])
              go_simp
              (try simp only [])
              refine hK.out _ _ ?_ (fun hHeld' => ?_)
              · (try dsimp only)
                exact hHeld
              clear hK K hHeld
              have hHeld := hHeld'
              clear hHeld'
              (try simp only [Act.put, List.getElem_toArray, List.getElem_cons_zero, List.getElem_cons_succ, List.setIfInBounds_toArray, List.set_cons_zero, List.set_cons_succ])
              clear e0 e1 e2 e3
              refine wpAnyH_ready (rs := [8]) (by kernel_rfl) (by simp) ?_
              refine AllReadyH.cons rfl (fun K hK => ?_) AllReadyH.nil
              (try simp only [Act.put, List.getElem_toArray, List.getElem_cons_zero, List.getElem_cons_succ, List.setIfInBounds_toArray, List.set_cons_zero, List.set_cons_succ])
              go_simp
              go_at_call 58
              refine Calls.mono (CW.out _ (DX.out.ro kk hk3).row) ?_
              rintro e x8 ⟨v, rfl, hG, hO⟩
              have hsz2 := DX.out.size
              obtain ⟨ao', cap', rfl, hro⟩ := rowO_own (g := g) (p := w.heap.size + 1 + 1 + 1) (q := w.heap.size + 1 + 1 + 1 + 1) (a := Pp) (b := Qq) (c := Rr) hG hO (by omega) (by omega) (by omega)
              replace DX := qi_below DX (gbl hG)
              have RO : Hid (RowO x8 g (w.heap.size + 1 + 1 + 1) (w.heap.size + 1 + 1 + 1 + 1) _) := hro
              have hb8 := (gbl hG)
              clear hG hO hro hsz2
              refine hK.out _ _ ?_ (fun hHeld' => ?_)
              · (try dsimp only)
                exact ⟨⟨cell_next hb8 hHeld.1.1 (cell_lt hHeld.1.1), cell_next hb8 hHeld.1.2.1 (cell_lt hHeld.1.2.1), cell_next hb8 hHeld.1.2.2 (cell_lt hHeld.1.2.2)⟩, cell_next hb8 hHeld.2.1 (cell_lt hHeld.2.1), cell_next hb8 hHeld.2.2.1 (cell_lt hHeld.2.2.1), cell_next hb8 hHeld.2.2.2.1 (cell_lt hHeld.2.2.2.1), cell_next hb8 hHeld.2.2.2.2 (cell_lt hHeld.2.2.2.2)⟩
              clear hK K hHeld
              have hHeld := hHeld'
              clear hHeld'
              (try simp only [Act.put, List.getElem_toArray, List.getElem_cons_zero, List.getElem_cons_succ, List.setIfInBounds_toArray, List.set_cons_zero, List.set_cons_succ])
              clear hb8
              refine wpAnyH_take (i := 9) (v := ?_) rfl (by kernel_rfl) (by kernel_rfl) (by kernel_rfl) (fun _ _ _ h => h) (Or.inl ⟨by rfl, ?_⟩) (by assumption) ?_
              rotate_left
              · intro w' hSw
                (try dsimp only at hSw)
                go_simp
                all_goals (try with_reducible rfl)
              (try simp only [Act.put, List.getElem_toArray, List.getElem_cons_zero, List.getElem_cons_succ, List.setIfInBounds_toArray, List.set_cons_zero, List.set_cons_succ])
              have DZ : Hid (QI w ((((x8.setCell ⟨w.heap.size + 1 + 1 + 1, kk * 4, none⟩ (.slice ao' (pt ⟨kk, m kk + 1, vv, false⟩ (fil 0 0 0 (o kk).l)).length cap')).setCell ⟨w.heap.size + 1 + 1 + 1, kk * 4 + 1, none⟩ (.int .i64 Pp)).setCell ⟨w.heap.size + 1 + 1 + 1, kk * 4 + 2, none⟩ (.int .i64 Qq)).setCell ⟨w.heap.size + 1 + 1 + 1, kk * 4 + 3, none⟩ (.int .i64 Rr)) g ao len cap zs (k + 1 + 1 + 1 + 1 + 1 + 1) V' (updn m kk (m kk + 1)) (updn m kk (m kk + 1)) (upd o kk ⟨ao', cap', pt ⟨kk, m kk + 1, vv, false⟩ (fil 0 0 0 (o kk).l), Pp, Qq, Rr⟩)) := DX.out.store hgw HOLD.out ⟨ao', cap', pt ⟨kk, m kk + 1, vv, false⟩ (fil 0 0 0 (o kk).l), Pp, Qq, Rr⟩ hk3 RO.out (HV.out ao' cap')
              obtain ⟨u0, T0⟩ := Option.isSome_iff_exists.1 (DX.out.th (kk * 4) (by omega)).1
              have Z0 := (DX.out.th (kk * 4) (by omega)).2
              obtain ⟨u1, T1⟩ := Option.isSome_iff_exists.1 (DX.out.th (kk * 4 + 1) (by omega)).1
              have Z1 := (DX.out.th (kk * 4 + 1) (by omega)).2
              obtain ⟨u2, T2⟩ := Option.isSome_iff_exists.1 (DX.out.th (kk * 4 + 2) (by omega)).1
              have Z2 := (DX.out.th (kk * 4 + 2) (by omega)).2
              obtain ⟨u3, T3⟩ := Option.isSome_iff_exists.1 (DX.out.th (kk * 4 + 3) (by omega)).1
              have Z3 := (DX.out.th (kk * 4 + 3) (by omega)).2
              refine wpAnyH_ready (rs := [10]) (by kernel_rfl) (by simp) ?_
              refine AllReadyH.cons rfl (fun K hK => ?_) AllReadyH.nil
              (try simp only [Act.put, List.getElem_toArray, List.getElem_cons_zero, List.getElem_cons_succ, List.setIfInBounds_toArray, List.set_cons_zero, List.set_cons_succ])
              go_simp
              (try simp only [])
              refine hK.out _ _ ?_ (fun hHeld' => ?_)
              · (try dsimp only)
                exact ⟨⟨cell_set (cell_set (cell_set (cell_set hHeld.1.1 hxl) hxl) hxl) hxl, cell_set (cell_set (cell_set (cell_set hHeld.1.2.1 hxl) hxl) hxl) hxl, cell_set (cell_set (cell_set (cell_set hHeld.1.2.2 hxl) hxl) hxl) hxl⟩, cell_set (cell_set (cell_set (cell_set hHeld.2.1 hyl) hyl) hyl) hyl, cell_set (cell_set (cell_set (cell_set hHeld.2.2.1 hyl) hyl) hyl) hyl, cell_set (cell_set (cell_set (cell_set hHeld.2.2.2.1 hyl) hyl) hyl) hyl, cell_set (cell_set (cell_set (cell_set hHeld.2.2.2.2 hyl) hyl) hyl) hyl⟩
              clear hK K hHeld
              have hHeld := hHeld'
              clear hHeld'
              (try simp only [Act.put, List.getElem_toArray, List.getElem_cons_zero, List.getElem_cons_succ, List.setIfInBounds_toArray, List.set_cons_zero, List.set_cons_succ])
              refine wpAnyH_done (by kernel_rfl) ?_ _
              clear T0 Z0 T1 Z1 T2 Z2 T3 Z3 DX RO hHeld CW HV
              generalize ((((x8.setCell ⟨w.heap.size + 1 + 1 + 1, kk * 4, none⟩ (.slice ao' (pt ⟨kk, m kk + 1, vv, false⟩ (fil 0 0 0 (o kk).l)).length cap')).setCell ⟨w.heap.size + 1 + 1 + 1, kk * 4 + 1, none⟩ (.int .i64 Pp)).setCell ⟨w.heap.size + 1 + 1 + 1, kk * 4 + 2, none⟩ (.int .i64 Qq)).setCell ⟨w.heap.size + 1 + 1 + 1, kk * 4 + 3, none⟩ (.int .i64 Rr)) = x9 at *
              go_wp2
              go_roundw
              case rel => exact ⟨j, k + 1 + 1 + 1 + 1 + 1 + 1, V', _, _, by go_num, updn_pos HP.out (HP.out kk hk3), updn_sum hk3 (by omega), by omega, by omega, DZ.out⟩
              case measure => simp [intOf]
            | true =>
              have W5 : Hid (QI w ((x5.setCell ⟨gy, 3, none⟩ (.bool true)).setCell ⟨gy, 2, none⟩ (.int .i64 0)) g ao len cap zs (k + 1 + 1 + 1 + 1 + 1 + 1) V m (updn m kk (m kk + 1)) o) := qi_other (qi_other DS hgw HOLD.out hyb HGY.out) hgw HOLD.out hyb HGY.out
              have CX2 : Hid (Cells3 ((x5.setCell ⟨gy, 3, none⟩ (.bool true)).setCell ⟨gy, 2, none⟩ (.int .i64 0)) gx 0 0 0) := ⟨cell_set (cell_set CX.out.1 hyx.symm) hyx.symm, cell_set (cell_set CX.out.2.1 hyx.symm) hyx.symm, cell_set (cell_set CX.out.2.2 hyx.symm) hyx.symm⟩
              have SY2 : Hid (SibAt ((x5.setCell ⟨gy, 3, none⟩ (.bool true)).setCell ⟨gy, 2, none⟩ (.int .i64 0)) gy 0 ⟨kk, m kk + 1, 0, true⟩) := ⟨cell_oth (cell_oth SY.out.1 (by omega)) (by omega), cell_oth (cell_oth SY.out.2.1 (by omega)) (by omega), cell_same (cell_oth SY.out.2.2.1 (by omega)), cell_oth (cell_same SY.out.2.2.2) (by omega)⟩
              have hxz2 : gx < ((x5.setCell ⟨gy, 3, none⟩ (.bool true)).setCell ⟨gy, 2, none⟩ (.int .i64 0)).heap.size := by simpa [World.setCell] using hxz
              obtain ⟨a0, a1, a2, a3⟩ := SY.out
              simp only [Nat.zero_add] at a1 a2 a3
              have y2 := (TY.out 2 (by omega)).2
              have y3 := (TY.out 3 (by omega)).2
              clear DS CX SY TY hxz
              go_wp2
              clear a0 a1 a2 a3 y2 y3
              generalize ((x5.setCell ⟨gy, 3, none⟩ (.bool true)).setCell ⟨gy, 2, none⟩ (.int .i64 0)) = x6 at *
              have DS := W5
              have CX := CX2
              have SY := SY2
              have hxz := hxz2
              clear W5 CX2 SY2 hxz2
              have DX := qi_below DS (bel_drew _)
              have hxl : gx ≠ w.heap.size + 1 + 1 + 1 := by omega
              have hyl : gy ≠ w.heap.size + 1 + 1 + 1 := by omega
              obtain ⟨Pp, hPp⟩ : ∃ Pp : Int, Pp = if (kk : Int) = 0 then m kk + 1 else max (o kk).a 0 := ⟨_, rfl⟩
              obtain ⟨Qq, hQq⟩ : ∃ Qq : Int, Qq = if (kk : Int) = 1 then m kk + 1 else max (o kk).b 0 := ⟨_, rfl⟩
              obtain ⟨Rr, hRr⟩ : ∃ Rr : Int, Rr = if (kk : Int) = 2 then m kk + 1 else max (o kk).c 0 := ⟨_, rfl⟩
              have CW : Hid (∀ W : World, SibRow W (o kk).ao (o kk).l → Calls Tryd.prog 58 #[.agg #[.slice (o kk).ao (o kk).l.length (o kk).cap, .int .i64 (o kk).a, .int .i64 (o kk).b, .int .i64 (o kk).c], .agg #[.int .i64 0, .int .i64 0, .int .i64 0], .agg #[.int .i64 (kk : Int), .int .i64 (m kk + 1), .int .i64 0, .bool true]] W fun e w' => ∃ v, e = .returned (.agg #[v, .int .i64 Pp, .int .i64 Qq, .int .i64 Rr]) ∧ Gro W w' (.slice none 0 0) v ∧ w'.ownsRow 0 74 4 v (pt ⟨kk, m kk + 1, 0, true⟩ (fil 0 0 0 (o kk).l)).length (flat (pt ⟨kk, m kk + 1, 0, true⟩ (fil 0 0 0 (o kk).l)))) := fun W hW => by
                have hok := (DS.out.rp kk hk3).okP HM.out.1 HM.out.2.1 HM.out.2.2
                have hle := (DS.out.rp kk hk3).le
                have hps := (DS.out.rp kk hk3).pos
                refine l02write_any (o kk).cap (o kk).ao (o kk).l (o kk).a (o kk).b (o kk).c 0 0 0 Pp Qq Rr ⟨kk, m kk + 1, 0, true⟩ W (by have := hok.1; omega) (ok_nodes hok) hW (fun W' => ?_)
                refine add_any _ _ _ (kk : Int) (m kk + 1) Pp Qq Rr (by omega) (max_lt ⟨?_, ?_⟩ (by omega)) hPp hQq hRr W'
                · have := comp_mono (p := (kk : Int)) hle
                  rw [comp_at m kk hk3] at this
                  omega
                · have := comp_mono (p := (kk : Int)) HX.out
                  rw [comp_at m kk hk3] at this
                  omega
              obtain ⟨V', hV'⟩ : ∃ V' : Int → Int → Int × Bool, ∀ (p : Option Addr) (q : Nat), ∀ j, j < 3 → Rp V' (updn m kk (m kk + 1) 0) (updn m kk (m kk + 1) 1) (updn m kk (m kk + 1) 2) (upd o kk ⟨p, q, pt ⟨kk, m kk + 1, 0, true⟩ (fil 0 0 0 (o kk).l), Pp, Qq, Rr⟩ j).l (upd o kk ⟨p, q, pt ⟨kk, m kk + 1, 0, true⟩ (fil 0 0 0 (o kk).l), Pp, Qq, Rr⟩ j).a (upd o kk ⟨p, q, pt ⟨kk, m kk + 1, 0, true⟩ (fil 0 0 0 (o kk).l), Pp, Qq, Rr⟩ j).b (upd o kk ⟨p, q, pt ⟨kk, m kk + 1, 0, true⟩ (fil 0 0 0 (o kk).l), Pp, Qq, Rr⟩ j).c := by
                obtain ⟨V', h⟩ := rp_write DS.out.rp hk3 none 0 (v := 0) (d := true) HX.out ⟨HP.out 0 (by omega), HP.out 1 (by omega), HP.out 2 (by omega)⟩ (by omega) (by omega) (by simp) hPp hQq hRr
                refine ⟨V', fun p q j hj => ?_⟩
                have h1 := h j hj
                by_cases e : j = kk
                · subst e
                  rw [upd_same] at h1 ⊢
                  exact h1
                · rw [upd_other _ _ e] at h1 ⊢
                  exact h1
              have HV : Hid _ := hV'
              clear hV' hPp hQq hRr
              refine wp_region_held_drew (S := (fun w' => (w'.cell? ⟨gx, 0, none⟩ = some (.int .i64 0) ∧ w'.cell? ⟨gx, 1, none⟩ = some (.int .i64 0) ∧ w'.cell? ⟨gx, 2, none⟩ = some (.int .i64 0)) ∧ w'.cell? ⟨gy, 0, none⟩ = some (.int .i64 (kk : Int)) ∧ w'.cell? ⟨gy, 1, none⟩ = some (.int .i64 (m kk + 1)) ∧ w'.cell? ⟨gy, 2, none⟩ = some (.int .i64 0) ∧ w'.cell? ⟨gy, 3, none⟩ = some (.bool true))) (by kernel_rfl) ⟨⟨CX.out.1, CX.out.2.1, CX.out.2.2⟩, SY.out.1, by simpa using SY.out.2.1, by simpa using SY.out.2.2.1, by simpa using SY.out.2.2.2⟩ (fun hHeld => ?_)
              clear DS CX SY
              refine wpAnyH_take (i := 0) (v := ?_) rfl (by kernel_rfl) (by kernel_rfl) (by kernel_rfl) (fun _ _ _ h => h) (Or.inl ⟨by rfl, ?_⟩) (by assumption) ?_
              rotate_left
              · intro w' hSw
                (try dsimp only at hSw)
                go_simp
                all_goals (try with_reducible rfl)
              (try simp only [Act.put, List.getElem_toArray, List.getElem_cons_zero, List.getElem_cons_succ, List.setIfInBounds_toArray, List.set_cons_zero, List.set_cons_succ])
              refine wpAnyH_take (i := 1) (v := ?_) rfl (by kernel_rfl) (by kernel_rfl) (by kernel_rfl) (fun _ _ _ h => h) (Or.inl ⟨by rfl, ?_⟩) (by assumption) ?_
              rotate_left
              · intro w' hSw
                (try dsimp only at hSw)
                go_simp
                all_goals (try with_reducible rfl)
              (try simp only [Act.put, List.getElem_toArray, List.getElem_cons_zero, List.getElem_cons_succ, List.setIfInBounds_toArray, List.set_cons_zero, List.set_cons_succ])
              refine wpAnyH_take (i := 2) (v := ?_) rfl (by kernel_rfl) (by kernel_rfl) (by kernel_rfl) (fun _ _ _ h => h) (Or.inl ⟨by rfl, ?_⟩) (by assumption) ?_
              rotate_left
              · intro w' hSw
                (try dsimp only at hSw)
                go_simp
                all_goals (try with_reducible rfl)
              (try simp only [Act.put, List.getElem_toArray, List.getElem_cons_zero, List.getElem_cons_succ, List.setIfInBounds_toArray, List.set_cons_zero, List.set_cons_succ])
              refine wpAnyH_take (i := 3) (v := ?_) rfl (by kernel_rfl) (by kernel_rfl) (by kernel_rfl) (fun _ _ _ h => h) (Or.inl ⟨by rfl, ?_⟩) (by assumption) ?_
              rotate_left
              · intro w' hSw
                (try dsimp only at hSw)
                go_simp
                all_goals (try with_reducible rfl)
              (try simp only [Act.put, List.getElem_toArray, List.getElem_cons_zero, List.getElem_cons_succ, List.setIfInBounds_toArray, List.set_cons_zero, List.set_cons_succ])
              refine wpAnyH_take (i := 4) (v := ?_) rfl (by kernel_rfl) (by kernel_rfl) (by kernel_rfl) (fun _ _ _ h => h) (Or.inl ⟨by rfl, ?_⟩) (by assumption) ?_
              rotate_left
              · intro w' hSw
                (try dsimp only at hSw)
                go_simp
                all_goals (try with_reducible rfl)
              (try simp only [Act.put, List.getElem_toArray, List.getElem_cons_zero, List.getElem_cons_succ, List.setIfInBounds_toArray, List.set_cons_zero, List.set_cons_succ])
              refine wpAnyH_take (i := 6) (v := ?_) rfl (by kernel_rfl) (by kernel_rfl) (by kernel_rfl) (fun _ _ _ h => h) (Or.inl ⟨by rfl, ?_⟩) (by assumption) ?_
              rotate_left
              · intro w' hSw
                (try dsimp only at hSw)
                go_simp
                all_goals (try with_reducible rfl)
              (try simp only [Act.put, List.getElem_toArray, List.getElem_cons_zero, List.getElem_cons_succ, List.setIfInBounds_toArray, List.set_cons_zero, List.set_cons_succ])
              refine wpAnyH_take (i := 7) (v := ?_) rfl (by kernel_rfl) (by kernel_rfl) (by kernel_rfl) (fun _ _ _ h => h) (Or.inl ⟨by rfl, ?_⟩) (by assumption) ?_
              rotate_left
              · intro w' hSw
                (try dsimp only at hSw)
                go_simp
                all_goals (try with_reducible rfl)
              (try simp only [Act.put, List.getElem_toArray, List.getElem_cons_zero, List.getElem_cons_succ, List.setIfInBounds_toArray, List.set_cons_zero, List.set_cons_succ])
              generalize x6.drew = wd at *
              obtain ⟨e0, e1, e2, e3⟩ := DX.out.ob kk hk3
              refine wpAnyH_ready (rs := [5]) (by kernel_rfl) (by simp) ?_
              refine AllReadyH.cons rfl (fun K hK => ?_) AllReadyH.nil
              (try simp only [Act.put, List.getElem_toArray, List.getElem_cons_zero, List.getElem_cons_succ, List.setIfInBounds_toArray, List.set_cons_zero, List.set_cons_succ])
              go_simp
              (try simp only [])
              refine hK.out _ _ ?_ (fun hHeld' => ?_)
              · (try dsimp only)
                exact hHeld
              clear hK K hHeld
              have hHeld := hHeld'
              clear hHeld'
              (try simp only [Act.put, List.getElem_toArray, List.getElem_cons_zero, List.getElem_cons_succ, List.setIfInBounds_toArray, List.set_cons_zero, List.set_cons_succ])
              clear e0 e1 e2 e3
              refine wpAnyH_ready (rs := [8]) (by kernel_rfl) (by simp) ?_
              refine AllReadyH.cons rfl (fun K hK => ?_) AllReadyH.nil
              (try simp only [Act.put, List.getElem_toArray, List.getElem_cons_zero, List.getElem_cons_succ, List.setIfInBounds_toArray, List.set_cons_zero, List.set_cons_succ])
              go_simp
              go_at_call 58
              refine Calls.mono (CW.out _ (DX.out.ro kk hk3).row) ?_
              rintro e x8 ⟨v, rfl, hG, hO⟩
              have hsz2 := DX.out.size
              obtain ⟨ao', cap', rfl, hro⟩ := rowO_own (g := g) (p := w.heap.size + 1 + 1 + 1) (q := w.heap.size + 1 + 1 + 1 + 1) (a := Pp) (b := Qq) (c := Rr) hG hO (by omega) (by omega) (by omega)
              replace DX := qi_below DX (gbl hG)
              have RO : Hid (RowO x8 g (w.heap.size + 1 + 1 + 1) (w.heap.size + 1 + 1 + 1 + 1) _) := hro
              have hb8 := (gbl hG)
              clear hG hO hro hsz2
              refine hK.out _ _ ?_ (fun hHeld' => ?_)
              · (try dsimp only)
                exact ⟨⟨cell_next hb8 hHeld.1.1 (cell_lt hHeld.1.1), cell_next hb8 hHeld.1.2.1 (cell_lt hHeld.1.2.1), cell_next hb8 hHeld.1.2.2 (cell_lt hHeld.1.2.2)⟩, cell_next hb8 hHeld.2.1 (cell_lt hHeld.2.1), cell_next hb8 hHeld.2.2.1 (cell_lt hHeld.2.2.1), cell_next hb8 hHeld.2.2.2.1 (cell_lt hHeld.2.2.2.1), cell_next hb8 hHeld.2.2.2.2 (cell_lt hHeld.2.2.2.2)⟩
              clear hK K hHeld
              have hHeld := hHeld'
              clear hHeld'
              (try simp only [Act.put, List.getElem_toArray, List.getElem_cons_zero, List.getElem_cons_succ, List.setIfInBounds_toArray, List.set_cons_zero, List.set_cons_succ])
              clear hb8
              refine wpAnyH_take (i := 9) (v := ?_) rfl (by kernel_rfl) (by kernel_rfl) (by kernel_rfl) (fun _ _ _ h => h) (Or.inl ⟨by rfl, ?_⟩) (by assumption) ?_
              rotate_left
              · intro w' hSw
                (try dsimp only at hSw)
                go_simp
                all_goals (try with_reducible rfl)
              (try simp only [Act.put, List.getElem_toArray, List.getElem_cons_zero, List.getElem_cons_succ, List.setIfInBounds_toArray, List.set_cons_zero, List.set_cons_succ])
              have DZ : Hid (QI w ((((x8.setCell ⟨w.heap.size + 1 + 1 + 1, kk * 4, none⟩ (.slice ao' (pt ⟨kk, m kk + 1, 0, true⟩ (fil 0 0 0 (o kk).l)).length cap')).setCell ⟨w.heap.size + 1 + 1 + 1, kk * 4 + 1, none⟩ (.int .i64 Pp)).setCell ⟨w.heap.size + 1 + 1 + 1, kk * 4 + 2, none⟩ (.int .i64 Qq)).setCell ⟨w.heap.size + 1 + 1 + 1, kk * 4 + 3, none⟩ (.int .i64 Rr)) g ao len cap zs (k + 1 + 1 + 1 + 1 + 1 + 1) V' (updn m kk (m kk + 1)) (updn m kk (m kk + 1)) (upd o kk ⟨ao', cap', pt ⟨kk, m kk + 1, 0, true⟩ (fil 0 0 0 (o kk).l), Pp, Qq, Rr⟩)) := DX.out.store hgw HOLD.out ⟨ao', cap', pt ⟨kk, m kk + 1, 0, true⟩ (fil 0 0 0 (o kk).l), Pp, Qq, Rr⟩ hk3 RO.out (HV.out ao' cap')
              obtain ⟨u0, T0⟩ := Option.isSome_iff_exists.1 (DX.out.th (kk * 4) (by omega)).1
              have Z0 := (DX.out.th (kk * 4) (by omega)).2
              obtain ⟨u1, T1⟩ := Option.isSome_iff_exists.1 (DX.out.th (kk * 4 + 1) (by omega)).1
              have Z1 := (DX.out.th (kk * 4 + 1) (by omega)).2
              obtain ⟨u2, T2⟩ := Option.isSome_iff_exists.1 (DX.out.th (kk * 4 + 2) (by omega)).1
              have Z2 := (DX.out.th (kk * 4 + 2) (by omega)).2
              obtain ⟨u3, T3⟩ := Option.isSome_iff_exists.1 (DX.out.th (kk * 4 + 3) (by omega)).1
              have Z3 := (DX.out.th (kk * 4 + 3) (by omega)).2
              refine wpAnyH_ready (rs := [10]) (by kernel_rfl) (by simp) ?_
              refine AllReadyH.cons rfl (fun K hK => ?_) AllReadyH.nil
              (try simp only [Act.put, List.getElem_toArray, List.getElem_cons_zero, List.getElem_cons_succ, List.setIfInBounds_toArray, List.set_cons_zero, List.set_cons_succ])
              go_simp
              (try simp only [])
              refine hK.out _ _ ?_ (fun hHeld' => ?_)
              · (try dsimp only)
                exact ⟨⟨cell_set (cell_set (cell_set (cell_set hHeld.1.1 hxl) hxl) hxl) hxl, cell_set (cell_set (cell_set (cell_set hHeld.1.2.1 hxl) hxl) hxl) hxl, cell_set (cell_set (cell_set (cell_set hHeld.1.2.2 hxl) hxl) hxl) hxl⟩, cell_set (cell_set (cell_set (cell_set hHeld.2.1 hyl) hyl) hyl) hyl, cell_set (cell_set (cell_set (cell_set hHeld.2.2.1 hyl) hyl) hyl) hyl, cell_set (cell_set (cell_set (cell_set hHeld.2.2.2.1 hyl) hyl) hyl) hyl, cell_set (cell_set (cell_set (cell_set hHeld.2.2.2.2 hyl) hyl) hyl) hyl⟩
              clear hK K hHeld
              have hHeld := hHeld'
              clear hHeld'
              (try simp only [Act.put, List.getElem_toArray, List.getElem_cons_zero, List.getElem_cons_succ, List.setIfInBounds_toArray, List.set_cons_zero, List.set_cons_succ])
              refine wpAnyH_done (by kernel_rfl) ?_ _
              clear T0 Z0 T1 Z1 T2 Z2 T3 Z3 DX RO hHeld CW HV
              generalize ((((x8.setCell ⟨w.heap.size + 1 + 1 + 1, kk * 4, none⟩ (.slice ao' (pt ⟨kk, m kk + 1, 0, true⟩ (fil 0 0 0 (o kk).l)).length cap')).setCell ⟨w.heap.size + 1 + 1 + 1, kk * 4 + 1, none⟩ (.int .i64 Pp)).setCell ⟨w.heap.size + 1 + 1 + 1, kk * 4 + 2, none⟩ (.int .i64 Qq)).setCell ⟨w.heap.size + 1 + 1 + 1, kk * 4 + 3, none⟩ (.int .i64 Rr)) = x9 at *
              go_wp2
              go_roundw
              case rel => exact ⟨j, k + 1 + 1 + 1 + 1 + 1 + 1, V', _, _, by go_num, updn_pos HP.out (HP.out kk hk3), updn_sum hk3 (by omega), by omega, by omega, DZ.out⟩
              case measure => simp [intOf]
    · have hi' : ¬ (0 : Int) < (i : Int) := by omega
      go_wp2
      refine wp_region_held_drew (S := (fun w' => w'.cell? ⟨w.heap.size + 1 + 1 + 1, 0, none⟩ = some (.slice (o 0).ao (o 0).l.length (o 0).cap) ∧ w'.cell? ⟨w.heap.size + 1 + 1 + 1, 1, none⟩ = some (.int .i64 (o 0).a) ∧ w'.cell? ⟨w.heap.size + 1 + 1 + 1, 2, none⟩ = some (.int .i64 (o 0).b) ∧ w'.cell? ⟨w.heap.size + 1 + 1 + 1, 3, none⟩ = some (.int .i64 (o 0).c) ∧ w'.cell? ⟨w.heap.size + 1 + 1 + 1, 4, none⟩ = some (.slice (o 1).ao (o 1).l.length (o 1).cap) ∧ w'.cell? ⟨w.heap.size + 1 + 1 + 1, 5, none⟩ = some (.int .i64 (o 1).a) ∧ w'.cell? ⟨w.heap.size + 1 + 1 + 1, 6, none⟩ = some (.int .i64 (o 1).b) ∧ w'.cell? ⟨w.heap.size + 1 + 1 + 1, 7, none⟩ = some (.int .i64 (o 1).c) ∧ w'.cell? ⟨w.heap.size + 1 + 1 + 1, 8, none⟩ = some (.slice (o 2).ao (o 2).l.length (o 2).cap) ∧ w'.cell? ⟨w.heap.size + 1 + 1 + 1, 9, none⟩ = some (.int .i64 (o 2).a) ∧ w'.cell? ⟨w.heap.size + 1 + 1 + 1, 10, none⟩ = some (.int .i64 (o 2).b) ∧ w'.cell? ⟨w.heap.size + 1 + 1 + 1, 11, none⟩ = some (.int .i64 (o 2).c))) (by kernel_rfl) (ll_of DD.out.ob) (fun hHeld => ?_)
      have DX := qi_below DD (bel_drew _)
      clear DD
      refine wpAnyH_take (i := 0) (v := ?_) rfl (by kernel_rfl) (by kernel_rfl) (by kernel_rfl) (fun _ _ _ h => h) (Or.inl ⟨by rfl, ?_⟩) (by assumption) ?_
      rotate_left
      · intro w' hSw
        (try dsimp only at hSw)
        go_simp
        all_goals (try with_reducible rfl)
      (try simp only [Act.put, List.getElem_toArray, List.getElem_cons_zero, List.getElem_cons_succ, List.setIfInBounds_toArray, List.set_cons_zero, List.set_cons_succ])
      refine wpAnyH_take (i := 1) (v := ?_) rfl (by kernel_rfl) (by kernel_rfl) (by kernel_rfl) (fun _ _ _ h => h) (Or.inl ⟨by rfl, ?_⟩) (by assumption) ?_
      rotate_left
      · intro w' hSw
        (try dsimp only at hSw)
        go_simp
        all_goals (try with_reducible rfl)
      (try simp only [Act.put, List.getElem_toArray, List.getElem_cons_zero, List.getElem_cons_succ, List.setIfInBounds_toArray, List.set_cons_zero, List.set_cons_succ])
      refine wpAnyH_take (i := 2) (v := ?_) rfl (by kernel_rfl) (by kernel_rfl) (by kernel_rfl) (fun _ _ _ h => h) (Or.inl ⟨by rfl, ?_⟩) (by assumption) ?_
      rotate_left
      · intro w' hSw
        (try dsimp only at hSw)
        go_simp
        all_goals (try with_reducible rfl)
      (try simp only [Act.put, List.getElem_toArray, List.getElem_cons_zero, List.getElem_cons_succ, List.setIfInBounds_toArray, List.set_cons_zero, List.set_cons_succ])
      refine wpAnyH_take (i := 4) (v := ?_) rfl (by kernel_rfl) (by kernel_rfl) (by kernel_rfl) (fun _ _ _ h => h) (Or.inl ⟨by rfl, ?_⟩) (by assumption) ?_
      rotate_left
      · intro w' hSw
        (try dsimp only at hSw)
        go_simp
        all_goals (try with_reducible rfl)
      (try simp only [Act.put, List.getElem_toArray, List.getElem_cons_zero, List.getElem_cons_succ, List.setIfInBounds_toArray, List.set_cons_zero, List.set_cons_succ])
      refine wpAnyH_take (i := 5) (v := ?_) rfl (by kernel_rfl) (by kernel_rfl) (by kernel_rfl) (fun _ _ _ h => h) (Or.inl ⟨by rfl, ?_⟩) (by assumption) ?_
      rotate_left
      · intro w' hSw
        (try dsimp only at hSw)
        go_simp
        all_goals (try with_reducible rfl)
      (try simp only [Act.put, List.getElem_toArray, List.getElem_cons_zero, List.getElem_cons_succ, List.setIfInBounds_toArray, List.set_cons_zero, List.set_cons_succ])
      refine wpAnyH_take (i := 6) (v := ?_) rfl (by kernel_rfl) (by kernel_rfl) (by kernel_rfl) (fun _ _ _ h => h) (Or.inl ⟨by rfl, ?_⟩) (by assumption) ?_
      rotate_left
      · intro w' hSw
        (try dsimp only at hSw)
        go_simp
        all_goals (try with_reducible rfl)
      (try simp only [Act.put, List.getElem_toArray, List.getElem_cons_zero, List.getElem_cons_succ, List.setIfInBounds_toArray, List.set_cons_zero, List.set_cons_succ])
      refine wpAnyH_take (i := 8) (v := ?_) rfl (by kernel_rfl) (by kernel_rfl) (by kernel_rfl) (fun _ _ _ h => h) (Or.inl ⟨by rfl, ?_⟩) (by assumption) ?_
      rotate_left
      · intro w' hSw
        (try dsimp only at hSw)
        go_simp
        all_goals (try with_reducible rfl)
      (try simp only [Act.put, List.getElem_toArray, List.getElem_cons_zero, List.getElem_cons_succ, List.setIfInBounds_toArray, List.set_cons_zero, List.set_cons_succ])
      refine wpAnyH_take (i := 9) (v := ?_) rfl (by kernel_rfl) (by kernel_rfl) (by kernel_rfl) (fun _ _ _ h => h) (Or.inl ⟨by rfl, ?_⟩) (by assumption) ?_
      rotate_left
      · intro w' hSw
        (try dsimp only at hSw)
        go_simp
        all_goals (try with_reducible rfl)
      (try simp only [Act.put, List.getElem_toArray, List.getElem_cons_zero, List.getElem_cons_succ, List.setIfInBounds_toArray, List.set_cons_zero, List.set_cons_succ])
      refine wpAnyH_take (i := 10) (v := ?_) rfl (by kernel_rfl) (by kernel_rfl) (by kernel_rfl) (fun _ _ _ h => h) (Or.inl ⟨by rfl, ?_⟩) (by assumption) ?_
      rotate_left
      · intro w' hSw
        (try dsimp only at hSw)
        go_simp
        all_goals (try with_reducible rfl)
      (try simp only [Act.put, List.getElem_toArray, List.getElem_cons_zero, List.getElem_cons_succ, List.setIfInBounds_toArray, List.set_cons_zero, List.set_cons_succ])
      generalize wr.drew = wd at *
      refine wpAnyH_ready (rs := [3]) (by kernel_rfl) (by simp) ?_
      refine AllReadyH.cons rfl (fun K hK => ?_) AllReadyH.nil
      (try simp only [Act.put, List.getElem_toArray, List.getElem_cons_zero, List.getElem_cons_succ, List.setIfInBounds_toArray, List.set_cons_zero, List.set_cons_succ])
      go_simp
      go_at_call 59
      refine Calls.mono (l02own_any (o 0).cap (o 0).ao (o 0).l (o 0).a (o 0).b (o 0).c _ (by have := ((DX.out.rp 0 (by omega)).len HM.out.1 HM.out.2.1 HM.out.2.2); omega) (DX.out.ro 0 (by omega)).row) ?_
      rintro e y0 ⟨v, rfl, hG, hO⟩
      have hsz2 := DX.out.size
      obtain ⟨p0, q0, rfl, hro⟩ := rowO_own (g := g) (p := g) (q := g) (a := (o 0).a) (b := (o 0).b) (c := (o 0).c) hG hO (by omega) (by omega) (by omega)
      replace DX := qi_below DX (gbl hG)
      have R0 : Hid (RowO y0 g g g ⟨p0, q0, (o 0).l, (o 0).a, (o 0).b, (o 0).c⟩) := hro
      clear hG hO hro hsz2
      refine hK.out _ _ ?_ (fun hHeld' => ?_)
      · (try dsimp only)
        exact ll_of DX.out.ob
      clear hK K hHeld
      have hHeld := hHeld'
      clear hHeld'
      (try simp only [Act.put, List.getElem_toArray, List.getElem_cons_zero, List.getElem_cons_succ, List.setIfInBounds_toArray, List.set_cons_zero, List.set_cons_succ])
      refine wpAnyH_ready (rs := [7]) (by kernel_rfl) (by simp) ?_
      refine AllReadyH.cons rfl (fun K hK => ?_) AllReadyH.nil
      (try simp only [Act.put, List.getElem_toArray, List.getElem_cons_zero, List.getElem_cons_succ, List.setIfInBounds_toArray, List.set_cons_zero, List.set_cons_succ])
      go_simp
      go_at_call 59
      refine Calls.mono (l02own_any (o 1).cap (o 1).ao (o 1).l (o 1).a (o 1).b (o 1).c _ (by have := ((DX.out.rp 1 (by omega)).len HM.out.1 HM.out.2.1 HM.out.2.2); omega) (DX.out.ro 1 (by omega)).row) ?_
      rintro e y1 ⟨v, rfl, hG, hO⟩
      have hsz2 := DX.out.size
      obtain ⟨p1, q1, rfl, hro⟩ := rowO_own (g := g) (p := g) (q := g) (a := (o 1).a) (b := (o 1).b) (c := (o 1).c) hG hO (by omega) (by omega) (by omega)
      replace DX := qi_below DX (gbl hG)
      have R1 : Hid (RowO y1 g g g ⟨p1, q1, (o 1).l, (o 1).a, (o 1).b, (o 1).c⟩) := hro
      replace R0 : Hid (RowO y1 g g g ⟨p0, q0, (o 0).l, (o 0).a, (o 0).b, (o 0).c⟩) := ⟨R0.out.row.next (gbl hG), R0.out.cap, R0.out.ne⟩
      clear hG hO hro hsz2
      refine hK.out _ _ ?_ (fun hHeld' => ?_)
      · (try dsimp only)
        exact ll_of DX.out.ob
      clear hK K hHeld
      have hHeld := hHeld'
      clear hHeld'
      (try simp only [Act.put, List.getElem_toArray, List.getElem_cons_zero, List.getElem_cons_succ, List.setIfInBounds_toArray, List.set_cons_zero, List.set_cons_succ])
      refine wpAnyH_ready (rs := [11]) (by kernel_rfl) (by simp) ?_
      refine AllReadyH.cons rfl (fun K hK => ?_) AllReadyH.nil
      (try simp only [Act.put, List.getElem_toArray, List.getElem_cons_zero, List.getElem_cons_succ, List.setIfInBounds_toArray, List.set_cons_zero, List.set_cons_succ])
      go_simp
      go_at_call 59
      refine Calls.mono (l02own_any (o 2).cap (o 2).ao (o 2).l (o 2).a (o 2).b (o 2).c _ (by have := ((DX.out.rp 2 (by omega)).len HM.out.1 HM.out.2.1 HM.out.2.2); omega) (DX.out.ro 2 (by omega)).row) ?_
      rintro e y2 ⟨v, rfl, hG, hO⟩
      have hsz2 := DX.out.size
      obtain ⟨p2, q2, rfl, hro⟩ := rowO_own (g := g) (p := g) (q := g) (a := (o 2).a) (b := (o 2).b) (c := (o 2).c) hG hO (by omega) (by omega) (by omega)
      replace DX := qi_below DX (gbl hG)
      have R2 : Hid (RowO y2 g g g ⟨p2, q2, (o 2).l, (o 2).a, (o 2).b, (o 2).c⟩) := hro
      replace R0 : Hid (RowO y2 g g g ⟨p0, q0, (o 0).l, (o 0).a, (o 0).b, (o 0).c⟩) := ⟨R0.out.row.next (gbl hG), R0.out.cap, R0.out.ne⟩
      replace R1 : Hid (RowO y2 g g g ⟨p1, q1, (o 1).l, (o 1).a, (o 1).b, (o 1).c⟩) := ⟨R1.out.row.next (gbl hG), R1.out.cap, R1.out.ne⟩
      clear hG hO hro hsz2
      refine hK.out _ _ ?_ (fun hHeld' => ?_)
      · (try dsimp only)
        exact ll_of DX.out.ob
      clear hK K hHeld
      have hHeld := hHeld'
      clear hHeld'
      (try simp only [Act.put, List.getElem_toArray, List.getElem_cons_zero, List.getElem_cons_succ, List.setIfInBounds_toArray, List.set_cons_zero, List.set_cons_succ])
      refine wpAnyH_ready (rs := [12]) (by kernel_rfl) (by simp) ?_
      refine AllReadyH.cons rfl (fun K hK => ?_) AllReadyH.nil
      (try simp only [Act.put, List.getElem_toArray, List.getElem_cons_zero, List.getElem_cons_succ, List.setIfInBounds_toArray, List.set_cons_zero, List.set_cons_succ])
      go_simp
      (try simp only [])
      refine hK.out _ _ ?_ (fun hHeld' => ?_)
      · (try dsimp only)
        exact ll_of (qi_below DX (bel_alloc _ _)).out.ob
      clear hK K hHeld
      have hHeld := hHeld'
      clear hHeld'
      (try simp only [Act.put, List.getElem_toArray, List.getElem_cons_zero, List.getElem_cons_succ, List.setIfInBounds_toArray, List.set_cons_zero, List.set_cons_succ])
      refine wpAnyH_take (i := 13) (v := ?_) rfl (by kernel_rfl) (by kernel_rfl) (by kernel_rfl) (fun _ _ _ h => h) (Or.inl ⟨by rfl, ?_⟩) (by assumption) ?_
      rotate_left
      · intro w' hSw
        (try dsimp only at hSw)
        go_simp
        all_goals (try with_reducible rfl)
      (try simp only [Act.put, List.getElem_toArray, List.getElem_cons_zero, List.getElem_cons_succ, List.setIfInBounds_toArray, List.set_cons_zero, List.set_cons_succ])
      refine wpAnyH_done (by kernel_rfl) ?_ _
      clear hHeld
      go_wp2
      go_ret
      have hz9 := DX.out.size
      exact ⟨V, m, fun j => if j = 0 then ⟨p0, q0, (o 0).l, (o 0).a, (o 0).b, (o 0).c⟩ else if j = 1 then ⟨p1, q1, (o 1).l, (o 1).a, (o 1).b, (o 1).c⟩ else ⟨p2, q2, (o 2).l, (o 2).a, (o 2).b, (o 2).c⟩, y2.heap.size, rfl, by omega, by simp, ob_new, fun j hj => by
          have h3 : j = 0 ∨ j = 1 ∨ j = 2 := by omega
          rcases h3 with rfl | rfl | rfl
          · exact ⟨R0.out.row.next (bel_alloc _ _), R0.out.cap, R0.out.ne⟩
          · exact ⟨R1.out.row.next (bel_alloc _ _), R1.out.cap, R1.out.ne⟩
          · exact ⟨R2.out.row.next (bel_alloc _ _), R2.out.cap, R2.out.ne⟩, fun j hj => by
          have h3 : j = 0 ∨ j = 1 ∨ j = 2 := by omega
          rcases h3 with rfl | rfl | rfl
          · exact DX.out.rp 0 (by omega)
          · exact DX.out.rp 1 (by omega)
          · exact DX.out.rp 2 (by omega), HM.out, DX.out.grown.trans ⟨rfl, rfl, rfl, by simp, fun b hb _ => (bel_alloc y2 _).block b hb⟩⟩
end Go.Proofs.YtcmniplbiliobaaDoor
