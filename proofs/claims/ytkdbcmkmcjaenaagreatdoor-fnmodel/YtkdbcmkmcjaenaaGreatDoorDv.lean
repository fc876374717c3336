/- The events that a law draws: what is drawn, and what drawing keeps. -/
import Derived.Test.YtkdbcmkmcjaenaaGreatDoorRows
import Derived.WalkKit
import Derived.WalkSpells
import Derived.WalkLawsBesides
import Derived.Deep.QuietTactic
import Derived.BigQuiet
import Derived.Deep.RegionHeld3
import Derived.Test.YtkdbcmkmcjaenaaGreatDoorKd
import Derived.Test.YtkdbcmkmcjaenaaGreatDoorMq
import Derived.Test.YtkdbcmkmcjaenaaGreatDoorOv
import Derived.LoopN
namespace Go.Proofs.YtkdbcmkmcjaenaaGreatDoor
open Go.RowKit
set_option linter.unusedSimpArgs false
set_option linter.unusedVariables false

def eEnd : Int → Int → Int → List Ev → Int × Int × Int
  | x, y, z, [] => (x, y, z)
  | x, y, z, e :: l => eEnd (upd e.p e.n 0 x) (upd e.p e.n 1 y) (upd e.p e.n 2 z) l
theorem eokL_app (e : Ev) : ∀ (l : List Ev) (x y z : Int), eokL x y z (l ++ [e]) ↔ eokL x y z l ∧ evP e ∧ stepP (eEnd x y z l).1 (eEnd x y z l).2.1 (eEnd x y z l).2.2 e
  | [], x, y, z => by simp [eokL, eEnd]
  | f :: l, x, y, z => by
    have := eokL_app e l (upd f.p f.n 0 x) (upd f.p f.n 1 y) (upd f.p f.n 2 z)
    simp only [List.cons_append, eokL, eEnd, this, and_assoc]
theorem eEnd_app (e : Ev) : ∀ (l : List Ev) (x y z : Int), eEnd x y z (l ++ [e]) = (upd e.p e.n 0 (eEnd x y z l).1, upd e.p e.n 1 (eEnd x y z l).2.1, upd e.p e.n 2 (eEnd x y z l).2.2)
  | [], _, _, _ => rfl
  | f :: l, x, y, z => by
    simp only [List.cons_append, eEnd]
    exact eEnd_app e l _ _ _
/-- A right list of events, and how many there are of each node. -/
structure EM (es : List Ev) (x y z : Int) : Prop where
  ok : eokL 0 0 0 es
  fin : eEnd 0 0 0 es = (x, y, z)
  x0 : 0 ≤ x ∧ x ≤ es.length
  y0 : 0 ≤ y ∧ y ≤ es.length
  z0 : 0 ≤ z ∧ z ≤ es.length
theorem EM.nil : EM [] 0 0 0 := ⟨trivial, rfl, by simp, by simp, by simp⟩
theorem drawn_key (i : Nat) : keyP (drawnK i) ∧ (drawnK i).size ≤ 6 := by
  unfold drawnK
  have key : ∀ s : ByteArray, (1 ≤ s.size ∧ s.size ≤ 6 ∧ ∀ j (h : j < s.size), 97 ≤ (s[j]'h).toNat ∧ (s[j]'h).toNat ≤ 122) → keyP s ∧ s.size ≤ 6 := fun s h => ⟨⟨h.1, h.2.1, fun j hj _ => h.2.2 j hj⟩, h.2.1⟩
  repeat' split
  all_goals exact key _ (by decide)
theorem EM.step {es : List Ev} {x y z : Int} (h : EM es x y z) (hl : es.length ≤ 17) {j : Nat} (hj : j < 3) (i : Nat) {v a b c : Int} {d : Bool} (hv : valP v d) (ha : 0 ≤ a ∧ a ≤ x) (hb : 0 ≤ b ∧ b ≤ y) (hc : 0 ≤ c ∧ c ≤ z) :
    EM (es ++ [⟨(j : Int), comp x y z j + 1, drawnK i, v, d, a, b, c⟩]) (upd j (comp x y z j + 1) 0 x) (upd j (comp x y z j + 1) 1 y) (upd j (comp x y z j + 1) 2 z) := by
  have h0 := h.x0
  have h1 := h.y0
  have h2 := h.z0
  have hf := h.fin
  have hcb : 0 ≤ comp x y z j ∧ comp x y z j ≤ es.length := by unfold comp; repeat' split <;> omega
  refine ⟨(eokL_app _ _ _ _ _).2 ⟨h.ok, ⟨?_, (drawn_key i).1, hv, ?_⟩, ?_⟩, ?_, ?_, ?_, ?_⟩
  · unfold dotB
    exact decide_eq_true ⟨by simp, by show (j : Int) < 3; omega, by show 1 ≤ comp x y z j + 1; omega, by show comp x y z j + 1 ≤ 9999; omega⟩
  · unfold vvB
    exact decide_eq_true ⟨by show 0 ≤ a ∧ a ≤ 9999; omega, by show 0 ≤ b ∧ b ≤ 9999; omega, by show 0 ≤ c ∧ c ≤ 9999; omega⟩
  · rw [hf]
    exact ⟨rfl, ha.2, hb.2, hc.2⟩
  · rw [eEnd_app, hf]
  all_goals
    unfold upd comp
    simp only [List.length_append, List.length_singleton]
    repeat' split
    all_goals omega
theorem comp_at (x y z : Int) {j : Nat} (hj : j < 3) : ([.int .i64 x, .int .i64 y, .int .i64 z] : List Value)[j]? = some (.int .i64 (comp x y z j)) := by
  have : j = 0 ∨ j = 1 ∨ j = 2 := by omega
  rcases this with rfl | rfl | rfl <;> simp [comp]
theorem flatE_app : ∀ (l k : List Ev), flatE (l ++ k) = flatE l ++ flatE k
  | [], _ => rfl
  | e :: l, k => by simp [flatE, flatE_app l k]
theorem elE : ElemT Tryz.prog 23 42 8 72 := by
  refine ⟨Tryz.underlying23, ?_, by decide, by decide⟩
  have hI : (Tryz.prog.info? 42).map (fun i => (i.zero, i.size, i.bytes)) = some (some (.agg #[.int .i64 0, .int .i64 0, .string ⟨#[]⟩, .int .i64 0, .bool false, .int .i64 0, .int .i64 0, .int .i64 0]), 8, 72) := by kernel_rfl
  obtain ⟨i0, hi, hz0, hz1, hz2⟩ := info_parts hI
  exact ⟨i0, _, hi, hz0, hz1, hz2, rfl⟩
set_option maxHeartbeats 1000000 in
/-- A number below m, be m one, too. -/
theorem nextz_any (g len cap : Nat) (ao : Option Addr) (zs : List Int) (k s m : Int) (hm : 1 ≤ m) (hm' : m ≤ 256) (w : World) (h : SrcAt w g ao len cap k s) (hr : Gen.IsRow .u8 w ao len cap zs) (hn : ∀ x, ao = some x → 0 < cap → x.block ≠ g) (hl : (len : Int) ≤ 1048576) (hk0 : 0 ≤ k) (hk : k ≤ 1000000000) :
    Calls Tryz.prog 48 #[.pointer (some ⟨g, 0, none⟩), .int .i64 m] w fun e w' => ∃ n t k' : Int, (0 ≤ n ∧ n < m) ∧ (k ≤ k' ∧ k' ≤ k + 1) ∧ e = .returned (.int .i64 n) ∧ SrcAt w' g ao len cap k' t ∧ w.grownBy w' (some g) := by
  rcases show 2 ≤ m ∨ m = 1 by omega with h2 | rfl
  · exact (next_any g len cap ao zs k s m h2 hm' w h hr hn hl hk0 hk).mono fun e w' ⟨n, t, hn, he, hS, hG⟩ => ⟨n, t, k + 1, hn, by omega, he, hS, hG⟩
  · have HS : Hid (SrcAt w g ao len cap k s) := h
    clear h hr hn
    go_enter Tryz.func48, Tryz.ntmps48
    go_wp2
    go_ret
    exact ⟨0, s, k, by omega, by omega, rfl, HS.out, gb_below (Below.refl _ _)⟩
/-- What drawing events keeps. -/
structure ED (w W : World) (gs gv : Nat) (ao : Option Addr) (len cap : Nat) (zs : List Int) (K x y z : Int) (es : List Ev) (p : Option Addr) (q : Nat) : Prop where
  src : ∃ k s, (0 ≤ k ∧ k ≤ K) ∧ SrcAt W gs ao len cap k s
  row : Gen.IsRow .u8 W ao len cap zs
  vb : Box W gv [.int .i64 x, .int .i64 y, .int .i64 z]
  own : OwnG W 42 8 (.slice p es.length q) es.length (flatE es) w.heap.size
  ne : (Value.slice p es.length q).ownBlock ≠ some gv
  g : w.grownBy W (some gs)
  lt : gs < w.heap.size ∧ w.heap.size ≤ gv
section
variable {w W W' : World} {gs gv : Nat} {ao : Option Addr} {len cap : Nat} {zs : List Int} {K x y z : Int} {es : List Ev} {p : Option Addr} {q : Nat}
theorem ED.next (h : ED w W gs gv ao len cap zs K x y z es p q) (hb : Below W.heap.size W W') : ED w W' gs gv ao len cap zs K x y z es p q := by
  obtain ⟨k, s, hk, hs⟩ := h.src
  exact ⟨⟨k, s, hk, hs.below hb⟩, row_below h.row hb, h.vb.next hb, h.own.next hb, h.ne, gb_trans h.g (gb_below hb), h.lt⟩
theorem ED.by (h : ED w W gs gv ao len cap zs K x y z es p q) (hn : ∀ x, ao = some x → 0 < cap → x.block ≠ gs) (hG : W.grownBy W' (some gs)) {k' t : Int} (hk : 0 ≤ k' ∧ k' ≤ K + 1) (hS : SrcAt W' gs ao len cap k' t) : ED w W' gs gv ao len cap zs (K + 1) x y z es p q := by
  have hq := Kp.of_grown hG
  have hlt := h.lt
  exact ⟨⟨k', t, hk, hS⟩, row_grown h.row hn hG, h.vb.kp hq (by omega), h.own.kp hq (fun k hk e => by have := h.own.ge k hk; omega), h.ne, gb_trans h.g hG, h.lt⟩
theorem ED.more (h : ED w W gs gv ao len cap zs K x y z es p q) {K' : Int} (hK : K ≤ K') : ED w W gs gv ao len cap zs K' x y z es p q := by
  obtain ⟨k, s, hk, hs⟩ := h.src
  exact ⟨⟨k, s, by omega, hs⟩, h.row, h.vb, h.own, h.ne, h.g, h.lt⟩
/-- A step that changes one block of the call's own, neither the counts nor the list. -/
theorem ED.kp {ge : Nat} (h : ED w W gs gv ao len cap zs K x y z es p q) (k : Kp (· = ge) W W') (hge : w.heap.size ≤ ge) (hgv : ge ≠ gv) (hp : (Value.slice p es.length q).ownBlock ≠ some ge) (hr : ∀ x, ao = some x → 0 < cap → x.block < w.heap.size) : ED w W' gs gv ao len cap zs K x y z es p q := by
  obtain ⟨k1, s, hk, hs⟩ := h.src
  have hlt := h.lt
  obtain ⟨c0, c1, c2, f1, f2, hl, hss⟩ := hs
  have kc : ∀ j v, W.cell? ⟨gs, j, none⟩ = some v → W'.cell? ⟨gs, j, none⟩ = some v := fun j v hv => by rw [World.cell?_of_block (w := W) (k.block gs hl (by omega))]; exact hv
  have kf : ∀ j, W.frozen? ⟨gs, j, none⟩ = false → W'.frozen? ⟨gs, j, none⟩ = false := fun j hv => by rw [World.frozen?_of_block (w := W) (k.block gs hl (by omega))]; exact hv
  refine ⟨⟨k1, s, hk, kc _ _ c0, kc _ _ c1, kc _ _ c2, kf _ f1, kf _ f2, Nat.lt_of_lt_of_le hl k.size, hss⟩, ?_, h.vb.kp k (by omega), h.own.kp k (fun b hb e => hp (by rw [hb]; exact congrArg some e)), h.ne, ?_, h.lt⟩
  · refine row_kept h.row (fun x i v hx hc0 hv => ?_)
    have h1 := hr x hx hc0
    rw [World.cell?_of_block (w := W) (k.block (x.add i).block (cell_lt hv) (by rw [add_block]; omega))]
    exact hv
  · exact ⟨k.os.trans h.g.os, k.tape.trans h.g.tape, k.output.trans h.g.output, Nat.le_trans h.g.size k.size, fun b hb hne => (k.block b (Nat.lt_of_lt_of_le hb h.g.size) (by omega)).trans (h.g.block b hb hne)⟩
/-- The counts are written. -/
theorem ED.vset {x' y' z' : Int} (h : ED w W gs gv ao len cap zs K x y z es p q) (hr : ∀ x, ao = some x → 0 < cap → x.block < w.heap.size) (k : Kp (· = gv) W W') (hv : Box W' gv [.int .i64 x', .int .i64 y', .int .i64 z']) : ED w W' gs gv ao len cap zs K x' y' z' es p q := by
  obtain ⟨k1, s, hk, hs⟩ := h.src
  have hlt := h.lt
  obtain ⟨c0, c1, c2, f1, f2, hl, hss⟩ := hs
  have kc : ∀ j v, W.cell? ⟨gs, j, none⟩ = some v → W'.cell? ⟨gs, j, none⟩ = some v := fun j v hv => by rw [World.cell?_of_block (w := W) (k.block gs hl (by omega))]; exact hv
  have kf : ∀ j, W.frozen? ⟨gs, j, none⟩ = false → W'.frozen? ⟨gs, j, none⟩ = false := fun j hv => by rw [World.frozen?_of_block (w := W) (k.block gs hl (by omega))]; exact hv
  refine ⟨⟨k1, s, hk, kc _ _ c0, kc _ _ c1, kc _ _ c2, kf _ f1, kf _ f2, Nat.lt_of_lt_of_le hl k.size, hss⟩, ?_, hv, h.own.kp k (fun b hb e => h.ne (by rw [hb]; exact congrArg some e)), h.ne, ?_, h.lt⟩
  · refine row_kept h.row (fun x i v hx hc0 hv => ?_)
    have h1 := hr x hx hc0
    rw [World.cell?_of_block (w := W) (k.block (x.add i).block (cell_lt hv) (by rw [add_block]; omega))]
    exact hv
  · exact ⟨k.os.trans h.g.os, k.tape.trans h.g.tape, k.output.trans h.g.output, Nat.le_trans h.g.size k.size, fun b hb hne => (k.block b (Nat.lt_of_lt_of_le hb h.g.size) (by omega)).trans (h.g.block b hb hne)⟩
/-- The list grows. -/
theorem ED.app {e : Ev} {p' : Option Addr} {q' : Nat} (h : ED w W gs gv ao len cap zs K x y z es p q) (hr : ∀ x, ao = some x → 0 < cap → x.block < w.heap.size) (hO : OwnG W' 42 8 (.slice p' (es.length + 1) q') (es.length + 1) (flatE es ++ [.int .i64 e.p, .int .i64 e.n, .string e.key, .int .i64 e.v, .bool e.dead, .int .i64 e.a, .int .i64 e.b, .int .i64 e.c]) w.heap.size) (hG : Gro W W' (.slice p es.length q) (.slice p' (es.length + 1) q')) : ED w W' gs gv ao len cap zs K x y z (es ++ [e]) p' q' := by
  obtain ⟨k1, s, hk, hs⟩ := h.src
  have hlt := h.lt
  have k := Kp.of_gro hG
  have hgs : (Value.slice p es.length q).ownBlock ≠ some gs := fun e => by have := h.own.ge _ e; omega
  obtain ⟨c0, c1, c2, f1, f2, hl, hss⟩ := hs
  have kc : ∀ j v, W.cell? ⟨gs, j, none⟩ = some v → W'.cell? ⟨gs, j, none⟩ = some v := fun j v hv => by rw [World.cell?_of_block (w := W) (k.block gs hl hgs)]; exact hv
  have kf : ∀ j, W.frozen? ⟨gs, j, none⟩ = false → W'.frozen? ⟨gs, j, none⟩ = false := fun j hv => by rw [World.frozen?_of_block (w := W) (k.block gs hl hgs)]; exact hv
  have hle : (es ++ [e]).length = es.length + 1 := by simp
  refine ⟨⟨k1, s, hk, kc _ _ c0, kc _ _ c1, kc _ _ c2, kf _ f1, kf _ f2, Nat.lt_of_lt_of_le hl k.size, hss⟩, ?_, h.vb.kp k h.ne, ?_, ?_, ?_, h.lt⟩
  · refine row_kept h.row (fun x i v hx hc0 hv => ?_)
    have h1 := hr x hx hc0
    rw [World.cell?_of_block (w := W) (k.block (x.add i).block (cell_lt hv) (fun e => by rw [add_block] at e; have := h.own.ge _ e; omega))]
    exact hv
  · rw [hle, flatE_app]
    exact hO
  · rw [hle]
    exact hG.ne h.vb.lt h.ne
  · exact ⟨k.os.trans h.g.os, k.tape.trans h.g.tape, k.output.trans h.g.output, Nat.le_trans h.g.size k.size, fun b hb hne => (k.block b (Nat.lt_of_lt_of_le hb h.g.size) (fun e => by have := h.own.ge _ e; omega)).trans (h.g.block b hb hne)⟩
end
end Go.Proofs.YtkdbcmkmcjaenaaGreatDoor
