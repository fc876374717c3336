/- readWhole and ReadObj, of the program. -/
import Derived.Test.YtgnacdhceiapkaaDoorRows
import Derived.WalkKit
import Derived.WalkSpells
import Derived.WalkLawsBesides
import Derived.Deep.QuietTactic
import Derived.BigQuiet
import Derived.Deep.RegionHeld3
import Derived.Test.YtgnacdhceiapkaaDoorRo
import Derived.LoopN
import Derived.Laws.EntriesVeiled
namespace Go.Proofs.YtgnacdhceiapkaaDoor
open Go.RowKit
set_option linter.unusedSimpArgs false
set_option linter.unusedVariables false

/-- What ReadObj answers. -/
def RoA (s : ByteArray) (m : List Sib) (x y z code : Int) : Prop := (65536 < s.size → m = [] ∧ x = 0 ∧ y = 0 ∧ z = 0 ∧ code = 2) ∧ (¬ 65536 < s.size → ∀ x' y' z' m', GoodR (bl s) x' y' z' m' → m = m' ∧ x = x' ∧ y = y' ∧ z = z' ∧ code = 0) ∧ (¬ 65536 < s.size → NoObj (bl s) → m = [] ∧ x = 0 ∧ y = 0 ∧ z = 0 ∧ code = 3)
theorem goodR_one {l : List UInt8} {x y z x' y' z' : Int} {m m' : List Sib} (h : GoodR l x y z m) (h' : GoodR l x' y' z' m') : m = m' ∧ x = x' ∧ y = y' ∧ z = z' := by
  obtain ⟨⟨r, h1, h2⟩, _⟩ := h
  obtain ⟨⟨r', g1, g2⟩, _⟩ := h'
  rw [h1] at g1
  cases g1
  cases h2.det g2
  exact ⟨rfl, rfl, rfl, rfl⟩
theorem roa_of (s : ByteArray) : ∃ m x y z code, Hid (RoA s m x y z code) := by
  by_cases h : 65536 < s.size
  · exact ⟨[], 0, 0, 0, 2, fun _ => ⟨rfl, rfl, rfl, rfl, rfl⟩, fun h' => (h' h).elim, fun h' => (h' h).elim⟩
  · by_cases h1 : ∃ x y z m, GoodR (bl s) x y z m
    · obtain ⟨x, y, z, m, hv⟩ := h1
      refine ⟨m, x, y, z, 0, fun h' => (h h').elim, fun _ x' y' z' m' hv' => ?_, fun _ h' => (h' _ _ _ _ hv).elim⟩
      obtain ⟨rfl, rfl, rfl, rfl⟩ := goodR_one hv hv'
      exact ⟨rfl, rfl, rfl, rfl, rfl⟩
    · exact ⟨[], 0, 0, 0, 3, fun h' => (h h').elim, fun _ x y z m hv => (h1 ⟨x, y, z, m, hv⟩).elim, fun _ _ => ⟨rfl, rfl, rfl, rfl, rfl⟩⟩
/-- An object of one's own and a code. -/
def RoQ (w : World) (m : List Sib) (x y z code : Int) (e : Ending) (w' : World) : Prop :=
  ∃ v : Value, e = .returned (.tuple #[.agg #[v, .int .i64 x, .int .i64 y, .int .i64 z], .int .i64 code]) ∧ w'.ownsRow 0 62 4 v m.length (flat m) ∧ (∀ k, v.ownBlock = some k → w.heap.size < k) ∧ Below w.heap.size w w'
theorem bel_s4 {w W : World} {u0 u1 u2 u3 : Value} (h : Below w.heap.size w W) : Below w.heap.size w ((((W.setCell ⟨w.heap.size, 0, none⟩ u0).setCell ⟨w.heap.size, 1, none⟩ u1).setCell ⟨w.heap.size, 2, none⟩ u2).setCell ⟨w.heap.size, 3, none⟩ u3) :=
  (((h.setCell (by simp) _).setCell (by simp) _).setCell (by simp) _).setCell (by simp) _
theorem own_slcN {W : World} {e : TypeId} {n : Nat} {v : Value} {xs : List Value} (h : W.ownsRow 0 e 4 v n xs) : ∃ vo vc, v = .slice vo n vc := by
  rcases h.2 with ⟨rfl, hn0⟩ | ⟨k, cap, cur, rfl, _⟩
  · exact ⟨none, 0, by rw [hn0]⟩
  · exact ⟨_, cap, rfl⟩
set_option maxHeartbeats 4000000 in
theorem wholeO_any (s : ByteArray) (m : List Sib) (x y z code : Int) (hA : Hid (RoA s m x y z code)) (w : World) (hs : s.size ≤ 1048576) :
    Calls Tryd.prog 30 #[.string s, .func (.func 31) #[] #[]] w fun e w' => RoQ w m x y z code e w' := by
  by_cases hb65 : 65536 < s.size
  · obtain ⟨rfl, rfl, rfl, rfl, rfl⟩ := hA.out.1 hb65
    have hb' : (65536 : Int) < (s.size : Int) := by omega
    go_enter Tryd.func30, Tryd.ntmps30
    go_wp2
    refine bodyPost_ret (v := .tuple #[.agg #[.slice none 0 0, .int .i64 0, .int .i64 0, .int .i64 0], .int .i64 2]) (by simp [results, Tryd.results30, go_sem]) rfl ⟨_, rfl, World.ownsRow_nil _ 0 _ 4, fun k hk => absurd hk Gro.none_ne, ?_⟩
    exact (bel_alloc _ _).trans ((bel_alloc _ _).mono (by simp))
  have hb' : ¬ (65536 : Int) < (s.size : Int) := by omega
  have R0 : Hid (((((w.alloc (.cells #[.slice none 0 0, .int .i64 0, .int .i64 0, .int .i64 0] 31)).alloc (.cells #[.slice none 0 0, .int .i64 0, .int .i64 0, .int .i64 0] 31))).cell? ⟨w.heap.size, 0, none⟩ = some (.slice none 0 0) ∧ (((w.alloc (.cells #[.slice none 0 0, .int .i64 0, .int .i64 0, .int .i64 0] 31)).alloc (.cells #[.slice none 0 0, .int .i64 0, .int .i64 0, .int .i64 0] 31))).cell? ⟨w.heap.size, 1, none⟩ = some (.int .i64 0) ∧ (((w.alloc (.cells #[.slice none 0 0, .int .i64 0, .int .i64 0, .int .i64 0] 31)).alloc (.cells #[.slice none 0 0, .int .i64 0, .int .i64 0, .int .i64 0] 31))).cell? ⟨w.heap.size, 2, none⟩ = some (.int .i64 0) ∧ (((w.alloc (.cells #[.slice none 0 0, .int .i64 0, .int .i64 0, .int .i64 0] 31)).alloc (.cells #[.slice none 0 0, .int .i64 0, .int .i64 0, .int .i64 0] 31))).cell? ⟨w.heap.size, 3, none⟩ = some (.int .i64 0)) ∧ ((((w.alloc (.cells #[.slice none 0 0, .int .i64 0, .int .i64 0, .int .i64 0] 31)).alloc (.cells #[.slice none 0 0, .int .i64 0, .int .i64 0, .int .i64 0] 31))).frozen? ⟨w.heap.size, 0, none⟩ = false ∧ (((w.alloc (.cells #[.slice none 0 0, .int .i64 0, .int .i64 0, .int .i64 0] 31)).alloc (.cells #[.slice none 0 0, .int .i64 0, .int .i64 0, .int .i64 0] 31))).frozen? ⟨w.heap.size, 1, none⟩ = false ∧ (((w.alloc (.cells #[.slice none 0 0, .int .i64 0, .int .i64 0, .int .i64 0] 31)).alloc (.cells #[.slice none 0 0, .int .i64 0, .int .i64 0, .int .i64 0] 31))).frozen? ⟨w.heap.size, 2, none⟩ = false ∧ (((w.alloc (.cells #[.slice none 0 0, .int .i64 0, .int .i64 0, .int .i64 0] 31)).alloc (.cells #[.slice none 0 0, .int .i64 0, .int .i64 0, .int .i64 0] 31))).frozen? ⟨w.heap.size, 3, none⟩ = false) ∧ (((w.alloc (.cells #[.slice none 0 0, .int .i64 0, .int .i64 0, .int .i64 0] 31)).alloc (.cells #[.slice none 0 0, .int .i64 0, .int .i64 0, .int .i64 0] 31))).cell? ⟨w.heap.size + 1, 0, none⟩ = some (.slice none 0 0) ∧ (((w.alloc (.cells #[.slice none 0 0, .int .i64 0, .int .i64 0, .int .i64 0] 31)).alloc (.cells #[.slice none 0 0, .int .i64 0, .int .i64 0, .int .i64 0] 31))).cell? ⟨w.heap.size + 1, 1, none⟩ = some (.int .i64 0) ∧ (((w.alloc (.cells #[.slice none 0 0, .int .i64 0, .int .i64 0, .int .i64 0] 31)).alloc (.cells #[.slice none 0 0, .int .i64 0, .int .i64 0, .int .i64 0] 31))).cell? ⟨w.heap.size + 1, 2, none⟩ = some (.int .i64 0) ∧ (((w.alloc (.cells #[.slice none 0 0, .int .i64 0, .int .i64 0, .int .i64 0] 31)).alloc (.cells #[.slice none 0 0, .int .i64 0, .int .i64 0, .int .i64 0] 31))).cell? ⟨w.heap.size + 1, 3, none⟩ = some (.int .i64 0)) := ⟨⟨by go_simp, by go_simp, by go_simp, by go_simp⟩, ⟨by go_simp, by go_simp, by go_simp, by go_simp⟩, ⟨by go_simp, by go_simp, by go_simp, by go_simp⟩⟩
  have HB0 : Hid (Below w.heap.size w ((w.alloc (.cells #[.slice none 0 0, .int .i64 0, .int .i64 0, .int .i64 0] 31)).alloc (.cells #[.slice none 0 0, .int .i64 0, .int .i64 0, .int .i64 0] 31))) := (bel_alloc _ _).trans ((bel_alloc _ _).mono (by simp))
  have HZ : Hid ((((w.alloc (.cells #[.slice none 0 0, .int .i64 0, .int .i64 0, .int .i64 0] 31)).alloc (.cells #[.slice none 0 0, .int .i64 0, .int .i64 0, .int .i64 0] 31))).heap.size = w.heap.size + 1 + 1) := by show _ = _; simp
  go_enter Tryd.func30, Tryd.ntmps30
  go_wp2_with fail
  generalize ((w.alloc (.cells #[.slice none 0 0, .int .i64 0, .int .i64 0, .int .i64 0] 31)).alloc (.cells #[.slice none 0 0, .int .i64 0, .int .i64 0, .int .i64 0] 31)) = W0 at *
  refine (reader_any s W0).mono ?_
  rintro e w1 ⟨rfl, hb, hL, hlt⟩
  obtain ⟨g, hg⟩ : ∃ g, g = W0.heap.size := ⟨_, rfl⟩
  rw [← hg] at hL hlt ⊢
  have hgw : w.heap.size + 1 < g := by have := HZ.out; omega
  have HB1 : Hid (Below w.heap.size w w1) := bel_next HB0 hb
  obtain ⟨⟨R00, R01, R02, R0a⟩, ⟨R03, R04, R05, R0b⟩, R06, R07, R08, R0c⟩ := R0.out
  have hzz : w.heap.size + 1 < W0.heap.size := by have := HZ.out; omega
  have r0 := cell_next hb R00 (by omega)
  have r1 := cell_next hb R01 (by omega)
  have r2 := cell_next hb R02 (by omega)
  have r3 := cell_next hb R0a (by omega)
  have q0 := frozen_next hb R03 (by omega)
  have q1 := frozen_next hb R04 (by omega)
  have q2 := frozen_next hb R05 (by omega)
  have q3 := frozen_next hb R0b (by omega)
  have n0 := cell_next hb R06 (by omega)
  have n1 := cell_next hb R07 (by omega)
  have n2 := cell_next hb R08 (by omega)
  have n3 := cell_next hb R0c (by omega)
  have HL1 : Hid (Left w1 g s) := hL
  clear hb hL hg R00 R01 R02 R03 R04 R05 R06 R07 R08 R0a R0b R0c hzz R0 HB0 HZ
  clear W0
  go_wp2_with fail
  refine (readObj_any g s _ (by simp; omega) (left_next HL1.out (bel_alloc _ _) hlt) (by omega)).mono ?_
  rintro e w2 (⟨m', x', y', z', v, hS, rfl, hown, hnew, ⟨s', hL2, hbl⟩, hg2⟩ | ⟨hS, vo, n, vc, x', y', z', rfl, hg2⟩)
  · have f2 : w2.cell? ⟨w1.heap.size, 2, none⟩ = some (.func (.func 66) #[] #[.pointer (some ⟨g, 0, none⟩)]) := grown_cell hg2 (by go_simp) (by omega)
    replace r0 := grown_cell hg2 (box_a r0 (by omega)) (by omega)
    replace n0 := grown_cell hg2 (box_a n0 (by omega)) (by omega)
    replace q0 := grown_froz hg2 (froz_a q0 (by omega)) (by simp; omega) (by omega)
    replace r1 := grown_cell hg2 (box_a r1 (by omega)) (by omega)
    replace n1 := grown_cell hg2 (box_a n1 (by omega)) (by omega)
    replace q1 := grown_froz hg2 (froz_a q1 (by omega)) (by simp; omega) (by omega)
    replace r2 := grown_cell hg2 (box_a r2 (by omega)) (by omega)
    replace n2 := grown_cell hg2 (box_a n2 (by omega)) (by omega)
    replace q2 := grown_froz hg2 (froz_a q2 (by omega)) (by simp; omega) (by omega)
    replace r3 := grown_cell hg2 (box_a r3 (by omega)) (by omega)
    replace n3 := grown_cell hg2 (box_a n3 (by omega)) (by omega)
    replace q3 := grown_froz hg2 (froz_a q3 (by omega)) (by simp; omega) (by omega)
    have hz2 : w1.heap.size < w2.heap.size := by have := hg2.size; simp at this; omega
    have hz : w.heap.size < w2.heap.size := by omega
    have HB : Hid (Below w.heap.size w w2) := bel_grown (bel_next HB1 (bel_alloc _ _)).out hg2 (by omega)
    have f2' : ∀ o, (w2.alloc o).cell? ⟨w1.heap.size, 2, none⟩ = some (.func (.func 66) #[] #[.pointer (some ⟨g, 0, none⟩)]) := fun o => box_a f2 hz2
    have n0' : ∀ o, (w2.alloc o).cell? ⟨w.heap.size + 1, 0, none⟩ = some (.slice none 0 0) := fun o => box_a n0 (by omega)
    have n1' : ∀ o, (w2.alloc o).cell? ⟨w.heap.size + 1, 1, none⟩ = some (.int .i64 0) := fun o => box_a n1 (by omega)
    have n2' : ∀ o, (w2.alloc o).cell? ⟨w.heap.size + 1, 2, none⟩ = some (.int .i64 0) := fun o => box_a n2 (by omega)
    have n3' : ∀ o, (w2.alloc o).cell? ⟨w.heap.size + 1, 3, none⟩ = some (.int .i64 0) := fun o => box_a n3 (by omega)
    clear hg2 HB1 HL1 f2 n0 n1 n2 n3
    have L2 : Hid (Left w2 g s') := hL2
    have hs' : s'.size = 0 := by have h := bl_len s'; rw [hbl] at h; simpa using h.symm
    obtain ⟨rfl, rfl, rfl, rfl, rfl⟩ := hA.out.2.1 hb65 _ _ _ _ hS
    obtain ⟨vo, vc, rfl⟩ := own_slcN hown
    have HO : Hid (w2.ownsRow 0 62 4 (.slice vo m.length vc) m.length (flat m)) := hown
    have HN : Hid (∀ k, (Value.slice vo m.length vc).ownBlock = some k → w.heap.size < k) := fun k hk => by have := hnew k hk; simp at this; omega
    clear hL2 hbl hS hA hown hnew
    go_wp2_with fail
    refine (ended_yes g s' _ (left_next L2.out (bel_alloc _ _) (by omega)).1 hs').mono ?_
    rintro e w' ⟨rfl, rfl⟩
    go_wp2
    refine bodyPost_ret (v := .tuple #[.agg #[.slice vo m.length vc, .int .i64 x, .int .i64 y, .int .i64 z], .int .i64 0]) (by simp [results, Tryd.results30, go_sem, r0, r1, r2, r3, q0, q1, q2, q3, hz]) rfl ⟨_, rfl, ?_, ?_, ?_⟩
    · exact own_next (own_set4 (g := w.heap.size) HO.out (fun e => by have := HN.out _ e; omega)) (bel_alloc _ _)
    · exact HN.out
    exact (bel_s4 HB.out).alloc (by simpa [World.setCell] using Nat.le_of_lt hz) _
  · have f2 : w2.cell? ⟨w1.heap.size, 2, none⟩ = some (.func (.func 66) #[] #[.pointer (some ⟨g, 0, none⟩)]) := grown_cell hg2 (by go_simp) (by omega)
    replace r0 := grown_cell hg2 (box_a r0 (by omega)) (by omega)
    replace n0 := grown_cell hg2 (box_a n0 (by omega)) (by omega)
    replace q0 := grown_froz hg2 (froz_a q0 (by omega)) (by simp; omega) (by omega)
    replace r1 := grown_cell hg2 (box_a r1 (by omega)) (by omega)
    replace n1 := grown_cell hg2 (box_a n1 (by omega)) (by omega)
    replace q1 := grown_froz hg2 (froz_a q1 (by omega)) (by simp; omega) (by omega)
    replace r2 := grown_cell hg2 (box_a r2 (by omega)) (by omega)
    replace n2 := grown_cell hg2 (box_a n2 (by omega)) (by omega)
    replace q2 := grown_froz hg2 (froz_a q2 (by omega)) (by simp; omega) (by omega)
    replace r3 := grown_cell hg2 (box_a r3 (by omega)) (by omega)
    replace n3 := grown_cell hg2 (box_a n3 (by omega)) (by omega)
    replace q3 := grown_froz hg2 (froz_a q3 (by omega)) (by simp; omega) (by omega)
    have hz2 : w1.heap.size < w2.heap.size := by have := hg2.size; simp at this; omega
    have hz : w.heap.size < w2.heap.size := by omega
    have HB : Hid (Below w.heap.size w w2) := bel_grown (bel_next HB1 (bel_alloc _ _)).out hg2 (by omega)
    have f2' : ∀ o, (w2.alloc o).cell? ⟨w1.heap.size, 2, none⟩ = some (.func (.func 66) #[] #[.pointer (some ⟨g, 0, none⟩)]) := fun o => box_a f2 hz2
    have n0' : ∀ o, (w2.alloc o).cell? ⟨w.heap.size + 1, 0, none⟩ = some (.slice none 0 0) := fun o => box_a n0 (by omega)
    have n1' : ∀ o, (w2.alloc o).cell? ⟨w.heap.size + 1, 1, none⟩ = some (.int .i64 0) := fun o => box_a n1 (by omega)
    have n2' : ∀ o, (w2.alloc o).cell? ⟨w.heap.size + 1, 2, none⟩ = some (.int .i64 0) := fun o => box_a n2 (by omega)
    have n3' : ∀ o, (w2.alloc o).cell? ⟨w.heap.size + 1, 3, none⟩ = some (.int .i64 0) := fun o => box_a n3 (by omega)
    clear hg2 HB1 HL1 f2 n0 n1 n2 n3
    obtain ⟨rfl, rfl, rfl, rfl, rfl⟩ := hA.out.2.2 hb65 hS
    clear hS hA
    go_wp2
    refine bodyPost_ret (v := .tuple #[.agg #[.slice none 0 0, .int .i64 0, .int .i64 0, .int .i64 0], .int .i64 3]) (by simp [results, Tryd.results30, go_sem, r0, r1, r2, r3, q0, q1, q2, q3, hz]) rfl ⟨_, rfl, ?_, ?_, ?_⟩
    · exact World.ownsRow_nil _ 0 _ 4
    · exact fun k hk => absurd hk Gro.none_ne
    exact (bel_s4 HB.out).alloc (by simpa [World.setCell] using Nat.le_of_lt hz) _
set_option maxHeartbeats 1000000 in
theorem implReadO_any (s : ByteArray) (m : List Sib) (x y z code : Int) (hA : Hid (RoA s m x y z code)) (w : World) (hs : s.size ≤ 1048576) :
    Calls Tryd.prog 12 #[.string s] w fun e w' => RoQ w m x y z code e w' := by
  go_enter Tryd.func12, Tryd.ntmps12
  go_wp2_with fail
  refine (wholeO_any s m x y z code hA _ hs).mono ?_
  rintro e w1 ⟨v, rfl, hO, hN, hb⟩
  have HB : Hid (Below w.heap.size w w1) := (bel_alloc _ _).trans (hb.mono (by simp))
  obtain ⟨vo, vc, rfl⟩ := own_slcN hO
  have HO : Hid (w1.ownsRow 0 62 4 (.slice vo m.length vc) m.length (flat m)) := hO
  have HN : Hid (∀ k, (Value.slice vo m.length vc).ownBlock = some k → w.heap.size < k) := fun k hk => by have := hN k hk; simp at this; omega
  have r0 := cell_next hb (b := w.heap.size) (o := 0) (v := .slice none 0 0) (by go_simp) (by simp)
  have r1 := cell_next hb (b := w.heap.size) (o := 1) (v := .int .i64 0) (by go_simp) (by simp)
  have r2 := cell_next hb (b := w.heap.size) (o := 2) (v := .int .i64 0) (by go_simp) (by simp)
  have r3 := cell_next hb (b := w.heap.size) (o := 3) (v := .int .i64 0) (by go_simp) (by simp)
  have q0 := frozen_next hb (b := w.heap.size) (o := 0) (by go_simp) (by simp)
  have q1 := frozen_next hb (b := w.heap.size) (o := 1) (by go_simp) (by simp)
  have q2 := frozen_next hb (b := w.heap.size) (o := 2) (by go_simp) (by simp)
  have q3 := frozen_next hb (b := w.heap.size) (o := 3) (by go_simp) (by simp)
  clear hb hA hO hN
  go_wp2
  refine bodyPost_ret (v := .tuple #[.agg #[.slice vo m.length vc, .int .i64 x, .int .i64 y, .int .i64 z], .int .i64 code]) (by simp [results, Tryd.results12, go_sem, r0, r1, r2, r3, q0, q1, q2, q3]) rfl ⟨_, rfl, ?_, HN.out, bel_s4 HB.out⟩
  exact own_set4 (g := w.heap.size) HO.out (fun e => by have := HN.out _ e; omega)
end Go.Proofs.YtgnacdhceiapkaaDoor
