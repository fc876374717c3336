/- The source of choices that the laws draw from: bytes, numbers, what is known, dots. -/
import Derived.Test.YtkdbcmkmcjaenaaGreatDoorGk
import Derived.WalkKit
import Derived.WalkSpells
import Derived.WalkLawsBesides
import Derived.Deep.QuietTactic
import Derived.BigQuiet
import Derived.Deep.RegionHeld3
import Derived.LoopN
import Derived.RegionTactic
import Derived.BigRegion
import Derived.Maps.AppendAt
import Derived.Deep.AppendLies
import Derived.OpenShut
namespace Go.Proofs.YtkdbcmkmcjaenaaGreatDoor
open Go.RowKit
set_option linter.unusedSimpArgs false
set_option linter.unusedVariables false

theorem grown_set (W : World) (b j : Nat) (v : Value) : W.grownBy (W.setCell ⟨b, j, none⟩ v) (some b) :=
  ⟨rfl, rfl, rfl, by simp [World.setCell], fun k _ hne => Below.heap_setCell W ⟨b, j, none⟩ v k (fun e => hne (by rw [e]))⟩
theorem grown_drewN (W : World) (row : Option Nat) (n : Nat) : W.grownBy (W.drewN n) row := ⟨rfl, rfl, rfl, Nat.le_refl _, fun _ _ _ => rfl⟩
theorem grown_cell {W w1 : World} {g : Nat} (hg : W.grownBy w1 (some g)) {b o : Nat} {v : Value} (h : W.cell? ⟨b, o, none⟩ = some v) (hne : b ≠ g) : w1.cell? ⟨b, o, none⟩ = some v := hg.cell h (fun e => hne (by cases e; rfl))
theorem grown_frozen {W w1 : World} {g : Nat} (hg : W.grownBy w1 (some g)) {b o : Nat} (h : W.frozen? ⟨b, o, none⟩ = false) (hlt : b < W.heap.size) (hne : b ≠ g) : w1.frozen? ⟨b, o, none⟩ = false := by
  rw [hg.frozen_far ⟨b, o, none⟩ hlt (fun e => hne (by cases e; rfl))]; exact h

/-- What is told of a slice of bytes that came in. -/
def Gen.IsRow (k : IntKind) (w : World) (a : Option Addr) (len cap : Nat) (zs : List Int) : Prop :=
  (a = none ∧ len = 0 ∧ cap = 0 ∧ zs = []) ∨
  ∃ x, a = some x ∧ len ≤ cap ∧ cap ≤ maxLen ∧ zs.length = cap ∧ (∀ i, i < zs.length → w.cell? (x.add i) = some (.int k (zs.getD i 0))) ∧ ∀ n ∈ zs, (Lit.int k n).wf = true

theorem add_block (x : Addr) (i : Nat) : (x.add i).block = x.block := by unfold Addr.add; split <;> rfl
theorem add_none (b off i : Nat) : (⟨b, off, none⟩ : Addr).add i = ⟨b, off + i, none⟩ := by
  unfold Addr.add
  by_cases h : i = 0 <;> simp [h]
theorem grown_then {a b c : World} {row row' : Option Nat} (h : a.grownBy b row) (k : b.grownBy c row') (hr : ∀ j, row' = some j → a.heap.size ≤ j ∨ row = some j) : a.grownBy c row := by
  refine ⟨k.os.trans h.os, k.tape.trans h.tape, k.output.trans h.output, Nat.le_trans h.size k.size, fun i hi hne => ?_⟩
  rw [k.block i (Nat.lt_of_lt_of_le hi h.size) (fun e => ?_), h.block i hi hne]
  rcases hr i e.symm with q | q
  · omega
  · exact hne q.symm
theorem grown_below {a b : World} {B g : Nat} (h : a.grownBy b (some g)) (hB : B ≤ a.heap.size) (hg : B ≤ g) : Below B a b :=
  (Below.refl _ _).grown h hB (fun k e => by cases e; exact hg)

theorem row_kept {ao : Option Addr} {len cap : Nat} {zs : List Int} {w w1 : World} (hr : Gen.IsRow .u8 w ao len cap zs) (hc : ∀ x i v, ao = some x → 0 < cap → w.cell? (x.add i) = some v → w1.cell? (x.add i) = some v) : Gen.IsRow .u8 w1 ao len cap zs := by
  rcases hr with h | ⟨x, hx, h1, h2, h3, h4, h5⟩
  · exact Or.inl h
  · exact Or.inr ⟨x, hx, h1, h2, h3, fun i hi => hc x i _ hx (by omega) (h4 i hi), h5⟩

theorem row_grown {ao : Option Addr} {len cap g : Nat} {zs : List Int} {w w1 : World} (hr : Gen.IsRow .u8 w ao len cap zs) (hn : ∀ x, ao = some x → 0 < cap → x.block ≠ g) (hg : w.grownBy w1 (some g)) : Gen.IsRow .u8 w1 ao len cap zs :=
  row_kept hr fun x i v hx hc h => hg.cell h (fun e => hn x hx hc (by rw [add_block] at e; cases e; rfl))

theorem row_alloc {ao : Option Addr} {len cap : Nat} {zs : List Int} {w : World} {ob : Obj} (hr : Gen.IsRow .u8 w ao len cap zs) : Gen.IsRow .u8 (w.alloc ob) ao len cap zs :=
  row_kept hr fun x i v _ _ h => (World.grownBy_alloc w ob none).cell h (by simp)

theorem row_below {ao : Option Addr} {len cap : Nat} {zs : List Int} {w w1 : World} (hr : Gen.IsRow .u8 w ao len cap zs) (hb : Below w.heap.size w w1) : Gen.IsRow .u8 w1 ao len cap zs :=
  row_kept hr fun x i v _ _ h => by rw [hb.cell (cell_lt h)]; exact h

/-- The block of such a slice lies below the heap's end, where it has a place. -/
theorem row_lt {ao : Option Addr} {len cap : Nat} {zs : List Int} {w : World} (hr : Gen.IsRow .u8 w ao len cap zs) (x : Addr) (hx : ao = some x) (hl : 0 < cap) : x.block < w.heap.size := by
  rcases hr with ⟨h, _⟩ | ⟨y, hy, h1, h2, h3, h4, h5⟩
  · rw [h] at hx; cases hx
  · rw [hx] at hy; cases hy
    have := cell_lt (h4 0 (by omega))
    rwa [add_block] at this

def SrcAt (w : World) (g : Nat) (ao : Option Addr) (len cap : Nat) (k s : Int) : Prop :=
  w.cell? ⟨g, 0, none⟩ = some (.slice ao len cap) ∧ w.cell? ⟨g, 1, none⟩ = some (.int .i64 k) ∧ w.cell? ⟨g, 2, none⟩ = some (.int .i64 s) ∧ w.frozen? ⟨g, 1, none⟩ = false ∧ w.frozen? ⟨g, 2, none⟩ = false ∧ g < w.heap.size ∧ 0 ≤ s ∧ s < 2147483648

theorem SrcAt.alloc {w : World} {g : Nat} {ao : Option Addr} {len cap : Nat} {k s : Int} {ob : Obj} (h : SrcAt w g ao len cap k s) : SrcAt (w.alloc ob) g ao len cap k s := by
  obtain ⟨c0, c1, c2, f1, f2, hg, hs⟩ := h
  have hb : Below w.heap.size w (w.alloc ob) := (Below.refl _ _).alloc (Nat.le_refl _) _
  exact ⟨cell_next hb c0 hg, cell_next hb c1 hg, cell_next hb c2 hg, frozen_next hb f1 hg, frozen_next hb f2 hg, by simp; omega, hs⟩

set_option maxHeartbeats 1000000 in
theorem byte_in (g b off len cap : Nat) (k s z : Int) (w : World) (hbg : b ≠ g) (hk0 : 0 ≤ k) (hk : k < (len : Int)) (hl : (len : Int) ≤ 1048576) (hz0 : 0 ≤ z) (hz : z ≤ 255) (hs0 : 0 ≤ s) (hs : s < 2147483648) (hgs : g < w.heap.size)
    (c0 : w.cell? ⟨g, 0, none⟩ = some (.slice (some ⟨b, off, none⟩) len cap)) (c1 : w.cell? ⟨g, 1, none⟩ = some (.int .i64 k)) (c2 : w.cell? ⟨g, 2, none⟩ = some (.int .i64 s))
    (f1 : w.frozen? ⟨g, 1, none⟩ = false) (f2 : w.frozen? ⟨g, 2, none⟩ = false) (cz : w.cell? ⟨b, off + k.toNat, none⟩ = some (.int .u8 z)) :
    Calls Tryz.prog 77 #[.pointer (some ⟨g, 0, none⟩)] w fun e w' => e = .returned (.int .i64 z) ∧ SrcAt w' g (some ⟨b, off, none⟩) len cap (k + 1) ((s * 31 + z + 7) % 2147483648) ∧ w.grownBy w' (some g) := by
  have hkk : k + 1 ≤ (len : Int) := by omega
  have hw : IntKind.i64.wrap k = k := by rw [IntKind.wrap_i64]; omega
  go_enter Tryz.func77, Tryz.ntmps77
  go_wp2
  go_quiet (fail)
  go_wp2
  go_region
  go_wp2
  go_quiet (fail)
  go_wp2
  go_ret
  refine ⟨rfl, ⟨by go_simp, by go_simp, by go_simp, by go_simp, by go_simp, by simpa [World.setCell] using hgs, by omega, by omega⟩, ?_⟩
  exact (((grown_set _ _ _ _).trans (grown_drewN _ _ _)).trans (grown_set _ _ _ _)).trans (grown_drewN _ _ _)

set_option maxHeartbeats 1000000 in
theorem byte_far (g len cap : Nat) (ao : Option Addr) (k s : Int) (w : World) (hk0 : 3000 ≤ k) (hk : (len : Int) ≤ k) (hkm : k ≤ 1000000000) (hs0 : 0 ≤ s) (hs : s < 2147483648) (hgs : g < w.heap.size)
    (c0 : w.cell? ⟨g, 0, none⟩ = some (.slice ao len cap)) (c1 : w.cell? ⟨g, 1, none⟩ = some (.int .i64 k)) (c2 : w.cell? ⟨g, 2, none⟩ = some (.int .i64 s))
    (f1 : w.frozen? ⟨g, 1, none⟩ = false) (f2 : w.frozen? ⟨g, 2, none⟩ = false) :
    Calls Tryz.prog 77 #[.pointer (some ⟨g, 0, none⟩)] w fun e w' => e = .returned (.int .i64 0) ∧ SrcAt w' g ao len cap (k + 1) s ∧ w.grownBy w' (some g) := by
  have hkk : ¬ k + 1 ≤ (len : Int) := by omega
  have hdd : decide (k + 1 ≤ (len : Int)) = false := by simpa using hkk
  have hk3 : 3000 < k + 1 := by omega
  go_enter Tryz.func77, Tryz.ntmps77
  go_wp2
  go_quiet (fail)
  go_wp2
  go_ret
  refine ⟨rfl, ⟨by go_simp, by go_simp, by go_simp, by go_simp, by go_simp, by simpa [World.setCell] using hgs, by omega, by omega⟩, ?_⟩
  exact (grown_set _ _ _ _).trans (grown_drewN _ _ _)

set_option maxHeartbeats 1000000 in
theorem byte_seed (g len cap : Nat) (ao : Option Addr) (k s : Int) (w : World) (hk0 : 0 ≤ k) (hk : (len : Int) ≤ k) (hkm : k < 3000) (hs0 : 0 ≤ s) (hs : s < 2147483648) (hgs : g < w.heap.size)
    (c0 : w.cell? ⟨g, 0, none⟩ = some (.slice ao len cap)) (c1 : w.cell? ⟨g, 1, none⟩ = some (.int .i64 k)) (c2 : w.cell? ⟨g, 2, none⟩ = some (.int .i64 s))
    (f1 : w.frozen? ⟨g, 1, none⟩ = false) (f2 : w.frozen? ⟨g, 2, none⟩ = false) :
    Calls Tryz.prog 77 #[.pointer (some ⟨g, 0, none⟩)] w fun e w' => (∃ n : Int, 0 ≤ n ∧ n ≤ 255 ∧ e = .returned (.int .i64 n)) ∧ SrcAt w' g ao len cap (k + 1) ((s * 1103515245 + 12345) % 2147483648) ∧ w.grownBy w' (some g) := by
  have hkk : ¬ k + 1 ≤ (len : Int) := by omega
  have hdd : decide (k + 1 ≤ (len : Int)) = false := by simpa using hkk
  have hk3 : ¬ 3000 < k + 1 := by omega
  go_enter Tryz.func77, Tryz.ntmps77
  go_wp2
  go_quiet (fail)
  go_wp2
  go_ret
  refine ⟨⟨_, ?_, ?_, rfl⟩, ⟨by go_simp, by go_simp, by go_simp, by go_simp, by go_simp, by simpa [World.setCell] using hgs, by omega, by omega⟩, ?_⟩
  · omega
  · omega
  · exact ((grown_set _ _ _ _).trans (grown_drewN _ _ _)).trans (grown_set _ _ _ _)

theorem byte_any (g len cap : Nat) (ao : Option Addr) (zs : List Int) (k s : Int) (w : World) (h : SrcAt w g ao len cap k s) (hr : Gen.IsRow .u8 w ao len cap zs) (hn : ∀ x, ao = some x → 0 < cap → x.block ≠ g) (hl : (len : Int) ≤ 1048576) (hk0 : 0 ≤ k) (hk : k ≤ 1000000000) :
    Calls Tryz.prog 77 #[.pointer (some ⟨g, 0, none⟩)] w fun e w' => ∃ n t : Int, (0 ≤ n ∧ n ≤ 255) ∧ e = .returned (.int .i64 n) ∧ SrcAt w' g ao len cap (k + 1) t ∧ w.grownBy w' (some g) := by
  obtain ⟨c0, c1, c2, f1, f2, hg, hs0, hs⟩ := h
  by_cases h1 : k < (len : Int)
  · rcases hr with ⟨_, e, _⟩ | ⟨x, hx, r1, r2, r3, r4, r5⟩
    · exfalso; omega
    · subst hx
      obtain ⟨bb, off, spot⟩ := x
      have r00 := r4 0 (by omega)
      have hspot : spot = none := by simpa [Addr.add] using World.cell?_spot r00
      subst hspot
      have r40 := r4 k.toNat (by omega)
      rw [add_none] at r40
      have hz := bounds_u8 (r5 (zs.getD k.toNat 0) (by rw [List.getD_eq_getElem?_getD, List.getElem?_eq_getElem (by omega)]; exact List.getElem_mem _))
      exact (byte_in g bb off len cap k s _ w (hn _ rfl (by omega)) hk0 h1 hl hz.1 hz.2 hs0 hs hg c0 c1 c2 f1 f2 r40).mono fun e w' ⟨he, hS, hG⟩ => ⟨_, _, ⟨hz.1, hz.2⟩, he, hS, hG⟩
  · by_cases h2 : k < 3000
    · exact (byte_seed g len cap ao k s w hk0 (by omega) h2 hs0 hs hg c0 c1 c2 f1 f2).mono fun e w' ⟨⟨n, n0, n1, he⟩, hS, hG⟩ => ⟨n, _, ⟨n0, n1⟩, he, hS, hG⟩
    · exact (byte_far g len cap ao k s w (by omega) (by omega) hk hs0 hs hg c0 c1 c2 f1 f2).mono fun e w' ⟨he, hS, hG⟩ => ⟨0, s, by omega, he, hS, hG⟩

set_option maxHeartbeats 1000000 in
theorem next_any (g len cap : Nat) (ao : Option Addr) (zs : List Int) (k s m : Int) (hm : 2 ≤ m) (hm' : m ≤ 256) (w : World) (h : SrcAt w g ao len cap k s) (hr : Gen.IsRow .u8 w ao len cap zs) (hn : ∀ x, ao = some x → 0 < cap → x.block ≠ g) (hl : (len : Int) ≤ 1048576) (hk0 : 0 ≤ k) (hk : k ≤ 1000000000) :
    Calls Tryz.prog 48 #[.pointer (some ⟨g, 0, none⟩), .int .i64 m] w fun e w' => ∃ n t : Int, (0 ≤ n ∧ n < m) ∧ e = .returned (.int .i64 n) ∧ SrcAt w' g ao len cap (k + 1) t ∧ w.grownBy w' (some g) := by
  have HC : Hid (Calls Tryz.prog 77 #[.pointer (some ⟨g, 0, none⟩)] w fun e w' => ∃ n t : Int, (0 ≤ n ∧ n ≤ 255) ∧ e = .returned (.int .i64 n) ∧ SrcAt w' g ao len cap (k + 1) t ∧ w.grownBy w' (some g)) := byte_any g len cap ao zs k s w h hr hn hl hk0 hk
  clear h hr hn
  have hm1 : ¬ m ≤ 1 := by omega
  go_enter Tryz.func48, Tryz.ntmps48
  go_wp2_with fail
  refine HC.out.mono ?_
  rintro e w1 ⟨n, t, ⟨n0, n1⟩, rfl, hS0, hG0⟩
  have hS : Hid (SrcAt w1 g ao len cap (k + 1) t) := hS0
  have hG : Hid (w.grownBy w1 (some g)) := hG0
  clear hS0 hG0
  go_wp2_with fail
  go_ret
  refine ⟨_, t, ?_, rfl, hS.out, hG.out⟩
  exact ⟨Int.emod_nonneg _ (by omega), Int.emod_lt_of_pos _ (by omega)⟩

theorem SrcAt.next {w w1 : World} {g : Nat} (hG : w.grownBy w1 (some g)) {b o : Nat} {v : Value} (hc : w.cell? ⟨b, o, none⟩ = some v) (hf : w.frozen? ⟨b, o, none⟩ = false) (hne : b ≠ g) : w1.cell? ⟨b, o, none⟩ = some v ∧ w1.frozen? ⟨b, o, none⟩ = false :=
  ⟨grown_cell hG hc hne, grown_frozen hG hf (cell_lt hc) hne⟩

end Go.Proofs.YtkdbcmkmcjaenaaGreatDoor

