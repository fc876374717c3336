/- Keys that are drawn. -/
import Derived.Test.YtkdbcmkmcjaenaaGreatDoorRows
import Derived.WalkKit
import Derived.WalkSpells
import Derived.WalkLawsBesides
import Derived.Deep.QuietTactic
import Derived.BigQuiet
import Derived.Deep.RegionHeld3
import Derived.Test.YtkdbcmkmcjaenaaGreatDoorCh
import Derived.LoopN
namespace Go.Proofs.YtkdbcmkmcjaenaaGreatDoor
open Go.RowKit
set_option linter.unusedSimpArgs false
set_option linter.unusedVariables false
def drawnK (i : Nat) : ByteArray := if i = 0 then ⟨#[97]⟩ else if i = 1 then ⟨#[98]⟩ else if i = 2 then ⟨#[99]⟩ else if i = 3 then ⟨#[100, 100]⟩ else ⟨#[107, 101, 121]⟩
set_option maxHeartbeats 2000000 in
theorem pick_any (g len cap : Nat) (ao : Option Addr) (zs : List Int) (k s : Int) (b : Nat) (w : World) (h : SrcAt w g ao len cap k s) (hr : Gen.IsRow .u8 w ao len cap zs) (hn : ∀ x, ao = some x → 0 < cap → x.block ≠ g) (hl : (len : Int) ≤ 1048576) (hk0 : 0 ≤ k) (hk : k ≤ 1000000000) (hb : ∀ i, i < 5 → w.cell? ⟨b, i, none⟩ = some (.string (drawnK i))) (hbg : b ≠ g) :
    Calls Tryz.prog 78 #[.pointer (some ⟨g, 0, none⟩), .slice (some ⟨b, 0, none⟩) 5 5] w fun e w' => ∃ (i : Nat) (t : Int), e = .returned (.string (drawnK i)) ∧ SrcAt w' g ao len cap (k + 1) t ∧ w.grownBy w' (some g) := by
  have CN : Hid _ := next_any g len cap ao zs k s 5 (by omega) (by omega) w h hr hn hl hk0 hk
  have HB : Hid (∀ i, i < 5 → w.cell? ⟨b, i, none⟩ = some (.string (drawnK i))) := hb
  clear h hr hn hb
  go_enter Tryz.func78, Tryz.ntmps78
  go_wp2_with fail
  refine Calls.mono CN.out ?_
  rintro e w1 ⟨n, t, hn0, rfl, hS0, hG0⟩
  have hS : Hid (SrcAt w1 g ao len cap (k + 1) t) := hS0
  have hG : Hid (w.grownBy w1 (some g)) := hG0
  have hx : w1.cell? ⟨b, n.toNat, none⟩ = some (.string (drawnK n.toNat)) := grown_cell hG0 (HB.out n.toNat (by omega)) hbg
  obtain ⟨h0, h5⟩ := hn0
  obtain ⟨kk, hkk⟩ : ∃ kk, kk = drawnK n.toNat := ⟨_, rfl⟩
  rw [← hkk] at hx
  have HKK : Hid (kk = drawnK n.toNat) := hkk
  clear hS0 hG0 CN HB hkk
  go_wp2
  go_ret
  exact ⟨n.toNat, t, by rw [← HKK.out]; first | rfl | simp, hS.out, by first | exact hG.out | (refine grown_then hG.out (grown_drewN _ none _) (by simp))⟩
theorem drawnK_at : ∀ i, i < 5 → (#[.string ⟨#[97]⟩, .string ⟨#[98]⟩, .string ⟨#[99]⟩, .string ⟨#[100, 100]⟩, .string ⟨#[107, 101, 121]⟩] : Array Value)[i]? = some (.string (drawnK i)) := fun i hi => by
  have : i = 0 ∨ i = 1 ∨ i = 2 ∨ i = 3 ∨ i = 4 := by omega
  rcases this with rfl | rfl | rfl | rfl | rfl <;> rfl
set_option maxHeartbeats 2000000 in
theorem key_any (g len cap : Nat) (ao : Option Addr) (zs : List Int) (k s : Int) (w : World) (h : SrcAt w g ao len cap k s) (hr : Gen.IsRow .u8 w ao len cap zs) (hn : ∀ x, ao = some x → 0 < cap → x.block ≠ g) (hl : (len : Int) ≤ 1048576) (hk0 : 0 ≤ k) (hk : k ≤ 1000000000) :
    Calls Tryz.prog 50 #[.pointer (some ⟨g, 0, none⟩)] w fun e w' => ∃ (i : Nat) (t : Int), e = .returned (.string (drawnK i)) ∧ SrcAt w' g ao len cap (k + 1) t ∧ w.grownBy w' (some g) := by
  have hg := h.2.2.2.2.2.1
  have CP : Hid _ := pick_any g len cap ao zs k s w.heap.size (w.alloc (.cells #[.string ⟨#[97]⟩, .string ⟨#[98]⟩, .string ⟨#[99]⟩, .string ⟨#[100, 100]⟩, .string ⟨#[107, 101, 121]⟩] 9)) h.alloc (row_below hr (bel_alloc _ _)) hn hl hk0 hk (fun i hi => by rw [World.cell?_alloc_at _ _ _ _ rfl]; exact drawnK_at i hi) (by omega)
  clear h hr hn
  go_enter Tryz.func50, Tryz.ntmps50
  go_wp2_with fail
  refine Calls.mono CP.out ?_
  rintro e w1 ⟨i, t, rfl, hS0, hG0⟩
  have hS : Hid (SrcAt w1 g ao len cap (k + 1) t) := hS0
  have hA : w.grownBy (w.alloc (.cells #[.string ⟨#[97]⟩, .string ⟨#[98]⟩, .string ⟨#[99]⟩, .string ⟨#[100, 100]⟩, .string ⟨#[107, 101, 121]⟩] 9)) (some g) := ⟨rfl, rfl, rfl, by simp, fun b hb _ => Below.heap_alloc _ _ b hb⟩
  have hG : Hid (w.grownBy w1 (some g)) := grown_then hA hG0 (fun j hj => .inr hj)
  clear hA
  obtain ⟨kk, hkk⟩ : ∃ kk, kk = drawnK i := ⟨_, rfl⟩
  rw [← hkk]
  have HKK : Hid (kk = drawnK i) := hkk
  clear hS0 hG0 CP hkk
  go_wp2
  go_ret
  exact ⟨i, t, by rw [← HKK.out]; first | rfl | simp, hS.out, hG.out⟩
end Go.Proofs.YtkdbcmkmcjaenaaGreatDoor
