/- Rows of texts that are alike. -/
import Derived.Test.YtkdbcmkmcjaenaaGreatDoorRows
import Derived.WalkKit
import Derived.WalkSpells
import Derived.WalkLawsBesides
import Derived.Deep.QuietTactic
import Derived.BigQuiet
import Derived.Deep.RegionHeld3
import Derived.Test.YtkdbcmkmcjaenaaGreatDoorMr
import Derived.LoopN
import Derived.OwnWalk
namespace Go.Proofs.YtkdbcmkmcjaenaaGreatDoor
open Go.RowKit
set_option linter.unusedSimpArgs false
set_option linter.unusedVariables false
set_option maxHeartbeats 2000000 in
theorem sameTexts_yes (lo lo2 q q2 n : Nat) (p p2 : Option Addr) (rs : List (List UInt8)) (w : World) (hl : rs.length = n) (hm : n ≤ 1048576) (hr0 : GRow lo w p (txt rs)) (hs0 : GRow lo2 w p2 (txt rs)) :
    Calls Tryz.prog 7 #[.slice p n q, .slice p2 n q2] w fun e w' => e = .returned (.bool true) ∧ Below w.heap.size w w' := by
  have hr : Hid _ := hr0
  have hs : Hid _ := hs0
  have HL : Hid (rs.length = n) := hl
  clear hr0 hs0 hl
  go_enter Tryz.func7, Tryz.ntmps7
  go_wp2
  go_loopw [5] (fun s5 wr => ∃ k : Nat, k ≤ n ∧ s5 = .int .i64 k ∧ Below w.heap.size w wr) (fun s5 _ => n - (intOf s5).toNat)
  case atStart => exact ⟨0, by omega, rfl, Below.refl _ _⟩
  case round =>
    obtain ⟨k, hk, rfl, hB0⟩ := hrel
    have hB : Hid (Below w.heap.size w wr) := hB0
    clear hB0
    by_cases hkl : k < n
    · have hkl' : (k : Int) < (n : Int) := by omega
      have kz : k < (txt rs).length := by rw [txt_len, HL.out]; exact hkl
      rcases hr.out with h' | ⟨b, off, rfl, _, h2⟩
      · rw [h'] at kz; simp at kz
      rcases hs.out with h' | ⟨c, oft, rfl, _, h3⟩
      · rw [h'] at kz; simp at kz
      have x0 := cell_next hB.out (h2 k kz) (cell_lt (x := ⟨b, off + k, none⟩) (h2 k kz))
      have y0 := cell_next hB.out (h3 k kz) (cell_lt (x := ⟨c, oft + k, none⟩) (h3 k kz))
      obtain ⟨s, hs⟩ : ∃ s : ByteArray, (txt rs)[k] = .string s := ⟨_, by simp [txt, encStr]; rfl⟩
      rw [hs] at x0 y0
      have k0 : (0 : Int) ≤ (k : Int) := by omega
      clear h2 h3 hs
      go_wp2
      go_quiet (fail)
      go_wp2
      go_roundw
      case rel => first | exact ⟨k + 1, by omega, by go_num, below_drewN hB.out _⟩ | exact ⟨k + 1, by omega, by go_num, hB.out.drew⟩ | ((repeat apply Exists.intro); exact ⟨⟨k + 1, by omega, by go_num, below_drewN hB.out _⟩, rfl⟩)
      case measure => simp [intOf]; omega
    · have hkl' : ¬ (k : Int) < (n : Int) := by omega
      go_wp2
      go_ret
      exact ⟨rfl, hB.out⟩
end Go.Proofs.YtkdbcmkmcjaenaaGreatDoor
