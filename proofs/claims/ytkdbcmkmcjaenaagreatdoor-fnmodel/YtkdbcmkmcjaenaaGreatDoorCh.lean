/- Chances and sizes, as the laws draw them. -/
import Derived.Test.YtkdbcmkmcjaenaaGreatDoorRows
import Derived.WalkKit
import Derived.WalkSpells
import Derived.WalkLawsBesides
import Derived.Deep.QuietTactic
import Derived.BigQuiet
import Derived.Deep.RegionHeld3
import Derived.Test.YtkdbcmkmcjaenaaGreatDoorSrc
import Derived.LoopN
namespace Go.Proofs.YtkdbcmkmcjaenaaGreatDoor
open Go.RowKit
set_option linter.unusedSimpArgs false
set_option linter.unusedVariables false

theorem SrcAt.below {w w' : World} {g : Nat} {ao : Option Addr} {len cap : Nat} {k s : Int} (h : SrcAt w g ao len cap k s) (hb : Below w.heap.size w w') : SrcAt w' g ao len cap k s := by
  obtain ⟨c0, c1, c2, f1, f2, hl, hs⟩ := h
  exact ⟨cell_next hb c0 hl, cell_next hb c1 hl, cell_next hb c2 hl, frozen_next hb f1 hl, frozen_next hb f2 hl, Nat.lt_of_lt_of_le hl hb.size, hs⟩
theorem SrcAt.set {w : World} {g p o : Nat} {u : Value} {ao : Option Addr} {len cap : Nat} {k s : Int} (h : SrcAt w g ao len cap k s) (hne : g ≠ p) : SrcAt (w.setCell ⟨p, o, none⟩ u) g ao len cap k s := by
  obtain ⟨c0, c1, c2, f1, f2, hl, hs⟩ := h
  exact ⟨cell_set c0 hne, cell_set c1 hne, cell_set c2 hne, by simpa using f1, by simpa using f2, by simpa [World.setCell] using hl, hs⟩
set_option maxHeartbeats 1000000 in
theorem chance_any (g len cap : Nat) (ao : Option Addr) (zs : List Int) (k s m : Int) (hm : 2 ≤ m) (hm' : m ≤ 256) (w : World) (h : SrcAt w g ao len cap k s) (hr : Gen.IsRow .u8 w ao len cap zs) (hn : ∀ x, ao = some x → 0 < cap → x.block ≠ g) (hl : (len : Int) ≤ 1048576) (hk0 : 0 ≤ k) (hk : k ≤ 1000000000) :
    Calls Tryz.prog 51 #[.pointer (some ⟨g, 0, none⟩), .int .i64 m] w fun e w' => ∃ (b : Bool) (t : Int), e = .returned (.bool b) ∧ SrcAt w' g ao len cap (k + 1) t ∧ w.grownBy w' (some g) := by
  have HC : Hid _ := next_any g len cap ao zs k s m hm hm' w h hr hn hl hk0 hk
  clear h hr hn
  have q1 : IntKind.i64.wrap (m - 1) = m - 1 := by rw [IntKind.wrap_i64]; omega
  go_enter Tryz.func51, Tryz.ntmps51
  go_wp2_with fail
  refine Calls.mono HC.out ?_
  rintro e w1 ⟨n, t, _, rfl, hS0, hG0⟩
  have hS : Hid (SrcAt w1 g ao len cap (k + 1) t) := hS0
  have hG : Hid (w.grownBy w1 (some g)) := hG0
  clear hS0 hG0
  obtain ⟨b, hb⟩ : ∃ b : Bool, (n == m - 1) = b := ⟨_, rfl⟩
  go_wp2_with fail
  go_ret
  exact ⟨b, t, by first | rfl | exact ret_bool hb, hS.out, hG.out⟩
set_option maxHeartbeats 1000000 in
theorem size_any (g len cap : Nat) (ao : Option Addr) (k s m : Int) (hm : 2 ≤ m) (hm' : m ≤ 100) (w : World) (h : SrcAt w g ao len cap k s) (hl : (len : Int) ≤ 1048576) :
    Calls Tryz.prog 49 #[.pointer (some ⟨g, 0, none⟩), .int .i64 m] w fun e w' => ∃ n : Int, (1 ≤ n ∧ n ≤ m) ∧ e = .returned (.int .i64 n) ∧ Below w.heap.size w w' := by
  have c0 := h.1
  clear h
  have q1 : ((len : Int)).tdiv 12 = (len : Int) / 12 := Int.tdiv_eq_ediv_of_nonneg (by omega)
  have q2 : IntKind.i64.wrap ((len : Int) / 12) = (len : Int) / 12 := by rw [IntKind.wrap_i64]; omega
  have q3 : IntKind.i64.wrap (1 + (len : Int) / 12) = 1 + (len : Int) / 12 := by rw [IntKind.wrap_i64]; omega
  go_enter Tryz.func49, Tryz.ntmps49
  go_wp2
  all_goals
    go_ret
    refine ⟨_, ?_, rfl, ?_⟩
    · first | omega | (simp; omega) | (split <;> omega)
    · repeat (first | exact Below.refl _ _ | refine Below.drew ?_ | refine below_drewN ?_ _ | refine Below.alloc ?_ (by first | (simp; done) | (simp; omega)) _ | refine Below.setCell ?_ (by first | (simp; done) | (simp; omega)) _)
set_option maxHeartbeats 1000000 in
theorem source_any (len cap : Nat) (ao : Option Addr) (w : World) (hl : (len : Int) ≤ 1048576) :
    Calls Tryz.prog 17 #[.slice ao len cap] w fun e w' => e = .returned (.pointer (some ⟨w.heap.size, 0, none⟩)) ∧ w' = w.alloc (.cells #[.slice ao len cap, .int .i64 0, .int .i64 ((len : Int) % 1000)] 84) := by
  go_enter Tryz.func17, Tryz.ntmps17
  go_wp2
  go_ret
  exact ⟨rfl, rfl⟩
end Go.Proofs.YtkdbcmkmcjaenaaGreatDoor
