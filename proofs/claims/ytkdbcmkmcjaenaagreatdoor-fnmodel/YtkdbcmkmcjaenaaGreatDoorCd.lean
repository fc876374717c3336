/- The order of dots, as the program asks it. -/
import Derived.Test.YtkdbcmkmcjaenaaGreatDoorRows
import Derived.WalkKit
import Derived.WalkSpells
import Derived.WalkLawsBesides
import Derived.Deep.QuietTactic
import Derived.BigQuiet
import Derived.Deep.RegionHeld3
import Derived.Test.YtkdbcmkmcjaenaaGreatDoorSb
import Derived.Shelf.SlSortCmp.NoneTotal
import Derived.LoopN
import Derived.OwnWalk
namespace Go.Proofs.YtkdbcmkmcjaenaaGreatDoor
open Go.RowKit
set_option linter.unusedSimpArgs false
set_option linter.unusedVariables false

theorem alloc3 (w : World) (a b v : Obj) : (((w.alloc a).alloc b).drew.alloc v) = Go.Sort.grow (w.drewN 1) #[a, b, v] := by
  rw [Go.Sort.alloc_eq_grow, Go.Sort.alloc_eq_grow, Go.Sort.alloc_eq_grow, Go.Sort.grow_grow, World.drew_is_drewN]
  show Go.Sort.grow (Go.Sort.grow (w.drewN 1) (#[a] ++ #[b])) #[v] = _
  rw [Go.Sort.grow_grow]
  rfl
def icmp (a b : Int) : Int := if a < b then -1 else if b < a then 1 else 0
set_option maxHeartbeats 1000000 in
theorem nan_any (x : Int) (w : World) : Calls Tryz.prog 96 #[.int .i64 x] w fun e w' => e = .returned (.bool false) ∧ w' = w := by
  go_enter Tryz.func96, Tryz.ntmps96
  go_wp2
  go_ret
  exact ⟨rfl, rfl⟩
set_option maxHeartbeats 1000000 in
theorem compare_any (a b : Int) (w : World) : Calls Tryz.prog 64 #[.int .i64 a, .int .i64 b] w fun e w' => e = .returned (.int .i64 (icmp a b)) ∧ w' = w := by
  rcases show a < b ∨ b < a ∨ a = b by omega with h | h | h
  · have HC : Hid (icmp a b = -1) := by show _ = _; unfold icmp; simp [h]
    go_enter Tryz.func64, Tryz.ntmps64
    go_wp2_with (go_at_call 96; refine (nan_any _ _).mono ?_; rintro e w1 ⟨rfl, rfl⟩)
    go_ret
    exact ⟨congrArg (fun x => Ending.returned (.int .i64 x)) HC.out.symm, rfl⟩
  · have HC : Hid (icmp a b = 1) := by show _ = _; unfold icmp; rw [if_neg (by omega), if_pos h]
    have h2 : ¬ a < b := by omega
    go_enter Tryz.func64, Tryz.ntmps64
    go_wp2_with (go_at_call 96; refine (nan_any _ _).mono ?_; rintro e w1 ⟨rfl, rfl⟩)
    go_ret
    exact ⟨congrArg (fun x => Ending.returned (.int .i64 x)) HC.out.symm, rfl⟩
  · have HC : Hid (icmp a b = 0) := by show _ = _; unfold icmp; rw [if_neg (by omega), if_neg (by omega)]
    have h2 : ¬ a < b := by omega
    have h3 : ¬ b < a := by omega
    clear h
    go_enter Tryz.func64, Tryz.ntmps64
    go_wp2_with (go_at_call 96; refine (nan_any _ _).mono ?_; rintro e w1 ⟨rfl, rfl⟩)
    go_ret
    exact ⟨congrArg (fun x => Ending.returned (.int .i64 x)) HC.out.symm, rfl⟩
def orv (x y : Int) : Int := if x = 0 then y else x
set_option maxHeartbeats 1000000 in
theorem or2_any (g : Nat) (x y : Int) (w : World) (h0 : w.cell? ⟨g, 0, none⟩ = some (.int .i64 x)) (h1 : w.cell? ⟨g, 1, none⟩ = some (.int .i64 y)) :
    Calls Tryz.prog 63 #[.slice (some ⟨g, 0, none⟩) 2 2] w fun e w' => e = .returned (.int .i64 (orv x y)) ∧ w' = w := by
  rcases show (x ≠ 0) ∨ (x = 0 ∧ y ≠ 0) ∨ (x = 0 ∧ y = 0) by omega with h | ⟨h, k⟩ | ⟨h, k⟩
  · have HC : Hid ((orv x y) = x) := if_neg h
    have e1 : (x != 0) = true := by simpa using h
    clear h
    go_enter Tryz.func63, Tryz.ntmps63
    go_wp2
    refine wp_loop_rounds 3 ?_
    repeat (rw [rounds_succ]; go_wp2)
    go_ret
    exact ⟨congrArg (fun x => Ending.returned (.int .i64 x)) HC.out.symm, rfl⟩
  · have HC : Hid ((orv x y) = y) := if_pos h
    have e1 : (x != 0) = false := by simp [h]
    have e2 : (y != 0) = true := by simpa using k
    clear h k
    go_enter Tryz.func63, Tryz.ntmps63
    go_wp2
    refine wp_loop_rounds 3 ?_
    repeat (rw [rounds_succ]; go_wp2)
    go_ret
    exact ⟨congrArg (fun x => Ending.returned (.int .i64 x)) HC.out.symm, rfl⟩
  · have HC : Hid ((orv x y) = 0) := by show _ = _; rw [h, k]; rfl
    have e1 : (x != 0) = false := by simp [h]
    have e2 : (y != 0) = false := by simp [k]
    clear h k
    go_enter Tryz.func63, Tryz.ntmps63
    go_wp2
    refine wp_loop_rounds 3 ?_
    repeat (rw [rounds_succ]; go_wp2)
    go_ret
    exact ⟨congrArg (fun x => Ending.returned (.int .i64 x)) HC.out.symm, rfl⟩
theorem dcmp_or (p n q m : Int) : orv (icmp p q) (icmp n m) = dcmp p n q m := by
  unfold orv icmp dcmp
  repeat (first | split | omega)

set_option maxRecDepth 20000 in
set_option maxHeartbeats 4000000 in
theorem cmpDots (p n q m : Int) (w : World) : Calls Tryz.prog 34 #[.agg #[.int .i64 p, .int .i64 n], .agg #[.int .i64 q, .int .i64 m]] w fun e w' => e = .returned (.int .i64 (dcmp p n q m)) ∧ ∃ k os, w' = Go.Sort.grow (w.drewN k) os := by
  have HD := dcmp_or p n q m
  have HBX : Hid (Box ((w.alloc (.cells #[.int .i64 p, .int .i64 n] 40)).alloc (.cells #[.int .i64 q, .int .i64 m] 40)) w.heap.size [.int .i64 p, .int .i64 n] ∧ Box ((w.alloc (.cells #[.int .i64 p, .int .i64 n] 40)).alloc (.cells #[.int .i64 q, .int .i64 m] 40)) (w.heap.size + 1) [.int .i64 q, .int .i64 m]) := by
    have s1 : (w.alloc (.cells #[.int .i64 p, .int .i64 n] 40)).heap.size = w.heap.size + 1 := by simp
    refine ⟨(box_mk (W := w) (t := 40) (vs := [.int .i64 p, .int .i64 n])).next (bel_alloc _ _), ?_⟩
    have h := box_mk (W := (w.alloc (.cells #[.int .i64 p, .int .i64 n] 40))) (t := 40) (vs := [.int .i64 q, .int .i64 m])
    rw [s1] at h
    exact h
  have HW : Hid (∀ v, (((w.alloc (.cells #[.int .i64 p, .int .i64 n] 40)).alloc (.cells #[.int .i64 q, .int .i64 m] 40)).drew.alloc v) = Go.Sort.grow (w.drewN 1) #[.cells #[.int .i64 p, .int .i64 n] 40, .cells #[.int .i64 q, .int .i64 m] 40, v]) := fun v => by
    exact alloc3 _ _ _ _
  go_enter Tryz.func34, Tryz.ntmps34
  go_upto_region 1 with fail
  generalize ((w.alloc (.cells #[.int .i64 p, .int .i64 n] 40)).alloc (.cells #[.int .i64 q, .int .i64 m] 40)) = V0 at *
  generalize w.heap.size + 1 = gb at *
  have hws : Hid (∃ x, x = w.heap.size) := ⟨_, rfl⟩
  clear hws
  generalize w.heap.size = ga at *
  refine wp_region_held_drew (S := (fun w' => (w'.cell? ⟨ga, 0, none⟩ = some (.int .i64 p) ∧ w'.cell? ⟨ga, 1, none⟩ = some (.int .i64 n)) ∧ (w'.cell? ⟨gb, 0, none⟩ = some (.int .i64 q) ∧ w'.cell? ⟨gb, 1, none⟩ = some (.int .i64 m)))) (by kernel_rfl) ?_ (fun hHeld => ?_)
  · (try dsimp only)
    exact ⟨(HBX.out.1.next (bel_drew _)).c2, (HBX.out.2.next (bel_drew _)).c2⟩
  replace HBX : Hid (Box V0.drew ga [.int .i64 p, .int .i64 n] ∧ Box V0.drew gb [.int .i64 q, .int .i64 m]) := ⟨HBX.out.1.next (bel_drew _), HBX.out.2.next (bel_drew _)⟩
  generalize V0.drew = V1 at *
  refine wTk 0 ?_
  refine wTk 1 ?_
  refine wTk 2 ?_
  refine wTk 3 ?_
  refine wTk 5 ?_
  refine wTk 6 ?_
  refine wTk 7 ?_
  refine wTk 8 ?_
  refine wRd 4 (fun K hK => ?_)
  go_simp
  go_at_call 64
  refine (compare_any p q _).mono ?_
  rintro e w1 ⟨rfl, rfl⟩
  (try simp only [])
  refine wHk hK ⟨HBX.out.1.c2, HBX.out.2.c2⟩ ?_
  clear hK K hHeld
  intro hHeld
  refine wRd 9 (fun K hK => ?_)
  go_simp
  go_at_call 64
  refine (compare_any n m _).mono ?_
  rintro e V3 ⟨rfl, rfl⟩
  (try simp only [])
  refine wHk hK ⟨HBX.out.1.c2, HBX.out.2.c2⟩ ?_
  clear hK K hHeld
  intro hHeld
  have HD2 : Hid (orv (icmp p q) (icmp n m) = dcmp p n q m) := HD
  clear HD
  generalize icmp p q = x at *
  generalize icmp n m = y at *
  refine wRd 10 (fun K hK => ?_)
  go_simp
  (try simp only [])
  have HC : Hid (Box (V3.alloc (.cells #[.int .i64 x, .int .i64 y] 3)) V3.heap.size [.int .i64 x, .int .i64 y]) := box_mk
  have HE : Hid (∃ k os, V3.alloc (.cells #[.int .i64 x, .int .i64 y] 3) = Go.Sort.grow (w.drewN k) os) := ⟨1, _, HW.out _⟩
  refine wHk hK ⟨(HBX.out.1.next (bel_alloc _ _)).c2, (HBX.out.2.next (bel_alloc _ _)).c2⟩ ?_
  clear hK K hHeld HW
  intro hHeld
  replace HBX : Hid (Box (V3.alloc (.cells #[.int .i64 x, .int .i64 y] 3)) ga [.int .i64 p, .int .i64 n] ∧ Box (V3.alloc (.cells #[.int .i64 x, .int .i64 y] 3)) gb [.int .i64 q, .int .i64 m]) := ⟨HBX.out.1.next (bel_alloc _ _), HBX.out.2.next (bel_alloc _ _)⟩
  generalize V3.alloc (.cells #[.int .i64 x, .int .i64 y] 3) = V2 at *
  generalize V3.heap.size = gc at *
  refine wRd 11 (fun K hK => ?_)
  go_simp
  go_at_call 63
  refine (or2_any gc x y _ HC.out.c2.1 HC.out.c2.2).mono ?_
  rintro e V4 ⟨rfl, rfl⟩
  (try simp only [])
  refine wHk hK ⟨HBX.out.1.c2, HBX.out.2.c2⟩ ?_
  clear hK K hHeld
  intro hHeld
  rw [HD2.out]
  refine wTk 12 ?_
  refine wpAnyH_done (by kernel_rfl) ?_ _
  clear hHeld
  go_wp2
  go_ret
  exact ⟨rfl, HE.out⟩
end Go.Proofs.YtkdbcmkmcjaenaaGreatDoor
