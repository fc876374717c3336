/- A view takes a row. -/
import Derived.Test.YtomcpdbaenohdaaRows
import Derived.WalkKit
import Derived.WalkSpells
import Derived.WalkLawsBesides
import Derived.Deep.QuietTactic
import Derived.BigQuiet
import Derived.Deep.RegionHeld3
import Derived.Test.YtomcpdbaenohdaaMp
import Derived.Test.YtomcpdbaenohdaaRb
import Derived.LoopN
import Derived.Carry
namespace Go.Proofs.Ytomcpdbaenohdaa
open Go.RowKit
set_option linter.unusedSimpArgs false
set_option linter.unusedVariables false

/-- A row, as a value. -/
def rowV (x : Rm) : Value := .agg #[.int .i64 x.r.part, .string x.r.key, .slice x.p x.r.vs.length x.q]
set_option maxRecDepth 100000 in
theorem zeroMap (w : World) : (zeroValue 50).run Try.prog w = .ok (.map none) w := by kernel_rfl
set_option maxRecDepth 100000 in
theorem zeroRow (w : World) : (zeroValue 38).run Try.prog w = .ok (.agg #[.int .i64 0, .string ⟨#[]⟩, .slice none 0 0]) w := by kernel_rfl
set_option maxRecDepth 100000 in
theorem eqMap (v : Option Nat) (w : World) : Sem.run Try.prog (binOp BinOp.eql 50 (.map v) (.map none)) w = .ok (.bool v.isNone) w := by
  cases v <;> kernel_rfl
theorem cell_gb {W w1 : World} {b o mb : Nat} {v : Value} (h : W.cell? ⟨b, o, none⟩ = some v) (hg : W.grownBy w1 (some mb)) (hn : b ≠ mb) : w1.cell? ⟨b, o, none⟩ = some v := hg.cell h (fun e => hn (by cases e; rfl))
set_option maxRecDepth 20000 in
set_option maxHeartbeats 4000000 in
theorem add_new (vb n : Nat) (MO : Int → Option Value) (x : Rm) (w : World) (hm : MapI w Try.prog 3 vb n MO) (hn : n < 100000) (hw : (Lit.int .i64 x.r.part).wf = true) (hk : x.r.key.size ≤ maxLen) (hz : MO x.r.part = none) :
    Calls Try.prog 42 #[.map (some vb), .agg #[.int .i64 x.r.part, .string x.r.key, .slice x.p x.r.vs.length x.q]] w fun e w' => ∃ b, w.heap.size ≤ b ∧ MapI w' Try.prog 3 vb (n + 1) (msetI MO x.r.part (.map (some b))) ∧ MapF w' Try.prog 9 b 1 (mset (fun _ => none) x.r.key (rowV x)) ∧ Kp (· = vb) w w' ∧ e = .returned (.tuple #[]) := by
  have EQ := eqMap
  have RM := fun (W : World) => run_makeMap (P := Try.prog) 50 W
  have HV : Hid (vb < w.heap.size) := hm.lt
  obtain ⟨W1, hW1⟩ : ∃ W1, W1 = w.alloc (.cells #[.int .i64 x.r.part, .string x.r.key, .slice x.p x.r.vs.length x.q] 38) := ⟨_, rfl⟩
  have B1 : Below w.heap.size w W1 := hW1 ▸ bel_alloc _ _
  have X1 : Box W1 w.heap.size [.int .i64 x.r.part, .string x.r.key, .slice x.p x.r.vs.length x.q] := by rw [hW1]; exact box_mk
  have M1 := hm.next B1
  have LK := M1.look (t := 48) Try.underlying3 Try.underlying48 (zeroMap _) false x.r.part hw
  rw [hz] at LK
  simp only [Bool.false_eq_true, if_false, Option.getD_none] at LK
  have B2 : Below W1.heap.size W1 (W1.alloc (.map #[] 0)) := bel_alloc _ _
  obtain ⟨w2, hrun, M2, g2⟩ := (M1.next B2).store (t := 48) Try.underlying3 Try.underlying48 (by unfold maxLen; omega) x.r.part hw (.map (some W1.heap.size))
  have hlt : vb < W1.heap.size := M1.lt
  have F2 : MapF w2 Try.prog 9 W1.heap.size 0 (fun _ => none) := (mapF_made W1 Try.prog 9).kept g2 (fun e => by cases e; omega)
  have LK2 := M2.look (t := 48) Try.underlying3 Try.underlying48 (zeroMap _) false x.r.part hw
  rw [show msetI MO x.r.part (.map (some W1.heap.size)) x.r.part = some (.map (some W1.heap.size)) from if_pos rfl] at LK2
  simp only [Bool.false_eq_true, if_false, Option.getD_some] at LK2
  obtain ⟨w3, hrun2, M3, g3⟩ := F2.store (t := 50) Try.underlying9 Try.underlying50 (by unfold maxLen; omega) x.r.key hk (rowV x)
  have X1b : Box (W1.alloc (.map #[] 0)) w.heap.size [.int .i64 x.r.part, .string x.r.key, .slice x.p x.r.vs.length x.q] := X1.next B2
  have X2 : Box w2 w.heap.size [.int .i64 x.r.part, .string x.r.key, .slice x.p x.r.vs.length x.q] := X1b.kp (Kp.of_grown g2) (fun e => by have := HV.out; omega)
  have RES : Hid (∃ b, w.heap.size ≤ b ∧ MapI w3 Try.prog 3 vb (n + 1) (msetI MO x.r.part (.map (some b))) ∧ MapF w3 Try.prog 9 b 1 (mset (fun _ => none) x.r.key (rowV x)) ∧ Kp (· = vb) w w3) := by
    refine ⟨W1.heap.size, B1.size, M2.kp (Kp.of_grown g3) (fun e => by omega), M3, ?_⟩
    have k1 : Kp (fun _ => False) w W1 := Kp.of_below B1
    have k2 : Kp (fun _ => False) w (W1.alloc (.map #[] 0)) := k1.trans (Kp.of_below (E := fun _ => False) B2) (fun _ _ h => h) (fun _ _ h => h)
    have k3 : Kp (· = vb) w w2 := k2.trans (Kp.of_grown g2) (fun _ _ h => h.elim) (fun _ _ h => h)
    exact k3.trans (Kp.of_grown g3) (fun _ _ h => h) (fun y hy h => by have := B1.size; omega)
  obtain ⟨a0, a1, a2⟩ := X1.c3
  obtain ⟨q0, q1, q2⟩ := X1b.c3
  obtain ⟨b0, b1, b2⟩ := X2.c3
  unfold rowV at hrun2
  clear hm M1 M2 M3 F2 g2 g3 X1 X1b X2 B1 B2 hlt hz HV hn hk hw
  go_enter Try.func42, Try.ntmps42
  go_upto_region 1 with fail
  rw [← hW1]
  clear hW1
  go_wp2
  go_end0
  obtain ⟨b, h1, h2, h3, h4⟩ := RES.out
  exact ⟨b, h1, h2, h3, h4, rfl⟩
set_option maxRecDepth 20000 in
set_option maxHeartbeats 4000000 in
theorem add_old (vb n b m : Nat) (MO : Int → Option Value) (MI : ByteArray → Option Value) (x : Rm) (w : World) (hm : MapI w Try.prog 3 vb n MO) (hi : MapF w Try.prog 9 b m MI) (hmn : m < 100000) (hw : (Lit.int .i64 x.r.part).wf = true) (hk : x.r.key.size ≤ maxLen) (hz : MO x.r.part = some (.map (some b))) (hb : b ≠ vb) :
    Calls Try.prog 42 #[.map (some vb), .agg #[.int .i64 x.r.part, .string x.r.key, .slice x.p x.r.vs.length x.q]] w fun e w' => MapI w' Try.prog 3 vb n MO ∧ MapF w' Try.prog 9 b (m + 1) (mset MI x.r.key (rowV x)) ∧ Kp (· = b) w w' ∧ e = .returned (.tuple #[]) := by
  have EQ := eqMap
  obtain ⟨W1, hW1⟩ : ∃ W1, W1 = w.alloc (.cells #[.int .i64 x.r.part, .string x.r.key, .slice x.p x.r.vs.length x.q] 38) := ⟨_, rfl⟩
  have B1 : Below w.heap.size w W1 := hW1 ▸ bel_alloc _ _
  have X1 : Box W1 w.heap.size [.int .i64 x.r.part, .string x.r.key, .slice x.p x.r.vs.length x.q] := by rw [hW1]; exact box_mk
  have M1 := hm.next B1
  have F1 := hi.next B1
  have LK := M1.look (t := 48) Try.underlying3 Try.underlying48 (zeroMap _) false x.r.part hw
  rw [hz] at LK
  simp only [Bool.false_eq_true, if_false, Option.getD_some] at LK
  obtain ⟨w3, hrun2, M3, g3⟩ := F1.store (t := 50) Try.underlying9 Try.underlying50 (by unfold maxLen; omega) x.r.key hk (rowV x)
  have RES : Hid (MapI w3 Try.prog 3 vb n MO ∧ MapF w3 Try.prog 9 b (m + 1) (mset MI x.r.key (rowV x)) ∧ Kp (· = b) w w3) := by
    refine ⟨M1.kp (Kp.of_grown g3) (fun e => hb e.symm), M3, ?_⟩
    exact (Kp.of_below (E := fun _ => False) B1).trans (Kp.of_grown g3) (fun _ _ h => h.elim) (fun _ _ h => h)
  obtain ⟨a0, a1, a2⟩ := X1.c3
  unfold rowV at hrun2
  clear hm hi M1 F1 M3 g3 X1 B1 hz hb hmn hk hw
  go_enter Try.func42, Try.ntmps42
  go_upto_region 1 with fail
  rw [← hW1]
  clear hW1
  go_wp2
  go_end0
  obtain ⟨h2, h3, h4⟩ := RES.out
  exact ⟨h2, h3, h4, rfl⟩
end Go.Proofs.Ytomcpdbaenohdaa
