/- leadingNumber: the digits that a text begins with. -/
import Derived.Test.YtdepclilngaacaaDoorRows
import Derived.WalkKit
import Derived.WalkSpells
import Derived.WalkLawsBesides
import Derived.Deep.QuietTactic
import Derived.BigQuiet
import Derived.Deep.RegionHeld3
import Derived.Test.YtdepclilngaacaaDoorRn
import Derived.Test.YtdepclilngaacaaDoorGk
import Derived.LoopN
import Derived.Laws.RangeAny
namespace Go.Proofs.YtdepclilngaacaaDoor
open Go.RowKit
set_option linter.unusedSimpArgs false
set_option linter.unusedVariables false

theorem bel_iter (W : World) (s : ByteArray) (p : Nat) : Below W.heap.size W (W.iter s p) := bel_alloc W _
theorem pair_fst {a b : Int} {c d : Nat} (h : (a, c) = (b, d)) : a = b := by cases h; rfl
theorem pair_snd {a b : Int} {c d : Nat} (h : (a, c) = (b, d)) : c = d := by cases h; rfl
theorem ret_ld {most : Int} {l : List UInt8} {n : Int} {k : Nat} (h : (n, k) = ld most l) : Ending.returned (.tuple #[.int .i64 n, .int .i64 (k : Int)]) = .returned (.tuple #[.int .i64 (ld most l).1, .int .i64 (((ld most l).2 : Nat) : Int)]) := by rw [← h]
set_option maxHeartbeats 4000000 in
theorem lead_any (s : ByteArray) (most : Int) (w : World) (h0 : 0 ≤ most) (h1 : most ≤ 100000) (hs : s.size ≤ 1048576) :
    Calls Tryd.prog 40 #[.string s, .int .i64 most] w fun e w' => e = .returned (.tuple #[.int .i64 (ld most (bl s)).1, .int .i64 (ld most (bl s)).2]) ∧ Below w.heap.size w w' := by
  go_enter Tryd.func40, Tryd.ntmps40
  go_wp2
  go_loopw [4] (fun s4 wr => ∃ (pos : Nat) (n : Int), pos ≤ s.size ∧ s4 = .int .i64 n ∧ 0 ≤ n ∧ n ≤ most ∧ wr = w.iter s pos ∧ ldG most ((bl s).drop pos) pos n = ld most (bl s)) (fun _ wr => s.size - wr.iterPos w.heap.size)
  case atStart => exact ⟨0, 0, by omega, rfl, by omega, h0, rfl, rfl⟩
  case round =>
    obtain ⟨pos, n, hp, rfl, hn0, hn1, rfl, hL0⟩ := hrel
    have hL : Hid (ldG most ((bl s).drop pos) pos n = ld most (bl s)) := hL0
    clear hL0
    by_cases hlt : pos < s.size
    · by_cases ha : (s[pos]'hlt).toNat < 128
      · have hnx : ∀ ty, (Instr.next (.pointer (some ⟨w.heap.size, 0, none⟩)) true ty).run Tryd.prog (w.iter s pos) = _ := fun ty => run_next_ascii w s pos ty hlt ha
        obtain ⟨c, hc⟩ : ∃ c : Nat, c = (s[pos]'hlt).toNat := ⟨_, rfl⟩
        rw [← hc] at hnx
        have hc' : Hid (c = (s[pos]'hlt).toNat) := hc
        rw [← hc] at ha
        clear hc
        by_cases hd : 48 ≤ c ∧ c ≤ 57
        · obtain ⟨d1, d2⟩ := hd
          have d1' : ¬ (c : Int) < 48 := by omega
          have d2' : ¬ 57 < (c : Int) := by omega
          have hdg : Hid (dg (s[pos]'hlt) = true) := dg_iff.2 (by rw [← hc'.out]; exact ⟨d1, d2⟩)
          by_cases hz : 0 < pos ∧ n = 0
          · obtain ⟨z1, rfl⟩ := hz
            have z1' : (0 : Int) < (pos : Int) := by omega
            have HR : Hid ((0, 0) = ld most (bl s)) := by rw [← hL.out]; exact (ld_zero most s pos 0 hlt hdg.out ⟨z1, rfl⟩).symm
            go_wp2
            go_ret2
            exact ⟨ret_ld HR.out, bel_iter _ _ _⟩
          · by_cases hb : most < 10 * n + ((c : Int) - 48)
            · have HR : Hid ((0, 0) = ld most (bl s)) := by rw [← hL.out]; exact (ld_big most s pos n hlt hdg.out hz (by rw [← hc'.out]; exact hb)).symm
              have hzz : ¬ (0 : Int) < (pos : Int) ∨ ¬ n = 0 := by omega
              rcases hzz with hz1 | hz1
              · go_wp2
                all_goals go_ret2
                all_goals exact ⟨ret_ld HR.out, bel_iter _ _ _⟩
              · have hz2 : (n == 0) = false := beq_eq_false_iff_ne.2 hz1
                go_wp2
                all_goals go_ret2
                all_goals exact ⟨ret_ld HR.out, bel_iter _ _ _⟩
            · have HR : Hid (ldG most ((bl s).drop (pos + 1)) (pos + 1) (10 * n + ((c : Int) - 48)) = ld most (bl s)) := by
                show _ = _
                rw [← hL.out, hc'.out]
                exact (ld_more most s pos n hlt hdg.out hz (by rw [← hc'.out]; exact hb)).symm
              have hzz : ¬ (0 : Int) < (pos : Int) ∨ ¬ n = 0 := by omega
              rcases hzz with hz1 | hz1
              · go_wp2
                go_roundw
                case rel => exact ⟨pos + 1, _, by omega, rfl, by omega, by omega, rfl, HR.out⟩
                case measure => simp; omega
              · have hz2 : (n == 0) = false := beq_eq_false_iff_ne.2 hz1
                go_wp2
                all_goals
                  go_roundw
                  case rel => exact ⟨pos + 1, _, by omega, rfl, by omega, by omega, rfl, HR.out⟩
                  case measure => simp; omega
        · have hdg : Hid (dg (s[pos]'hlt) = false) := by
            rw [← Bool.not_eq_true]
            exact fun h => hd (by rw [hc'.out]; exact dg_iff.1 h)
          have HR : Hid ((n, pos) = ld most (bl s)) := by rw [← hL.out]; exact (ld_no most s pos n hlt hdg.out).symm
          have hdd : (c : Int) < 48 ∨ (¬ (c : Int) < 48 ∧ 57 < (c : Int)) := by omega
          rcases hdd with e1 | ⟨e1, e2⟩
          all_goals
            go_wp2
            go_ret2
            exact ⟨ret_ld HR.out, bel_iter _ _ _⟩
      · have hnx : ∀ ty, (Instr.next (.pointer (some ⟨w.heap.size, 0, none⟩)) true ty).run Tryd.prog (w.iter s pos) = _ := fun ty => run_next_any w s pos ty hlt
        have hh := decode_high s pos hlt (by omega)
        have hle := decode_le s pos
        have hdg : Hid (dg (s[pos]'hlt) = false) := by
          rw [← Bool.not_eq_true]
          exact fun h => by have := dg_iff.1 h; omega
        have HR : Hid ((n, pos) = ld most (bl s)) := by rw [← hL.out]; exact (ld_no most s pos n hlt hdg.out).symm
        obtain ⟨c, hc⟩ : ∃ c : Nat, c = (Utf8.decode s pos).1 := ⟨_, rfl⟩
        rw [← hc] at hnx hh hle
        clear hc
        have e1 : ¬ (c : Int) < 48 := by omega
        have e2 : 57 < (c : Int) := by omega
        go_wp2
        go_ret2
        exact ⟨ret_ld HR.out, bel_iter _ _ _⟩
    · have hnx : ∀ ty, (Instr.next (.pointer (some ⟨w.heap.size, 0, none⟩)) true ty).run Tryd.prog (w.iter s pos) = _ := fun ty => run_next_end w s pos ty hlt
      have e : pos = s.size := by omega
      have HR : Hid ((n, s.size) = ld most (bl s)) := by
        show (n, s.size) = ld most (bl s)
        rw [← hL.out, ld_end most s pos n hlt, e]
      clear hL e
      go_wp2
      go_ret2
      exact ⟨ret_ld HR.out, bel_iter _ _ _⟩
end Go.Proofs.YtdepclilngaacaaDoor
