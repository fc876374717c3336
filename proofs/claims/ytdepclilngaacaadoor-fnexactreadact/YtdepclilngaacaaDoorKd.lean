/- The words that acts begin with: which kind a word is, on both sides. -/
import Derived.Test.YtdepclilngaacaaDoorRows
import Derived.WalkKit
import Derived.WalkSpells
import Derived.WalkLawsBesides
import Derived.Deep.QuietTactic
import Derived.BigQuiet
import Derived.Deep.RegionHeld3
import Derived.Test.YtdepclilngaacaaDoorGk
import Derived.Test.YtdepclilngaacaaDoorWw
import Derived.LoopN
namespace Go.Proofs.YtdepclilngaacaaDoor
open Go.RowKit
set_option linter.unusedSimpArgs false
set_option linter.unusedVariables false

def wl : List (List UInt8) := [[], [112, 117, 116], [100, 101, 108, 101, 116, 101], [100, 101, 108, 105, 118, 101, 114], [100, 114, 111, 112], [116, 119, 105, 99, 101], [99, 114, 97, 115, 104], [98, 97, 99, 107], [116, 111, 114, 110], [101, 120, 99, 104, 97, 110, 103, 101], [104, 97, 110, 100, 111, 102, 102], [112, 111, 108, 108], [116, 97, 107, 101, 111, 118, 101, 114], [99, 117, 116], [114, 101, 115, 121, 110, 99]]
def wd (i : Nat) : ByteArray := ⟨(wl.getD i []).toArray⟩
def hit (s : ByteArray) (i : Nat) : Bool := (wd i).toList == s.toList
theorem wd_list (i : Nat) : (wd i).toList = wl.getD i [] := by rw [ByteArray.toList_eq]; rfl
theorem wl_one : ∀ i, i < 15 → ∀ j, j < 15 → wl.getD i [] = wl.getD j [] → i = j := by decide +kernel
theorem hit_one {s : ByteArray} {i j : Nat} (hi : i < 15) (hj : j < 15) (h : hit s i = true) (k : hit s j = true) : i = j := by
  have h1 := beq_iff_eq.1 h
  have h2 := beq_iff_eq.1 k
  rw [wd_list] at h1 h2
  exact wl_one i hi j hj (h1.trans h2.symm)
/-- The kind of a word: 0 of one that no act begins with. -/
def kindN (s : ByteArray) : Nat := ((List.range' 1 14).find? (hit s)).getD 0
theorem kind_lt (s : ByteArray) : kindN s < 15 := by
  unfold kindN
  cases h : (List.range' 1 14).find? (hit s) with
  | none => simp
  | some k =>
    have := List.mem_range'_1.1 (List.mem_of_find?_eq_some h)
    show k < 15
    omega
theorem kind_hit {s : ByteArray} {k : Nat} (h1 : 1 ≤ k) (h2 : k < 15) (h : hit s k = true) : kindN s = k := by
  unfold kindN
  cases hf : (List.range' 1 14).find? (hit s) with
  | none =>
    have := List.find?_eq_none.1 hf k (List.mem_range'_1.2 (by omega))
    exact (this h).elim
  | some j =>
    have hm := List.mem_range'_1.1 (List.mem_of_find?_eq_some hf)
    have hj := List.find?_some hf
    show j = k
    exact hit_one (by omega) h2 hj h
theorem kind_is {s : ByteArray} (h : kindN s ≠ 0) : hit s (kindN s) = true := by
  unfold kindN at h ⊢
  cases hf : (List.range' 1 14).find? (hit s) with
  | none => rw [hf] at h; exact (h rfl).elim
  | some j => exact List.find?_some hf
theorem kind_none {s : ByteArray} (h : ∀ j, j < 15 → hit s j = false) : kindN s = 0 := by
  rcases Nat.eq_zero_or_pos (kindN s) with e | e
  · exact e
  · have := kind_is (s := s) (by omega)
    rw [h _ (kind_lt s)] at this
    cases this
theorem kind_first {s : ByteArray} (h : hit s 0 = true) : kindN s = 0 := by
  rcases Nat.eq_zero_or_pos (kindN s) with e | e
  · exact e
  · have := hit_one (by omega) (kind_lt s) h (kind_is (s := s) (by omega))
    omega
theorem kind_at {s : ByteArray} {k : Nat} (hk : k < 15) (h : hit s k = true) : kindN s = k := by
  rcases Nat.eq_zero_or_pos k with e | e
  · subst e; exact kind_first h
  · exact kind_hit e hk h
/-- The specification's reckoning: the last place so far. -/
def kindTo (s : ByteArray) (i : Nat) : Nat := if kindN s < i then kindN s else 0
theorem kindTo_one (s : ByteArray) : kindTo s 1 = 0 := by unfold kindTo; split <;> omega
theorem kindTo_all (s : ByteArray) : kindTo s 15 = kindN s := by unfold kindTo; rw [if_pos (kind_lt s)]
theorem kindTo_yes {s : ByteArray} {i : Nat} (hi : i < 15) (h : hit s i = true) : kindTo s (i + 1) = i := by
  have := kind_at hi h
  unfold kindTo
  rw [if_pos (by omega), this]
theorem kindTo_no {s : ByteArray} {i : Nat} (h : hit s i = false) : kindTo s (i + 1) = kindTo s i := by
  unfold kindTo
  by_cases e : kindN s = i
  · by_cases h0 : kindN s = 0
    · rw [h0]; simp
    · have := kind_is h0
      rw [e, h] at this
      cases this
  · by_cases h1 : kindN s < i
    · rw [if_pos h1, if_pos (by omega)]
    · rw [if_neg h1, if_neg (by omega)]
def arr : Array Value := #[.string ⟨#[]⟩, .string ⟨#[112, 117, 116]⟩, .string ⟨#[100, 101, 108, 101, 116, 101]⟩, .string ⟨#[100, 101, 108, 105, 118, 101, 114]⟩, .string ⟨#[100, 114, 111, 112]⟩, .string ⟨#[116, 119, 105, 99, 101]⟩, .string ⟨#[99, 114, 97, 115, 104]⟩, .string ⟨#[98, 97, 99, 107]⟩, .string ⟨#[116, 111, 114, 110]⟩, .string ⟨#[101, 120, 99, 104, 97, 110, 103, 101]⟩, .string ⟨#[104, 97, 110, 100, 111, 102, 102]⟩, .string ⟨#[112, 111, 108, 108]⟩, .string ⟨#[116, 97, 107, 101, 111, 118, 101, 114]⟩, .string ⟨#[99, 117, 116]⟩, .string ⟨#[114, 101, 115, 121, 110, 99]⟩]
theorem ix0 (w : World) : (Instr.index 48 (.agg arr) (.int .i64 0)).run Tryd.prog w = .ok (.string ⟨#[]⟩) w := by kernel_rfl
theorem ix1 (w : World) : (Instr.index 48 (.agg arr) (.int .i64 1)).run Tryd.prog w = .ok (.string ⟨#[112, 117, 116]⟩) w := by kernel_rfl
theorem ix2 (w : World) : (Instr.index 48 (.agg arr) (.int .i64 2)).run Tryd.prog w = .ok (.string ⟨#[100, 101, 108, 101, 116, 101]⟩) w := by kernel_rfl
theorem ix3 (w : World) : (Instr.index 48 (.agg arr) (.int .i64 3)).run Tryd.prog w = .ok (.string ⟨#[100, 101, 108, 105, 118, 101, 114]⟩) w := by kernel_rfl
theorem ix4 (w : World) : (Instr.index 48 (.agg arr) (.int .i64 4)).run Tryd.prog w = .ok (.string ⟨#[100, 114, 111, 112]⟩) w := by kernel_rfl
theorem ix5 (w : World) : (Instr.index 48 (.agg arr) (.int .i64 5)).run Tryd.prog w = .ok (.string ⟨#[116, 119, 105, 99, 101]⟩) w := by kernel_rfl
theorem ix6 (w : World) : (Instr.index 48 (.agg arr) (.int .i64 6)).run Tryd.prog w = .ok (.string ⟨#[99, 114, 97, 115, 104]⟩) w := by kernel_rfl
theorem ix7 (w : World) : (Instr.index 48 (.agg arr) (.int .i64 7)).run Tryd.prog w = .ok (.string ⟨#[98, 97, 99, 107]⟩) w := by kernel_rfl
theorem ix8 (w : World) : (Instr.index 48 (.agg arr) (.int .i64 8)).run Tryd.prog w = .ok (.string ⟨#[116, 111, 114, 110]⟩) w := by kernel_rfl
theorem ix9 (w : World) : (Instr.index 48 (.agg arr) (.int .i64 9)).run Tryd.prog w = .ok (.string ⟨#[101, 120, 99, 104, 97, 110, 103, 101]⟩) w := by kernel_rfl
theorem ix10 (w : World) : (Instr.index 48 (.agg arr) (.int .i64 10)).run Tryd.prog w = .ok (.string ⟨#[104, 97, 110, 100, 111, 102, 102]⟩) w := by kernel_rfl
theorem ix11 (w : World) : (Instr.index 48 (.agg arr) (.int .i64 11)).run Tryd.prog w = .ok (.string ⟨#[112, 111, 108, 108]⟩) w := by kernel_rfl
theorem ix12 (w : World) : (Instr.index 48 (.agg arr) (.int .i64 12)).run Tryd.prog w = .ok (.string ⟨#[116, 97, 107, 101, 111, 118, 101, 114]⟩) w := by kernel_rfl
theorem ix13 (w : World) : (Instr.index 48 (.agg arr) (.int .i64 13)).run Tryd.prog w = .ok (.string ⟨#[99, 117, 116]⟩) w := by kernel_rfl
theorem ix14 (w : World) : (Instr.index 48 (.agg arr) (.int .i64 14)).run Tryd.prog w = .ok (.string ⟨#[114, 101, 115, 121, 110, 99]⟩) w := by kernel_rfl
theorem ix_all (k : Nat) (hk : k < 15) (w : World) : (Instr.index 48 (.agg arr) (.int .i64 (k : Int))).run Tryd.prog w = .ok (.string (wd k)) w := by
  have hc : k = 0 ∨ k = 1 ∨ k = 2 ∨ k = 3 ∨ k = 4 ∨ k = 5 ∨ k = 6 ∨ k = 7 ∨ k = 8 ∨ k = 9 ∨ k = 10 ∨ k = 11 ∨ k = 12 ∨ k = 13 ∨ k = 14 := by omega
  rcases hc with rfl | rfl | rfl | rfl | rfl | rfl | rfl | rfl | rfl | rfl | rfl | rfl | rfl | rfl | rfl
  · exact ix0 w
  · exact ix1 w
  · exact ix2 w
  · exact ix3 w
  · exact ix4 w
  · exact ix5 w
  · exact ix6 w
  · exact ix7 w
  · exact ix8 w
  · exact ix9 w
  · exact ix10 w
  · exact ix11 w
  · exact ix12 w
  · exact ix13 w
  · exact ix14 w
set_option maxHeartbeats 1000000 in
theorem impl_kind (s : ByteArray) (w : World) (t : TypeId) (fr : Nat × Nat) (hc : w.heap[0]? = some (.cells arr t fr)) :
    Calls Tryd.prog 9 #[.string s] w fun e w' => e = .returned (.int .i64 (kindN s : Nat)) ∧ w' = w := by
  go_enter Tryd.func9, Tryd.ntmps9
  go_wp2_with (refine wpList_load_row rfl 48 _ rfl 0 rfl t _ fr _ hc Tryd.underlying48 rfl (by kernel_rfl) ?_)
  clear hc
  go_loopw [6] (fun s6 wr => ∃ k : Nat, k ≤ 15 ∧ s6 = .int .i64 k ∧ (∀ j, j < k → hit s j = false) ∧ wr = w) (fun s6 _ => 15 - (intOf s6).toNat)
  case atStart => exact ⟨0, by omega, rfl, fun j hj => by omega, rfl⟩
  case round =>
    obtain ⟨k, hk, rfl, hn0, rfl⟩ := hrel
    have hn : Hid (∀ j, j < k → hit s j = false) := hn0
    clear hn0
    by_cases hlt : k < 15
    · have hlt' : (k : Int) < 15 := by omega
      have hix := ix_all k hlt
      cases hh : hit s k
      · have hh' : ((wd k).toList == s.toList) = false := hh
        go_wp2
        go_roundw
        case rel => exact ⟨k + 1, by omega, by go_num, fun j hj => by
          rcases Nat.lt_or_ge j k with h' | h'
          · exact hn.out j h'
          · rw [show j = k from by omega]; exact hh', by first | rfl | trivial⟩
        case measure => simp [intOf]; omega
      · have hh' : ((wd k).toList == s.toList) = true := hh
        have HR : Hid ((k : Int) = ((kindN s : Nat) : Int)) := (by show _ = _; rw [kind_at hlt hh])
        go_wp2
        go_ret
        exact ⟨ret_int HR.out, rfl⟩
    · have hlt' : ¬ (k : Int) < 15 := by omega
      have HR : Hid ((0 : Int) = ((kindN s : Nat) : Int)) := (by show _ = _; rw [kind_none (fun j hj => hn.out j (by omega))]; rfl)
      go_wp2
      go_ret
      exact ⟨ret_int HR.out, rfl⟩
def kws : List ByteArray := (List.range 15).map wd
theorem kws_at (i : Nat) (hi : i < 15) : (txB kws)[i]? = some (.string (wd i)) := by simp [txB, kws, hi]
theorem sp_words (w : World) : Calls Tryd.prog 14 #[] w fun e w' => e = .returned (.slice (some ⟨w.heap.size, 0, none⟩) 15 15) ∧ GRow w.heap.size w' (some ⟨w.heap.size, 0, none⟩) (txB kws) ∧ Below w.heap.size w w' := by
  have X : Hid (Box (w.alloc (.cells arr 9)) w.heap.size arr.toList ∧ Below w.heap.size w (w.alloc (.cells arr 9))) := ⟨box_mk, bel_alloc _ _⟩
  have HA : Hid (arr.toList = txB kws) := by show _ = _; rfl
  go_enter Tryd.func14, Tryd.ntmps14
  go_wp2
  go_ret
  refine ⟨rfl, .inr ⟨_, 0, rfl, Nat.le_refl _, fun j hj => ?_⟩, X.out.2⟩
  rw [Nat.zero_add]
  have h1 : j < arr.toList.length := by rw [HA.out]; exact hj
  have := (X.out.1.is j h1).1
  simp only [HA.out] at this
  exact this
end Go.Proofs.YtdepclilngaacaaDoor
