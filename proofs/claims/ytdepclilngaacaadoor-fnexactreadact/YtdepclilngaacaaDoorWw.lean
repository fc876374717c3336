/- The specification's words of a text. -/
import Derived.Test.YtdepclilngaacaaDoorRows
import Derived.WalkKit
import Derived.WalkSpells
import Derived.WalkLawsBesides
import Derived.Deep.QuietTactic
import Derived.BigQuiet
import Derived.Deep.RegionHeld3
import Derived.Test.YtdepclilngaacaaDoorGk
import Derived.Test.YtdepclilngaacaaDoorWm
import Derived.Test.YtdepclilngaacaaDoorKy
import Derived.LoopN
import Derived.Laws.RangeAny
namespace Go.Proofs.YtdepclilngaacaaDoor
open Go.RowKit
set_option linter.unusedSimpArgs false
set_option linter.unusedVariables false

theorem elS : ElemT Tryd.prog 31 9 1 16 := by
  obtain ⟨i, h1, h2, h3, h4⟩ := info_parts (show (Tryd.prog.info? 9).map (fun i => (i.zero, i.size, i.bytes)) = some (some (.string ⟨#[]⟩), 1, 16) by kernel_rfl)
  exact ⟨Tryd.underlying31, ⟨i, .string ⟨#[]⟩, h1, h2, h3, h4, rfl⟩, by decide, by decide⟩
theorem lit_row {W : World} {v : Value} {ty : TypeId} : GRow 0 (W.alloc (.cells #[v] ty)) (some ⟨W.heap.size, 0, none⟩) [v] := .inr ⟨_, 0, rfl, Nat.zero_le _, fun j hj => by
  have : j = 0 := by simpa using hj
  subst this
  simp
  (try go_simp)⟩
/-- A row of texts. -/
def txB (l : List ByteArray) : List Value := l.map Value.string
def exB (s : ByteArray) (l : List (Nat × Nat)) : List ByteArray := l.map fun x => s.extract x.1 x.2
theorem txB_snoc (s : ByteArray) (l : List (Nat × Nat)) (a b : Nat) : txB (exB s l) ++ [.string (s.extract a b)] = txB (exB s (l ++ [(a, b)])) := by simp [txB, exB]
theorem exB_len (s : ByteArray) (l : List (Nat × Nat)) : (exB s l).length = l.length := by simp [exB]
theorem get_is (s : ByteArray) (i : Nat) (h : i < s.size) : s.get! i = s[i]'h := get_at s i h
/-- What l00Words answers. -/
def WsA (s : ByteArray) (w : World) (e : Ending) (w' : World) : Prop := ∃ p q, e = .returned (.slice p (wordsB s).length q) ∧ OwnG w' 9 1 (.slice p (wordsB s).length q) (wordsB s).length (txB (wordsB s)) w.heap.size ∧ Below w.heap.size w w'
theorem WsA.of {s : ByteArray} {w W : World} {p : Option Addr} {q n : Nat} {acc : List (Nat × Nat)} (ho : OwnG W 9 1 (.slice p n q) n (txB (exB s acc)) w.heap.size) (hb : Below w.heap.size w W) (hw : exB s acc = wordsB s) (hn : n = acc.length) : WsA s w (.returned (.slice p n q)) W := by
  have e : n = (wordsB s).length := by rw [← hw, exB_len]; exact hn
  rw [hw] at ho
  subst e
  exact ⟨p, q, rfl, ho, hb⟩
set_option maxHeartbeats 4000000 in
theorem spWords_any (s : ByteArray) (w : World) (hs : s.size ≤ 65536) : Calls Tryd.prog 13 #[.string s] w (WsA s w) := by
  go_enter Tryd.func13, Tryd.ntmps13
  go_wp2
  go_loopw [3, 4, 5] (fun s3 s4 s5 wr => ∃ (i fr n : Nat) (acc : List (Nat × Nat)) (p : Option Addr) (q : Nat), i ≤ s.size + 1 ∧ fr ≤ i ∧ n = acc.length ∧ n ≤ i ∧ s3 = .slice p n q ∧ s4 = .int .i64 fr ∧ s5 = .int .i64 i ∧ OwnG wr 9 1 (.slice p n q) n (txB (exB s acc)) w.heap.size ∧ Below w.heap.size w wr ∧ spW s (s.size + 1 - i) i fr acc = spW s (s.size + 1) 0 0 []) (fun _ _ s5 _ => s.size + 1 - (intOf s5).toNat)
  case atStart => exact ⟨0, 0, 0, [], _, _, by omega, by omega, rfl, by omega, rfl, rfl, rfl, OwnG.lit (Nat.le_refl _), bel_alloc _ _, rfl⟩
  case round =>
    obtain ⟨i, fr, n, acc, p, q, hi, hfr, hn0, hni, rfl, rfl, rfl, hO, hB, hS0⟩ := hrel
    have HO : Hid (OwnG wr 9 1 (.slice p n q) n (txB (exB s acc)) w.heap.size ∧ Below w.heap.size w wr) := ⟨hO, hB⟩
    have HS : Hid (spW s (s.size + 1 - i) i fr acc = spW s (s.size + 1) 0 0 []) := hS0
    have HN : Hid (n = acc.length) := hn0
    clear hO hB hS0 hn0
    have i0 : (0 : Int) ≤ (i : Int) := by omega
    have f0 : (0 : Int) ≤ (fr : Int) := by omega
    have fi : (fr : Int) ≤ (i : Int) := by omega
    by_cases hle : i ≤ s.size
    · have hle' : (i : Int) ≤ (s.size : Int) := by omega
      by_cases hc : i = s.size ∨ (s.get! i).toNat = 32
      · have HS1 : Hid (spW s (s.size + 1 - (i + 1)) (i + 1) (i + 1) (if fr < i then acc ++ [(fr, i)] else acc) = spW s (s.size + 1) 0 0 []) := by
          show _ = _
          have := HS.out
          rw [show s.size + 1 - i = (s.size + 1 - (i + 1)) + 1 by omega, spW, if_pos hc] at this
          exact this
        clear HS
        rcases (show ((((i : Int) == (s.size : Int)) = true)) ∨ (((i : Int) == (s.size : Int)) = false ∧ i < s.size ∧ (s.get! i).toNat = 32) by
            by_cases e : i = s.size
            · left; simp [e]
            · right; exact ⟨by simp; omega, by omega, by rcases hc with h | h; exact (e h).elim; exact h⟩) with he | ⟨he, hlt, hb⟩
        · clear hc
          by_cases hf : fr < i
          · have hf' : (fr : Int) < (i : Int) := by omega
            go_wp2_with (first | (at_builtin; refine wpList_appG elS rfl _ _ rfl (.slice p n q) n (txB (exB s acc)) w.heap.size (n + 1) rfl (HO.out.1.next (bel_alloc _ _)) (by have := HO.out.2.size; simp; omega) (some ⟨wr.heap.size, 0, none⟩) 1 1 [.string (s.extract fr i)] rfl rfl (fun u hu => by simp at hu; subst hu; rfl) 0 lit_row (by omega) (by omega) ?_) | fail)
            intro v2 c2 W2 hO2 hG2 hS2
            have Y : Hid (OwnG W2 9 1 (.slice v2 (n + 1) c2) (n + 1) (txB (exB s (acc ++ [(fr, i)]))) w.heap.size ∧ Below w.heap.size w W2) := by
              refine ⟨by rw [← txB_snoc]; exact hO2, ?_⟩
              have h1 := HO.out.2.trans ((bel_alloc wr (.cells #[.string (s.extract fr i)] 9)).mono HO.out.2.size)
              exact h1.trans (hG2.below h1.size (fun x hx => HO.out.1.ge x hx))
            have HS2 : Hid (spW s (s.size + 1 - (i + 1)) (i + 1) (i + 1) (acc ++ [(fr, i)]) = spW s (s.size + 1) 0 0 []) := by have := HS1.out; rw [if_pos hf] at this; exact this
            clear hO2 hG2 hS2 HO HS1
            go_wp2
            go_roundw
            case rel => exact ⟨i + 1, i + 1, n + 1, acc ++ [(fr, i)], v2, c2, by omega, by omega, by rw [List.length_append, ← HN.out]; rfl, by omega, by go_num, by go_num, by go_num, Y.out.1, Y.out.2, HS2.out⟩
            case measure => simp [intOf]; omega
          · have hf' : ¬ (fr : Int) < (i : Int) := by omega
            have HS2 : Hid (spW s (s.size + 1 - (i + 1)) (i + 1) (i + 1) acc = spW s (s.size + 1) 0 0 []) := by have := HS1.out; rw [if_neg hf] at this; exact this
            clear HS1
            go_wp2
            go_roundw
            case rel => exact ⟨i + 1, i + 1, n, acc, p, q, by omega, by omega, HN.out, by omega, rfl, by go_num, by go_num, HO.out.1, HO.out.2, HS2.out⟩
            case measure => simp [intOf]; omega
        · clear hc
          have hlt' : (i : Int) < (s.size : Int) := by omega
          have hgi : ∀ h : i < s.size, ((s[i]'h).toNat : Int) = 32 := fun h => by rw [← get_is s i h]; omega
          clear hb
          by_cases hf : fr < i
          · have hf' : (fr : Int) < (i : Int) := by omega
            go_wp2_with (first | (at_builtin; refine wpList_appG elS rfl _ _ rfl (.slice p n q) n (txB (exB s acc)) w.heap.size (n + 1) rfl (HO.out.1.next (bel_alloc _ _)) (by have := HO.out.2.size; simp; omega) (some ⟨wr.heap.size, 0, none⟩) 1 1 [.string (s.extract fr i)] rfl rfl (fun u hu => by simp at hu; subst hu; rfl) 0 lit_row (by omega) (by omega) ?_) | fail)
            intro v2 c2 W2 hO2 hG2 hS2
            have Y : Hid (OwnG W2 9 1 (.slice v2 (n + 1) c2) (n + 1) (txB (exB s (acc ++ [(fr, i)]))) w.heap.size ∧ Below w.heap.size w W2) := by
              refine ⟨by rw [← txB_snoc]; exact hO2, ?_⟩
              have h1 := HO.out.2.trans ((bel_alloc wr (.cells #[.string (s.extract fr i)] 9)).mono HO.out.2.size)
              exact h1.trans (hG2.below h1.size (fun x hx => HO.out.1.ge x hx))
            have HS2 : Hid (spW s (s.size + 1 - (i + 1)) (i + 1) (i + 1) (acc ++ [(fr, i)]) = spW s (s.size + 1) 0 0 []) := by have := HS1.out; rw [if_pos hf] at this; exact this
            clear hO2 hG2 hS2 HO HS1
            go_wp2
            go_roundw
            case rel => exact ⟨i + 1, i + 1, n + 1, acc ++ [(fr, i)], v2, c2, by omega, by omega, by rw [List.length_append, ← HN.out]; rfl, by omega, by go_num, by go_num, by go_num, Y.out.1, Y.out.2, HS2.out⟩
            case measure => simp [intOf]; omega
          · have hf' : ¬ (fr : Int) < (i : Int) := by omega
            have HS2 : Hid (spW s (s.size + 1 - (i + 1)) (i + 1) (i + 1) acc = spW s (s.size + 1) 0 0 []) := by have := HS1.out; rw [if_neg hf] at this; exact this
            clear HS1
            go_wp2
            go_roundw
            case rel => exact ⟨i + 1, i + 1, n, acc, p, q, by omega, by omega, HN.out, by omega, rfl, by go_num, by go_num, HO.out.1, HO.out.2, HS2.out⟩
            case measure => simp [intOf]; omega
      · have hne : i ≠ s.size := fun e => hc (.inl e)
        have hlt : i < s.size := by omega
        have hlt' : (i : Int) < (s.size : Int) := by omega
        have he : ((i : Int) == (s.size : Int)) = false := by simp; omega
        have hb : (s.get! i).toNat ≠ 32 := fun e => hc (.inr e)
        obtain ⟨c, hcc⟩ : ∃ c : Nat, c = (s[i]'hlt).toNat := ⟨_, rfl⟩
        have hgi : ∀ h : i < s.size, ((s[i]'h).toNat : Int) = (c : Int) := fun h => by rw [hcc]
        rw [get_is s i hlt, ← hcc] at hb
        have hb' : ((c : Int) == 32) = false := by simp; omega
        have HS2 : Hid (spW s (s.size + 1 - (i + 1)) (i + 1) fr acc = spW s (s.size + 1) 0 0 []) := by
          show _ = _
          have := HS.out
          rw [show s.size + 1 - i = (s.size + 1 - (i + 1)) + 1 by omega, spW, if_neg hc] at this
          exact this
        clear HS hcc hc
        go_wp2
        go_roundw
        case rel => exact ⟨i + 1, fr, n, acc, p, q, by omega, by omega, HN.out, by omega, rfl, by go_num, by go_num, HO.out.1, HO.out.2, HS2.out⟩
        case measure => simp [intOf]; omega
    · have hle' : ¬ (i : Int) ≤ (s.size : Int) := by omega
      have HW : Hid (exB s acc = wordsB s) := by
        show _ = _
        have := HS.out
        rw [show s.size + 1 - i = 0 by omega, spW] at this
        unfold wordsB
        rw [← this]
        rfl
      clear HS
      go_wp2
      go_ret
      exact WsA.of HO.out.1 HO.out.2 HW.out HN.out
end Go.Proofs.YtdepclilngaacaaDoor
