/- l00Cut: a text's parts. -/
import Derived.Test.YtodjbkeljfnebaaRows
import Derived.Test.YtodjbkeljfnebaaVr
import Derived.WalkKit
import Derived.WalkSpells
import Derived.WalkLawsBesides
import Derived.Deep.QuietTactic
import Derived.BigQuiet
import Derived.Deep.RegionHeld3
import Derived.LoopN
namespace Go.Proofs.Ytodjbkeljfnebaa
open Go.RowKit
set_option linter.unusedSimpArgs false
set_option linter.unusedVariables false

theorem info_str : (Try.prog.info? 9).map (fun i => (i.zero, i.size, i.bytes)) = some (some (.string ⟨#[]⟩), 1, 16) := by kernel_rfl
theorem info_parts' {i : Option TypeInfo} {z : Option Value} {a b : Nat} (h : i.map (fun i => (i.zero, i.size, i.bytes)) = some (z, a, b)) : ∃ i0, i = some i0 ∧ i0.zero = z ∧ i0.size = a ∧ i0.bytes = b := by
  cases i with
  | none => cases h
  | some i0 => simp at h; exact ⟨i0, rfl, h.1, h.2.1, h.2.2⟩
theorem ex_bl (s : ByteArray) (a b : Nat) (h : a ≤ b) (hb : b ≤ s.size) : bl (s.extract a b) = ((bl s).drop a).take (b - a) := by
  unfold bl
  rw [ByteArray.data_extract]
  simp
theorem ex_size (s : ByteArray) (a b : Nat) (h : a ≤ b) (hb : b ≤ s.size) : (s.extract a b).size = b - a := by
  rw [ByteArray.size_extract]; omega
theorem own_cast' {w : World} {base e size n n' : Nat} {v : Value} {xs xs' : List Value} (h : w.ownsRow base e size v n xs) (h1 : n = n') (h2 : xs = xs') : w.ownsRow base e size v n' xs' := by subst h1; subst h2; exact h
/-- What the cutting keeps. -/
def CutI (w wr : World) (s : ByteArray) (c : Nat) (v : Value) (i fr : Nat) (ps : List ByteArray) : Prop := wr.ownsRow 0 9 1 v ps.length (ps.map Value.string) ∧ Gro w wr (.slice none 0 0) v ∧ cutL (UInt8.ofNat c) (bl s) = ps.map bl ++ cutL (UInt8.ofNat c) ((bl s).drop fr) ∧ (∀ d ∈ ((bl s).drop fr).take (i - fr), d ≠ UInt8.ofNat c) ∧ (∀ p ∈ ps, p.size ≤ s.size) ∧ ps.length ≤ fr
theorem lit_cell {W : World} {v : Value} {t : TypeId} : ∀ j u, ([v] : List Value)[j]? = some u → (W.alloc (.cells #[v] t)).cell? ((⟨W.heap.size, 0, none⟩ : Addr).add j) = some u := by
  intro j u hu
  cases j with
  | zero => simp at hu; subst hu; show (W.alloc _).cell? ⟨W.heap.size, 0, none⟩ = _; go_simp
  | succ j => simp at hu
/-- What a call of l00Cut leaves. -/
def CutP (w : World) (s : ByteArray) (c : Nat) (e : Ending) (w' : World) : Prop := ∃ (g cap : Nat) (ps : List ByteArray), e = .returned (.slice (some ⟨g, 0, none⟩) ps.length cap) ∧ ps.map bl = cutL (UInt8.ofNat c) (bl s) ∧ (∀ p ∈ ps, p.size ≤ s.size) ∧ (∀ i (h : i < ps.length), w'.cell? ⟨g, i, none⟩ = some (.string ps[i])) ∧ Below w.heap.size w w'
theorem cut_next {s : ByteArray} {i fr c : Nat} (hi : i < s.size) (hf : fr ≤ i) (hN : ∀ d ∈ ((bl s).drop fr).take (i - fr), d ≠ UInt8.ofNat c) (hd : s[i] ≠ UInt8.ofNat c) : ∀ d ∈ ((bl s).drop fr).take (i + 1 - fr), d ≠ UInt8.ofNat c := by
  intro d hm
  have e : i + 1 - fr = (i - fr) + 1 := by omega
  have hl : i - fr < ((bl s).drop fr).length := by rw [List.length_drop, bl_len]; omega
  rw [e, List.take_succ_eq_append_getElem hl, List.mem_append] at hm
  rcases hm with hm | hm
  · exact hN d hm
  · rw [List.mem_singleton, List.getElem_drop] at hm
    have e2 : fr + (i - fr) = i := by omega
    simp only [e2] at hm
    rw [hm]
    exact hd
theorem cut_hit {s : ByteArray} {i fr c : Nat} (hi : i < s.size) (hf : fr ≤ i) (hN : ∀ d ∈ ((bl s).drop fr).take (i - fr), d ≠ UInt8.ofNat c) (hd : s[i] = UInt8.ofNat c) : cutL (UInt8.ofNat c) ((bl s).drop fr) = bl (s.extract fr i) :: cutL (UInt8.ofNat c) ((bl s).drop (i + 1)) := by
  rw [ex_bl s fr i hf (by omega)]
  have e : (bl s).drop fr = ((bl s).drop fr).take (i - fr) ++ UInt8.ofNat c :: (bl s).drop (i + 1) := by
    have h1 := List.take_append_drop (i - fr) ((bl s).drop fr)
    rw [List.drop_drop] at h1
    have e2 : fr + (i - fr) = i := by omega
    rw [e2, bl_drop s i hi, hd] at h1
    exact h1.symm
  have := cutL_app (UInt8.ofNat c) _ ((bl s).drop (i + 1)) hN
  rw [← e] at this
  exact this
set_option maxHeartbeats 4000000 in
theorem cut_any (s : ByteArray) (c : Nat) (w : World) (hs : s.size ≤ 1048576) (hc256 : c < 256) :
    Calls Try.prog 53 #[.string s, .int .u8 c] w fun e w' => CutP w s c e w' := by
  obtain ⟨i0, hi, hz0, hz1, hz2⟩ := info_parts' info_str
  have HI : Hid (Try.prog.info? 9 = some i0 ∧ i0.zero = some (.string ⟨#[]⟩) ∧ i0.size = 1 ∧ i0.bytes = 16) := ⟨hi, hz0, hz1, hz2⟩
  clear hi hz0 hz1 hz2
  go_enter Try.func53, Try.ntmps53
  go_wp2
  go_loopw [5, 6, 7] (fun s5 s6 s7 wr => ∃ (i fr : Nat) (ps : List ByteArray), i ≤ s.size ∧ fr ≤ i ∧ s7 = .int .i64 i ∧ s6 = .int .i64 fr ∧ CutI w wr s c s5 i fr ps) (fun _ _ s7 _ => s.size - (intOf s7).toNat)
  case atStart =>
    refine ⟨0, 0, [], by omega, by omega, rfl, rfl, ?_, ?_, by simp, ?_, ?_, by simp⟩
    · exact World.ownsRow_lit (base := 0) (e := 9) (size := 1) w #[] 0 (Nat.zero_le _) (by unfold maxLen; omega) (by simp)
    · exact ⟨(Gro.of_below (v := .slice none 0 0) (bel_alloc _ _)).grown, fun k hk => .inr (by simp [Value.ownBlock] at hk; omega)⟩
    · intro d hd; simp at hd
    · intro p hp; simp at hp
  case round =>
    obtain ⟨i, fr, ps, hi, hf, rfl, rfl, hO0, hG0, hE0, hN0, hP0, hL0⟩ := hrel
    have hO : Hid (wr.ownsRow 0 9 1 u5 ps.length (ps.map Value.string)) := hO0
    have hG : Hid (Gro w wr (.slice none 0 0) u5) := hG0
    have hE : Hid (cutL (UInt8.ofNat c) (bl s) = ps.map bl ++ cutL (UInt8.ofNat c) ((bl s).drop fr)) := hE0
    have hN : Hid (∀ d ∈ ((bl s).drop fr).take (i - fr), d ≠ UInt8.ofNat c) := hN0
    have hP : Hid (∀ p ∈ ps, p.size ≤ s.size) := hP0
    have hL : Hid (ps.length ≤ fr) := hL0
    clear hO0 hG0 hE0 hN0 hP0 hL0
    have kk : (0 : Int) ≤ (i : Int) := by omega
    have kf : (0 : Int) ≤ (fr : Int) := by omega
    have kfi : (fr : Int) ≤ (i : Int) := by omega
    have kis : (i : Int) ≤ (s.size : Int) := by omega
    by_cases hlt : i < s.size
    · have hlt' : (i : Int) < (s.size : Int) := by omega
      by_cases hc : (s[i]'hlt).toNat = c
      · have hcb : (((s[i]'hlt).toNat : Int) == (c : Int)) = true := by rw [beq_iff_eq]; omega
        have HC : Hid (s[i]'hlt = UInt8.ofNat c) := by show _ = _; rw [← hc]; exact UInt8.ofNat_toNat.symm
        have HH := cut_hit hlt hf hN.out HC.out
        have HH' : Hid (cutL (UInt8.ofNat c) (bl s) = (ps ++ [s.extract fr i]).map bl ++ cutL (UInt8.ofNat c) ((bl s).drop (i + 1))) := by
          show _ = _
          rw [hE.out, HH]
          simp
        clear HH hc
        go_wp2_with (first | (at_builtin; refine wpList_append2 rfl _ _ 77 rfl 9 i0 (.string ⟨#[]⟩) 1 16 Try.underlying77 HI.out.1 HI.out.2.1 HI.out.2.2.1 HI.out.2.2.2 rfl (by decide) u5 _ _ rfl (hO.out.alloc _) ⟨wr.heap.size, 0, none⟩ 1 1 [.string (s.extract fr i)] rfl rfl lit_cell (fun u hu => by simp at hu; subst hu; rfl) ?c3 ?c4 ?_) | go_in)
        case c3 => have := hL.out; unfold maxLen; omega
        case c4 => have := hL.out; omega
        intro v' w6 ho6 hg6
        have O6 : Hid (w6.ownsRow 0 9 1 v' (ps ++ [s.extract fr i]).length ((ps ++ [s.extract fr i]).map Value.string)) := own_cast' ho6 (by simp) (by simp)
        have G6 : Hid (Gro w w6 (.slice none 0 0) v') := hG.out.trans ((Gro.of_below (bel_alloc _ _)).trans hg6)
        have P6 : Hid (∀ p ∈ ps ++ [s.extract fr i], p.size ≤ s.size) := fun p hp => by
          rw [List.mem_append, List.mem_singleton] at hp
          rcases hp with hp | hp
          · exact hP.out p hp
          · rw [hp, ex_size s fr i hf (by omega)]; omega
        clear ho6 hg6
        go_wp2
        go_roundw
        case rel =>
          refine ⟨i + 1, i + 1, ps ++ [s.extract fr i], by omega, by omega, by go_num, by go_num, O6.out, G6.out, HH'.out, ?_, P6.out, by have := hL.out; simp; omega⟩
          intro d hd
          rw [Nat.sub_self, List.take_zero] at hd
          cases hd
        case measure => simp [intOf]; omega
      · have hcb : (((s[i]'hlt).toNat : Int) == (c : Int)) = false := beq_eq_false_iff_ne.2 (by omega)
        have HC : Hid (∀ d ∈ ((bl s).drop fr).take (i + 1 - fr), d ≠ UInt8.ofNat c) := cut_next hlt hf hN.out (fun e => hc (by rw [e]; simp; omega))
        clear hc
        go_wp2
        go_roundw
        case rel => exact ⟨i + 1, fr, ps, by omega, by omega, by go_num, rfl, hO.out, hG.out, hE.out, HC.out, hP.out, hL.out⟩
        case measure => simp [intOf]; omega
    · have hlt' : ¬ (i : Int) < (s.size : Int) := by omega
      have kfs : (fr : Int) ≤ (s.size : Int) := by omega
      have HE : Hid ((ps ++ [s.extract fr s.size]).map bl = cutL (UInt8.ofNat c) (bl s)) := by
        show _ = _
        have e1 : ((bl s).drop fr).take (i - fr) = (bl s).drop fr := List.take_of_length_le (by rw [List.length_drop, bl_len]; omega)
        have h1 := hN.out
        rw [e1] at h1
        rw [hE.out, cutL_none _ _ h1]
        simp
        rw [sl_bl s fr (by omega)]
      go_wp2_with (first | (at_builtin; refine wpList_append2 rfl _ _ 77 rfl 9 i0 (.string ⟨#[]⟩) 1 16 Try.underlying77 HI.out.1 HI.out.2.1 HI.out.2.2.1 HI.out.2.2.2 rfl (by decide) u5 _ _ rfl (hO.out.alloc _) ⟨wr.heap.size, 0, none⟩ 1 1 [.string (s.extract fr s.size)] rfl rfl lit_cell (fun u hu => by simp at hu; subst hu; rfl) ?c3 ?c4 ?_) | go_in)
      case c3 => have := hL.out; unfold maxLen; omega
      case c4 => have := hL.out; omega
      intro v' w6 ho6 hg6
      have O6 : Hid (w6.ownsRow 0 9 1 v' (ps ++ [s.extract fr s.size]).length ((ps ++ [s.extract fr s.size]).map Value.string)) := own_cast' ho6 (by simp) (by simp)
      have G6 : Hid (Gro w w6 (.slice none 0 0) v') := hG.out.trans ((Gro.of_below (bel_alloc _ _)).trans hg6)
      have P6 : Hid (∀ p ∈ ps ++ [s.extract fr s.size], p.size ≤ s.size) := fun p hp => by
        rw [List.mem_append, List.mem_singleton] at hp
        rcases hp with hp | hp
        · exact hP.out p hp
        · rw [hp, sl_size s fr (by omega)]; omega
      clear ho6 hg6
      go_wp2
      go_ret
      rcases O6.out.2 with ⟨h', hn⟩ | ⟨g, cap', cur, h', _⟩
      · simp at hn
      · subst h'
        refine ⟨g, cap', _, rfl, HE.out, P6.out, fun i hi => ?_, G6.out.below (Nat.le_refl _) (fun k hk => absurd hk Gro.none_ne)⟩
        rw [O6.out.cellAt i (by simpa using hi)]
        simp only [List.getElem?_map]
        rw [List.getElem?_eq_getElem hi]
        rfl
end Go.Proofs.Ytodjbkeljfnebaa
