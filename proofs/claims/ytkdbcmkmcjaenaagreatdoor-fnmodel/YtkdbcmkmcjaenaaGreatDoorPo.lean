/- A past out of a list of events, on the program's side. -/
import Derived.Test.YtkdbcmkmcjaenaaGreatDoorRows
import Derived.WalkKit
import Derived.WalkSpells
import Derived.WalkLawsBesides
import Derived.Deep.QuietTactic
import Derived.BigQuiet
import Derived.Deep.RegionHeld3
import Derived.Test.YtkdbcmkmcjaenaaGreatDoorPm
import Derived.LoopN
namespace Go.Proofs.YtkdbcmkmcjaenaaGreatDoor
open Go.RowKit
set_option linter.unusedSimpArgs false
set_option linter.unusedVariables false

open Go.Maps
def kb (s : ByteArray) : List UInt8 := s.data.toList
theorem kb_inj {s t : ByteArray} (h : kb s = kb t) : s = t := ByteArray.ext (Array.toList_inj.1 h)
theorem kb_tri (s t : ByteArray) (h : ¬ kb s < kb t) (hne : s ≠ t) : kb t < kb s := by
 rcases Decidable.em (kb t < kb s) with h' | h'
 ·exact h'
 ·exact absurd (kb_inj (List.le_antisymm (List.not_lt.1 h') (List.not_lt.1 h))) hne
theorem te (a b : ByteArray) : (a.toList == b.toList) = decide (a = b) := by
 by_cases h : a = b
 ·subst h; simp
 ·rw [decide_eq_false h]
  apply beq_false_of_ne
  intro e
  exact h (kb_inj (by rw [ByteArray.toList_eq, ByteArray.toList_eq] at e; exact e))
theorem te_no {a b : ByteArray} (h : a ≠ b) : (a.toList == b.toList) = false := by rw [te]; exact decide_eq_false h
theorem te_yes {a b : ByteArray} (h : a = b) : (a.toList == b.toList) = true := by rw [te]; exact decide_eq_true h
theorem take_mem {l : List Ev} {k : Nat} (hk : k < l.length) (x : Ev) : (x ∈ l.take k ∨ x = l[k]) ↔ x ∈ l.take (k + 1) := by
  rw [List.take_succ_eq_append_getElem hk, List.mem_append, List.mem_singleton]
/-- No two events have one dot. -/
def apart (l : List Ev) : Prop := l.Pairwise (fun a b => ¬ (a.p = b.p ∧ a.n = b.n))
theorem apart_at {l : List Ev} (h : apart l) {k : Nat} (hk : k < l.length) : ∀ f, f ∈ l.take k → ¬ (f.p = l[k].p ∧ f.n = l[k].n) := by
  intro f hf
  obtain ⟨i, hi, rfl⟩ := List.getElem_of_mem hf
  have hi2 : i < k := by simp at hi; omega
  have := List.pairwise_iff_getElem.1 h i k (by omega) hk hi2
  simpa using this
set_option maxRecDepth 20000 in
set_option maxHeartbeats 2000000 in
theorem pastOf_any (lo q : Nat) (p : Option Addr) (l : List Ev) (w : World) (hl : l.length ≤ 100) (hwf : ∀ e ∈ l, wfI e.p ∧ wfI e.n) (hd : apart l) (hr0 : GRow lo w p (flatE l)) :
    Calls Tryz.prog 26 #[.slice p l.length q] w fun e w' => e = .returned (.map (some w.heap.size)) ∧ Below w.heap.size w w' ∧ PMap w' w.heap.size l.length (· ∈ l) := by
  have hr : Hid _ := hr0.e
  clear hr0
  have hmm := @run_makeMap Tryz.prog
  have HM : Hid (PMap (w.alloc (.map #[] 0)) w.heap.size 0 (fun _ => False)) := PMap.made w
  have HB0 : Hid (Below w.heap.size w (w.alloc (.map #[] 0))) := bel_alloc _ _
  go_enter Tryz.func26, Tryz.ntmps26
  go_wp2
  go_loopw [9] (fun s9 wr => ∃ k : Nat, k ≤ l.length ∧ s9 = .int .i64 k ∧ PMap wr w.heap.size k (· ∈ l.take k) ∧ Below w.heap.size w wr) (fun s9 _ => l.length - (intOf s9).toNat)
  case atStart => exact ⟨0, by omega, rfl, HM.out.same (fun e => by simp), HB0.out⟩
  case round =>
    clear HM HB0 hmm
    obtain ⟨k, hk, rfl, hM0, hB0⟩ := hrel
    have Y0 : Hid (PMap wr w.heap.size k (· ∈ l.take k) ∧ Below w.heap.size w wr) := ⟨hM0, hB0⟩
    clear hM0 hB0
    by_cases hkl : k < l.length
    · have hkl' : (k : Int) < (l.length : Int) := by omega
      have k0 : (0 : Int) ≤ (k : Int) := by omega
      rcases hr.out with h' | ⟨b, off, rfl, _, h2⟩
      · rw [h'] at hkl; simp at hkl
      obtain ⟨c0, c1, c2, c3, c4, c5, c6, c7⟩ := (h2 k hkl).next Y0.out.2 (cell_lt (x := ⟨b, off + k * 8, none⟩) (h2 k hkl).1)
      have HW : Hid (wfI l[k].p ∧ wfI l[k].n) := hwf _ (List.getElem_mem _)
      have HA : Hid (∀ f, f ∈ l.take k → ¬ (f.p = l[k].p ∧ f.n = l[k].n)) := apart_at hd hkl
      have HT : Hid (∀ x, (x ∈ l.take k ∨ x = l[k]) ↔ x ∈ l.take (k + 1)) := take_mem hkl
      clear h2 hr
      generalize l[k] = m at *
      obtain ⟨g, hg⟩ : ∃ g, g = w.heap.size := ⟨_, rfl⟩
      have HG : Hid (g = w.heap.size) := hg
      rw [← hg] at Y0 ⊢
      clear hg
      go_upto_region 5 with fail
      refine wp_gen (fun W => Box W wr.heap.size [.int .i64 m.p, .int .i64 m.n, .string m.key, .int .i64 m.v, .bool m.dead, .int .i64 m.a, .int .i64 m.b, .int .i64 m.c] ∧ PMap W g k (· ∈ l.take k) ∧ Below wr.heap.size wr W) ⟨box_mk, Y0.out.1.kept (World.grownBy_alloc _ _ none) (by simp), bel_alloc _ _⟩ (fun W1 hI => ?_)
      clear c0 c1 c2 c3 c4 c5 c6 c7
      obtain ⟨ge, hge⟩ : ∃ g, g = wr.heap.size := ⟨_, rfl⟩
      have Y : Hid (Box W1 ge [.int .i64 m.p, .int .i64 m.n, .string m.key, .int .i64 m.v, .bool m.dead, .int .i64 m.a, .int .i64 m.b, .int .i64 m.c] ∧ PMap W1 g k (· ∈ l.take k) ∧ Below g w W1) := ⟨by rw [hge]; exact hI.1, hI.2.1, Y0.out.2.trans (hI.2.2.mono (by rw [HG.out]; exact Y0.out.2.size))⟩
      rw [← hge] at ⊢
      clear hI hge Y0
      obtain ⟨a0, a1, a2, a3, a4, a5, a6, a7⟩ := Y.out.1.c8
      obtain ⟨W2, hrun, hM, hgr⟩ := Y.out.2.1.store (by unfold maxLen; omega) m HW.out.1 HW.out.2 HA.out
      have Y2 : Hid (PMap W2 g (k + 1) (fun x => x ∈ l.take k ∨ x = m) ∧ Below g w W2) := ⟨hM, Y.out.2.2.grown hgr (by rw [HG.out] at Y ⊢; exact Y.out.2.2.size) (fun j hj => by cases hj; exact Nat.le_refl _)⟩
      clear hM hgr Y
      go_wp2
      go_roundw
      case rel => exact ⟨k + 1, by omega, by go_num, Y2.out.1.same HT.out, Y2.out.2⟩
      case measure => simp [intOf]; omega
    · have hkl' : ¬ (k : Int) < (l.length : Int) := by omega
      have Y2 : Hid (PMap wr w.heap.size l.length (· ∈ l) ∧ Below w.heap.size w wr) := ⟨(Y0.out.1.more (n' := l.length) (by omega)).same (fun e => by rw [List.take_of_length_le (by omega)]), Y0.out.2⟩
      clear Y0
      go_wp2
      go_ret
      exact ⟨rfl, Y2.out.2, Y2.out.1⟩
end Go.Proofs.YtkdbcmkmcjaenaaGreatDoor
