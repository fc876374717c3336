/- The program's number of an act: a text that is a number of at most 999. -/
import Derived.Test.YtdepclilngaacaaDoorRows
import Derived.WalkKit
import Derived.WalkSpells
import Derived.WalkLawsBesides
import Derived.Deep.QuietTactic
import Derived.BigQuiet
import Derived.Deep.RegionHeld3
import Derived.Test.YtdepclilngaacaaDoorRc
import Derived.Test.YtdepclilngaacaaDoorSx
import Derived.Test.YtdepclilngaacaaDoorGk
import Derived.LoopN
import Derived.Laws.EntriesVeiled
namespace Go.Proofs.YtdepclilngaacaaDoor
open Go.RowKit
set_option linter.unusedSimpArgs false
set_option linter.unusedVariables false

/-- A number of an act. -/
def nOK (s : ByteArray) : Prop := Num (bl s) ∧ nv (bl s) ≤ 999
theorem nok_iff {s : ByteArray} {n : Int} {k : Nat} (h : ld 999 (bl s) = (n, k)) : ((0 < k ∧ (s.extract k s.size).size = 0) ↔ nOK s) ∧ (nOK s → n = nv (bl s)) ∧ k ≤ s.size := by
  have hk : k ≤ s.size := by have := (ld_bound (most := 999) (by decide) (bl s)).2.2; rw [h, bl_len] at this; exact this
  refine ⟨⟨fun ⟨h1, h2⟩ => ?_, fun h1 => ?_⟩, fun h1 => ?_, hk⟩
  · rw [sl_size s k hk] at h2
    have e : k = (bl s).length := by rw [bl_len]; omega
    rw [e] at h
    have := num_ld h (by rw [bl_len]; omega)
    exact ⟨this.1, this.2.2⟩
  · have := ld_num h1.1 (by decide) h1.2
    rw [h] at this
    simp only [Prod.mk.injEq] at this
    obtain ⟨_, rfl⟩ := this
    exact ⟨List.length_pos_iff.2 h1.1.1, by rw [sl_size s _ hk, bl_len]; omega⟩
  · have := ld_num h1.1 (by decide) h1.2
    rw [h] at this
    simp only [Prod.mk.injEq] at this
    exact this.1
theorem reader_any (s : ByteArray) (w : World) :
    Calls Tryd.prog 37 #[.string s] w fun e w' => e = .returned (.agg #[.func (.func 38) #[] #[.pointer (some ⟨w.heap.size, 0, none⟩)], .func (.func 39) #[] #[.pointer (some ⟨w.heap.size, 0, none⟩)], .func (.func 41) #[] #[.pointer (some ⟨w.heap.size, 0, none⟩)]]) ∧ Below w.heap.size w w' ∧ Left w' w.heap.size s ∧ w.heap.size < w'.heap.size := by
  go_enter Tryd.func37, Tryd.ntmps37
  go_wp2
  refine bodyPost_ret (v := .agg #[.func (.func 38) #[] #[.pointer (some ⟨w.heap.size, 0, none⟩)], .func (.func 39) #[] #[.pointer (some ⟨w.heap.size, 0, none⟩)], .func (.func 41) #[] #[.pointer (some ⟨w.heap.size, 0, none⟩)]]) (by simp [results, Tryd.results37, go_sem]) rfl ⟨rfl, ?_, ⟨by go_simp, by go_simp⟩, by simp; omega⟩
  repeat (first | exact Below.refl _ _ | refine Below.drew ?_ | refine below_drewN ?_ _ | refine Below.alloc ?_ (by first | (simp; done) | (simp; omega)) _ | refine Below.setCell ?_ (by first | (simp; done) | (simp; omega)) _)
theorem bel_grown {w W W' : World} {g : Nat} (h : Below w.heap.size w W) (hg : W.grownBy W' (some g)) (hr : w.heap.size ≤ g) : Below w.heap.size w W' :=
  ⟨hg.os.trans h.os, hg.tape.trans h.tape, hg.output.trans h.output, Nat.le_trans h.size hg.size, fun b hb => (hg.block b (Nat.lt_of_lt_of_le hb h.size) (fun e => by cases e; omega)).trans (h.block b hb)⟩
theorem grown_froz {W W' : World} {g b o : Nat} (hg : W.grownBy W' (some g)) (h : W.frozen? ⟨b, o, none⟩ = false) (hb : b < W.heap.size) (hne : b ≠ g) : W'.frozen? ⟨b, o, none⟩ = false := by
  rw [World.frozen?_of_block (w := W) (hg.block b hb (fun e => by cases e; exact hne rfl))]; exact h
theorem grown_cell {W W' : World} {g b o : Nat} {v : Value} (hg : W.grownBy W' (some g)) (h : W.cell? ⟨b, o, none⟩ = some v) (hne : b ≠ g) : W'.cell? ⟨b, o, none⟩ = some v := hg.cell h (fun e => by cases e; exact hne rfl)
set_option maxHeartbeats 1000000 in
theorem closure_any (g b : Nat) (s : ByteArray) (n : Int) (k : Nat) (hnk : Hid (ld 999 (bl s) = (n, k))) (w : World) (hL : Left w g s) (hg : g < w.heap.size) (hm0 : w.cell? ⟨b, 0, none⟩ = some (.int .i64 999)) (hs : s.size ≤ 65536) :
    Calls Tryd.prog 36 #[.agg #[.func (.func 38) #[] #[.pointer (some ⟨g, 0, none⟩)], .func (.func 39) #[] #[.pointer (some ⟨g, 0, none⟩)], .func (.func 41) #[] #[.pointer (some ⟨g, 0, none⟩)]], .pointer (some ⟨b, 0, none⟩)] w fun e w' => e = .returned (.tuple #[.int .i64 n, .bool (decide (0 < k))]) ∧ Left w' g (s.extract k s.size) ∧ w.grownBy w' (some g) := by
  have hm : ∀ o, (w.alloc o).cell? ⟨b, 0, none⟩ = some (.int .i64 999) := fun o => box_a hm0 (cell_lt (x := ⟨b, 0, none⟩) hm0)
  have HL : Hid (∀ o, Left (w.alloc o) g s ∧ g < (w.alloc o).heap.size) := fun o => ⟨left_next hL (bel_alloc _ _) hg, by simp; omega⟩
  clear hL hm0
  go_enter Tryd.func36, Tryd.ntmps36
  go_wp2_with fail
  refine (number_any g s 999 n k hnk _ (HL.out _).1 (HL.out _).2 (by decide) (by decide) (by omega)).mono ?_
  rintro e w1 ⟨rfl, hL1, hg1⟩
  have HQ : Hid (Left w1 g (s.extract k s.size) ∧ w.grownBy w1 (some g)) := ⟨hL1, gb_trans (gb_below (bel_alloc _ _)) hg1⟩
  clear hL1 hg1 hm HL
  go_wp2
  go_ret2
  exact ⟨rfl, HQ.out⟩
/-- What readWhole answers of a number. -/
def NwA (s : ByteArray) (w : World) (e : Ending) (w' : World) : Prop := ∃ n c : Int, e = .returned (.tuple #[.int .i64 n, .int .i64 c]) ∧ (c = 0 ↔ nOK s) ∧ (nOK s → n = nv (bl s)) ∧ Below w.heap.size w w'
theorem NwA.yes {s : ByteArray} {w W : World} {n : Int} (h : nOK s) (hn : n = nv (bl s)) (hb : Below w.heap.size w W) : NwA s w (.returned (.tuple #[.int .i64 n, .int .i64 0])) W := ⟨n, 0, rfl, ⟨fun _ => h, fun _ => rfl⟩, fun _ => hn, hb⟩
theorem NwA.no {s : ByteArray} {w W : World} {n : Int} (h : ¬ nOK s) (hb : Below w.heap.size w W) : NwA s w (.returned (.tuple #[.int .i64 n, .int .i64 3])) W := ⟨n, 3, rfl, ⟨fun e => (by cases e), fun h' => (h h').elim⟩, fun h' => (h h').elim, hb⟩
set_option maxHeartbeats 4000000 in
theorem wholeInt_any (b : Nat) (s : ByteArray) (w : World) (hm : w.cell? ⟨b, 0, none⟩ = some (.int .i64 999)) (hs : s.size ≤ 65536) :
    Calls Tryd.prog 35 #[.string s, .func (.func 36) #[] #[.pointer (some ⟨b, 0, none⟩)]] w (NwA s w) := by
  have hb' : ¬ (65536 : Int) < (s.size : Int) := by omega
  obtain ⟨n, k, hnk0⟩ : ∃ n k, ld 999 (bl s) = (n, k) := ⟨_, _, rfl⟩
  have hnk : Hid (ld 999 (bl s) = (n, k)) := hnk0
  have HI : Hid _ := nok_iff hnk0
  have HM : Hid (w.cell? ⟨b, 0, none⟩ = some (.int .i64 999) ∧ b < w.heap.size) := ⟨hm, cell_lt (x := ⟨b, 0, none⟩) hm⟩
  clear hnk0 hm
  go_enter Tryd.func35, Tryd.ntmps35
  go_wp2_with fail
  refine (reader_any s w).mono ?_
  rintro e w1 ⟨rfl, hb, hL, hlt⟩
  obtain ⟨g, hg⟩ : ∃ g, g = w.heap.size := ⟨_, rfl⟩
  rw [← hg] at hL hlt ⊢
  have HB1 : Hid (Below w.heap.size w w1) := hb
  have HM1 : Hid (w1.cell? ⟨b, 0, none⟩ = some (.int .i64 999) ∧ b < w1.heap.size) := ⟨cell_next hb HM.out.1 HM.out.2, Nat.lt_of_lt_of_le HM.out.2 hb.size⟩
  have HL1 : Hid (Left w1 g s ∧ w.heap.size ≤ g) := ⟨hL, by omega⟩
  clear hb hL hg HM
  go_wp2_with fail
  refine (closure_any g b s n k hnk _ (left_next HL1.out.1 (bel_alloc _ _) hlt) (by simp; omega) (box_a HM1.out.1 HM1.out.2) hs).mono ?_
  rintro e w2 ⟨rfl, hL2, hg2⟩
  have f2 : w2.cell? ⟨w1.heap.size, 2, none⟩ = some (.func (.func 41) #[] #[.pointer (some ⟨g, 0, none⟩)]) := grown_cell hg2 (by go_simp) (by omega)
  have hz2 : w1.heap.size < w2.heap.size := by have := hg2.size; simp at this; omega
  have HB : Hid (Below w.heap.size w w2) := bel_grown (bel_next HB1 (bel_alloc _ _)).out hg2 HL1.out.2
  have L2 : Hid (Left w2 g (s.extract k s.size)) := hL2
  have f2' : ∀ o, (w2.alloc o).cell? ⟨w1.heap.size, 2, none⟩ = some (.func (.func 41) #[] #[.pointer (some ⟨g, 0, none⟩)]) := fun o => box_a f2 hz2
  clear hL2 hg2 HB1 HL1 HM1
  obtain ⟨s', hs'⟩ : ∃ s', s' = s.extract k s.size := ⟨_, rfl⟩
  rw [← hs'] at L2 HI
  clear hs'
  by_cases hk : 0 < k
  · have hk' : decide (0 < k) = true := by simp [hk]
    by_cases hz : s'.size = 0
    · have HY : Hid (nOK s) := HI.out.1.1 ⟨hk, hz⟩
      go_wp2_with fail
      refine (ended_yes g s' _ L2.out.1 hz).mono ?_
      rintro e w3 ⟨rfl, rfl⟩
      clear hk hz f2 f2'
      go_wp2
      go_ret2
      exact NwA.yes HY.out (HI.out.2.1 HY.out) HB.out
    · have HY : Hid (¬ nOK s) := fun h => hz (HI.out.1.2 h).2
      go_wp2_with fail
      refine (ended_no g s' _ L2.out.1 (by omega)).mono ?_
      rintro e w3 ⟨rfl, rfl⟩
      clear hk hz f2 f2'
      go_wp2
      go_ret2
      exact NwA.no HY.out HB.out
  · have hk' : decide (0 < k) = false := by simp [hk]
    have HY : Hid (¬ nOK s) := fun h => hk (HI.out.1.2 h).1
    clear hk
    go_wp2
    go_ret2
    exact NwA.no HY.out HB.out
/-- What a number of an act is. -/
def NrA (s : ByteArray) (w : World) (e : Ending) (w' : World) : Prop := ∃ (n : Int) (r : Bool), e = .returned (.tuple #[.int .i64 n, .bool r]) ∧ (r = true ↔ nOK s) ∧ (nOK s → n = nv (bl s)) ∧ Below w.heap.size w w'
set_option maxHeartbeats 2000000 in
theorem readNumber_any (s : ByteArray) (w : World) (hs : s.size ≤ 65536) : Calls Tryd.prog 34 #[.string s, .int .i64 999] w (NrA s w) := by
  go_enter Tryd.func34, Tryd.ntmps34
  go_wp2_with fail
  refine (wholeInt_any w.heap.size s _ (by go_simp) hs).mono ?_
  rintro e w1 ⟨n, c, rfl, hc, hn, hb⟩
  have HQ : Hid ((c = 0 ↔ nOK s) ∧ (nOK s → n = nv (bl s)) ∧ Below w.heap.size w w1) := ⟨hc, hn, (bel_alloc _ _).trans (hb.mono (by simp))⟩
  clear hc hn hb
  by_cases h0 : c = 0
  · have h0' : (c == 0) = true := by simp [h0]
    have HY : Hid (nOK s) := HQ.out.1.1 h0
    clear h0
    go_wp2
    go_ret2
    exact ⟨n, true, rfl, ⟨fun _ => HY.out, fun _ => rfl⟩, HQ.out.2.1, HQ.out.2.2⟩
  · have h0' : (c == 0) = false := by simp [h0]
    have HY : Hid (¬ nOK s) := fun h => h0 (HQ.out.1.2 h)
    clear h0
    go_wp2
    go_ret2
    exact ⟨n, false, rfl, ⟨fun e => (by cases e), fun h => (HY.out h).elim⟩, HQ.out.2.1, HQ.out.2.2⟩
theorem actNumber_any (s : ByteArray) (w : World) (hs : s.size ≤ 65536) : Calls Tryd.prog 33 #[.string s] w (NrA s w) := by
  go_enter Tryd.func33, Tryd.ntmps33
  go_wp2_with fail
  refine (readNumber_any s w hs).mono ?_
  rintro e w1 ⟨n, r, rfl, hQ⟩
  have HQ : Hid _ := hQ
  clear hQ
  go_wp2
  go_ret2
  exact ⟨n, r, rfl, HQ.out⟩
end Go.Proofs.YtdepclilngaacaaDoor
