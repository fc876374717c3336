/- What is recovered: both sides. -/
import Derived.Test.YthblnifapkfbcaaDoorRows
import Derived.WalkKit
import Derived.WalkSpells
import Derived.WalkLawsBesides
import Derived.Deep.QuietTactic
import Derived.BigQuiet
import Derived.Deep.RegionHeld3
import Derived.Test.YthblnifapkfbcaaDoorOi
import Derived.Test.YthblnifapkfbcaaDoorTa
import Derived.LoopN
namespace Go.Proofs.YthblnifapkfbcaaDoor
open Go.RowKit
set_option linter.unusedSimpArgs false
set_option linter.unusedVariables false

/-- The texts up to the first line that is none. -/
def recL : List ByteArray → List ByteArray
  | [] => []
  | s :: ss => match openO s with
    | some t => t :: recL ss
    | none => []
theorem recL_len : ∀ ss : List ByteArray, (recL ss).length ≤ ss.length := by
  intro ss
  induction ss with
  | nil => simp [recL]
  | cons s ss ih =>
    unfold recL
    cases openO s with
    | none => simp
    | some t => simp; exact ih
theorem recL_some {ss : List ByteArray} {i : Nat} {t : ByteArray} (hi : i < ss.length) (h : openO ss[i] = some t) : recL (ss.drop i) = t :: recL (ss.drop (i + 1)) := by
  rw [List.drop_eq_getElem_cons hi]
  conv => lhs; unfold recL
  rw [h]
theorem recL_none {ss : List ByteArray} {i : Nat} (hi : i < ss.length) (h : openO ss[i] = none) : recL (ss.drop i) = [] := by
  rw [List.drop_eq_getElem_cons hi]
  conv => lhs; unfold recL
  rw [h]
/-- What the loop keeps. -/
structure RI (w wr : World) (v0 v1 v : Value) (l : List ByteArray) : Prop where
  c0 : wr.cell? ⟨w.heap.size, 0, none⟩ = some v0
  c1 : wr.cell? ⟨w.heap.size, 1, none⟩ = some v1
  own : OwnT wr v l (w.heap.size + 1)
  size : w.heap.size + 1 ≤ wr.heap.size
  below : Below w.heap.size w wr
theorem RI.next {w wr wr' : World} {v0 v1 v : Value} {l : List ByteArray} (h : RI w wr v0 v1 v l) (hb : Below wr.heap.size wr wr') : RI w wr' v0 v1 v l :=
  ⟨cell_next hb h.c0 (cell_lt' h.c0), cell_next hb h.c1 (cell_lt' h.c1), h.own.next hb, Nat.le_trans h.size hb.size, h.below.trans (hb.mono h.below.size)⟩
theorem RI.app {w wr wr' : World} {v0 v1 v v' : Value} {l l' : List ByteArray} (h : RI w wr v0 v1 v l) (hO : OwnT wr' v' l' (w.heap.size + 1)) (hg : Gro wr wr' v v') : RI w wr' v0 v1 v' l' :=
  ⟨h.own.cell hg h.c0 (by omega), h.own.cell hg h.c1 (by omega), hO, Nat.le_trans h.size hg.size, h.own.below h.below (by omega) hg⟩
theorem one_rowR {W : World} {s : ByteArray} : TRow (W.alloc (.cells #[.string s] 9)) (some ⟨W.heap.size, 0, none⟩) [s] := .inr ⟨W.heap.size, 0, rfl, fun i hi => by
  have : i = 0 := by simpa using hi
  subst this
  go_simp⟩
theorem OwnT.nil (W : World) (lo : Nat) : OwnT W (.slice none 0 0) [] lo := ⟨World.ownsRow_nil W 0 9 1, fun k hk => absurd hk Gro.none_ne⟩
theorem OwnT.weak {W : World} {v : Value} {ss : List ByteArray} {lo lo' : Nat} (h : OwnT W v ss lo) (hl : lo' ≤ lo) : OwnT W v ss lo' := ⟨h.own, fun k hk => Nat.le_trans hl (h.ge k hk)⟩
/-- What a call that answers texts and a code leaves. -/
def RP (w : World) (code : Int) (rs : List ByteArray) (e : Ending) (w' : World) : Prop := ∃ p c, e = .returned (.tuple #[.slice p rs.length c, .int .i64 code]) ∧ Below w.heap.size w w' ∧ OwnT w' (.slice p rs.length c) rs w.heap.size
def RP1 (w : World) (rs : List ByteArray) (e : Ending) (w' : World) : Prop := ∃ p c, e = .returned (.slice p rs.length c) ∧ Below w.heap.size w w' ∧ OwnT w' (.slice p rs.length c) rs w.heap.size

set_option maxHeartbeats 4000000 in
theorem implRec_any (v0 v1 : Value) (ss us : List ByteArray) (w : World) (hn : ss.length ≤ 1048576) (hn' : us.length ≤ 1048576) (hw0 : ∀ s ∈ ss, s.size ≤ 1048576) (hr0 : RowV w v0 ss) (hs0 : RowV w v1 us) (ht0 : TB w) (hm0 : MX w) :
    Calls Tryd.prog 8 #[.agg #[v0, v1]] w (RP w (if ss.length + us.length ≤ 300 then 0 else 1) (if ss.length + us.length ≤ 300 then recL ss else [])) := by
  have HT : Hid (TB w) := ht0
  have HMX : Hid (MX w) := hm0
  clear ht0 hm0
  obtain ⟨ao, c0, rfl, _, hr0⟩ := hr0
  obtain ⟨bo, c1, rfl, _, hs0⟩ := hs0
  have RA : Hid (TRow w ao ss) := hr0
  have HW : Hid (∀ s ∈ ss, s.size ≤ 1048576) := hw0
  obtain ⟨n, hn0⟩ : ∃ n, n = ss.length := ⟨_, rfl⟩
  have HN : Hid (n = ss.length) := hn0
  have RU : Hid (TRow w bo us) := hs0
  have OKC : Hid (∀ W : World, TRow W ao ss → TRow W bo us → Calls Tryd.prog 13 #[.agg #[.slice ao n c0, .slice bo us.length c1]] W fun e w' => e = .returned (.bool (decide (ss.length + us.length ≤ 300))) ∧ Below W.heap.size W w') := fun W h0 h1 => by
    rw [hn0]
    exact implOK_any _ _ ss us W hn hn' ⟨ao, c0, rfl, by assumption, h0⟩ ⟨bo, c1, rfl, by assumption, h1⟩
  by_cases hok : ss.length + us.length ≤ 300
  case neg =>
    rw [if_neg hok, if_neg hok]
    have hd : decide (ss.length + us.length ≤ 300) = false := decide_eq_false hok
    rw [hd] at OKC
    rw [← hn0]
    clear hn0 hr0 hs0 hw0
    go_enter Tryd.func8, Tryd.ntmps8
    go_wp2_with fail
    refine Calls.mono (OKC.out _ (RA.out.next (bel_alloc _ _)) (RU.out.next (bel_alloc _ _))) ?_
    rintro e w1 ⟨rfl, hb⟩
    have HB : Hid (Below w.heap.size w w1) := (bel_alloc _ _).trans (hb.mono (by simp))
    clear hb
    go_wp2
    go_ret2
    exact ⟨none, 0, rfl, HB.out, OwnT.nil _ _⟩
  rw [if_pos hok, if_pos hok]
  have hd : decide (ss.length + us.length ≤ 300) = true := decide_eq_true hok
  rw [hd] at OKC
  rw [← hn0]
  rw [← hn0] at hn
  clear hn0 hr0 hs0 hw0 hok hd
  go_enter Tryd.func8, Tryd.ntmps8
  go_wp2_with fail
  refine Calls.mono (OKC.out _ (RA.out.next (bel_alloc _ _)) (RU.out.next (bel_alloc _ _))) ?_
  rintro e w1 ⟨rfl, hb⟩
  have x0 : w1.cell? ⟨w.heap.size, 0, none⟩ = some (.slice ao n c0) := cell_next hb (by go_simp) (by simp)
  have x1 : w1.cell? ⟨w.heap.size, 1, none⟩ = some (.slice bo us.length c1) := cell_next hb (by go_simp) (by simp)
  have C0 : Hid (RI w w1 (.slice ao n c0) (.slice bo us.length c1) (.slice none 0 0) []) := ⟨x0, x1, OwnT.nil _ _, by have := hb.size; simpa using this, (bel_alloc _ _).trans (hb.mono (by simp))⟩
  clear hb OKC
  go_wp2
  clear x0 x1
  go_loopw [4, 15] (fun s4 s15 wr => ∃ (i : Nat) (l : List ByteArray) (vo : Option Addr) (vc N : Nat), i ≤ n ∧ s15 = .int .i64 i ∧ s4 = .slice vo N vc ∧ N = l.length ∧ (l ++ recL (ss.drop i) = recL ss ∧ l.length ≤ i) ∧ RI w wr (.slice ao n c0) (.slice bo us.length c1) (.slice vo N vc) l) (fun _ s15 _ => n - (intOf s15).toNat)
  case atStart => exact ⟨0, [], none, 0, 0, by omega, rfl, rfl, rfl, ⟨by simp, by simp⟩, C0.out⟩
  case round =>
    clear C0
    obtain ⟨i, l, vo, vc, N, hi, rfl, rfl, hL0, hl0, hC0⟩ := hrel
    have CC : Hid (RI w wr (.slice ao n c0) (.slice bo us.length c1) (.slice vo N vc) l) := hC0
    have HL : Hid (N = l.length) := hL0
    have HQ : Hid (l ++ recL (ss.drop i) = recL ss ∧ l.length ≤ i) := hl0
    have hN : N ≤ 1048576 := by
      have h1 := HL.out
      have h2 := HQ.out.2
      omega
    have d0 := hC0.c0
    have d1 := hC0.c1
    clear hC0 hL0 hl0
    have kk : (0 : Int) ≤ (i : Int) := by omega
    by_cases hlt : i < n
    · have hlt' : (i : Int) < (n : Int) := by omega
      have his : i < ss.length := by have := HN.out; omega
      rcases RA.out with h' | ⟨b, off, rfl, h2⟩
      · rw [h'] at his; simp at his
      obtain ⟨s, hs⟩ : ∃ s, s = ss[i] := ⟨_, rfl⟩
      have HS : Hid (s = ss[i]) := hs
      have hsz : s.size ≤ 1048576 := by rw [hs]; exact HW.out _ (List.getElem_mem his)
      have x0 := cell_next CC.out.below (h2 i his) (cell_lt' (h2 i his))
      rw [← hs] at x0
      clear h2 hs
      go_wp2_with fail
      refine (implOpen_any s _ (by omega) (TB.next (show TB w from HT.out) CC.out.below) (MX.next (show MX w from HMX.out) CC.out.below)).mono ?_
      rintro e w1 ⟨t, r, rfl, hb, h0, h1⟩
      have C1 : Hid (RI w w1 (.slice (some ⟨b, off, none⟩) n c0) (.slice bo us.length c1) (.slice vo N vc) l) := CC.out.next hb
      have H0 : Hid (r = false → openO s = none) := h0
      have H1 : Hid (r = true → openO s = some t) := h1
      have e0 := C1.out.c0
      have e1 := C1.out.c1
      clear hb h0 h1 CC x0 d0 d1
      cases r with
      | false =>
        have HR : Hid (l = recL ss) := by
          have h1 := HQ.out.1
          rw [recL_none his (by rw [← HS.out]; exact H0.out rfl), List.append_nil] at h1
          exact h1
        go_wp2
        go_ret2
        obtain rfl := HR.out
        obtain rfl := HL.out
        exact ⟨vo, vc, rfl, C1.out.below, C1.out.own.weak (by omega)⟩
      | true =>
        have HR : Hid ((l ++ [t]) ++ recL (ss.drop (i + 1)) = recL ss ∧ (l ++ [t]).length ≤ i + 1) := ⟨by
          have h1 := HQ.out.1
          rw [recL_some his (by rw [← HS.out]; exact H1.out rfl)] at h1
          rw [List.append_assoc]
          exact h1, by have := HQ.out.2; simp; omega⟩
        have CA : Hid (RI w (w1.alloc (.cells #[.string t] 9)) (.slice (some ⟨b, off, none⟩) n c0) (.slice bo us.length c1) (.slice vo N vc) l) := C1.out.next (bel_alloc _ _)
        go_wp2_with (at_builtin; refine wpList_appT rfl (.tmp 26) (.tmp 28) rfl rfl (.slice vo N vc) N l (w.heap.size + 1) (N + 1) rfl HL.out CA.out.own CA.out.size (some ⟨w1.heap.size, 0, none⟩) 1 1 [t] rfl rfl one_rowR (by omega) rfl ?_; intro vo3 vc3 w3 hO hg; have C3 : Hid _ := CA.out.app hO hg; clear hO hg)
        go_roundw
        case rel => exact ⟨i + 1, l ++ [t], vo3, vc3, N + 1, by omega, by go_num, rfl, by have := HL.out; simp; omega, HR.out, C3.out⟩
        case measure => simp [intOf]; omega
    · have hlt' : ¬ (i : Int) < (n : Int) := by omega
      have HR : Hid (l = recL ss) := by
        have h1 := HQ.out.1
        rw [List.drop_of_length_le (by have := HN.out; omega)] at h1
        show l = recL ss
        simpa [recL] using h1
      go_wp2
      go_ret2
      obtain rfl := HR.out
      obtain rfl := HL.out
      exact ⟨vo, vc, rfl, CC.out.below, CC.out.own.weak (by omega)⟩
end Go.Proofs.YthblnifapkfbcaaDoor
