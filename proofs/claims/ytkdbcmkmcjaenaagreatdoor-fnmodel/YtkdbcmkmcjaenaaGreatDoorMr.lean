/- Marks of texts and of events; ModelKeys of the specification. -/
import Derived.Test.YtkdbcmkmcjaenaaGreatDoorRows
import Derived.WalkKit
import Derived.WalkSpells
import Derived.WalkLawsBesides
import Derived.Deep.QuietTactic
import Derived.BigQuiet
import Derived.Deep.RegionHeld3
import Derived.Test.YtkdbcmkmcjaenaaGreatDoorMq
import Derived.LoopN
import Derived.OwnWalk
import Derived.Lib.ConvBytes
namespace Go.Proofs.YtkdbcmkmcjaenaaGreatDoor
open Go.RowKit
set_option linter.unusedSimpArgs false
set_option linter.unusedVariables false
/-- The digits of k, none of 0. -/
def mtP (k : Nat) : List UInt8 := if h : k = 0 then [] else mtP (k / 10) ++ [UInt8.ofNat (48 + k % 10)]
termination_by k
decreasing_by omega
/-- The k-th mark. -/
def mt (k : Nat) : ByteArray := ⟨#[109]⟩ ++ ⟨(mtP k).toArray⟩
theorem u8_small (n : Nat) (h : n < 256) : (UInt8.ofNat n).toNat = n := by simp; omega
theorem mt_step (j : Nat) (out : ByteArray) (c : UInt8) (hj : 0 < j) (hc : c = UInt8.ofNat (48 + j % 10)) : mtP j ++ out.data.toList = mtP (j / 10) ++ ((⟨#[c]⟩ : ByteArray) ++ out).data.toList := by
  rw [mtP, dif_neg (by omega), hc]
  simp
theorem TR.kp {E : Nat → Prop} {lo : Nat} {w w' : World} {p : Option Addr} {l : List (List UInt8)} (h : TR lo w p l) (k : Kp E w w') (hn : ∀ b, lo ≤ b → ¬ E b) : TR lo w' p l := by
  refine ⟨?_, ?_⟩
  · rcases h.row with h' | ⟨b, off, h1, h2, h3⟩
    · exact .inl h'
    · refine .inr ⟨b, off, h1, h2, fun j hj => ?_⟩
      have hc := h3 j hj
      rw [World.cell?_of_block (w := w) (k.block _ (cell_lt (x := ⟨b, off + j, none⟩) hc) (hn _ h2))]
      exact hc
  · rcases h.wr with h' | ⟨g, h1, h2, h3, h4⟩
    · exact .inl h'
    · exact .inr ⟨g, h1, h2, Nat.lt_of_lt_of_le h3 k.size, fun j hj => ⟨by rw [World.cell?_of_block (w := w) (k.block _ h3 (hn _ h2))]; exact (h4 j hj).1, by rw [World.frozen?_of_block (w := w) (k.block _ h3 (hn _ h2))]; exact (h4 j hj).2⟩⟩
/-- A row of texts that holds the marks from k on in its first j places. -/
def MI (lo : Nat) (w : World) (p : Option Addr) (n k j : Nat) : Prop := n = 0 ∨ ∃ g, p = some ⟨g, 0, none⟩ ∧ lo ≤ g ∧ g < w.heap.size ∧ There w g n ∧ ∀ i, i < j → w.cell? ⟨g, i, none⟩ = some (.string (mt (k + i)))
theorem MI.next {lo : Nat} {w w' : World} {p : Option Addr} {n k j : Nat} (h : MI lo w p n k j) (hb : Below w.heap.size w w') : MI lo w' p n k j := by
  rcases h with h | ⟨g, h1, h2, h3, h4, h5⟩
  · exact .inl h
  · exact .inr ⟨g, h1, h2, Nat.lt_of_lt_of_le h3 hb.size, h4.next hb h3, fun i hi => cell_next hb (h5 i hi) h3⟩
theorem TR.mi {lo : Nat} {w : World} {p : Option Addr} {l : List (List UInt8)} (h : TR lo w p l) (k : Nat) : MI lo w p l.length k 0 := by
  rcases h.wr with h' | ⟨g, h1, h2, h3, h4⟩
  · exact .inl (by rw [h']; rfl)
  · exact .inr ⟨g, h1, h2, h3, h4, fun i hi => by omega⟩
set_option maxRecDepth 20000 in
set_option maxHeartbeats 4000000 in
theorem specMk (lo q : Nat) (po : Option Addr) (l : List Ev) (w : World) (hl1 : (l.length : Int) ≤ 1048576) (hks : ∀ x ∈ l, x.key.size < 1099511627776) (hr0 : GRow lo w po (flatE l)) :
    Calls Tryz.prog 6 #[.slice po l.length q] w (Tmk l w) := by
  have hr : Hid (GRow lo w po (flatE l)) := hr0
  clear hr0
  go_enter Tryz.func6, Tryz.ntmps6
  by_cases hl : 4096 < (l.length : Int)
  case pos =>
    have HF : Hid (mkP l [] 2) := .inl ⟨by omega, rfl, rfl⟩
    clear hr
    go_wp2
    go_ret2
    exact Tmk.mk (rs := []) rfl HF.out (TR.nil _ _ _) (bel_alloc _ _)
  have HLE : Hid (l.length ≤ 4096) := by show _ ≤ _; omega
  go_wp2_with fail
  refine (specEvents lo q po l w hl1 hks hr.out).mono ?_
  rintro e1 W1 ⟨r1, rfl, hq, hb⟩
  have HB : Hid (Below w.heap.size w W1) := hb
  have HQ : Hid (r1 = true ↔ eok l) := hq
  clear hb hq
  cases r1
  case false =>
    have HF : Hid (mkP l [] 1) := .inr (.inl ⟨HLE.out, fun h => (by have := HQ.out.2 h; cases this), rfl, rfl⟩)
    clear HQ hr
    go_wp2
    go_ret2
    exact Tmk.mk (rs := []) rfl HF.out (TR.nil _ _ _) (HB.out.trans ((bel_alloc _ _).mono HB.out.size))
  have HE : Hid (eok l) := HQ.out.1 rfl
  clear HQ
  go_wp2_with fail
  refine (keys_any lo q po l W1 HLE.out (hr.out.next HB.out)).mono ?_
  rintro e1 W2 ⟨g, c, rfl, hT, hb⟩
  have HT : Hid (TR w.heap.size W2 (some ⟨g, 0, none⟩) (risen (keysE l)) ∧ Below w.heap.size w W2) := ⟨hT.weak HB.out.size, HB.out.trans (hb.mono HB.out.size)⟩
  have HR : Hid (mkP l (risen (keysE l)) 0) := .inr (.inr ⟨HLE.out, HE.out, rfl, rfl⟩)
  clear hT hb HB hr HE HLE
  go_wp2
  go_ret2
  exact Tmk.mk rfl HR.out HT.out.1 HT.out.2

end Go.Proofs.YtkdbcmkmcjaenaaGreatDoor
