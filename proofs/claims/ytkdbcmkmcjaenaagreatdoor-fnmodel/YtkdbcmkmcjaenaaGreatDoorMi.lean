/- Rows of texts that may be written; sorted, and each once. -/
import Derived.Test.YtkdbcmkmcjaenaaGreatDoorRows
import Derived.WalkKit
import Derived.WalkSpells
import Derived.WalkLawsBesides
import Derived.Deep.QuietTactic
import Derived.BigQuiet
import Derived.Deep.RegionHeld3
import Derived.Test.YtkdbcmkmcjaenaaGreatDoorRz
import Derived.Test.YtkdbcmkmcjaenaaGreatDoorSq
import Derived.Shelf.Slices.In.SortNone
import Derived.LoopN
import Derived.OwnWalk
namespace Go.Proofs.YtkdbcmkmcjaenaaGreatDoor
open Go.RowKit
set_option linter.unusedSimpArgs false
set_option linter.unusedVariables false

open Go.Sort Go.Shelf
/-- A row of texts that may be written, from the block lo on. -/
structure TR (lo : Nat) (w : World) (p : Option Addr) (rs : List (List UInt8)) : Prop where
  row : GRow lo w p (txt rs)
  wr : rs = [] ∨ ∃ g, p = some ⟨g, 0, none⟩ ∧ lo ≤ g ∧ g < w.heap.size ∧ There w g rs.length
theorem TR.next {lo : Nat} {w w' : World} {p : Option Addr} {l : List (List UInt8)} (h : TR lo w p l) (hb : Below w.heap.size w w') : TR lo w' p l := by
  refine ⟨h.row.next hb, ?_⟩
  rcases h.wr with h' | ⟨g, h1, h2, h3, h4⟩
  · exact .inl h'
  · exact .inr ⟨g, h1, h2, Nat.lt_of_lt_of_le h3 hb.size, h4.next hb h3⟩
theorem TR.weak {lo lo' : Nat} {w : World} {p : Option Addr} {l : List (List UInt8)} (h : TR lo w p l) (hl : lo' ≤ lo) : TR lo' w p l := by
  refine ⟨h.row.weak hl, ?_⟩
  rcases h.wr with h' | ⟨g, h1, h2, h3⟩
  · exact .inl h'
  · exact .inr ⟨g, h1, by omega, h3⟩
theorem TR.nil (lo : Nat) (w : World) (p : Option Addr) : TR lo w p [] := ⟨.inl rfl, .inl rfl⟩
theorem TR.pre {lo : Nat} {w : World} {p : Option Addr} {a b : List (List UInt8)} (h : TR lo w p (a ++ b)) : TR lo w p a := by
  refine ⟨?_, ?_⟩
  · rcases h.row with h' | ⟨g, off, h1, h2, h3⟩
    · refine .inl ?_
      have := congrArg List.length h'
      simp [txt] at this
      simp [this.1, txt]
    · refine .inr ⟨g, off, h1, h2, fun j hj => ?_⟩
      have hj2 : j < (txt (a ++ b)).length := by simp [txt] at hj ⊢; omega
      rw [h3 j hj2]
      have e2 : (txt (a ++ b))[j]? = (txt a)[j]? := by rw [show txt (a ++ b) = txt a ++ txt b by simp [txt]]; exact List.getElem?_append_left hj
      rw [List.getElem?_eq_getElem hj2, List.getElem?_eq_getElem hj] at e2
      exact e2
  · rcases h.wr with h' | ⟨g, h1, h2, h3, h4⟩
    · exact .inl (List.append_eq_nil_iff.1 h').1
    · exact .inr ⟨g, h1, h2, h3, fun j hj => h4 j (by simp; omega)⟩
theorem OwnG.tr {lo : Nat} {w : World} {p : Option Addr} {rs : List (List UInt8)} {c : Nat} (h : OwnG w 9 1 (.slice p rs.length c) rs.length (txt rs) lo) : TR lo w p rs := by
  obtain ⟨_, _, e1, _, hg⟩ := h.grow
  cases e1
  refine ⟨hg, ?_⟩
  rcases h.own.2 with ⟨h2, h3⟩ | ⟨g', cap, cur, h2, h3, h4, h5, h6, h7, h8⟩
  · exact .inl (List.length_eq_zero_iff.1 h3)
  · cases h2
    refine .inr ⟨g', rfl, h.ge _ rfl, (h.own.lt g' rfl).2, fun j hj => ⟨?_, ?_⟩⟩
    · simp [World.cell?, h4]; omega
    · simp [World.frozen?, h4]
theorem lit_row {W : World} {v : Value} {ty : TypeId} : GRow 0 (W.alloc (.cells #[v] ty)) (some ⟨W.heap.size, 0, none⟩) [v] := .inr ⟨_, 0, rfl, Nat.zero_le _, fun j hj => by
  have : j = 0 := by simpa using hj
  subst this
  simp
  (try go_simp)⟩
/-- What ModelKeys answers. -/
def Tmk (l : List Ev) (w : World) (e : Ending) (w' : World) : Prop := ∃ p q rs c, e = .returned (.tuple #[.slice p rs.length q, .int .i64 c]) ∧ mkP l rs c ∧ TR w.heap.size w' p rs ∧ Below w.heap.size w w'
theorem Tmk.mk {l : List Ev} {w w' : World} {p : Option Addr} {n q : Nat} {rs : List (List UInt8)} {c : Int} (hn : n = rs.length) (hm : mkP l rs c) (ht : TR w.heap.size w' p rs) (hb : Below w.heap.size w w') : Tmk l w (.returned (.tuple #[.slice p n q, .int .i64 c])) w' := by
  subst hn
  exact ⟨p, q, rs, c, rfl, hm, ht, hb⟩
theorem grow_none (w : World) : grow w #[] = w := by simp [grow]
/-- A row of texts that is sorted and cut to what it holds once. -/
theorem sortComp {W : World} {v : Value} {ks : List (List UInt8)} {lo : Nat} (hO : OwnG W 9 1 v ks.length (txt ks) lo) (hlo : lo ≤ W.heap.size) (h0 : ks ≠ []) (hlen : ks.length ≤ 4096) :
    ∃ g cap, v = .slice (some ⟨g, 0, none⟩) ks.length cap ∧ ∀ W1, W1 = W → Calls Tryz.prog 19 #[v] W1 fun e w' => e = .returned (.tuple #[]) ∧ Below lo W w' ∧
      Calls Tryz.prog 20 #[v] w' fun e2 w2 => e2 = .returned (.slice (some ⟨g, 0, none⟩) (risen ks).length cap) ∧ Below lo W w2 ∧ TR lo w2 (some ⟨g, 0, none⟩) (risen ks) := by
  rcases hO.own.2 with ⟨_, h'⟩ | ⟨g, cap, cur, rfl, hbase, hb, h1, h2, h3, h4⟩
  · exact absurd (List.eq_nil_of_length_eq_zero h') h0
  refine ⟨g, cap, rfl, fun W1 hW1 => ?_⟩
  subst hW1
  have hg : lo ≤ g := hO.ge g rfl
  have hgl : g < W1.heap.size := (hO.own.lt g rfl).2
  have hS := Any.slices_Sort_string Tryz.lays190 g 0 cap ks W1 (holds_of_block hb (by simpa [txt] using h4)) hgl (by omega)
  refine Calls.mono hS ?_
  rintro e w' ⟨rfl, nn, os, rfl⟩
  have hg1 : W1.grownBy (grow (putRow encStr (Sort.ahead W1 nn) g 0 (ks.mergeSort fun x y => decide (x ≤ y)).toArray) os) (some g) := grownBy_sorted _
  have hO2 := ownsRow_sorted (n := nn) (os := os) (ts := ks.mergeSort fun x y => decide (x ≤ y)) (by simp) hbase hb h1 h2 h3
  generalize grow (putRow encStr (Sort.ahead W1 nn) g 0 (ks.mergeSort fun x y => decide (x ≤ y)).toArray) os = w1 at *
  have hb1 : Below lo W1 w1 := (Below.refl lo W1).grown hg1 hlo (fun k hk => by cases hk; exact hg)
  refine ⟨rfl, hb1, ?_⟩
  have hl : (ks.mergeSort fun x y => decide (x ≤ y)).length = ks.length := by simp
  rcases hO2.2 with ⟨hz, _⟩ | ⟨g', cap', cur', hv, hbase', hb', k1, k2, k3, k4⟩
  · cases hz
  cases hv
  have hC := Any.slices_Compact_string Tryz.lays194 g 0 cap (ks.mergeSort fun x y => decide (x ≤ y)) w1 (holds_of_block hb' (by simpa [hl] using k4)) (by rw [hl]; omega) (by rw [hl]; exact k1)
  rw [hl] at hC
  refine Calls.mono hC ?_
  rintro e w' ⟨rfl, nq, rfl⟩
  rw [← grow_none (putRow encStr (Sort.ahead w1 nq) g 0 _)]
  have hg2 : w1.grownBy (grow (putRow encStr (Sort.ahead w1 nq) g 0 (Lib.compact (ks.mergeSort fun x y => decide (x ≤ y)) ++ List.replicate (ks.length - (Lib.compact (ks.mergeSort fun x y => decide (x ≤ y))).length) []).toArray) #[]) (some g) := grownBy_sorted _
  have hlc : (Lib.compact (ks.mergeSort fun x y => decide (x ≤ y))).length ≤ ks.length := risen_len ks
  have hO3 := ownsRow_sorted (n := nq) (os := #[]) (ss := ks.mergeSort fun x y => decide (x ≤ y)) (ts := Lib.compact (ks.mergeSort fun x y => decide (x ≤ y)) ++ List.replicate (ks.length - (Lib.compact (ks.mergeSort fun x y => decide (x ≤ y))).length) []) (by rw [hl, List.length_append, List.length_replicate]; omega) hbase' hb' (by rw [hl]; exact k1) (by simpa using k2) (by simpa using k3)
  generalize grow (putRow encStr (Sort.ahead w1 nq) g 0 (Lib.compact (ks.mergeSort fun x y => decide (x ≤ y)) ++ List.replicate (ks.length - (Lib.compact (ks.mergeSort fun x y => decide (x ≤ y))).length) []).toArray) #[] = w2 at *
  have hb2 : Below lo W1 w2 := hb1.grown hg2 (Nat.le_trans hlo hg1.size) (fun k hk => by cases hk; exact hg)
  refine ⟨rfl, hb2, ?_⟩
  have hle : (Lib.compact (ks.mergeSort fun x y => decide (x ≤ y)) ++ List.replicate (ks.length - (Lib.compact (ks.mergeSort fun x y => decide (x ≤ y))).length) ([] : List UInt8)).length = ks.length := by rw [List.length_append, List.length_replicate]; omega
  have hT : TR lo w2 (some ⟨g, 0, none⟩) (Lib.compact (ks.mergeSort fun x y => decide (x ≤ y)) ++ List.replicate (ks.length - (Lib.compact (ks.mergeSort fun x y => decide (x ≤ y))).length) []) := by
    refine OwnG.tr (c := cap) ⟨?_, fun k hk => by simp [Value.ownBlock] at hk; omega⟩
    rw [hle]
    have := hO3
    rw [hl] at this
    exact this
  exact hT.pre
end Go.Proofs.YtkdbcmkmcjaenaaGreatDoor
