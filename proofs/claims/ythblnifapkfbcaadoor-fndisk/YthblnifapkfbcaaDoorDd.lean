/- Disks, as the laws draw them. -/
import Derived.Test.YthblnifapkfbcaaDoorRows
import Derived.WalkKit
import Derived.WalkSpells
import Derived.WalkLawsBesides
import Derived.Deep.QuietTactic
import Derived.BigQuiet
import Derived.Deep.RegionHeld3
import Derived.Test.YthblnifapkfbcaaDoorDf
import Derived.Test.YthblnifapkfbcaaDoorAw
import Derived.LoopN
namespace Go.Proofs.YthblnifapkfbcaaDoor
open Go.RowKit
set_option linter.unusedSimpArgs false
set_option linter.unusedVariables false
set_option maxHeartbeats 4000000 in
theorem l04Append_new (v0 v1 : Value) (ss us : List ByteArray) (t : ByteArray) (w : World) (ht : t.size ≤ 65536) (hn : ss.length ≤ 1048576) (hn' : us.length ≤ 1048576) (hr0 : RowV w v0 ss) (hs0 : RowV w v1 us) :
    Calls Tryd.prog 28 #[.agg #[v0, v1], .string t] w fun e w' => ∃ p c, e = .returned (.agg #[v0, .slice p (us.length + 1) c]) ∧ Below w.heap.size w w' ∧ RowV w' v0 ss ∧ RowV w' (.slice p (us.length + 1) c) (us ++ [sealS t]) ∧ (∀ x, p = some x → w.heap.size ≤ x.block) := by
  have HRA : Hid (RowV w v0 ss) := hr0
  obtain ⟨ao, c0, rfl, _, hr0⟩ := hr0
  obtain ⟨bo, c1, rfl, _, hs0⟩ := hs0
  have RA : Hid (TRow w ao ss) := hr0
  have RU : Hid (TRow w bo us) := hs0
  obtain ⟨n, hn0⟩ : ∃ n, n = ss.length := ⟨_, rfl⟩
  obtain ⟨m, hm0⟩ : ∃ m, m = us.length := ⟨_, rfl⟩
  have HN : Hid (n = ss.length) := hn0
  have HM : Hid (m = us.length) := hm0
  rw [← hn0, ← hm0]
  rw [← hn0] at hn
  rw [← hm0] at hn'
  clear hn0 hm0 hr0 hs0
  have SE : Hid (∀ W : World, Calls Tryd.prog 36 #[.string t] W fun e w' => e = .returned (.string (sealS t)) ∧ Below W.heap.size W w') := fun W => specSeal_any t W (by omega)
  generalize sealS t = q at *
  have A0 : Hid (AI w (((w.alloc (.cells #[.slice ao n c0, .slice bo m c1] 25)).alloc (.cells #[.slice none 0 0, .slice none 0 0] 25)).alloc (.cells #[] 9)) (.slice ao n c0) (.slice bo m c1) (.slice (some ⟨w.heap.size + 1 + 1, 0, none⟩) 0 0) []) := by
    have h1 : Th2 ((w.alloc (.cells #[.slice ao n c0, .slice bo m c1] 25)).alloc (.cells #[.slice none 0 0, .slice none 0 0] 25)) (w.heap.size + 1) := by have := th2_new (W := (w.alloc (.cells #[.slice ao n c0, .slice bo m c1] 25))) (v0 := .slice none 0 0) (v1 := .slice none 0 0) (t := 25); simpa using this
    have h0 : Th2 ((w.alloc (.cells #[.slice ao n c0, .slice bo m c1] 25)).alloc (.cells #[.slice none 0 0, .slice none 0 0] 25)) w.heap.size := (th2_new (W := w) (v0 := .slice ao n c0) (v1 := .slice bo m c1) (t := 25)).next (bel_alloc _ _)
    have h2 := OwnT.new (W := ((w.alloc (.cells #[.slice ao n c0, .slice bo m c1] 25)).alloc (.cells #[.slice none 0 0, .slice none 0 0] 25))) (lo := w.heap.size + 1 + 1) (by simp)
    exact ⟨by go_simp, by go_simp, h1.next (bel_alloc _ _), h0.next (bel_alloc _ _), by simpa using h2, by simp, (((Below.refl _ _).alloc (Nat.le_refl _) _).alloc (by simp) _).alloc (by simp; omega) _⟩
  go_enter Tryd.func28, Tryd.ntmps28
  go_wp2_with (at_builtin; refine wpList_appT rfl (.tmp 5) (.tmp 7) rfl rfl (.slice (some ⟨w.heap.size + 1 + 1, 0, none⟩) 0 0) 0 [] (w.heap.size + 1 + 1) m rfl rfl A0.out.own A0.out.size bo m c1 us rfl HM.out (RU.out.next A0.out.below) (by omega) (by omega) ?_; intro vo1 vc1 w1 hO hg; have A1 : Hid _ := A0.out.app hO hg; clear hO hg)
  refine Calls.mono (SE.out _) ?_
  rintro e w2 ⟨rfl, hb⟩
  have A2 : Hid (AI w w2 (.slice ao n c0) (.slice bo m c1) (.slice vo1 m vc1) ([] ++ us)) := A1.out.next hb
  clear hb A0 A1
  have A3 : Hid (AI w (w2.alloc (.cells #[.string q] 9)) (.slice ao n c0) (.slice bo m c1) (.slice vo1 m vc1) ([] ++ us)) := A2.out.next (bel_alloc _ _)
  have R1 : Hid (TRow (w2.alloc (.cells #[.string q] 9)) (some ⟨w2.heap.size, 0, none⟩) [q]) := .inr ⟨w2.heap.size, 0, rfl, fun i hi => by
    have : i = 0 := by simpa using hi
    subst this
    go_simp⟩
  have hml : m = ([] ++ us).length := by simpa using HM.out
  have HML : Hid (m = ([] ++ us).length) := hml
  clear hml
  go_wp2_with (at_builtin; refine wpList_appT rfl (.tmp 8) (.tmp 11) rfl rfl (.slice vo1 m vc1) m ([] ++ us) (w.heap.size + 1 + 1) (m + 1) rfl HML.out A3.out.own A3.out.size (some ⟨w2.heap.size, 0, none⟩) 1 1 [q] rfl rfl R1.out (by omega) rfl ?_; intro vo4 vc4 w4 hO hg; have A4 : Hid _ := A3.out.app hO hg; clear hO hg; have f0 := A4.out.c0; have f1 := A4.out.c1; have g1 := A4.out.tb.f1; obtain ⟨⟨⟨u0, T0⟩, ⟨u1, T1⟩⟩, Z0, Z1⟩ := A4.out.th)
  have TH := A4.out.th
  have hz := A4.out.size
  have hc2 := cell_set (t := w.heap.size) (j := 1) (u := .slice vo4 (m + 1) vc4) T0 (by omega)
  have hc3 := cell_set (t := w.heap.size) (j := 1) (u := .slice vo4 (m + 1) vc4) T1 (by omega)
  have TB2 : Th2 (w4.setCell ⟨w.heap.size, 1, none⟩ (.slice vo4 (m + 1) vc4)) (w.heap.size + 1) := ⟨⟨⟨u0, hc2⟩, ⟨u1, hc3⟩⟩, by simpa using Z0, by simpa using Z1⟩
  have A5 : Hid _ := A4
  refine bodyPost_ret (v := .agg #[.slice ao n c0, .slice vo4 (m + 1) vc4]) (by simp [results, Tryd.results28, go_sem, set2_cells TB2, *]) rfl ?_
  have B9 : Below w.heap.size w (((w4.setCell ⟨w.heap.size, 1, none⟩ (.slice vo4 (m + 1) vc4)).setCell ⟨w.heap.size + 1, 0, none⟩ (.slice ao n c0)).setCell ⟨w.heap.size + 1, 1, none⟩ (.slice vo4 (m + 1) vc4)) := bel_set (bel_set (bel_set A5.out.below (by omega)) (by omega)) (by omega)
  refine ⟨vo4, vc4, rfl, B9, (by have h9 := HRA.out.next B9; rw [← HN.out] at h9; exact h9), ?_⟩
  · have hO := A5.out.own
    have hO2 : World.ownsRow (((w4.setCell ⟨w.heap.size, 1, none⟩ (.slice vo4 (m + 1) vc4)).setCell ⟨w.heap.size + 1, 0, none⟩ (.slice ao n c0)).setCell ⟨w.heap.size + 1, 1, none⟩ (.slice vo4 (m + 1) vc4)) 0 9 1 (.slice vo4 (m + 1) vc4) ([] ++ us ++ [q]).length (V ([] ++ us ++ [q])) :=
      own_set (own_set (own_set hO.own (fun e => by have := hO.ge _ e; omega)) (fun e => by have := hO.ge _ e; omega)) (fun e => by have := hO.ge _ e; omega)
    refine ⟨own_rowV hO2, fun x hx => ?_⟩
    subst hx
    rcases hO.own.2 with ⟨h', _⟩ | ⟨g', cap', cur, h', _⟩
    · cases h'
    · simp only [Value.slice.injEq, Option.some.injEq] at h'
      obtain ⟨hx', _, _⟩ := h'
      subst hx'
      have := hO.ge g' rfl
      show w.heap.size ≤ g'
      omega

/-- A row of texts whose block is neither of two. -/
structure RowB (W : World) (v : Value) (ss : List ByteArray) (g pd : Nat) : Prop where
  row : RowV W v ss
  ne : ∀ x n c, v = .slice (some x) n c → x.block ≠ g ∧ x.block ≠ pd
theorem RowB.next {W W' : World} {v : Value} {ss : List ByteArray} {g pd : Nat} (h : RowB W v ss g pd) (hb : Below W.heap.size W W') : RowB W' v ss g pd := ⟨h.row.next hb, h.ne⟩
theorem trow_by {W W' : World} {ao : Option Addr} {ss : List ByteArray} {g : Nat} (h : TRow W ao ss) (hg : W.grownBy W' (some g)) (hne : ∀ x, ao = some x → x.block ≠ g) : TRow W' ao ss := by
  rcases h with h | ⟨b, off, rfl, h2⟩
  · exact .inl h
  · exact .inr ⟨b, off, rfl, fun i hi => grown_cell hg (h2 i hi) (hne _ rfl)⟩
theorem RowB.by {W W' : World} {v : Value} {ss : List ByteArray} {g pd : Nat} (h : RowB W v ss g pd) (hg : W.grownBy W' (some g)) : RowB W' v ss g pd := by
  obtain ⟨⟨ao, cap, rfl, hc, ht⟩, hne⟩ := h
  exact ⟨⟨ao, cap, rfl, hc, trow_by ht hg (fun x hx => by subst hx; exact (hne x _ _ rfl).1)⟩, hne⟩
theorem trow_set {W : World} {ao : Option Addr} {ss : List ByteArray} {g o : Nat} {u : Value} (h : TRow W ao ss) (hne : ∀ x, ao = some x → x.block ≠ g) : TRow (W.setCell ⟨g, o, none⟩ u) ao ss := by
  rcases h with h | ⟨b, off, rfl, h2⟩
  · exact .inl h
  · exact .inr ⟨b, off, rfl, fun i hi => cell_set (h2 i hi) (hne _ rfl)⟩
theorem RowB.set {W : World} {v : Value} {ss : List ByteArray} {g pd o : Nat} {u : Value} (h : RowB W v ss g pd) : RowB (W.setCell ⟨pd, o, none⟩ u) v ss g pd := by
  obtain ⟨⟨ao, cap, rfl, hc, ht⟩, hne⟩ := h
  exact ⟨⟨ao, cap, rfl, hc, trow_set ht (fun x hx => by subst hx; exact (hne x _ _ rfl).2)⟩, hne⟩
theorem rowB_own {W : World} {v : Value} {ss : List ByteArray} {lo g pd : Nat} (h : W.ownsRow 0 9 1 v ss.length (V ss)) (hge : ∀ k, v.ownBlock = some k → lo ≤ k) (h1 : g < lo) (h2 : pd < lo) : RowB W v ss g pd := by
  refine ⟨own_rowV h, fun x n c e => ?_⟩
  subst e
  rcases h.2 with ⟨h', _⟩ | ⟨g', cap', cur, h', _⟩
  · cases h'
  · simp only [Value.slice.injEq, Option.some.injEq] at h'
    obtain ⟨hx', _, _⟩ := h'
    subst hx'
    have := hge g' rfl
    exact ⟨show g' ≠ g by omega, show g' ≠ pd by omega⟩
theorem Th2.by {W W' : World} {p g : Nat} (h : Th2 W p) (hg : W.grownBy W' (some g)) (hne : p ≠ g) : Th2 W' p := by
  obtain ⟨⟨⟨u, h0⟩, ⟨v, h1⟩⟩, f0, f1⟩ := h
  exact ⟨⟨⟨u, grown_cell hg h0 hne⟩, ⟨v, grown_cell hg h1 hne⟩⟩, grown_frozen hg f0 (cell_lt' h0) hne, grown_frozen hg f1 (cell_lt' h0) hne⟩
theorem Th2.set {W : World} {p q o : Nat} {u : Value} (h : Th2 W p) (hne : p ≠ q) : Th2 (W.setCell ⟨q, o, none⟩ u) p := by
  obtain ⟨⟨⟨x, h0⟩, ⟨v, h1⟩⟩, f0, f1⟩ := h
  exact ⟨⟨⟨x, cell_set h0 hne⟩, ⟨v, cell_set h1 hne⟩⟩, by simpa using f0, by simpa using f1⟩
theorem Th2.self {W : World} {p : Nat} {u v : Value} (h : Th2 W p) : Th2 ((W.setCell ⟨p, 0, none⟩ u).setCell ⟨p, 1, none⟩ v) p := by
  have hc := set2_cells (v0 := u) (v1 := v) h
  exact ⟨⟨⟨_, hc.1⟩, ⟨_, hc.2⟩⟩, by simpa using h.f0, by simpa using h.f1⟩
theorem SrcAt.below {w w' : World} {g : Nat} {ao : Option Addr} {len cap : Nat} {k s : Int} (h : SrcAt w g ao len cap k s) (hb : Below w.heap.size w w') : SrcAt w' g ao len cap k s := by
  obtain ⟨c0, c1, c2, f1, f2, hl, hs⟩ := h
  exact ⟨cell_next hb c0 hl, cell_next hb c1 hl, cell_next hb c2 hl, frozen_next hb f1 hl, frozen_next hb f2 hl, Nat.lt_of_lt_of_le hl hb.size, hs⟩
theorem SrcAt.set {w : World} {g p o : Nat} {u : Value} {ao : Option Addr} {len cap : Nat} {k s : Int} (h : SrcAt w g ao len cap k s) (hne : g ≠ p) : SrcAt (w.setCell ⟨p, o, none⟩ u) g ao len cap k s := by
  obtain ⟨c0, c1, c2, f1, f2, hl, hs⟩ := h
  exact ⟨cell_set c0 hne, cell_set c1 hne, cell_set c2 hne, by simpa using f1, by simpa using f2, by simpa [World.setCell] using hl, hs⟩
/-- What drawing a disk keeps. -/
structure DI (w wr : World) (g : Nat) (ao : Option Addr) (len cap : Nat) (zs : List Int) (k : Int) (v0 v1 : Value) (TA TU : List ByteArray) : Prop where
  src : ∃ s, SrcAt wr g ao len cap k s
  row : Gen.IsRow .u8 wr ao len cap zs
  c0 : wr.cell? ⟨w.heap.size + 1 + 1 + 1, 0, none⟩ = some v0
  c1 : wr.cell? ⟨w.heap.size + 1 + 1 + 1, 1, none⟩ = some v1
  th : Th2 wr (w.heap.size + 1 + 1 + 1)
  t2 : Th2 wr w.heap.size
  r0 : RowB wr v0 (TA.map sealS) g (w.heap.size + 1 + 1 + 1)
  r1 : RowB wr v1 (TU.map sealS) g (w.heap.size + 1 + 1 + 1)
  size : w.heap.size + 4 ≤ wr.heap.size
  grown : w.grownBy wr (some g)
section
variable {w wr w1 : World} {g : Nat} {ao : Option Addr} {len cap : Nat} {zs : List Int} {k k' : Int} {v0 v1 : Value} {TA TU : List ByteArray}
theorem DI.by (h : DI w wr g ao len cap zs k v0 v1 TA TU) (hgw : g < w.heap.size) (hS : ∃ s, SrcAt w1 g ao len cap k' s) (hR : Gen.IsRow .u8 w1 ao len cap zs) (hG : wr.grownBy w1 (some g)) : DI w w1 g ao len cap zs k' v0 v1 TA TU :=
  ⟨hS, hR, grown_cell hG h.c0 (by omega), grown_cell hG h.c1 (by omega), h.th.by hG (by omega), h.t2.by hG (by omega), h.r0.by hG, h.r1.by hG, Nat.le_trans h.size hG.size, h.grown.trans hG⟩
theorem DI.below (h : DI w wr g ao len cap zs k v0 v1 TA TU) (hb : Below wr.heap.size wr w1) : DI w w1 g ao len cap zs k v0 v1 TA TU := by
  obtain ⟨s, hs⟩ := h.src
  exact ⟨⟨s, hs.below hb⟩, row_below h.row hb, cell_next hb h.c0 (cell_lt' h.c0), cell_next hb h.c1 (cell_lt' h.c1), h.th.next hb, h.t2.next hb, h.r0.next hb, h.r1.next hb, Nat.le_trans h.size hb.size, h.grown.trans ⟨hb.os, hb.tape, hb.output, hb.size, fun b hlt _ => hb.block b hlt⟩⟩
theorem DI.store {TA' TU' : List ByteArray} {u0 u1 : Value} (h : DI w wr g ao len cap zs k v0 v1 TA TU) (hgw : g < w.heap.size) (hold : ∀ x, ao = some x → 0 < cap → x.block < w.heap.size) (h0 : RowB wr u0 (TA'.map sealS) g (w.heap.size + 1 + 1 + 1)) (h1 : RowB wr u1 (TU'.map sealS) g (w.heap.size + 1 + 1 + 1)) : DI w ((wr.setCell ⟨w.heap.size + 1 + 1 + 1, 0, none⟩ u0).setCell ⟨w.heap.size + 1 + 1 + 1, 1, none⟩ u1) g ao len cap zs k u0 u1 TA' TU' := by
  obtain ⟨s, hs⟩ := h.src
  have hc := set2_cells (v0 := u0) (v1 := u1) h.th
  refine ⟨⟨s, (hs.set (by omega)).set (by omega)⟩, ?_, hc.1, hc.2, h.th.self, (h.t2.set (by omega)).set (by omega), h0.set.set, h1.set.set, by simpa [World.setCell] using h.size, ?_⟩
  · refine row_kept h.row fun x i u hx hcap hcell => ?_
    have hb := hold x hx hcap
    have hne : (x.add i).block ≠ w.heap.size + 1 + 1 + 1 := by rw [add_block]; omega
    rw [World.cell?_of_block (w := wr.setCell ⟨w.heap.size + 1 + 1 + 1, 0, none⟩ u0) (Below.heap_setCell _ ⟨w.heap.size + 1 + 1 + 1, 1, none⟩ u1 _ hne), World.cell?_of_block (w := wr) (Below.heap_setCell wr ⟨w.heap.size + 1 + 1 + 1, 0, none⟩ u0 _ hne)]
    exact hcell
  · exact grown_then (grown_then h.grown (grown_set _ _ _ _) (fun j e => by cases e; exact .inl (by omega))) (grown_set _ _ _ _) (fun j e => by cases e; exact .inl (by omega))
end
set_option maxHeartbeats 1000000 in
theorem chance_any (g len cap : Nat) (ao : Option Addr) (zs : List Int) (k s : Int) (w : World) (h : SrcAt w g ao len cap k s) (hr : Gen.IsRow .u8 w ao len cap zs) (hn : ∀ x, ao = some x → 0 < cap → x.block ≠ g) (hl : (len : Int) ≤ 1048576) (hk0 : 0 ≤ k) (hk : k ≤ 1000000000) :
    Calls Tryd.prog 29 #[.pointer (some ⟨g, 0, none⟩), .int .i64 3] w fun e w' => ∃ (b : Bool) (t : Int), e = .returned (.bool b) ∧ SrcAt w' g ao len cap (k + 1) t ∧ w.grownBy w' (some g) := by
  have HC : Hid _ := next_any g len cap ao zs k s 3 (by omega) (by omega) w h hr hn hl hk0 hk
  clear h hr hn
  go_enter Tryd.func29, Tryd.ntmps29
  go_wp2_with fail
  refine Calls.mono HC.out ?_
  rintro e w1 ⟨n, t, _, rfl, hS0, hG0⟩
  have hS : Hid (SrcAt w1 g ao len cap (k + 1) t) := hS0
  have hG : Hid (w.grownBy w1 (some g)) := hG0
  clear hS0 hG0
  obtain ⟨b, hb⟩ : ∃ b : Bool, (n == 2) = b := ⟨_, rfl⟩
  go_wp2_with fail
  go_ret
  exact ⟨b, t, by first | rfl | exact ret_bool hb, hS.out, hG.out⟩
end Go.Proofs.YthblnifapkfbcaaDoor
