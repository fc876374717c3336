/- ReadObj of the specification, and its law. -/
import Derived.Test.YtodjbkeljfnebaaRows
import Derived.WalkKit
import Derived.WalkSpells
import Derived.WalkLawsBesides
import Derived.Deep.QuietTactic
import Derived.BigQuiet
import Derived.Deep.RegionHeld3
import Derived.Test.YtodjbkeljfnebaaTo
import Derived.Test.YtodjbkeljfnebaaWd
import Derived.Test.YtodjbkeljfnebaaMh
import Derived.Test.YtodjbkeljfnebaaSo
import Derived.LoopN
import Derived.Deep.Cut
namespace Go.Proofs.Ytodjbkeljfnebaa
open Go.RowKit
set_option linter.unusedSimpArgs false
set_option linter.unusedVariables false

theorem roa_len {s : ByteArray} {m : List Sib} {x y z code : Int} (h : RoA s m x y z code) : m.length ≤ 100 := by
  by_cases h0 : 65536 < s.size
  · rw [(h.1 h0).1]; simp
  · by_cases h1 : ∃ x y z m, GoodR (bl s) x y z m
    · obtain ⟨x', y', z', m', hg⟩ := h1
      rw [(h.2.1 h0 _ _ _ _ hg).1]
      exact hg.2.1
    · rw [(h.2.2 h0 (fun x y z m hg => h1 ⟨x, y, z, m, hg⟩)).1]; simp
set_option maxHeartbeats 4000000 in
theorem specReadO_any (s : ByteArray) (m : List Sib) (x y z code : Int) (hA : Hid (RoA s m x y z code)) (w : World) (hs : s.size ≤ 1048576) :
    Calls Try.prog 14 #[.string s] w fun e w' => RoQ w m x y z code e w' := by
  by_cases hb65 : 65536 < s.size
  · obtain ⟨rfl, rfl, rfl, rfl, rfl⟩ := hA.out.1 hb65
    have hb' : (65536 : Int) < (s.size : Int) := by omega
    go_enter Try.func14, Try.ntmps14
    go_wp2
    refine bodyPost_ret (v := .tuple #[.agg #[.slice none 0 0, .int .i64 0, .int .i64 0, .int .i64 0], .int .i64 2]) (by simp [results, Try.results14, go_sem]) rfl ⟨_, rfl, World.ownsRow_nil _ 0 _ 4, fun k hk => absurd hk Gro.none_ne, ?_⟩
    first | exact bel_alloc _ _ | exact bel_s4 (bel_alloc _ _)
  have hb' : ¬ (65536 : Int) < (s.size : Int) := by omega
  go_enter Try.func14, Try.ntmps14
  go_wp2_with fail
  refine (l03ToObj_any s _ (by omega)).mono ?_
  rintro e w1 (⟨m', x', y', z', v, hS, rfl, hO, hN, hb⟩ | ⟨hS, rfl, hb⟩)
  · obtain ⟨rfl, rfl, rfl, rfl, rfl⟩ := hA.out.2.1 hb65 _ _ _ _ hS
    obtain ⟨vo, vc, rfl⟩ := own_slice hO
    have HB : Hid (Below w.heap.size w w1) := (bel_alloc _ _).trans (hb.mono (by simp))
    have HO : Hid (w1.ownsRow 0 46 4 (.slice vo m.length vc) m.length (flat m)) := hO
    have HN : Hid (∀ k, (Value.slice vo m.length vc).ownBlock = some k → w.heap.size < k) := fun k hk => by have := hN k hk; simp at this; omega
    have r0 := cell_next hb (b := w.heap.size) (o := 0) (v := .slice none 0 0) (by go_simp) (by simp)
    have q0 := frozen_next hb (b := w.heap.size) (o := 0) (by go_simp) (by simp)
    have r1 := cell_next hb (b := w.heap.size) (o := 1) (v := .int .i64 0) (by go_simp) (by simp)
    have q1 := frozen_next hb (b := w.heap.size) (o := 1) (by go_simp) (by simp)
    have r2 := cell_next hb (b := w.heap.size) (o := 2) (v := .int .i64 0) (by go_simp) (by simp)
    have q2 := frozen_next hb (b := w.heap.size) (o := 2) (by go_simp) (by simp)
    have r3 := cell_next hb (b := w.heap.size) (o := 3) (v := .int .i64 0) (by go_simp) (by simp)
    have q3 := frozen_next hb (b := w.heap.size) (o := 3) (by go_simp) (by simp)
    have hz : w.heap.size < w1.heap.size := by have := hb.size; simp at this; omega
    clear hb hA hS hO hN
    go_wp2
    refine bodyPost_ret (v := .tuple #[.agg #[.slice vo m.length vc, .int .i64 x, .int .i64 y, .int .i64 z], .int .i64 0]) (by simp [results, Try.results14, go_sem, r0, r1, r2, r3, q0, q1, q2, q3, hz]) rfl ⟨_, rfl, ?_, HN.out, ?_⟩
    · exact own_next (own_set4 (g := w.heap.size) HO.out (fun e => by have := HN.out _ e; omega)) (bel_alloc _ _)
    · exact (bel_s4 HB.out).alloc (by simpa [World.setCell] using Nat.le_of_lt hz) _
  · obtain ⟨rfl, rfl, rfl, rfl, rfl⟩ := hA.out.2.2 hb65 hS
    have HB : Hid (Below w.heap.size w w1) := (bel_alloc _ _).trans (hb.mono (by simp))
    have r0 := cell_next hb (b := w.heap.size) (o := 0) (v := .slice none 0 0) (by go_simp) (by simp)
    have q0 := frozen_next hb (b := w.heap.size) (o := 0) (by go_simp) (by simp)
    have r1 := cell_next hb (b := w.heap.size) (o := 1) (v := .int .i64 0) (by go_simp) (by simp)
    have q1 := frozen_next hb (b := w.heap.size) (o := 1) (by go_simp) (by simp)
    have r2 := cell_next hb (b := w.heap.size) (o := 2) (v := .int .i64 0) (by go_simp) (by simp)
    have q2 := frozen_next hb (b := w.heap.size) (o := 2) (by go_simp) (by simp)
    have r3 := cell_next hb (b := w.heap.size) (o := 3) (v := .int .i64 0) (by go_simp) (by simp)
    have q3 := frozen_next hb (b := w.heap.size) (o := 3) (by go_simp) (by simp)
    have hz : w.heap.size < w1.heap.size := by have := hb.size; simp at this; omega
    clear hb hA hS
    go_wp2
    refine bodyPost_ret (v := .tuple #[.agg #[.slice none 0 0, .int .i64 0, .int .i64 0, .int .i64 0], .int .i64 3]) (by simp [results, Try.results14, go_sem, r0, r1, r2, r3, q0, q1, q2, q3, hz]) rfl ⟨_, rfl, World.ownsRow_nil _ 0 _ 4, fun k hk => absurd hk Gro.none_ne, ?_⟩
    exact (bel_s4 HB.out).alloc (by simpa [World.setCell] using Nat.le_of_lt hz) _

theorem join_wrap {F : Nat} {args : Array Value} {w : World} {J : List Sib} {p q r code : Int} {e0 : TypeId} (h : Calls Try.prog F args w fun e w' => ∃ v, e = .returned (.tuple #[.agg #[v, .int .i64 p, .int .i64 q, .int .i64 r], .int .i64 code]) ∧ Gro w w' (.slice none 0 0) v ∧ w'.ownsRow 0 e0 4 v J.length (flat J)) :
    Calls Try.prog F args w fun e w' => ∃ ao' cap', e = .returned (.tuple #[.agg #[.slice ao' J.length cap', .int .i64 p, .int .i64 q, .int .i64 r], .int .i64 code]) ∧ Below w.heap.size w w' ∧ Hid (w'.ownsRow 0 e0 4 (.slice ao' J.length cap') J.length (flat J)) ∧ Hid (∀ k, Value.ownBlock (.slice ao' J.length cap') = some k → w.heap.size ≤ k ∧ k < w'.heap.size) := by
  refine h.mono ?_
  rintro e w' ⟨v, rfl, hg, ho⟩
  obtain ⟨ao', cap', rfl⟩ : ∃ ao' cap', v = .slice ao' J.length cap' := by
    rcases ho.2 with ⟨rfl, hn⟩ | ⟨g, cap', cur, rfl, _⟩
    · exact ⟨none, 0, by rw [hn]⟩
    · exact ⟨_, cap', rfl⟩
  refine ⟨ao', cap', rfl, hg.below (Nat.le_refl _) (fun k hk => absurd hk Gro.none_ne), ho, fun k hk => ⟨?_, (ho.lt k hk).2⟩⟩
  rcases hg.fresh k hk with h' | h'
  · exact absurd h' Gro.none_ne
  · exact h'
theorem row_mark {W W' : World} {ao : Option Addr} {l : List Sib} {r : Option Nat} (h : Hid (SibRow W ao l)) (hg : W.grownBy W' r) (hne : ∀ q, ao = some q → r ≠ some q.block) : Hid (SibRow W' ao l) := by
  rcases h.out with h | ⟨b, off, rfl, h2⟩
  · exact .inl h
  · exact .inr ⟨b, off, rfl, fun i hi => ⟨hg.cell (h2 i hi).1 (fun e => hne _ rfl e.symm), hg.cell (h2 i hi).2.1 (fun e => hne _ rfl e.symm), hg.cell (h2 i hi).2.2.1 (fun e => hne _ rfl e.symm), hg.cell (h2 i hi).2.2.2 (fun e => hne _ rfl e.symm)⟩⟩
theorem own_mrow {W : World} {e : TypeId} {ao : Option Addr} {cap : Nat} {J : List Sib} (h : Hid (W.ownsRow 0 e 4 (.slice ao J.length cap) J.length (flat J))) : Hid (MRow W ao J.length) := by
  rcases h.out.2 with ⟨h', hn⟩ | ⟨g, cap', cur, h', _⟩
  · exact .inl hn
  · cases h'
    refine .inr ⟨g, rfl, (h.out.lt g rfl).2, fun j hj => ?_⟩
    rw [h.out.cellAt j hj]
    refine ⟨?_, h.out.frozenAt j⟩
    have : j < (flat J).length := by rw [flat_length]; exact hj
    simp [this]
theorem own_srow {W : World} {e : TypeId} {ao : Option Addr} {cap : Nat} {J : List Sib} (h : Hid (W.ownsRow 0 e 4 (.slice ao J.length cap) J.length (flat J))) : SibRow W ao J := by
  obtain ⟨o, c, e', hr, _⟩ := owned_row h.out
  cases e'
  exact hr

set_option maxRecDepth 100000 in
set_option maxHeartbeats 16000000 in
theorem law_readObj (s : ByteArray) (w : World) (hl : s.size ≤ 9223372036854775807) :
    Calls Try.prog 4 #[.string s] w fun e w' => e = .returned (.bool true) ∧ Below w.heap.size w w' := by
  by_cases hs : s.size ≤ 1048576
  case neg =>
    have hs' : (1048576 : Int) < (s.size : Int) := by omega
    go_enter Try.func4, Try.ntmps4
    go_wp2
    go_ret
    exact ⟨rfl, Below.refl _ _⟩
  have hs' : ¬ (1048576 : Int) < (s.size : Int) := by omega
  obtain ⟨J, p, q, r, code, hA⟩ := roa_of s
  have hJ1 := roa_len hA.out
  have hJl : (J.length : Int) ≤ 1048576 := by omega
  have hngm : ¬ 1 + 4 * (J.length : Int) < 0 := by omega
  go_enter Try.func4, Try.ntmps4
  go_wp2_with fail
  refine (specReadO_any s J p q r code hA _ hs).mono ?_
  rintro e w1 ⟨v, rfl, hO, hN, hb⟩
  obtain ⟨vW, cW, rfl⟩ := own_slice hO
  have HB : Hid (Below w.heap.size w w1) := hb
  have FW : Hid (∀ k, (Value.slice vW J.length cW).ownBlock = some k → w.heap.size < k ∧ k < w1.heap.size) := fun k hk => ⟨hN k hk, (hO.lt k hk).2⟩
  have EW : Hid (w1.ownsRow 0 46 4 (.slice vW J.length cW) J.length (flat J)) := hO
  clear hb hO hN
  go_upto_region 4 with fail
  replace HB := bel_next HB (bel_alloc w1 (.cells #[.slice vW J.length cW, .int .i64 p, .int .i64 q, .int .i64 r] 32))
  replace EW := own_hnext EW (bel_alloc w1 (.cells #[.slice vW J.length cW, .int .i64 p, .int .i64 q, .int .i64 r] 32))
  have BW : Hid (Cells4 (w1.alloc (.cells #[.slice vW J.length cW, .int .i64 p, .int .i64 q, .int .i64 r] 32)) w1.heap.size (.slice vW J.length cW) p q r) := box_new
  have LW : Hid (w1.heap.size < (w1.alloc (.cells #[.slice vW J.length cW, .int .i64 p, .int .i64 q, .int .i64 r] 32)).heap.size) := lt_new
  have KW : Hid (w1.heap.size < (w1.alloc (.cells #[.slice vW J.length cW, .int .i64 p, .int .i64 q, .int .i64 r] 32)).heap.size) := lt_new
  generalize (w1.alloc (.cells #[.slice vW J.length cW, .int .i64 p, .int .i64 q, .int .i64 r] 32)) = wA at *
  have HWA : Hid (w.heap.size ≤ wA.heap.size) := HB.out.size
  go_wp2_with fail
  refine (implReadO_any s J p q r code hA _ hs).mono ?_
  rintro e w2 ⟨v, rfl, hO, hN, hb⟩
  obtain ⟨vG, cG, rfl⟩ := own_slice hO
  replace BW := c4_next BW hb LW
  replace LW := lt_next LW hb
  replace HB := bel_next HB hb
  replace EW := own_hnext EW hb
  have FG : Hid (∀ k, (Value.slice vG J.length cG).ownBlock = some k → wA.heap.size < k ∧ k < w2.heap.size) := fun k hk => ⟨hN k hk, (hO.lt k hk).2⟩
  have EG : Hid (w2.ownsRow 0 46 4 (.slice vG J.length cG) J.length (flat J)) := hO
  clear hb hO hN
  go_upto_region 5 with fail
  replace BW := c4_next BW (bel_alloc w2 (.cells #[.slice vG J.length cG, .int .i64 p, .int .i64 q, .int .i64 r] 32)) LW
  replace LW := lt_next LW (bel_alloc w2 (.cells #[.slice vG J.length cG, .int .i64 p, .int .i64 q, .int .i64 r] 32))
  replace HB := bel_next HB (bel_alloc w2 (.cells #[.slice vG J.length cG, .int .i64 p, .int .i64 q, .int .i64 r] 32))
  replace EW := own_hnext EW (bel_alloc w2 (.cells #[.slice vG J.length cG, .int .i64 p, .int .i64 q, .int .i64 r] 32))
  replace EG := own_hnext EG (bel_alloc w2 (.cells #[.slice vG J.length cG, .int .i64 p, .int .i64 q, .int .i64 r] 32))
  have BG : Hid (Cells4 (w2.alloc (.cells #[.slice vG J.length cG, .int .i64 p, .int .i64 q, .int .i64 r] 32)) w2.heap.size (.slice vG J.length cG) p q r) := box_new
  have LG : Hid (w2.heap.size < (w2.alloc (.cells #[.slice vG J.length cG, .int .i64 p, .int .i64 q, .int .i64 r] 32)).heap.size) := lt_new
  have KG : Hid (w2.heap.size < (w2.alloc (.cells #[.slice vG J.length cG, .int .i64 p, .int .i64 q, .int .i64 r] 32)).heap.size) := lt_new
  generalize (w2.alloc (.cells #[.slice vG J.length cG, .int .i64 p, .int .i64 q, .int .i64 r] 32)) = wB at *
  skip
  obtain ⟨bG0, bG1, bG2, bG3⟩ := BG.out
  obtain ⟨bW0, bW1, bW2, bW3⟩ := BW.out
  go_wp2_with fail
  clear bG0 bG1 bG2 bG3
  clear bW0 bW1 bW2 bW3
  refine (eqObj_same cG cW vG vW J p q r _ hJl (own_srow EG) (own_srow EW)).mono ?_
  rintro e w9 ⟨rfl, hb⟩
  replace BW := c4_next BW hb LW
  replace BG := c4_next BG hb LG
  replace LW := lt_next LW hb
  replace LG := lt_next LG hb
  replace HB := bel_next HB hb
  replace EW := own_hnext EW hb
  replace EG := own_hnext EG hb
  clear hb
  obtain ⟨bG0, bG1, bG2, bG3⟩ := BG.out
  go_wp2_with fail
  clear bG0 bG1 bG2 bG3
  refine (markO_any J.length cG vG p q r 1 _ (by omega) (by omega) (by omega) (own_mrow EG).out).mono ?_
  rintro e w17 ⟨rfl, hg, hM⟩
  have EM : Hid (MkRow w17 vG 1 J.length) := hM
  clear hM EG
  have HW0 : Hid (w.heap.size ≤ wA.heap.size) := HWA.out
  replace HB := bel_mark HB hg (fun k hk => by have h1 := (FG.out k hk).1; have h2 := HW0.out; omega)
  replace BW := c4_mark BW hg (fun e => by have h1 := (FG.out _ e).1; have h2 := KW.out; omega)
  replace LW := lt_mark LW hg
  replace BG := c4_mark BG hg (fun e => by have h1 := (FG.out _ e).2; omega)
  replace LG := lt_mark LG hg
  replace EW := own_mark EW hg (fun k hk e => by have h1 := (FW.out k hk).2; have h2 := KW.out; have h3 := (FG.out _ e).1; omega)
  clear hg
  obtain ⟨bG0, bG1, bG2, bG3⟩ := BG.out
  go_wp2_with fail
  clear bG0 bG1 bG2 bG3
  refine (heldO_any J.length cG vG p q r 1 _ (by omega) (by omega) (by omega) EM.out).mono ?_
  rintro e w18 ⟨rfl, hb⟩
  replace BW := c4_next BW hb LW
  replace BG := c4_next BG hb LG
  replace LW := lt_next LW hb
  replace LG := lt_next LG hb
  replace HB := bel_next HB hb
  replace EW := own_hnext EW hb
  replace EM := mkrow_next EM hb
  clear hb
  go_wp2_with fail
  refine (implReadO_any s J p q r code hA _ hs).mono ?_
  rintro e w19 ⟨v, rfl, hO, hN, hb⟩
  obtain ⟨vH, cH, rfl⟩ := own_slice hO
  replace BW := c4_next BW hb LW
  replace BG := c4_next BG hb LG
  replace LW := lt_next LW hb
  replace LG := lt_next LG hb
  replace HB := bel_next HB hb
  replace EW := own_hnext EW hb
  replace EM := mkrow_next EM hb
  have FH : Hid (∀ k, (Value.slice vH J.length cH).ownBlock = some k → w18.heap.size < k ∧ k < w19.heap.size) := fun k hk => ⟨hN k hk, (hO.lt k hk).2⟩
  have EH : Hid (w19.ownsRow 0 46 4 (.slice vH J.length cH) J.length (flat J)) := hO
  clear hb hO hN
  go_upto_region 16 with fail
  replace BW := c4_next BW (bel_alloc w19 (.cells #[.slice vH J.length cH, .int .i64 p, .int .i64 q, .int .i64 r] 32)) LW
  replace BG := c4_next BG (bel_alloc w19 (.cells #[.slice vH J.length cH, .int .i64 p, .int .i64 q, .int .i64 r] 32)) LG
  replace LW := lt_next LW (bel_alloc w19 (.cells #[.slice vH J.length cH, .int .i64 p, .int .i64 q, .int .i64 r] 32))
  replace LG := lt_next LG (bel_alloc w19 (.cells #[.slice vH J.length cH, .int .i64 p, .int .i64 q, .int .i64 r] 32))
  replace HB := bel_next HB (bel_alloc w19 (.cells #[.slice vH J.length cH, .int .i64 p, .int .i64 q, .int .i64 r] 32))
  replace EW := own_hnext EW (bel_alloc w19 (.cells #[.slice vH J.length cH, .int .i64 p, .int .i64 q, .int .i64 r] 32))
  replace EM := mkrow_next EM (bel_alloc w19 (.cells #[.slice vH J.length cH, .int .i64 p, .int .i64 q, .int .i64 r] 32))
  replace EH := own_hnext EH (bel_alloc w19 (.cells #[.slice vH J.length cH, .int .i64 p, .int .i64 q, .int .i64 r] 32))
  have BH : Hid (Cells4 (w19.alloc (.cells #[.slice vH J.length cH, .int .i64 p, .int .i64 q, .int .i64 r] 32)) w19.heap.size (.slice vH J.length cH) p q r) := box_new
  have LH : Hid (w19.heap.size < (w19.alloc (.cells #[.slice vH J.length cH, .int .i64 p, .int .i64 q, .int .i64 r] 32)).heap.size) := lt_new
  have KH : Hid (w19.heap.size < (w19.alloc (.cells #[.slice vH J.length cH, .int .i64 p, .int .i64 q, .int .i64 r] 32)).heap.size) := lt_new
  generalize (w19.alloc (.cells #[.slice vH J.length cH, .int .i64 p, .int .i64 q, .int .i64 r] 32)) = wC at *
  obtain ⟨bH0, bH1, bH2, bH3⟩ := BH.out
  obtain ⟨bW0, bW1, bW2, bW3⟩ := BW.out
  go_wp2_with fail
  clear bH0 bH1 bH2 bH3
  clear bW0 bW1 bW2 bW3
  refine (eqObj_same cH cW vH vW J p q r _ hJl (own_srow EH) (own_srow EW)).mono ?_
  rintro e w20 ⟨rfl, hb⟩
  replace BW := c4_next BW hb LW
  replace BG := c4_next BG hb LG
  replace BH := c4_next BH hb LH
  replace LW := lt_next LW hb
  replace LG := lt_next LG hb
  replace LH := lt_next LH hb
  replace HB := bel_next HB hb
  replace EW := own_hnext EW hb
  replace EM := mkrow_next EM hb
  replace EH := own_hnext EH hb
  clear hb EH BH LH
  obtain ⟨bG0, bG1, bG2, bG3⟩ := BG.out
  go_wp2_with fail
  clear bG0 bG1 bG2 bG3
  refine (heldO_any J.length cG vG p q r 1 _ (by omega) (by omega) (by omega) EM.out).mono ?_
  rintro e w21 ⟨rfl, hb⟩
  replace HB := bel_next HB hb
  clear hb EM EW BW BG LW LG
  go_wp2
  go_ret
  exact ⟨rfl, HB.out⟩
end Go.Proofs.Ytodjbkeljfnebaa
