/- The laws of NewGroup, GroupOK, Takeover. -/
import Derived.Test.YtklajcdlacemaaaRows
import Derived.WalkKit
import Derived.WalkSpells
import Derived.WalkLawsBesides
import Derived.Deep.QuietTactic
import Derived.BigQuiet
import Derived.Deep.RegionHeld3
import Derived.Test.YtklajcdlacemaaaGa
import Derived.Test.YtklajcdlacemaaaGe
import Derived.LoopN
namespace Go.Proofs.Ytklajcdlacemaaa
open Go.RowKit
set_option linter.unusedSimpArgs false
set_option linter.unusedVariables false

theorem Kp.mono {E E' : Nat → Prop} {w w' : World} (h : Kp E w w') (hE : ∀ b, E b → E' b) : Kp E' w w' := ⟨h.os, h.tape, h.output, h.size, fun b hb hn => h.block b hb (fun e => hn (hE b e))⟩
/-- A row of events in a block from lo on and below hi. -/
structure IR (lo hi : Nat) (W : World) (p : Option Addr) (l : List Dt) : Prop where
  mr : MR lo W p l
  up : ∀ x, p = some x → l ≠ [] → x.block < hi
theorem MR.ir {lo : Nat} {W : World} {p : Option Addr} {l : List Dt} (h : MR lo W p l) : IR lo W.heap.size W p l := ⟨h, fun x hx hl => by
  rcases h.wr with h' | ⟨g, h1, h2, h3, h4⟩
  · exact (hl h').elim
  · rw [hx] at h1
    cases h1
    exact h3⟩
theorem IR.next {lo hi : Nat} {W W' : World} {p : Option Addr} {l : List Dt} (h : IR lo hi W p l) (hb : Below W.heap.size W W') : IR lo hi W' p l := ⟨h.mr.next hb, h.up⟩
theorem IR.lo {lo hi : Nat} {W : World} {p : Option Addr} {l : List Dt} (h : IR lo hi W p l) : ∀ x, p = some x → l ≠ [] → lo ≤ x.block := fun x hx hl => by
  rcases h.mr.wr with h' | ⟨g, h1, h2, h3, h4⟩
  · exact (hl h').elim
  · rw [hx] at h1
    cases h1
    exact h2
theorem IR.kp {lo hi a b : Nat} {W W' : World} {p : Option Addr} {l : List Dt} (h : IR lo hi W p l) (k : Kp (fun x => a ≤ x ∧ x < b) W W') (hd : hi ≤ a ∨ b ≤ lo) : IR lo hi W' p l := by
  refine ⟨⟨h.mr.row.kp k (fun x hx hv => ?_), ?_⟩, h.up⟩
  · have hl : l ≠ [] := fun e => hv (by rw [e]; rfl)
    have := h.lo x hx hl
    have := h.up x hx hl
    omega
  · rcases h.mr.wr with h' | ⟨g, h1, h2, h3, h4⟩
    · exact .inl h'
    · by_cases hl : l = []
      · exact .inl hl
      · have h5 : g < hi := h.up _ h1 hl
        refine .inr ⟨g, h1, h2, Nat.lt_of_lt_of_le h3 k.size, fun j hj => ?_⟩
        have hq := k.block g h3 (by omega)
        rw [World.cell?_of_block (w := W) hq, World.frozen?_of_block (w := W) hq]
        exact h4 j hj
theorem mark_ir {lo hi : Nat} {W W' : World} {p : Option Addr} {l : List Dt} (h : IR lo hi W p l) (k : Kp (fun b => l ≠ [] ∧ ∃ x, p = some x ∧ x.block = b) W W') : Kp (fun x => lo ≤ x ∧ x < hi) W W' := k.mono (fun b ⟨hl, x, hx, hb⟩ => by
  have := h.lo x hx hl
  have := h.up x hx hl
  omega)
theorem below_kp {a b : Nat} {w W W' : World} (h : Below w.heap.size w W) (k : Kp (fun x => a ≤ x ∧ x < b) W W') (ha : w.heap.size ≤ a) : Below w.heap.size w W' := h.trans (k.below h.size (fun x hx e => by omega))

set_option maxHeartbeats 1000000 in
theorem implNew (w : World) : Calls Try.prog 15 #[] w fun r w' => r = .returned (.agg #[.int .i64 1, .int .i64 0, .int .i64 0, .int .i64 0, .int .i64 0, .slice none 0 0]) ∧ Below w.heap.size w w' := by
  go_enter Try.func15, Try.ntmps15
  go_wp2
  refine bodyPost_ret (v := .agg #[.int .i64 1, .int .i64 0, .int .i64 0, .int .i64 0, .int .i64 0, .slice none 0 0]) (by simp [results, Try.results15, go_sem]) rfl ⟨rfl, ?_⟩
  repeat (first | exact Below.refl _ _ | refine Below.drew ?_ | refine below_drewN ?_ _ | refine Below.alloc ?_ (by first | (simp; done) | (simp; omega)) _ | refine Below.setCell ?_ (by first | (simp; done) | (simp; omega)) _)
set_option maxHeartbeats 1000000 in
theorem specNew (w : World) : Calls Try.prog 16 #[] w fun r w' => ∃ g, r = .returned (.agg #[.int .i64 1, .int .i64 0, .int .i64 0, .int .i64 0, .int .i64 0, .slice (some ⟨g, 0, none⟩) 0 0]) ∧ Below w.heap.size w w' := by
  go_enter Try.func16, Try.ntmps16
  go_wp2
  refine bodyPost_ret (v := .agg #[.int .i64 1, .int .i64 0, .int .i64 0, .int .i64 0, .int .i64 0, .slice (some ⟨w.heap.size + 1, 0, none⟩) 0 0]) (by simp [results, Try.results16, go_sem]) rfl ⟨w.heap.size + 1, rfl, ?_⟩
  repeat (first | exact Below.refl _ _ | refine Below.drew ?_ | refine below_drewN ?_ _ | refine Below.alloc ?_ (by first | (simp; done) | (simp; omega)) _ | refine Below.setCell ?_ (by first | (simp; done) | (simp; omega)) _)
set_option maxRecDepth 20000 in
set_option maxHeartbeats 4000000 in
theorem law_new (w : World) : Calls Try.prog 4 #[] w fun r w' => r = .returned (.bool true) ∧ Below w.heap.size w w' := by
  go_enter Try.func4, Try.ntmps4
  go_wp2_with fail
  refine (specNew _).mono ?_
  rintro r W1 ⟨g1, rfl, hb⟩
  have HB : Hid (Below w.heap.size w W1) := hb
  clear hb
  go_upto_region 2 with fail
  refine wp_gen (fun W => Below w.heap.size w W ∧ Box W W1.heap.size [.int .i64 1, .int .i64 0, .int .i64 0, .int .i64 0, .int .i64 0, .slice (some ⟨g1, 0, none⟩) 0 0]) ⟨HB.out.trans ((bel_alloc _ _).mono HB.out.size), box_mk⟩ (fun W2 hI => ?_)
  obtain ⟨iHB, iBW⟩ := hI
  replace HB : Hid (Below w.heap.size w W2) := iHB
  have BW : Hid (Box W2 W1.heap.size [.int .i64 1, .int .i64 0, .int .i64 0, .int .i64 0, .int .i64 0, .slice (some ⟨g1, 0, none⟩) 0 0]) := iBW
  clear iHB iBW
  have OBW : Hid (W1.heap.size < W2.heap.size) := BW.out.lt
  go_wp2_with fail
  refine (implNew _).mono ?_
  rintro r W3 ⟨rfl, hb⟩
  replace HB : Hid (Below w.heap.size w W3) := HB.out.trans (hb.mono HB.out.size)
  replace BW : Hid (Box W3 W1.heap.size [.int .i64 1, .int .i64 0, .int .i64 0, .int .i64 0, .int .i64 0, .slice (some ⟨g1, 0, none⟩) 0 0]) := BW.out.next hb
  clear hb
  go_upto_region 3 with fail
  refine wp_gen (fun W => Below w.heap.size w W ∧ Box W W1.heap.size [.int .i64 1, .int .i64 0, .int .i64 0, .int .i64 0, .int .i64 0, .slice (some ⟨g1, 0, none⟩) 0 0] ∧ Box W W3.heap.size [.int .i64 1, .int .i64 0, .int .i64 0, .int .i64 0, .int .i64 0, .slice none 0 0]) ⟨HB.out.trans ((bel_alloc _ _).mono HB.out.size), BW.out.next (bel_alloc _ _), box_mk⟩ (fun W4 hI => ?_)
  obtain ⟨iHB, iBW, iBG⟩ := hI
  replace HB : Hid (Below w.heap.size w W4) := iHB
  replace BW : Hid (Box W4 W1.heap.size [.int .i64 1, .int .i64 0, .int .i64 0, .int .i64 0, .int .i64 0, .slice (some ⟨g1, 0, none⟩) 0 0]) := iBW
  have BG : Hid (Box W4 W3.heap.size [.int .i64 1, .int .i64 0, .int .i64 0, .int .i64 0, .int .i64 0, .slice none 0 0]) := iBG
  clear iHB iBW iBG
  have OBG : Hid (W3.heap.size < W4.heap.size) := BG.out.lt
  obtain ⟨BG0, BG1, BG2, BG3, BG4, BG5⟩ := BG.out.c6
  obtain ⟨BW0, BW1, BW2, BW3, BW4, BW5⟩ := BW.out.c6
  go_wp2_with fail
  refine (eqG_same 0 0 0 0 none (some ⟨g1, 0, none⟩) [] 1 0 0 0 0 _ (by simp) (.inl rfl) (.inl rfl)).mono ?_
  rintro r W5 ⟨rfl, hb⟩
  clear BG0 BG1 BG2 BG3 BG4 BG5
  clear BW0 BW1 BW2 BW3 BW4 BW5
  replace HB : Hid (Below w.heap.size w W5) := HB.out.trans (hb.mono HB.out.size)
  replace BW : Hid (Box W5 W1.heap.size [.int .i64 1, .int .i64 0, .int .i64 0, .int .i64 0, .int .i64 0, .slice (some ⟨g1, 0, none⟩) 0 0]) := BW.out.next hb
  replace BG : Hid (Box W5 W3.heap.size [.int .i64 1, .int .i64 0, .int .i64 0, .int .i64 0, .int .i64 0, .slice none 0 0]) := BG.out.next hb
  clear hb
  have E1 : (1 : Int) + 2 * (([] : List Dt).length : Int) = 1 := rfl
  obtain ⟨BG0, BG1, BG2, BG3, BG4, BG5⟩ := BG.out.c6
  go_wp2_with fail
  refine (markG_any 0 0 none [] 1 0 0 0 0 1 _ (by simp) (by omega) (by omega) (MR.nil _ _ _)).mono ?_
  rintro r W6 ⟨rfl, hk, _⟩
  clear BG0 BG1 BG2 BG3 BG4 BG5
  have hb : Below W5.heap.size W5 W6 := hk.below (Nat.le_refl _) (fun b _ h => h.1 rfl)
  replace HB : Hid (Below w.heap.size w W6) := HB.out.trans (hb.mono HB.out.size)
  replace BW : Hid (Box W6 W1.heap.size [.int .i64 1, .int .i64 0, .int .i64 0, .int .i64 0, .int .i64 0, .slice (some ⟨g1, 0, none⟩) 0 0]) := BW.out.next hb
  replace BG : Hid (Box W6 W3.heap.size [.int .i64 1, .int .i64 0, .int .i64 0, .int .i64 0, .int .i64 0, .slice none 0 0]) := BG.out.next hb
  clear hb hk
  rw [E1]
  have E2 : (1 : Int) + 2 * ((0 : Nat) : Int) = 1 := rfl
  obtain ⟨BG0, BG1, BG2, BG3, BG4, BG5⟩ := BG.out.c6
  go_wp2_with fail
  refine (heldG_any 0 0 0 none 1 0 0 0 0 1 _ (by omega) (by omega) (by omega) (.inl rfl)).mono ?_
  rintro r W7 ⟨rfl, hb⟩
  clear BG0 BG1 BG2 BG3 BG4 BG5
  replace HB : Hid (Below w.heap.size w W7) := HB.out.trans (hb.mono HB.out.size)
  replace BW : Hid (Box W7 W1.heap.size [.int .i64 1, .int .i64 0, .int .i64 0, .int .i64 0, .int .i64 0, .slice (some ⟨g1, 0, none⟩) 0 0]) := BW.out.next hb
  replace BG : Hid (Box W7 W3.heap.size [.int .i64 1, .int .i64 0, .int .i64 0, .int .i64 0, .int .i64 0, .slice none 0 0]) := BG.out.next hb
  clear hb
  rw [E2]
  go_wp2_with fail
  refine (implNew _).mono ?_
  rintro r W8 ⟨rfl, hb⟩
  replace HB : Hid (Below w.heap.size w W8) := HB.out.trans (hb.mono HB.out.size)
  replace BW : Hid (Box W8 W1.heap.size [.int .i64 1, .int .i64 0, .int .i64 0, .int .i64 0, .int .i64 0, .slice (some ⟨g1, 0, none⟩) 0 0]) := BW.out.next hb
  replace BG : Hid (Box W8 W3.heap.size [.int .i64 1, .int .i64 0, .int .i64 0, .int .i64 0, .int .i64 0, .slice none 0 0]) := BG.out.next hb
  clear hb
  go_upto_region 14 with fail
  refine wp_gen (fun W => Below w.heap.size w W ∧ Box W W1.heap.size [.int .i64 1, .int .i64 0, .int .i64 0, .int .i64 0, .int .i64 0, .slice (some ⟨g1, 0, none⟩) 0 0] ∧ Box W W3.heap.size [.int .i64 1, .int .i64 0, .int .i64 0, .int .i64 0, .int .i64 0, .slice none 0 0] ∧ Box W W8.heap.size [.int .i64 1, .int .i64 0, .int .i64 0, .int .i64 0, .int .i64 0, .slice none 0 0]) ⟨HB.out.trans ((bel_alloc _ _).mono HB.out.size), BW.out.next (bel_alloc _ _), BG.out.next (bel_alloc _ _), box_mk⟩ (fun W9 hI => ?_)
  obtain ⟨iHB, iBW, iBG, iBH⟩ := hI
  replace HB : Hid (Below w.heap.size w W9) := iHB
  replace BW : Hid (Box W9 W1.heap.size [.int .i64 1, .int .i64 0, .int .i64 0, .int .i64 0, .int .i64 0, .slice (some ⟨g1, 0, none⟩) 0 0]) := iBW
  replace BG : Hid (Box W9 W3.heap.size [.int .i64 1, .int .i64 0, .int .i64 0, .int .i64 0, .int .i64 0, .slice none 0 0]) := iBG
  have BH : Hid (Box W9 W8.heap.size [.int .i64 1, .int .i64 0, .int .i64 0, .int .i64 0, .int .i64 0, .slice none 0 0]) := iBH
  clear iHB iBW iBG iBH
  have OBH : Hid (W8.heap.size < W9.heap.size) := BH.out.lt
  obtain ⟨BH0, BH1, BH2, BH3, BH4, BH5⟩ := BH.out.c6
  obtain ⟨BW0, BW1, BW2, BW3, BW4, BW5⟩ := BW.out.c6
  go_wp2_with fail
  refine (eqG_same 0 0 0 0 none (some ⟨g1, 0, none⟩) [] 1 0 0 0 0 _ (by simp) (.inl rfl) (.inl rfl)).mono ?_
  rintro r W10 ⟨rfl, hb⟩
  clear BH0 BH1 BH2 BH3 BH4 BH5
  clear BW0 BW1 BW2 BW3 BW4 BW5
  replace HB : Hid (Below w.heap.size w W10) := HB.out.trans (hb.mono HB.out.size)
  replace BW : Hid (Box W10 W1.heap.size [.int .i64 1, .int .i64 0, .int .i64 0, .int .i64 0, .int .i64 0, .slice (some ⟨g1, 0, none⟩) 0 0]) := BW.out.next hb
  replace BG : Hid (Box W10 W3.heap.size [.int .i64 1, .int .i64 0, .int .i64 0, .int .i64 0, .int .i64 0, .slice none 0 0]) := BG.out.next hb
  replace BH : Hid (Box W10 W8.heap.size [.int .i64 1, .int .i64 0, .int .i64 0, .int .i64 0, .int .i64 0, .slice none 0 0]) := BH.out.next hb
  clear hb
  obtain ⟨BG0, BG1, BG2, BG3, BG4, BG5⟩ := BG.out.c6
  go_wp2_with fail
  refine (heldG_any 0 0 0 none 1 0 0 0 0 1 _ (by omega) (by omega) (by omega) (.inl rfl)).mono ?_
  rintro r W11 ⟨rfl, hb⟩
  clear BG0 BG1 BG2 BG3 BG4 BG5
  replace HB : Hid (Below w.heap.size w W11) := HB.out.trans (hb.mono HB.out.size)
  replace BW : Hid (Box W11 W1.heap.size [.int .i64 1, .int .i64 0, .int .i64 0, .int .i64 0, .int .i64 0, .slice (some ⟨g1, 0, none⟩) 0 0]) := BW.out.next hb
  replace BG : Hid (Box W11 W3.heap.size [.int .i64 1, .int .i64 0, .int .i64 0, .int .i64 0, .int .i64 0, .slice none 0 0]) := BG.out.next hb
  replace BH : Hid (Box W11 W8.heap.size [.int .i64 1, .int .i64 0, .int .i64 0, .int .i64 0, .int .i64 0, .slice none 0 0]) := BH.out.next hb
  clear hb
  rw [E2]
  clear BW BG BH
  go_wp2
  go_ret
  exact ⟨rfl, HB.out⟩

set_option maxRecDepth 20000 in
set_option maxHeartbeats 8000000 in
theorem law_gok (lo q : Nat) (p : Option Addr) (l : List Dt) (e o a b c : Int) (w : World) (hm : (l.length : Int) ≤ 9223372036854775807) (hr0 : GRow lo w p (flatD l)) :
    Calls Try.prog 5 #[.agg #[.int .i64 e, .int .i64 o, .int .i64 a, .int .i64 b, .int .i64 c, .slice p l.length q]] w fun r w' => r = .returned (.bool true) ∧ Below w.heap.size w w' := by
  have HR : Hid (GRow lo w p (flatD l)) := hr0
  clear hr0
  go_enter Try.func5, Try.ntmps5
  go_upto_region 1 with fail
  refine wp_gen (fun W => Box W w.heap.size [.int .i64 e, .int .i64 o, .int .i64 a, .int .i64 b, .int .i64 c, .slice p l.length q] ∧ Below w.heap.size w W) ⟨box_mk, bel_alloc _ _⟩ (fun W0 hI => ?_)
  have HB : Hid (Below w.heap.size w W0) := hI.2
  have BA : Hid (Box W0 w.heap.size [.int .i64 e, .int .i64 o, .int .i64 a, .int .i64 b, .int .i64 c, .slice p l.length q]) := hI.1
  have RA : Hid (GRow lo W0 p (flatD l)) := HR.out.next hI.2
  clear hI
  obtain ⟨BA0, BA1, BA2, BA3, BA4, BA5⟩ := BA.out.c6
  go_wp2_with fail
  refine (szG_any l.length q p e o a b c 1048576 _ (by omega) (by omega) hm).mono ?_
  rintro r W1 ⟨rfl, hb⟩
  clear BA0 BA1 BA2 BA3 BA4 BA5
  replace HB : Hid (Below w.heap.size w W1) := HB.out.trans (hb.mono HB.out.size)
  replace BA : Hid (Box W1 w.heap.size [.int .i64 e, .int .i64 o, .int .i64 a, .int .i64 b, .int .i64 c, .slice p l.length q]) := BA.out.next hb
  replace RA : Hid (GRow lo W1 p (flatD l)) := HR.out.next HB.out
  clear hb
  by_cases hn : (l.length : Int) ≤ 1048576
  case neg =>
    rw [if_neg hn]
    go_wp2
    go_ret
    exact ⟨rfl, HB.out⟩
  have hn1 : ¬ (1048576 : Int) - (l.length : Int) < 0 := by omega
  rw [if_pos hn]
  obtain ⟨BA0, BA1, BA2, BA3, BA4, BA5⟩ := BA.out.c6
  go_wp2_with fail
  refine (toG_any lo q p l e o a b c _ hn RA.out).mono ?_
  rintro r W2 ⟨gy, rfl, hb, hM⟩
  clear BA0 BA1 BA2 BA3 BA4 BA5
  replace HB : Hid (Below w.heap.size w W2) := HB.out.trans (hb.mono HB.out.size)
  replace BA : Hid (Box W2 w.heap.size [.int .i64 e, .int .i64 o, .int .i64 a, .int .i64 b, .int .i64 c, .slice p l.length q]) := BA.out.next hb
  replace RA : Hid (GRow lo W2 p (flatD l)) := HR.out.next HB.out
  have YY : Hid (IR W1.heap.size W2.heap.size W2 (some ⟨gy, 0, none⟩) l) := hM.ir
  clear hb hM
  go_wp2_with fail
  refine (specG_any _ _ _ l e o a b c _ hn YY.out.mr.row).mono ?_
  rintro r W3 ⟨rfl, hb⟩
  replace HB : Hid (Below w.heap.size w W3) := HB.out.trans (hb.mono HB.out.size)
  replace BA : Hid (Box W3 w.heap.size [.int .i64 e, .int .i64 o, .int .i64 a, .int .i64 b, .int .i64 c, .slice p l.length q]) := BA.out.next hb
  replace RA : Hid (GRow lo W3 p (flatD l)) := HR.out.next HB.out
  replace YY : Hid (IR W1.heap.size W2.heap.size W3 (some ⟨gy, 0, none⟩) l) := YY.out.next hb
  clear hb YY
  obtain ⟨BA0, BA1, BA2, BA3, BA4, BA5⟩ := BA.out.c6
  go_wp2_with fail
  refine (toG_any lo q p l e o a b c _ hn RA.out).mono ?_
  rintro r W5 ⟨gx, rfl, hb, hM⟩
  clear BA0 BA1 BA2 BA3 BA4 BA5
  replace HB : Hid (Below w.heap.size w W5) := HB.out.trans (hb.mono HB.out.size)
  replace BA : Hid (Box W5 w.heap.size [.int .i64 e, .int .i64 o, .int .i64 a, .int .i64 b, .int .i64 c, .slice p l.length q]) := BA.out.next hb
  replace RA : Hid (GRow lo W5 p (flatD l)) := HR.out.next HB.out
  have RX : Hid (IR W3.heap.size W5.heap.size W5 (some ⟨gx, 0, none⟩) l) := hM.ir
  clear hb hM
  go_upto_region 7 with fail
  refine wp_gen (fun W => Below w.heap.size w W ∧ Box W w.heap.size [.int .i64 e, .int .i64 o, .int .i64 a, .int .i64 b, .int .i64 c, .slice p l.length q] ∧ GRow lo W p (flatD l) ∧ IR W3.heap.size W5.heap.size W (some ⟨gx, 0, none⟩) l ∧ Box W W5.heap.size [.int .i64 e, .int .i64 o, .int .i64 a, .int .i64 b, .int .i64 c, .slice (some ⟨gx, 0, none⟩) l.length l.length]) ⟨HB.out.trans ((bel_alloc _ _).mono HB.out.size), BA.out.next (bel_alloc _ _), HR.out.next (HB.out.trans ((bel_alloc _ _).mono HB.out.size)), RX.out.next (bel_alloc _ _), box_mk⟩ (fun W6 hI => ?_)
  obtain ⟨iHB, iBA, iRA, iRX, iBX⟩ := hI
  replace HB : Hid (Below w.heap.size w W6) := iHB
  replace BA : Hid (Box W6 w.heap.size [.int .i64 e, .int .i64 o, .int .i64 a, .int .i64 b, .int .i64 c, .slice p l.length q]) := iBA
  replace RA : Hid (GRow lo W6 p (flatD l)) := iRA
  replace RX : Hid (IR W3.heap.size W5.heap.size W6 (some ⟨gx, 0, none⟩) l) := iRX
  have BX : Hid (Box W6 W5.heap.size [.int .i64 e, .int .i64 o, .int .i64 a, .int .i64 b, .int .i64 c, .slice (some ⟨gx, 0, none⟩) l.length l.length]) := iBX
  clear iHB iBA iRA iRX iBX
  have OBX : Hid (W5.heap.size < W6.heap.size) := BX.out.lt
  obtain ⟨BX0, BX1, BX2, BX3, BX4, BX5⟩ := BX.out.c6
  go_wp2_with fail
  refine (implG_any _ _ _ l e o a b c _ hn RX.out.mr.row).mono ?_
  rintro r W9 ⟨rfl, hb⟩
  clear BX0 BX1 BX2 BX3 BX4 BX5
  replace HB : Hid (Below w.heap.size w W9) := HB.out.trans (hb.mono HB.out.size)
  replace BA : Hid (Box W9 w.heap.size [.int .i64 e, .int .i64 o, .int .i64 a, .int .i64 b, .int .i64 c, .slice p l.length q]) := BA.out.next hb
  replace RA : Hid (GRow lo W9 p (flatD l)) := HR.out.next HB.out
  replace RX : Hid (IR W3.heap.size W5.heap.size W9 (some ⟨gx, 0, none⟩) l) := RX.out.next hb
  replace BX : Hid (Box W9 W5.heap.size [.int .i64 e, .int .i64 o, .int .i64 a, .int .i64 b, .int .i64 c, .slice (some ⟨gx, 0, none⟩) l.length l.length]) := BX.out.next hb
  clear hb
  generalize gokB e o a b c l = bb at *
  go_upto_region 10 with fail
  refine wp_region_held_drew (S := (fun w' => (w'.cell? ⟨W5.heap.size, 0, none⟩ = some (.int .i64 e) ∧ w'.cell? ⟨W5.heap.size, 1, none⟩ = some (.int .i64 o) ∧ w'.cell? ⟨W5.heap.size, 2, none⟩ = some (.int .i64 a) ∧ w'.cell? ⟨W5.heap.size, 3, none⟩ = some (.int .i64 b) ∧ w'.cell? ⟨W5.heap.size, 4, none⟩ = some (.int .i64 c) ∧ w'.cell? ⟨W5.heap.size, 5, none⟩ = some (.slice (some ⟨gx, 0, none⟩) l.length l.length)) ∧ (w'.cell? ⟨w.heap.size, 0, none⟩ = some (.int .i64 e) ∧ w'.cell? ⟨w.heap.size, 1, none⟩ = some (.int .i64 o) ∧ w'.cell? ⟨w.heap.size, 2, none⟩ = some (.int .i64 a) ∧ w'.cell? ⟨w.heap.size, 3, none⟩ = some (.int .i64 b) ∧ w'.cell? ⟨w.heap.size, 4, none⟩ = some (.int .i64 c) ∧ w'.cell? ⟨w.heap.size, 5, none⟩ = some (.slice p l.length q)))) (by kernel_rfl) ?_ (fun hHeld => ?_)
  · (try dsimp only)
    exact ⟨(BX.out.next (bel_drew _)).c6, (BA.out.next (bel_drew _)).c6⟩
  have hbd := bel_drew W9
  replace HB : Hid (Below w.heap.size w W9.drew) := HB.out.trans (hbd.mono HB.out.size)
  replace BA : Hid (Box W9.drew w.heap.size [.int .i64 e, .int .i64 o, .int .i64 a, .int .i64 b, .int .i64 c, .slice p l.length q]) := BA.out.next hbd
  replace RA : Hid (GRow lo W9.drew p (flatD l)) := HR.out.next HB.out
  replace RX : Hid (IR W3.heap.size W5.heap.size W9.drew (some ⟨gx, 0, none⟩) l) := RX.out.next hbd
  replace BX : Hid (Box W9.drew W5.heap.size [.int .i64 e, .int .i64 o, .int .i64 a, .int .i64 b, .int .i64 c, .slice (some ⟨gx, 0, none⟩) l.length l.length]) := BX.out.next hbd
  have OD : Hid (W9.heap.size ≤ W9.drew.heap.size) := hbd.size
  clear hbd
  generalize W9.drew = W10 at *
  refine wTk 0 ?_
  refine wTk 1 ?_
  refine wRd 2 (fun K hK => ?_)
  go_simp
  go_at_call 22
  refine (toG_any lo q p l e o a b c _ hn RA.out).mono ?_
  rintro r W11 ⟨gq, rfl, hb, hM⟩
  (try simp only [])
  replace HB : Hid (Below w.heap.size w W11) := HB.out.trans (hb.mono HB.out.size)
  replace BA : Hid (Box W11 w.heap.size [.int .i64 e, .int .i64 o, .int .i64 a, .int .i64 b, .int .i64 c, .slice p l.length q]) := BA.out.next hb
  replace RA : Hid (GRow lo W11 p (flatD l)) := HR.out.next HB.out
  replace RX : Hid (IR W3.heap.size W5.heap.size W11 (some ⟨gx, 0, none⟩) l) := RX.out.next hb
  replace BX : Hid (Box W11 W5.heap.size [.int .i64 e, .int .i64 o, .int .i64 a, .int .i64 b, .int .i64 c, .slice (some ⟨gx, 0, none⟩) l.length l.length]) := BX.out.next hb
  have OE : Hid (W10.heap.size ≤ W11.heap.size) := hb.size
  have RQ : Hid (GRow 0 W11 (some ⟨gq, 0, none⟩) (flatD l)) := hM.row.weak (Nat.zero_le _)
  clear hb hM
  refine wHk hK ⟨BX.out.c6, BA.out.c6⟩ ?_
  clear hK K hHeld
  intro hHeld
  refine wRd 3 (fun K hK => ?_)
  go_simp
  go_at_call 17
  refine (eqG_same _ _ _ _ _ _ l e o a b c _ hn RX.out.mr.row RQ.out).mono ?_
  rintro r W12 ⟨rfl, hb⟩
  (try simp only [])
  clear RQ
  replace HB : Hid (Below w.heap.size w W12) := HB.out.trans (hb.mono HB.out.size)
  replace BA : Hid (Box W12 w.heap.size [.int .i64 e, .int .i64 o, .int .i64 a, .int .i64 b, .int .i64 c, .slice p l.length q]) := BA.out.next hb
  replace RA : Hid (GRow lo W12 p (flatD l)) := HR.out.next HB.out
  replace RX : Hid (IR W3.heap.size W5.heap.size W12 (some ⟨gx, 0, none⟩) l) := RX.out.next hb
  replace BX : Hid (Box W12 W5.heap.size [.int .i64 e, .int .i64 o, .int .i64 a, .int .i64 b, .int .i64 c, .slice (some ⟨gx, 0, none⟩) l.length l.length]) := BX.out.next hb
  have OF : Hid (W11.heap.size ≤ W12.heap.size) := hb.size
  clear hb
  refine wHk hK ⟨BX.out.c6, BA.out.c6⟩ ?_
  clear hK K hHeld
  intro hHeld
  refine wTk 4 ?_
  refine wpAnyH_done (by kernel_rfl) ?_ _
  clear hHeld
  clear BA BX RA RX HR
  go_wp2
  go_ret
  exact ⟨rfl, HB.out⟩

theorem take_both (e o a b c ow : Int) (l : List Dt) : ∃ (code e' o' a' b' c' : Int) (l' : List Dt), ((l.length : Int) ≤ 1048576 → ∀ W lo p q, GRow lo W p (flatD l) → Calls Try.prog 23 #[.agg #[.int .i64 e, .int .i64 o, .int .i64 a, .int .i64 b, .int .i64 c, .slice p l.length q], .int .i64 ow] W (fun r w' => ∃ po co, r = .returned (.tuple #[.agg #[.int .i64 e', .int .i64 o', .int .i64 a', .int .i64 b', .int .i64 c', .slice po l'.length co], .int .i64 code]) ∧ MR W.heap.size w' po l' ∧ Below W.heap.size W w')) ∧ ((l.length : Int) ≤ 1048576 → ∀ W lo p q, GRow lo W p (flatD l) → Calls Try.prog 11 #[.agg #[.int .i64 e, .int .i64 o, .int .i64 a, .int .i64 b, .int .i64 c, .slice p l.length q], .int .i64 ow] W (fun r w' => ∃ po co, r = .returned (.tuple #[.agg #[.int .i64 e', .int .i64 o', .int .i64 a', .int .i64 b', .int .i64 c', .slice po l'.length co], .int .i64 code]) ∧ MR W.heap.size w' po l' ∧ Below W.heap.size W w')) ∧ (l'.length ≤ l.length) := by
  cases hg : gokB e o a b c l
  · exact ⟨1, 0, 0, 0, 0, 0, [], fun hn W lo p q h => specT_bad lo q p l e o a b c ow W hn h hg, fun hn W lo p q h => implT_bad lo q p l e o a b c ow W hn h hg, by simp⟩
  cases ho : decide (0 ≤ ow ∧ ow < 3)
  · exact ⟨4, 0, 0, 0, 0, 0, [], fun hn W lo p q h => specT_range lo q p l e o a b c ow W hn h hg ho, fun hn W lo p q h => implT_range lo q p l e o a b c ow W hn h hg ho, by simp⟩
  by_cases he : e = 1000000
  · exact ⟨6, 1000000, o, a, b, c, l, fun hn W lo p q h => specT_many lo q p l e o a b c ow W hn h hg ho he, fun hn W lo p q h => implT_many lo q p l e o a b c ow W hn h hg ho he, Nat.le_refl _⟩
  · exact ⟨0, e + 1, ow, a, b, c, l, fun hn W lo p q h => specT_ok lo q p l e o a b c ow W hn h hg ho he, fun hn W lo p q h => implT_ok lo q p l e o a b c ow W hn h hg ho he, Nat.le_refl _⟩

set_option maxRecDepth 20000 in
set_option maxHeartbeats 8000000 in
theorem law_take (lo q : Nat) (p : Option Addr) (l : List Dt) (e o a b c ow : Int) (w : World) (hm : (l.length : Int) ≤ 9223372036854775807) (hr0 : GRow lo w p (flatD l)) :
    Calls Try.prog 6 #[.agg #[.int .i64 e, .int .i64 o, .int .i64 a, .int .i64 b, .int .i64 c, .slice p l.length q], .int .i64 ow] w fun r w' => r = .returned (.bool true) ∧ Below w.heap.size w w' := by
  obtain ⟨code, e', o', a', b', c', l', CS, CI, hl'⟩ : ∃ (code e' o' a' b' c' : Int) (l' : List Dt), ((l.length : Int) ≤ 1048576 → ∀ W lo p q, GRow lo W p (flatD l) → Calls Try.prog 23 #[.agg #[.int .i64 e, .int .i64 o, .int .i64 a, .int .i64 b, .int .i64 c, .slice p l.length q], .int .i64 ow] W (fun r w' => ∃ po co, r = .returned (.tuple #[.agg #[.int .i64 e', .int .i64 o', .int .i64 a', .int .i64 b', .int .i64 c', .slice po l'.length co], .int .i64 code]) ∧ MR W.heap.size w' po l' ∧ Below W.heap.size W w')) ∧ ((l.length : Int) ≤ 1048576 → ∀ W lo p q, GRow lo W p (flatD l) → Calls Try.prog 11 #[.agg #[.int .i64 e, .int .i64 o, .int .i64 a, .int .i64 b, .int .i64 c, .slice p l.length q], .int .i64 ow] W (fun r w' => ∃ po co, r = .returned (.tuple #[.agg #[.int .i64 e', .int .i64 o', .int .i64 a', .int .i64 b', .int .i64 c', .slice po l'.length co], .int .i64 code]) ∧ MR W.heap.size w' po l' ∧ Below W.heap.size W w')) ∧ (l'.length ≤ l.length) := take_both e o a b c ow l
  have HCS : Hid _ := CS
  have HCI : Hid _ := CI
  have HR : Hid (GRow lo w p (flatD l)) := hr0
  clear CS CI hr0
  go_enter Try.func6, Try.ntmps6
  go_upto_region 1 with fail
  refine wp_gen (fun W => Box W w.heap.size [.int .i64 e, .int .i64 o, .int .i64 a, .int .i64 b, .int .i64 c, .slice p l.length q] ∧ Below w.heap.size w W) ⟨box_mk, bel_alloc _ _⟩ (fun W0 hI => ?_)
  have HB : Hid (Below w.heap.size w W0) := hI.2
  have BA : Hid (Box W0 w.heap.size [.int .i64 e, .int .i64 o, .int .i64 a, .int .i64 b, .int .i64 c, .slice p l.length q]) := hI.1
  have RA : Hid (GRow lo W0 p (flatD l)) := HR.out.next hI.2
  clear hI
  have O0 : Hid (w.heap.size < W0.heap.size) := BA.out.lt
  obtain ⟨BA0, BA1, BA2, BA3, BA4, BA5⟩ := BA.out.c6
  go_wp2_with fail
  refine (szG_any l.length q p e o a b c 1048576 _ (by omega) (by omega) hm).mono ?_
  rintro r W1 ⟨rfl, hb⟩
  clear BA0 BA1 BA2 BA3 BA4 BA5
  replace HB : Hid (Below w.heap.size w W1) := HB.out.trans (hb.mono HB.out.size)
  replace BA : Hid (Box W1 w.heap.size [.int .i64 e, .int .i64 o, .int .i64 a, .int .i64 b, .int .i64 c, .slice p l.length q]) := BA.out.next hb
  replace RA : Hid (GRow lo W1 p (flatD l)) := HR.out.next HB.out
  have O1 : Hid (W0.heap.size ≤ W1.heap.size) := hb.size
  clear hb
  by_cases hn : (l.length : Int) ≤ 1048576
  case neg =>
    rw [if_neg hn]
    go_wp2
    go_ret
    exact ⟨rfl, HB.out⟩
  have hn1 : ¬ (1048576 : Int) - (l.length : Int) < 0 := by omega
  rw [if_pos hn]
  obtain ⟨BA0, BA1, BA2, BA3, BA4, BA5⟩ := BA.out.c6
  go_wp2_with fail
  refine (toG_any lo q p l e o a b c _ hn RA.out).mono ?_
  rintro r W2 ⟨gy, rfl, hb, hM⟩
  clear BA0 BA1 BA2 BA3 BA4 BA5
  replace HB : Hid (Below w.heap.size w W2) := HB.out.trans (hb.mono HB.out.size)
  replace BA : Hid (Box W2 w.heap.size [.int .i64 e, .int .i64 o, .int .i64 a, .int .i64 b, .int .i64 c, .slice p l.length q]) := BA.out.next hb
  replace RA : Hid (GRow lo W2 p (flatD l)) := HR.out.next HB.out
  have O2 : Hid (W1.heap.size ≤ W2.heap.size) := hb.size
  have YY : Hid (IR W1.heap.size W2.heap.size W2 (some ⟨gy, 0, none⟩) l) := hM.ir
  clear hb hM
  go_wp2_with fail
  refine (HCS.out hn W2 _ _ _ YY.out.mr.row).mono ?_
  rintro r W3 ⟨pw, cw, rfl, hM, hb⟩
  replace HB : Hid (Below w.heap.size w W3) := HB.out.trans (hb.mono HB.out.size)
  replace BA : Hid (Box W3 w.heap.size [.int .i64 e, .int .i64 o, .int .i64 a, .int .i64 b, .int .i64 c, .slice p l.length q]) := BA.out.next hb
  replace RA : Hid (GRow lo W3 p (flatD l)) := HR.out.next HB.out
  replace YY : Hid (IR W1.heap.size W2.heap.size W3 (some ⟨gy, 0, none⟩) l) := YY.out.next hb
  have O3 : Hid (W2.heap.size ≤ W3.heap.size) := hb.size
  have RW : Hid (IR W2.heap.size W3.heap.size W3 pw l') := hM.ir
  clear hb hM YY
  go_upto_region 6 with fail
  refine wp_gen (fun W => Below w.heap.size w W ∧ Box W w.heap.size [.int .i64 e, .int .i64 o, .int .i64 a, .int .i64 b, .int .i64 c, .slice p l.length q] ∧ GRow lo W p (flatD l) ∧ IR W2.heap.size W3.heap.size W pw l' ∧ Box W W3.heap.size [.int .i64 e', .int .i64 o', .int .i64 a', .int .i64 b', .int .i64 c', .slice pw l'.length cw]) ⟨HB.out.trans ((bel_alloc _ _).mono HB.out.size), BA.out.next (bel_alloc _ _), HR.out.next (HB.out.trans ((bel_alloc _ _).mono HB.out.size)), RW.out.next (bel_alloc _ _), box_mk⟩ (fun W4 hI => ?_)
  obtain ⟨iHB, iBA, iRA, iRW, iBW⟩ := hI
  replace HB : Hid (Below w.heap.size w W4) := iHB
  replace BA : Hid (Box W4 w.heap.size [.int .i64 e, .int .i64 o, .int .i64 a, .int .i64 b, .int .i64 c, .slice p l.length q]) := iBA
  replace RA : Hid (GRow lo W4 p (flatD l)) := iRA
  replace RW : Hid (IR W2.heap.size W3.heap.size W4 pw l') := iRW
  have BW : Hid (Box W4 W3.heap.size [.int .i64 e', .int .i64 o', .int .i64 a', .int .i64 b', .int .i64 c', .slice pw l'.length cw]) := iBW
  clear iHB iBA iRA iRW iBW
  have OBW : Hid (W3.heap.size < W4.heap.size) := BW.out.lt
  obtain ⟨BA0, BA1, BA2, BA3, BA4, BA5⟩ := BA.out.c6
  go_wp2_with fail
  refine (toG_any lo q p l e o a b c _ hn RA.out).mono ?_
  rintro r W5 ⟨gx, rfl, hb, hM⟩
  clear BA0 BA1 BA2 BA3 BA4 BA5
  replace HB : Hid (Below w.heap.size w W5) := HB.out.trans (hb.mono HB.out.size)
  replace BA : Hid (Box W5 w.heap.size [.int .i64 e, .int .i64 o, .int .i64 a, .int .i64 b, .int .i64 c, .slice p l.length q]) := BA.out.next hb
  replace RA : Hid (GRow lo W5 p (flatD l)) := HR.out.next HB.out
  replace RW : Hid (IR W2.heap.size W3.heap.size W5 pw l') := RW.out.next hb
  replace BW : Hid (Box W5 W3.heap.size [.int .i64 e', .int .i64 o', .int .i64 a', .int .i64 b', .int .i64 c', .slice pw l'.length cw]) := BW.out.next hb
  have O5 : Hid (W4.heap.size ≤ W5.heap.size) := hb.size
  have RX : Hid (IR W4.heap.size W5.heap.size W5 (some ⟨gx, 0, none⟩) l) := hM.ir
  clear hb hM
  go_upto_region 7 with fail
  refine wp_gen (fun W => Below w.heap.size w W ∧ Box W w.heap.size [.int .i64 e, .int .i64 o, .int .i64 a, .int .i64 b, .int .i64 c, .slice p l.length q] ∧ GRow lo W p (flatD l) ∧ IR W2.heap.size W3.heap.size W pw l' ∧ Box W W3.heap.size [.int .i64 e', .int .i64 o', .int .i64 a', .int .i64 b', .int .i64 c', .slice pw l'.length cw] ∧ IR W4.heap.size W5.heap.size W (some ⟨gx, 0, none⟩) l ∧ Box W W5.heap.size [.int .i64 e, .int .i64 o, .int .i64 a, .int .i64 b, .int .i64 c, .slice (some ⟨gx, 0, none⟩) l.length l.length]) ⟨HB.out.trans ((bel_alloc _ _).mono HB.out.size), BA.out.next (bel_alloc _ _), HR.out.next (HB.out.trans ((bel_alloc _ _).mono HB.out.size)), RW.out.next (bel_alloc _ _), BW.out.next (bel_alloc _ _), RX.out.next (bel_alloc _ _), box_mk⟩ (fun W6 hI => ?_)
  obtain ⟨iHB, iBA, iRA, iRW, iBW, iRX, iBX⟩ := hI
  replace HB : Hid (Below w.heap.size w W6) := iHB
  replace BA : Hid (Box W6 w.heap.size [.int .i64 e, .int .i64 o, .int .i64 a, .int .i64 b, .int .i64 c, .slice p l.length q]) := iBA
  replace RA : Hid (GRow lo W6 p (flatD l)) := iRA
  replace RW : Hid (IR W2.heap.size W3.heap.size W6 pw l') := iRW
  replace BW : Hid (Box W6 W3.heap.size [.int .i64 e', .int .i64 o', .int .i64 a', .int .i64 b', .int .i64 c', .slice pw l'.length cw]) := iBW
  replace RX : Hid (IR W4.heap.size W5.heap.size W6 (some ⟨gx, 0, none⟩) l) := iRX
  have BX : Hid (Box W6 W5.heap.size [.int .i64 e, .int .i64 o, .int .i64 a, .int .i64 b, .int .i64 c, .slice (some ⟨gx, 0, none⟩) l.length l.length]) := iBX
  clear iHB iBA iRA iRW iBW iRX iBX
  have OBX : Hid (W5.heap.size < W6.heap.size) := BX.out.lt
  obtain ⟨BX0, BX1, BX2, BX3, BX4, BX5⟩ := BX.out.c6
  go_wp2_with fail
  refine (HCI.out hn W6 _ _ _ RX.out.mr.row).mono ?_
  rintro r W7 ⟨pg, cg, rfl, hM, hb⟩
  clear BX0 BX1 BX2 BX3 BX4 BX5
  replace HB : Hid (Below w.heap.size w W7) := HB.out.trans (hb.mono HB.out.size)
  replace BA : Hid (Box W7 w.heap.size [.int .i64 e, .int .i64 o, .int .i64 a, .int .i64 b, .int .i64 c, .slice p l.length q]) := BA.out.next hb
  replace RA : Hid (GRow lo W7 p (flatD l)) := HR.out.next HB.out
  replace RW : Hid (IR W2.heap.size W3.heap.size W7 pw l') := RW.out.next hb
  replace BW : Hid (Box W7 W3.heap.size [.int .i64 e', .int .i64 o', .int .i64 a', .int .i64 b', .int .i64 c', .slice pw l'.length cw]) := BW.out.next hb
  replace RX : Hid (IR W4.heap.size W5.heap.size W7 (some ⟨gx, 0, none⟩) l) := RX.out.next hb
  replace BX : Hid (Box W7 W5.heap.size [.int .i64 e, .int .i64 o, .int .i64 a, .int .i64 b, .int .i64 c, .slice (some ⟨gx, 0, none⟩) l.length l.length]) := BX.out.next hb
  have O7 : Hid (W6.heap.size ≤ W7.heap.size) := hb.size
  have RG : Hid (IR W6.heap.size W7.heap.size W7 pg l') := hM.ir
  clear hb hM
  go_upto_region 8 with fail
  refine wp_gen (fun W => Below w.heap.size w W ∧ Box W w.heap.size [.int .i64 e, .int .i64 o, .int .i64 a, .int .i64 b, .int .i64 c, .slice p l.length q] ∧ GRow lo W p (flatD l) ∧ IR W2.heap.size W3.heap.size W pw l' ∧ Box W W3.heap.size [.int .i64 e', .int .i64 o', .int .i64 a', .int .i64 b', .int .i64 c', .slice pw l'.length cw] ∧ IR W4.heap.size W5.heap.size W (some ⟨gx, 0, none⟩) l ∧ Box W W5.heap.size [.int .i64 e, .int .i64 o, .int .i64 a, .int .i64 b, .int .i64 c, .slice (some ⟨gx, 0, none⟩) l.length l.length] ∧ IR W6.heap.size W7.heap.size W pg l' ∧ Box W W7.heap.size [.int .i64 e', .int .i64 o', .int .i64 a', .int .i64 b', .int .i64 c', .slice pg l'.length cg]) ⟨HB.out.trans ((bel_alloc _ _).mono HB.out.size), BA.out.next (bel_alloc _ _), HR.out.next (HB.out.trans ((bel_alloc _ _).mono HB.out.size)), RW.out.next (bel_alloc _ _), BW.out.next (bel_alloc _ _), RX.out.next (bel_alloc _ _), BX.out.next (bel_alloc _ _), RG.out.next (bel_alloc _ _), box_mk⟩ (fun W8 hI => ?_)
  obtain ⟨iHB, iBA, iRA, iRW, iBW, iRX, iBX, iRG, iBG⟩ := hI
  replace HB : Hid (Below w.heap.size w W8) := iHB
  replace BA : Hid (Box W8 w.heap.size [.int .i64 e, .int .i64 o, .int .i64 a, .int .i64 b, .int .i64 c, .slice p l.length q]) := iBA
  replace RA : Hid (GRow lo W8 p (flatD l)) := iRA
  replace RW : Hid (IR W2.heap.size W3.heap.size W8 pw l') := iRW
  replace BW : Hid (Box W8 W3.heap.size [.int .i64 e', .int .i64 o', .int .i64 a', .int .i64 b', .int .i64 c', .slice pw l'.length cw]) := iBW
  replace RX : Hid (IR W4.heap.size W5.heap.size W8 (some ⟨gx, 0, none⟩) l) := iRX
  replace BX : Hid (Box W8 W5.heap.size [.int .i64 e, .int .i64 o, .int .i64 a, .int .i64 b, .int .i64 c, .slice (some ⟨gx, 0, none⟩) l.length l.length]) := iBX
  replace RG : Hid (IR W6.heap.size W7.heap.size W8 pg l') := iRG
  have BG : Hid (Box W8 W7.heap.size [.int .i64 e', .int .i64 o', .int .i64 a', .int .i64 b', .int .i64 c', .slice pg l'.length cg]) := iBG
  clear iHB iBA iRA iRW iBW iRX iBX iRG iBG
  have OBG : Hid (W7.heap.size < W8.heap.size) := BG.out.lt
  obtain ⟨BG0, BG1, BG2, BG3, BG4, BG5⟩ := BG.out.c6
  obtain ⟨BW0, BW1, BW2, BW3, BW4, BW5⟩ := BW.out.c6
  go_wp2_with fail
  refine (eqG_same _ _ _ _ _ _ l' e' o' a' b' c' _ (by omega) RG.out.mr.row RW.out.mr.row).mono ?_
  rintro r W9 ⟨rfl, hb⟩
  clear BG0 BG1 BG2 BG3 BG4 BG5
  clear BW0 BW1 BW2 BW3 BW4 BW5
  replace HB : Hid (Below w.heap.size w W9) := HB.out.trans (hb.mono HB.out.size)
  replace BA : Hid (Box W9 w.heap.size [.int .i64 e, .int .i64 o, .int .i64 a, .int .i64 b, .int .i64 c, .slice p l.length q]) := BA.out.next hb
  replace RA : Hid (GRow lo W9 p (flatD l)) := HR.out.next HB.out
  replace RW : Hid (IR W2.heap.size W3.heap.size W9 pw l') := RW.out.next hb
  replace BW : Hid (Box W9 W3.heap.size [.int .i64 e', .int .i64 o', .int .i64 a', .int .i64 b', .int .i64 c', .slice pw l'.length cw]) := BW.out.next hb
  replace RX : Hid (IR W4.heap.size W5.heap.size W9 (some ⟨gx, 0, none⟩) l) := RX.out.next hb
  replace BX : Hid (Box W9 W5.heap.size [.int .i64 e, .int .i64 o, .int .i64 a, .int .i64 b, .int .i64 c, .slice (some ⟨gx, 0, none⟩) l.length l.length]) := BX.out.next hb
  replace RG : Hid (IR W6.heap.size W7.heap.size W9 pg l') := RG.out.next hb
  replace BG : Hid (Box W9 W7.heap.size [.int .i64 e', .int .i64 o', .int .i64 a', .int .i64 b', .int .i64 c', .slice pg l'.length cg]) := BG.out.next hb
  have O9 : Hid (W8.heap.size ≤ W9.heap.size) := hb.size
  clear hb
  go_upto_region 10 with fail
  refine wp_region_held_drew (S := (fun w' => (w'.cell? ⟨W5.heap.size, 0, none⟩ = some (.int .i64 e) ∧ w'.cell? ⟨W5.heap.size, 1, none⟩ = some (.int .i64 o) ∧ w'.cell? ⟨W5.heap.size, 2, none⟩ = some (.int .i64 a) ∧ w'.cell? ⟨W5.heap.size, 3, none⟩ = some (.int .i64 b) ∧ w'.cell? ⟨W5.heap.size, 4, none⟩ = some (.int .i64 c) ∧ w'.cell? ⟨W5.heap.size, 5, none⟩ = some (.slice (some ⟨gx, 0, none⟩) l.length l.length)) ∧ (w'.cell? ⟨w.heap.size, 0, none⟩ = some (.int .i64 e) ∧ w'.cell? ⟨w.heap.size, 1, none⟩ = some (.int .i64 o) ∧ w'.cell? ⟨w.heap.size, 2, none⟩ = some (.int .i64 a) ∧ w'.cell? ⟨w.heap.size, 3, none⟩ = some (.int .i64 b) ∧ w'.cell? ⟨w.heap.size, 4, none⟩ = some (.int .i64 c) ∧ w'.cell? ⟨w.heap.size, 5, none⟩ = some (.slice p l.length q)))) (by kernel_rfl) ?_ (fun hHeld => ?_)
  · (try dsimp only)
    exact ⟨(BX.out.next (bel_drew _)).c6, (BA.out.next (bel_drew _)).c6⟩
  have hbd := bel_drew W9
  replace HB : Hid (Below w.heap.size w W9.drew) := HB.out.trans (hbd.mono HB.out.size)
  replace BA : Hid (Box W9.drew w.heap.size [.int .i64 e, .int .i64 o, .int .i64 a, .int .i64 b, .int .i64 c, .slice p l.length q]) := BA.out.next hbd
  replace RA : Hid (GRow lo W9.drew p (flatD l)) := HR.out.next HB.out
  replace RW : Hid (IR W2.heap.size W3.heap.size W9.drew pw l') := RW.out.next hbd
  replace BW : Hid (Box W9.drew W3.heap.size [.int .i64 e', .int .i64 o', .int .i64 a', .int .i64 b', .int .i64 c', .slice pw l'.length cw]) := BW.out.next hbd
  replace RX : Hid (IR W4.heap.size W5.heap.size W9.drew (some ⟨gx, 0, none⟩) l) := RX.out.next hbd
  replace BX : Hid (Box W9.drew W5.heap.size [.int .i64 e, .int .i64 o, .int .i64 a, .int .i64 b, .int .i64 c, .slice (some ⟨gx, 0, none⟩) l.length l.length]) := BX.out.next hbd
  replace RG : Hid (IR W6.heap.size W7.heap.size W9.drew pg l') := RG.out.next hbd
  replace BG : Hid (Box W9.drew W7.heap.size [.int .i64 e', .int .i64 o', .int .i64 a', .int .i64 b', .int .i64 c', .slice pg l'.length cg]) := BG.out.next hbd
  have OD : Hid (W9.heap.size ≤ W9.drew.heap.size) := hbd.size
  clear hbd
  generalize W9.drew = W10 at *
  refine wTk 0 ?_
  refine wTk 1 ?_
  refine wRd 2 (fun K hK => ?_)
  go_simp
  go_at_call 22
  refine (toG_any lo q p l e o a b c _ hn RA.out).mono ?_
  rintro r W11 ⟨gq, rfl, hb, hM⟩
  (try simp only [])
  replace HB : Hid (Below w.heap.size w W11) := HB.out.trans (hb.mono HB.out.size)
  replace BA : Hid (Box W11 w.heap.size [.int .i64 e, .int .i64 o, .int .i64 a, .int .i64 b, .int .i64 c, .slice p l.length q]) := BA.out.next hb
  replace RA : Hid (GRow lo W11 p (flatD l)) := HR.out.next HB.out
  replace RW : Hid (IR W2.heap.size W3.heap.size W11 pw l') := RW.out.next hb
  replace BW : Hid (Box W11 W3.heap.size [.int .i64 e', .int .i64 o', .int .i64 a', .int .i64 b', .int .i64 c', .slice pw l'.length cw]) := BW.out.next hb
  replace RX : Hid (IR W4.heap.size W5.heap.size W11 (some ⟨gx, 0, none⟩) l) := RX.out.next hb
  replace BX : Hid (Box W11 W5.heap.size [.int .i64 e, .int .i64 o, .int .i64 a, .int .i64 b, .int .i64 c, .slice (some ⟨gx, 0, none⟩) l.length l.length]) := BX.out.next hb
  replace RG : Hid (IR W6.heap.size W7.heap.size W11 pg l') := RG.out.next hb
  replace BG : Hid (Box W11 W7.heap.size [.int .i64 e', .int .i64 o', .int .i64 a', .int .i64 b', .int .i64 c', .slice pg l'.length cg]) := BG.out.next hb
  have OE : Hid (W10.heap.size ≤ W11.heap.size) := hb.size
  have RQ : Hid (GRow 0 W11 (some ⟨gq, 0, none⟩) (flatD l)) := hM.row.weak (Nat.zero_le _)
  clear hb hM
  refine wHk hK ⟨BX.out.c6, BA.out.c6⟩ ?_
  clear hK K hHeld
  intro hHeld
  refine wRd 3 (fun K hK => ?_)
  go_simp
  go_at_call 17
  refine (eqG_same _ _ _ _ _ _ l e o a b c _ hn RX.out.mr.row RQ.out).mono ?_
  rintro r W12 ⟨rfl, hb⟩
  (try simp only [])
  clear RQ
  replace HB : Hid (Below w.heap.size w W12) := HB.out.trans (hb.mono HB.out.size)
  replace BA : Hid (Box W12 w.heap.size [.int .i64 e, .int .i64 o, .int .i64 a, .int .i64 b, .int .i64 c, .slice p l.length q]) := BA.out.next hb
  replace RA : Hid (GRow lo W12 p (flatD l)) := HR.out.next HB.out
  replace RW : Hid (IR W2.heap.size W3.heap.size W12 pw l') := RW.out.next hb
  replace BW : Hid (Box W12 W3.heap.size [.int .i64 e', .int .i64 o', .int .i64 a', .int .i64 b', .int .i64 c', .slice pw l'.length cw]) := BW.out.next hb
  replace RX : Hid (IR W4.heap.size W5.heap.size W12 (some ⟨gx, 0, none⟩) l) := RX.out.next hb
  replace BX : Hid (Box W12 W5.heap.size [.int .i64 e, .int .i64 o, .int .i64 a, .int .i64 b, .int .i64 c, .slice (some ⟨gx, 0, none⟩) l.length l.length]) := BX.out.next hb
  replace RG : Hid (IR W6.heap.size W7.heap.size W12 pg l') := RG.out.next hb
  replace BG : Hid (Box W12 W7.heap.size [.int .i64 e', .int .i64 o', .int .i64 a', .int .i64 b', .int .i64 c', .slice pg l'.length cg]) := BG.out.next hb
  have OF : Hid (W11.heap.size ≤ W12.heap.size) := hb.size
  clear hb
  refine wHk hK ⟨BX.out.c6, BA.out.c6⟩ ?_
  clear hK K hHeld
  intro hHeld
  refine wTk 4 ?_
  refine wpAnyH_done (by kernel_rfl) ?_ _
  clear hHeld
  obtain ⟨BX0, BX1, BX2, BX3, BX4, BX5⟩ := BX.out.c6
  go_wp2_with fail
  refine (markG_any W4.heap.size _ _ l e o a b c 1 _ (by omega) (by omega) (by omega) RX.out.mr).mono ?_
  rintro r W13 ⟨rfl, hk, hM⟩
  clear BX0 BX1 BX2 BX3 BX4 BX5
  have hq := mark_ir RX.out hk
  have O13 : Hid (W12.heap.size ≤ W13.heap.size) := hk.size
  replace HB : Hid (Below w.heap.size w W13) := below_kp HB.out hq (by have := O0.out; have := O1.out; have := O2.out; have := O3.out; have := OBW.out; have := O5.out; have := OBX.out; have := O7.out; have := OBG.out; have := O9.out; have := OD.out; have := OE.out; have := OF.out; have := O13.out; omega)
  replace BA : Hid (Box W13 w.heap.size [.int .i64 e, .int .i64 o, .int .i64 a, .int .i64 b, .int .i64 c, .slice p l.length q]) := BA.out.kp hq (by have := O0.out; have := O1.out; have := O2.out; have := O3.out; have := OBW.out; have := O5.out; have := OBX.out; have := O7.out; have := OBG.out; have := O9.out; have := OD.out; have := OE.out; have := OF.out; have := O13.out; omega)
  replace RA : Hid (GRow lo W13 p (flatD l)) := HR.out.next HB.out
  replace RW : Hid (IR W2.heap.size W3.heap.size W13 pw l') := RW.out.kp hq (by have := O0.out; have := O1.out; have := O2.out; have := O3.out; have := OBW.out; have := O5.out; have := OBX.out; have := O7.out; have := OBG.out; have := O9.out; have := OD.out; have := OE.out; have := OF.out; have := O13.out; omega)
  replace BW : Hid (Box W13 W3.heap.size [.int .i64 e', .int .i64 o', .int .i64 a', .int .i64 b', .int .i64 c', .slice pw l'.length cw]) := BW.out.kp hq (by have := O0.out; have := O1.out; have := O2.out; have := O3.out; have := OBW.out; have := O5.out; have := OBX.out; have := O7.out; have := OBG.out; have := O9.out; have := OD.out; have := OE.out; have := OF.out; have := O13.out; omega)
  replace BX : Hid (Box W13 W5.heap.size [.int .i64 e, .int .i64 o, .int .i64 a, .int .i64 b, .int .i64 c, .slice (some ⟨gx, 0, none⟩) l.length l.length]) := BX.out.kp hq (by have := O0.out; have := O1.out; have := O2.out; have := O3.out; have := OBW.out; have := O5.out; have := OBX.out; have := O7.out; have := OBG.out; have := O9.out; have := OD.out; have := OE.out; have := OF.out; have := O13.out; omega)
  replace RG : Hid (IR W6.heap.size W7.heap.size W13 pg l') := RG.out.kp hq (by have := O0.out; have := O1.out; have := O2.out; have := O3.out; have := OBW.out; have := O5.out; have := OBX.out; have := O7.out; have := OBG.out; have := O9.out; have := OD.out; have := OE.out; have := OF.out; have := O13.out; omega)
  replace BG : Hid (Box W13 W7.heap.size [.int .i64 e', .int .i64 o', .int .i64 a', .int .i64 b', .int .i64 c', .slice pg l'.length cg]) := BG.out.kp hq (by have := O0.out; have := O1.out; have := O2.out; have := O3.out; have := OBW.out; have := O5.out; have := OBX.out; have := O7.out; have := OBG.out; have := O9.out; have := OD.out; have := OE.out; have := OF.out; have := O13.out; omega)
  clear hk hM hq RX
  have hkn : ¬ (1 + 2 * (l.length : Int) < 0) := by omega
  generalize (1 : Int) + 2 * (l.length : Int) = kk at *
  obtain ⟨BG0, BG1, BG2, BG3, BG4, BG5⟩ := BG.out.c6
  obtain ⟨BW0, BW1, BW2, BW3, BW4, BW5⟩ := BW.out.c6
  go_wp2_with fail
  refine (eqG_same _ _ _ _ _ _ l' e' o' a' b' c' _ (by omega) RG.out.mr.row RW.out.mr.row).mono ?_
  rintro r W14 ⟨rfl, hb⟩
  clear BG0 BG1 BG2 BG3 BG4 BG5
  clear BW0 BW1 BW2 BW3 BW4 BW5
  replace HB : Hid (Below w.heap.size w W14) := HB.out.trans (hb.mono HB.out.size)
  replace BA : Hid (Box W14 w.heap.size [.int .i64 e, .int .i64 o, .int .i64 a, .int .i64 b, .int .i64 c, .slice p l.length q]) := BA.out.next hb
  replace RA : Hid (GRow lo W14 p (flatD l)) := HR.out.next HB.out
  replace RW : Hid (IR W2.heap.size W3.heap.size W14 pw l') := RW.out.next hb
  replace BW : Hid (Box W14 W3.heap.size [.int .i64 e', .int .i64 o', .int .i64 a', .int .i64 b', .int .i64 c', .slice pw l'.length cw]) := BW.out.next hb
  replace BX : Hid (Box W14 W5.heap.size [.int .i64 e, .int .i64 o, .int .i64 a, .int .i64 b, .int .i64 c, .slice (some ⟨gx, 0, none⟩) l.length l.length]) := BX.out.next hb
  replace RG : Hid (IR W6.heap.size W7.heap.size W14 pg l') := RG.out.next hb
  replace BG : Hid (Box W14 W7.heap.size [.int .i64 e', .int .i64 o', .int .i64 a', .int .i64 b', .int .i64 c', .slice pg l'.length cg]) := BG.out.next hb
  have O14 : Hid (W13.heap.size ≤ W14.heap.size) := hb.size
  clear hb
  obtain ⟨BG0, BG1, BG2, BG3, BG4, BG5⟩ := BG.out.c6
  go_wp2_with fail
  refine (markG_any W6.heap.size _ _ l' e' o' a' b' c' 1 _ (by omega) (by omega) (by omega) RG.out.mr).mono ?_
  rintro r W15 ⟨rfl, hk, hM⟩
  clear BG0 BG1 BG2 BG3 BG4 BG5
  have hq := mark_ir RG.out hk
  have O15 : Hid (W14.heap.size ≤ W15.heap.size) := hk.size
  replace HB : Hid (Below w.heap.size w W15) := below_kp HB.out hq (by have := O0.out; have := O1.out; have := O2.out; have := O3.out; have := OBW.out; have := O5.out; have := OBX.out; have := O7.out; have := OBG.out; have := O9.out; have := OD.out; have := OE.out; have := OF.out; have := O13.out; have := O14.out; have := O15.out; omega)
  replace BA : Hid (Box W15 w.heap.size [.int .i64 e, .int .i64 o, .int .i64 a, .int .i64 b, .int .i64 c, .slice p l.length q]) := BA.out.kp hq (by have := O0.out; have := O1.out; have := O2.out; have := O3.out; have := OBW.out; have := O5.out; have := OBX.out; have := O7.out; have := OBG.out; have := O9.out; have := OD.out; have := OE.out; have := OF.out; have := O13.out; have := O14.out; have := O15.out; omega)
  replace RA : Hid (GRow lo W15 p (flatD l)) := HR.out.next HB.out
  replace RW : Hid (IR W2.heap.size W3.heap.size W15 pw l') := RW.out.kp hq (by have := O0.out; have := O1.out; have := O2.out; have := O3.out; have := OBW.out; have := O5.out; have := OBX.out; have := O7.out; have := OBG.out; have := O9.out; have := OD.out; have := OE.out; have := OF.out; have := O13.out; have := O14.out; have := O15.out; omega)
  replace BW : Hid (Box W15 W3.heap.size [.int .i64 e', .int .i64 o', .int .i64 a', .int .i64 b', .int .i64 c', .slice pw l'.length cw]) := BW.out.kp hq (by have := O0.out; have := O1.out; have := O2.out; have := O3.out; have := OBW.out; have := O5.out; have := OBX.out; have := O7.out; have := OBG.out; have := O9.out; have := OD.out; have := OE.out; have := OF.out; have := O13.out; have := O14.out; have := O15.out; omega)
  replace BX : Hid (Box W15 W5.heap.size [.int .i64 e, .int .i64 o, .int .i64 a, .int .i64 b, .int .i64 c, .slice (some ⟨gx, 0, none⟩) l.length l.length]) := BX.out.kp hq (by have := O0.out; have := O1.out; have := O2.out; have := O3.out; have := OBW.out; have := O5.out; have := OBX.out; have := O7.out; have := OBG.out; have := O9.out; have := OD.out; have := OE.out; have := OF.out; have := O13.out; have := O14.out; have := O15.out; omega)
  replace BG : Hid (Box W15 W7.heap.size [.int .i64 e', .int .i64 o', .int .i64 a', .int .i64 b', .int .i64 c', .slice pg l'.length cg]) := BG.out.kp hq (by have := O0.out; have := O1.out; have := O2.out; have := O3.out; have := OBW.out; have := O5.out; have := OBX.out; have := O7.out; have := OBG.out; have := O9.out; have := OD.out; have := OE.out; have := OF.out; have := O13.out; have := O14.out; have := O15.out; omega)
  have MG : Hid (MkR W6.heap.size W15 pg 1 l'.length) := hM
  clear hk hM hq RG
  clear hkn
  have hkn : ¬ (1 + 2 * (l'.length : Int) < 0) := by omega
  obtain ⟨kq, hkq⟩ : ∃ kq : Int, kq = 1 + 2 * (l'.length : Int) := ⟨_, rfl⟩
  rw [← hkq] at hkn
  rw [← hkq]
  have HKQ : Hid _ := hkq
  clear hkq
  obtain ⟨BG0, BG1, BG2, BG3, BG4, BG5⟩ := BG.out.c6
  go_wp2_with fail
  refine (heldG_any W6.heap.size l'.length _ pg e' o' a' b' c' 1 _ (by omega) (by omega) (by omega) MG.out).mono ?_
  rintro r W16 ⟨rfl, hb⟩
  clear BG0 BG1 BG2 BG3 BG4 BG5
  replace HB : Hid (Below w.heap.size w W16) := HB.out.trans (hb.mono HB.out.size)
  replace BA : Hid (Box W16 w.heap.size [.int .i64 e, .int .i64 o, .int .i64 a, .int .i64 b, .int .i64 c, .slice p l.length q]) := BA.out.next hb
  replace RA : Hid (GRow lo W16 p (flatD l)) := HR.out.next HB.out
  replace RW : Hid (IR W2.heap.size W3.heap.size W16 pw l') := RW.out.next hb
  replace BW : Hid (Box W16 W3.heap.size [.int .i64 e', .int .i64 o', .int .i64 a', .int .i64 b', .int .i64 c', .slice pw l'.length cw]) := BW.out.next hb
  replace BX : Hid (Box W16 W5.heap.size [.int .i64 e, .int .i64 o, .int .i64 a, .int .i64 b, .int .i64 c, .slice (some ⟨gx, 0, none⟩) l.length l.length]) := BX.out.next hb
  replace BG : Hid (Box W16 W7.heap.size [.int .i64 e', .int .i64 o', .int .i64 a', .int .i64 b', .int .i64 c', .slice pg l'.length cg]) := BG.out.next hb
  replace MG : Hid (MkR W6.heap.size W16 pg 1 l'.length) := MG.out.next hb
  clear hb
  rw [← HKQ.out]
  obtain ⟨BA0, BA1, BA2, BA3, BA4, BA5⟩ := BA.out.c6
  go_wp2_with fail
  refine (toG_any lo q p l e o a b c _ hn RA.out).mono ?_
  rintro r W17 ⟨gz, rfl, hb, hM⟩
  clear BA0 BA1 BA2 BA3 BA4 BA5
  replace HB : Hid (Below w.heap.size w W17) := HB.out.trans (hb.mono HB.out.size)
  replace BA : Hid (Box W17 w.heap.size [.int .i64 e, .int .i64 o, .int .i64 a, .int .i64 b, .int .i64 c, .slice p l.length q]) := BA.out.next hb
  replace RA : Hid (GRow lo W17 p (flatD l)) := HR.out.next HB.out
  replace RW : Hid (IR W2.heap.size W3.heap.size W17 pw l') := RW.out.next hb
  replace BW : Hid (Box W17 W3.heap.size [.int .i64 e', .int .i64 o', .int .i64 a', .int .i64 b', .int .i64 c', .slice pw l'.length cw]) := BW.out.next hb
  replace BX : Hid (Box W17 W5.heap.size [.int .i64 e, .int .i64 o, .int .i64 a, .int .i64 b, .int .i64 c, .slice (some ⟨gx, 0, none⟩) l.length l.length]) := BX.out.next hb
  replace BG : Hid (Box W17 W7.heap.size [.int .i64 e', .int .i64 o', .int .i64 a', .int .i64 b', .int .i64 c', .slice pg l'.length cg]) := BG.out.next hb
  replace MG : Hid (MkR W6.heap.size W17 pg 1 l'.length) := MG.out.next hb
  have YY : Hid (IR W16.heap.size W17.heap.size W17 (some ⟨gz, 0, none⟩) l) := hM.ir
  clear hb hM
  go_wp2_with fail
  refine (HCI.out hn W17 _ _ _ YY.out.mr.row).mono ?_
  rintro r W18 ⟨ph, ch, rfl, hM, hb⟩
  replace HB : Hid (Below w.heap.size w W18) := HB.out.trans (hb.mono HB.out.size)
  replace BA : Hid (Box W18 w.heap.size [.int .i64 e, .int .i64 o, .int .i64 a, .int .i64 b, .int .i64 c, .slice p l.length q]) := BA.out.next hb
  replace RA : Hid (GRow lo W18 p (flatD l)) := HR.out.next HB.out
  replace RW : Hid (IR W2.heap.size W3.heap.size W18 pw l') := RW.out.next hb
  replace BW : Hid (Box W18 W3.heap.size [.int .i64 e', .int .i64 o', .int .i64 a', .int .i64 b', .int .i64 c', .slice pw l'.length cw]) := BW.out.next hb
  replace BX : Hid (Box W18 W5.heap.size [.int .i64 e, .int .i64 o, .int .i64 a, .int .i64 b, .int .i64 c, .slice (some ⟨gx, 0, none⟩) l.length l.length]) := BX.out.next hb
  replace BG : Hid (Box W18 W7.heap.size [.int .i64 e', .int .i64 o', .int .i64 a', .int .i64 b', .int .i64 c', .slice pg l'.length cg]) := BG.out.next hb
  replace MG : Hid (MkR W6.heap.size W18 pg 1 l'.length) := MG.out.next hb
  replace YY : Hid (IR W16.heap.size W17.heap.size W18 (some ⟨gz, 0, none⟩) l) := YY.out.next hb
  have RH : Hid (IR W17.heap.size W18.heap.size W18 ph l') := hM.ir
  clear hb hM YY
  go_upto_region 25 with fail
  refine wp_gen (fun W => Below w.heap.size w W ∧ Box W w.heap.size [.int .i64 e, .int .i64 o, .int .i64 a, .int .i64 b, .int .i64 c, .slice p l.length q] ∧ GRow lo W p (flatD l) ∧ IR W2.heap.size W3.heap.size W pw l' ∧ Box W W3.heap.size [.int .i64 e', .int .i64 o', .int .i64 a', .int .i64 b', .int .i64 c', .slice pw l'.length cw] ∧ Box W W5.heap.size [.int .i64 e, .int .i64 o, .int .i64 a, .int .i64 b, .int .i64 c, .slice (some ⟨gx, 0, none⟩) l.length l.length] ∧ Box W W7.heap.size [.int .i64 e', .int .i64 o', .int .i64 a', .int .i64 b', .int .i64 c', .slice pg l'.length cg] ∧ MkR W6.heap.size W pg 1 l'.length ∧ IR W17.heap.size W18.heap.size W ph l' ∧ Box W W18.heap.size [.int .i64 e', .int .i64 o', .int .i64 a', .int .i64 b', .int .i64 c', .slice ph l'.length ch]) ⟨HB.out.trans ((bel_alloc _ _).mono HB.out.size), BA.out.next (bel_alloc _ _), HR.out.next (HB.out.trans ((bel_alloc _ _).mono HB.out.size)), RW.out.next (bel_alloc _ _), BW.out.next (bel_alloc _ _), BX.out.next (bel_alloc _ _), BG.out.next (bel_alloc _ _), MG.out.next (bel_alloc _ _), RH.out.next (bel_alloc _ _), box_mk⟩ (fun W19 hI => ?_)
  obtain ⟨iHB, iBA, iRA, iRW, iBW, iBX, iBG, iMG, iRH, iBH⟩ := hI
  replace HB : Hid (Below w.heap.size w W19) := iHB
  replace BA : Hid (Box W19 w.heap.size [.int .i64 e, .int .i64 o, .int .i64 a, .int .i64 b, .int .i64 c, .slice p l.length q]) := iBA
  replace RA : Hid (GRow lo W19 p (flatD l)) := iRA
  replace RW : Hid (IR W2.heap.size W3.heap.size W19 pw l') := iRW
  replace BW : Hid (Box W19 W3.heap.size [.int .i64 e', .int .i64 o', .int .i64 a', .int .i64 b', .int .i64 c', .slice pw l'.length cw]) := iBW
  replace BX : Hid (Box W19 W5.heap.size [.int .i64 e, .int .i64 o, .int .i64 a, .int .i64 b, .int .i64 c, .slice (some ⟨gx, 0, none⟩) l.length l.length]) := iBX
  replace BG : Hid (Box W19 W7.heap.size [.int .i64 e', .int .i64 o', .int .i64 a', .int .i64 b', .int .i64 c', .slice pg l'.length cg]) := iBG
  replace MG : Hid (MkR W6.heap.size W19 pg 1 l'.length) := iMG
  replace RH : Hid (IR W17.heap.size W18.heap.size W19 ph l') := iRH
  have BH : Hid (Box W19 W18.heap.size [.int .i64 e', .int .i64 o', .int .i64 a', .int .i64 b', .int .i64 c', .slice ph l'.length ch]) := iBH
  clear iHB iBA iRA iRW iBW iBX iBG iMG iRH iBH
  have OBH : Hid (W18.heap.size < W19.heap.size) := BH.out.lt
  obtain ⟨BH0, BH1, BH2, BH3, BH4, BH5⟩ := BH.out.c6
  obtain ⟨BW0, BW1, BW2, BW3, BW4, BW5⟩ := BW.out.c6
  go_wp2_with fail
  refine (eqG_same _ _ _ _ _ _ l' e' o' a' b' c' _ (by omega) RH.out.mr.row RW.out.mr.row).mono ?_
  rintro r W20 ⟨rfl, hb⟩
  clear BH0 BH1 BH2 BH3 BH4 BH5
  clear BW0 BW1 BW2 BW3 BW4 BW5
  replace HB : Hid (Below w.heap.size w W20) := HB.out.trans (hb.mono HB.out.size)
  replace BA : Hid (Box W20 w.heap.size [.int .i64 e, .int .i64 o, .int .i64 a, .int .i64 b, .int .i64 c, .slice p l.length q]) := BA.out.next hb
  replace RA : Hid (GRow lo W20 p (flatD l)) := HR.out.next HB.out
  replace RW : Hid (IR W2.heap.size W3.heap.size W20 pw l') := RW.out.next hb
  replace BW : Hid (Box W20 W3.heap.size [.int .i64 e', .int .i64 o', .int .i64 a', .int .i64 b', .int .i64 c', .slice pw l'.length cw]) := BW.out.next hb
  replace BX : Hid (Box W20 W5.heap.size [.int .i64 e, .int .i64 o, .int .i64 a, .int .i64 b, .int .i64 c, .slice (some ⟨gx, 0, none⟩) l.length l.length]) := BX.out.next hb
  replace BG : Hid (Box W20 W7.heap.size [.int .i64 e', .int .i64 o', .int .i64 a', .int .i64 b', .int .i64 c', .slice pg l'.length cg]) := BG.out.next hb
  replace MG : Hid (MkR W6.heap.size W20 pg 1 l'.length) := MG.out.next hb
  replace RH : Hid (IR W17.heap.size W18.heap.size W20 ph l') := RH.out.next hb
  replace BH : Hid (Box W20 W18.heap.size [.int .i64 e', .int .i64 o', .int .i64 a', .int .i64 b', .int .i64 c', .slice ph l'.length ch]) := BH.out.next hb
  clear hb
  obtain ⟨BG0, BG1, BG2, BG3, BG4, BG5⟩ := BG.out.c6
  go_wp2_with fail
  refine (heldG_any W6.heap.size l'.length _ pg e' o' a' b' c' 1 _ (by omega) (by omega) (by omega) MG.out).mono ?_
  rintro r W21 ⟨rfl, hb⟩
  clear BG0 BG1 BG2 BG3 BG4 BG5
  replace HB : Hid (Below w.heap.size w W21) := HB.out.trans (hb.mono HB.out.size)
  replace BA : Hid (Box W21 w.heap.size [.int .i64 e, .int .i64 o, .int .i64 a, .int .i64 b, .int .i64 c, .slice p l.length q]) := BA.out.next hb
  replace RA : Hid (GRow lo W21 p (flatD l)) := HR.out.next HB.out
  replace RW : Hid (IR W2.heap.size W3.heap.size W21 pw l') := RW.out.next hb
  replace BW : Hid (Box W21 W3.heap.size [.int .i64 e', .int .i64 o', .int .i64 a', .int .i64 b', .int .i64 c', .slice pw l'.length cw]) := BW.out.next hb
  replace BX : Hid (Box W21 W5.heap.size [.int .i64 e, .int .i64 o, .int .i64 a, .int .i64 b, .int .i64 c, .slice (some ⟨gx, 0, none⟩) l.length l.length]) := BX.out.next hb
  replace BG : Hid (Box W21 W7.heap.size [.int .i64 e', .int .i64 o', .int .i64 a', .int .i64 b', .int .i64 c', .slice pg l'.length cg]) := BG.out.next hb
  replace MG : Hid (MkR W6.heap.size W21 pg 1 l'.length) := MG.out.next hb
  replace RH : Hid (IR W17.heap.size W18.heap.size W21 ph l') := RH.out.next hb
  replace BH : Hid (Box W21 W18.heap.size [.int .i64 e', .int .i64 o', .int .i64 a', .int .i64 b', .int .i64 c', .slice ph l'.length ch]) := BH.out.next hb
  clear hb
  rw [← HKQ.out]
  clear HCS HCI BA BW BX BG BH RA RW RH MG HR
  go_wp2
  go_ret
  exact ⟨rfl, HB.out⟩
end Go.Proofs.Ytklajcdlacemaaa
