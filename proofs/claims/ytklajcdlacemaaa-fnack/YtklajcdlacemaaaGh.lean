/- A group is drawn. -/
import Derived.Test.YtklajcdlacemaaaRows
import Derived.WalkKit
import Derived.WalkSpells
import Derived.WalkLawsBesides
import Derived.Deep.QuietTactic
import Derived.BigQuiet
import Derived.Deep.RegionHeld3
import Derived.Test.YtklajcdlacemaaaGg
import Derived.Test.YtklajcdlacemaaaGy
import Derived.LoopN
import Derived.Deep.Cut
namespace Go.Proofs.Ytklajcdlacemaaa
open Go.RowKit
set_option linter.unusedSimpArgs false
set_option linter.unusedVariables false

/-- What the drawing of a group keeps. -/
structure GD (w W : World) (gs gr : Nat) (ao : Option Addr) (len cap : Nat) (zs : List Int) (k e o a b c : Int) (p : Option Addr) (n q : Nat) : Prop where
  src : ∃ s, SrcAt W gs ao len cap k s
  row : Gen.IsRow .u8 W ao len cap zs
  box : Box W gr [.int .i64 e, .int .i64 o, .int .i64 a, .int .i64 b, .int .i64 c, .slice p n q]
  ans : Box W w.heap.size [.int .i64 0, .int .i64 0, .int .i64 0, .int .i64 0, .int .i64 0, .slice none 0 0]
  lt : gs < w.heap.size ∧ w.heap.size < gr
  grown : w.grownBy W (some gs)
theorem SrcAt.kp {W W' : World} {E : Nat → Prop} {gs : Nat} {ao : Option Addr} {len cap : Nat} {k s : Int} (h : SrcAt W gs ao len cap k s) (q : Kp E W W') (hn : ¬ E gs) : SrcAt W' gs ao len cap k s := by
  obtain ⟨c0, c1, c2, f1, f2, hg, hs⟩ := h
  have e := q.block gs hg hn
  exact ⟨by rw [World.cell?_of_block (w := W) e]; exact c0, by rw [World.cell?_of_block (w := W) e]; exact c1, by rw [World.cell?_of_block (w := W) e]; exact c2, by rw [World.frozen?_of_block (w := W) e]; exact f1, by rw [World.frozen?_of_block (w := W) e]; exact f2, Nat.lt_of_lt_of_le hg q.size, hs⟩
section
variable {w W W' : World} {gs gr : Nat} {ao : Option Addr} {len cap : Nat} {zs : List Int} {k k' e o a b c e' o' a' b' c' : Int} {p p' : Option Addr} {n q n' q' : Nat}
theorem GD.next (h : GD w W gs gr ao len cap zs k e o a b c p n q) (hb : Below W.heap.size W W') : GD w W' gs gr ao len cap zs k e o a b c p n q := by
  obtain ⟨s, c0, c1, c2, f1, f2, hg, hs⟩ := h.src
  exact ⟨⟨s, cell_next hb c0 hg, cell_next hb c1 hg, cell_next hb c2 hg, frozen_next hb f1 hg, frozen_next hb f2 hg, Nat.lt_of_lt_of_le hg hb.size, hs⟩, row_below h.row hb, h.box.next hb, h.ans.next hb, h.lt, gb_trans h.grown (gb_below hb)⟩
theorem GD.by (h : GD w W gs gr ao len cap zs k e o a b c p n q) (hn : ∀ x, ao = some x → 0 < cap → x.block ≠ gs) (hG : W.grownBy W' (some gs)) (hS : ∃ s, SrcAt W' gs ao len cap k' s) : GD w W' gs gr ao len cap zs k' e o a b c p n q := by
  have h1 := h.lt
  exact ⟨hS, row_grown h.row hn hG, h.box.kp (Kp.of_grown hG) (by omega), h.ans.kp (Kp.of_grown hG) (by omega), h.lt, gb_trans h.grown hG⟩
theorem GD.kp {g : Nat} (h : GD w W gs gr ao len cap zs k e o a b c p n q) (y : Kp (fun b => g ≤ b ∧ b < g + 1) W W') (hg : w.heap.size < g) (hr : ∀ x, ao = some x → 0 < cap → x.block < w.heap.size) (hb : Box W' gr [.int .i64 e', .int .i64 o', .int .i64 a', .int .i64 b', .int .i64 c', .slice p' n' q']) : GD w W' gs gr ao len cap zs k e' o' a' b' c' p' n' q' := by
  obtain ⟨s, hS⟩ := h.src
  have h1 := h.lt
  refine ⟨⟨s, hS.kp y (by omega)⟩, row_kept h.row (fun x i v hx hc hv => ?_), hb, h.ans.kp y (by omega), h.lt, ⟨y.os.trans h.grown.os, y.tape.trans h.grown.tape, y.output.trans h.grown.output, Nat.le_trans h.grown.size y.size, fun b hb' hne => (y.block b (Nat.lt_of_lt_of_le hb' h.grown.size) (by omega)).trans (h.grown.block b hb' hne)⟩⟩
  have h2 := hr x hx hc
  have h3 := cell_lt hv
  rw [World.cell?_of_block (w := W) (y.block _ h3 (by rw [add_block]; omega))]
  exact hv
end

/-- What drawing a group leaves. -/
def GrP (w : World) (gs : Nat) (r : Ending) (w' : World) : Prop := ∃ (e o a b c : Int) (l : List Dt) (p : Option Addr) (q : Nat), r = .returned (.agg #[.int .i64 e, .int .i64 o, .int .i64 a, .int .i64 b, .int .i64 c, .slice p l.length q]) ∧ GRow (gs + 1) w' p (flatD l) ∧ GI 8 a b c l ∧ (1 ≤ e ∧ e ≤ 3) ∧ (0 ≤ o ∧ o < 3) ∧ w.grownBy w' (some gs)
theorem gb_in {w W : World} {gs g i : Nat} {u : Value} (h : w.grownBy W (some gs)) (hg : w.heap.size ≤ g) : w.grownBy (W.setCell ⟨g, i, none⟩ u) (some gs) := grown_then h (grown_set W g i u) (fun j hj => by cases hj; exact .inl hg)

set_option maxRecDepth 100000 in
set_option maxHeartbeats 8000000 in
theorem group_any (gs len cap : Nat) (ao : Option Addr) (zs : List Int) (s0 : Int) (w : World) (hs0 : SrcAt w gs ao len cap 0 s0) (hr0 : Gen.IsRow .u8 w ao len cap zs) (hn : ∀ x, ao = some x → 0 < cap → x.block ≠ gs) (hrl : ∀ x, ao = some x → 0 < cap → x.block < w.heap.size) (hl : (len : Int) ≤ 1048576) :
    Calls Try.prog 26 #[.pointer (some ⟨gs, 0, none⟩)] w (GrP w gs) := by
  have HN : Hid (∀ x, ao = some x → 0 < cap → x.block ≠ gs) := hn
  have HRL : Hid (∀ x, ao = some x → 0 < cap → x.block < w.heap.size) := hrl
  have H0 : Hid (SrcAt w gs ao len cap 0 s0 ∧ Gen.IsRow .u8 w ao len cap zs) := ⟨hs0, hr0⟩
  clear hn hrl hs0 hr0
  go_enter Try.func26, Try.ntmps26
  go_wp2_with fail
  refine (specNew _).mono ?_
  rintro r W0 ⟨g0, rfl, hb⟩
  have A0 : Hid (SrcAt W0 gs ao len cap 0 s0 ∧ Gen.IsRow .u8 W0 ao len cap zs ∧ Box W0 w.heap.size [.int .i64 0, .int .i64 0, .int .i64 0, .int .i64 0, .int .i64 0, .slice none 0 0] ∧ Below w.heap.size w W0 ∧ gs < w.heap.size) := by
    have hba : Below w.heap.size w W0 := (bel_alloc _ _).trans (hb.mono (by simp))
    obtain ⟨c0, c1, c2, f1, f2, hg, hs⟩ := H0.out.1
    exact ⟨⟨cell_next hba c0 hg, cell_next hba c1 hg, cell_next hba c2 hg, frozen_next hba f1 hg, frozen_next hba f2 hg, Nat.lt_of_lt_of_le hg hba.size, hs⟩, row_below H0.out.2 hba, box_mk.next hb, hba, hg⟩
  clear hb H0
  go_upto_region 2 with fail
  refine wp_gen (fun W => GD w W gs W0.heap.size ao len cap zs 0 1 0 0 0 0 (some ⟨g0, 0, none⟩) 0 0) ?_ (fun W1 hI => ?_)
  · obtain ⟨h1, h2, h3, h4, h5⟩ := A0.out
    exact ⟨⟨s0, h1.alloc⟩, row_below h2 (bel_alloc _ _), box_mk, h3.alloc, ⟨h5, h3.lt⟩, gb_trans (gb_below h4) (gb_below (bel_alloc _ _))⟩
  clear A0
  generalize W0.heap.size = gr at *
  have HD : Hid (GD w W1 gs gr ao len cap zs 0 1 0 0 0 0 (some ⟨g0, 0, none⟩) 0 0) := hI
  clear hI
  obtain ⟨s, hs⟩ := HD.out.src
  go_wp2_with fail
  refine (next_any gs len cap ao zs 0 s 9 (by omega) (by omega) _ hs HD.out.row HN.out hl (by omega) (by omega)).mono ?_
  rintro r W2 ⟨n0, s', ⟨hn0, hn1⟩, rfl, hS, hG⟩
  replace HD : Hid (GD w W2 gs gr ao len cap zs (0 + 1) 1 0 0 0 0 (some ⟨g0, 0, none⟩) 0 0) := HD.out.by HN.out hG ⟨s', hS⟩
  clear hs hS hG
  obtain ⟨m, rfl⟩ : ∃ m : Nat, n0 = (m : Int) := ⟨n0.toNat, by omega⟩
  go_wp2_with fail
  go_loopw [4] (fun s4 wr => ∃ (j : Nat) (a b c : Int) (l : List Dt) (p : Option Addr) (q : Nat) (k : Int), j ≤ m ∧ (0 ≤ k ∧ k ≤ 10 + (m : Int) - j) ∧ s4 = .int .i64 (j : Int) ∧ GD w wr gs gr ao len cap zs k 1 0 a b c p l.length q ∧ GRow (gr + 1) wr p (flatD l) ∧ GI (8 - j) a b c l) (fun s4 _ => (intOf s4).toNat)
  case atStart => exact ⟨m, 0, 0, 0, [], _, _, 0 + 1, by omega, by omega, rfl, HD.out, .inl rfl, ⟨rfl, by simp, by simp, by simp, by simp⟩⟩
  case round =>
    clear HD
    obtain ⟨j, a, b, c, l, p, q, k, hj, hk, rfl, hD, hR, hI⟩ := hrel
    have HD : Hid (GD w wr gs gr ao len cap zs k 1 0 a b c p l.length q) := hD
    have RP : Hid (GRow (gr + 1) wr p (flatD l)) := hR
    have HI : Hid (GI (8 - j) a b c l) := hI
    clear hD hR hI
    by_cases hj0 : 0 < j
    · have hj1 : (0 : Int) < (j : Int) := by omega
      have hl4 : l.length < 4096 := by have := HI.out.len; omega
      obtain ⟨s, hs⟩ := HD.out.src
      go_wp2_with fail
      refine (next_any gs len cap ao zs k s 3 (by omega) (by omega) _ hs HD.out.row HN.out hl (by omega) (by omega)).mono ?_
      rintro r W2 ⟨n3, s', ⟨hm0, hm1⟩, rfl, hS, hG⟩
      have hgs := HD.out.lt
      replace RP : Hid (GRow (gr + 1) W2 p (flatD l)) := RP.out.keep (kept_grown hG (by have := HD.out.lt; omega))
      replace HD : Hid (GD w W2 gs gr ao len cap zs (k + 1) 1 0 a b c p l.length q) := HD.out.by HN.out hG ⟨s', hS⟩
      clear hs hS hG hgs
      obtain ⟨kq, hkq⟩ : ∃ kq, kq = k + 1 := ⟨_, rfl⟩
      rw [← hkq] at HD
      have h3 : n3 = 0 ∨ n3 = 1 ∨ n3 = 2 := by omega
      clear hm0 hm1
      obtain ⟨k, hkk⟩ : ∃ k2, k2 = kq := ⟨_, rfl⟩
      rw [← hkk] at HD
      have hk2 : 0 ≤ k ∧ k ≤ 10 + (m : Int) - ((j - 1 : Nat) : Int) := by omega
      clear hkk hkq hk
      rcases h3 with rfl | rfl | rfl
      · have hx : 0 ≤ a ∧ a ≤ 9999 := by have := HI.out.a0; omega
        have HI' : Hid (GI (8 - (j - 1)) (a + 1) b c (l ++ [⟨0, a + 1⟩])) := by
          have := HI.out.step0 (by omega)
          rw [show 8 - j + 1 = 8 - (j - 1) by omega] at this
          exact this
        have hw : IntKind.i64.wrap (a + 1) = a + 1 := by rw [IntKind.wrap_i64]; omega
        go_upto_region 6 with fail
        refine wp_region_held_drew (S := (fun w' => w'.cell? ⟨gr, 0, none⟩ = some (.int .i64 1) ∧ w'.cell? ⟨gr, 1, none⟩ = some (.int .i64 0) ∧ w'.cell? ⟨gr, 2, none⟩ = some (.int .i64 a) ∧ w'.cell? ⟨gr, 3, none⟩ = some (.int .i64 b) ∧ w'.cell? ⟨gr, 4, none⟩ = some (.int .i64 c) ∧ w'.cell? ⟨gr, 5, none⟩ = some (.slice p l.length q))) (by kernel_rfl) ?_ (fun hHeld => ?_)
        · (try dsimp only)
          exact (HD.out.box.next (bel_drew _)).c6
        replace HD : Hid (GD w W2.drew gs gr ao len cap zs k 1 0 a b c p l.length q) := HD.out.next (bel_drew _)
        replace RP : Hid (GRow (gr + 1) W2.drew p (flatD l)) := RP.out.next (bel_drew _)
        generalize W2.drew = W3 at *
        refine wTk 0 ?_
        refine wTk 1 ?_
        refine wTk 2 ?_
        refine wTk 3 ?_
        refine wTk 4 ?_
        refine wTk 5 ?_
        refine wTk 6 ?_
        refine wTk 7 ?_
        refine wTk 8 ?_
        refine wTk 9 ?_
        refine wRd2 10 15 (fun K hK => ?_) (fun K hK => ?_)
        · go_simp
          go_at_call 32
          refine (lack_ok0 (gr + 1) q p l 1 0 a b c W3 hx hl4 RP.out).mono ?_
          rintro r W4 ⟨po, co, rfl, hO, hb⟩
          (try simp only [])
          have OV : Hid (OwnG W4 31 2 (.slice po (l.length + 1) co) (l.length + 1) (flatD l ++ [.int .i64 0, .int .i64 (a + 1)]) W3.heap.size ∧ gr < W3.heap.size) := ⟨hO, HD.out.box.lt⟩
          replace HD : Hid (GD w W4 gs gr ao len cap zs k 1 0 a b c p l.length q) := HD.out.next hb
          clear hO hb RP
          refine wHk hK HD.out.box.c6 ?_
          clear hK K hHeld
          intro hHeld
          generalize W3.heap.size = lv at *
          refine wTk 11 ?_
          refine wTk 12 ?_
          refine wTk 13 ?_
          refine wTk 14 ?_
          refine wRd 15 (fun K hK => ?_)
          go_simp
          (try simp only [])
          have BZ : Hid (Box (W4.alloc (.cells #[.int .i64 0, .int .i64 0, .int .i64 0, .int .i64 0, .int .i64 0, .slice none 0 0] 27)) W4.heap.size [.int .i64 0, .int .i64 0, .int .i64 0, .int .i64 0, .int .i64 0, .slice none 0 0]) := box_mk
          have GZ : Hid (w.heap.size < W4.heap.size ∧ gr < W4.heap.size) := ⟨Nat.lt_trans HD.out.lt.2 HD.out.box.lt, HD.out.box.lt⟩
          have NV : Hid (∀ k, (Value.slice po (l.length + 1) co).ownBlock = some k → ¬ k = W4.heap.size) := fun k hk => by have := (OV.out.1.own.lt k hk).2; omega
          replace OV : Hid (OwnG (W4.alloc (.cells #[.int .i64 0, .int .i64 0, .int .i64 0, .int .i64 0, .int .i64 0, .slice none 0 0] 27)) 31 2 (.slice po (l.length + 1) co) (l.length + 1) (flatD l ++ [.int .i64 0, .int .i64 (a + 1)]) lv ∧ gr < lv) := ⟨OV.out.1.next (bel_alloc _ _), OV.out.2⟩
          replace HD : Hid (GD w (W4.alloc (.cells #[.int .i64 0, .int .i64 0, .int .i64 0, .int .i64 0, .int .i64 0, .slice none 0 0] 27)) gs gr ao len cap zs k 1 0 a b c p l.length q) := HD.out.next (bel_alloc _ _)
          refine wHk hK HD.out.box.c6 ?_
          clear hK K hHeld
          intro hHeld
          generalize W4.alloc (.cells #[.int .i64 0, .int .i64 0, .int .i64 0, .int .i64 0, .int .i64 0, .slice none 0 0] 27) = W5 at *
          generalize W4.heap.size = gz at *
          obtain ⟨z0, z1, z2, z3, z4, z5⟩ := BZ.out.c6
          obtain ⟨y0, y1, y2, y3, y4, y5⟩ := BZ.out.f6
          refine wRd 16 (fun K hK => ?_)
          go_simp
          (try simp only [])
          have kz : Kp (fun b => gz ≤ b ∧ b < gz + 1) W5 ((((((W5.setCell ⟨gz, 0, none⟩ (.int .i64 1)).setCell ⟨gz, 1, none⟩ (.int .i64 0)).setCell ⟨gz, 2, none⟩ (.int .i64 (a + 1))).setCell ⟨gz, 3, none⟩ (.int .i64 b)).setCell ⟨gz, 4, none⟩ (.int .i64 c)).setCell ⟨gz, 5, none⟩ (.slice po (l.length + 1) co)) := (((((Kp.set1 (g := gz)).trans1 Kp.set1).trans1 Kp.set1).trans1 Kp.set1).trans1 Kp.set1).trans1 Kp.set1
          have BY : Hid (Box ((((((W5.setCell ⟨gz, 0, none⟩ (.int .i64 1)).setCell ⟨gz, 1, none⟩ (.int .i64 0)).setCell ⟨gz, 2, none⟩ (.int .i64 (a + 1))).setCell ⟨gz, 3, none⟩ (.int .i64 b)).setCell ⟨gz, 4, none⟩ (.int .i64 c)).setCell ⟨gz, 5, none⟩ (.slice po (l.length + 1) co)) gz [.int .i64 1, .int .i64 0, .int .i64 (a + 1), .int .i64 b, .int .i64 c, .slice po (l.length + 1) co] ∧ OwnG ((((((W5.setCell ⟨gz, 0, none⟩ (.int .i64 1)).setCell ⟨gz, 1, none⟩ (.int .i64 0)).setCell ⟨gz, 2, none⟩ (.int .i64 (a + 1))).setCell ⟨gz, 3, none⟩ (.int .i64 b)).setCell ⟨gz, 4, none⟩ (.int .i64 c)).setCell ⟨gz, 5, none⟩ (.slice po (l.length + 1) co)) 31 2 (.slice po (l.length + 1) co) (l.length + 1) (flatD l ++ [.int .i64 0, .int .i64 (a + 1)]) lv ∧ gr < lv ∧ gr < gz) := ⟨BZ.out.s6, ((((((OV.out.1.kp Kp.set NV.out).kp Kp.set NV.out).kp Kp.set NV.out).kp Kp.set NV.out).kp Kp.set NV.out).kp Kp.set NV.out), OV.out.2, GZ.out.2⟩
          replace HD : Hid (GD w ((((((W5.setCell ⟨gz, 0, none⟩ (.int .i64 1)).setCell ⟨gz, 1, none⟩ (.int .i64 0)).setCell ⟨gz, 2, none⟩ (.int .i64 (a + 1))).setCell ⟨gz, 3, none⟩ (.int .i64 b)).setCell ⟨gz, 4, none⟩ (.int .i64 c)).setCell ⟨gz, 5, none⟩ (.slice po (l.length + 1) co)) gs gr ao len cap zs k 1 0 a b c p l.length q) := HD.out.kp kz GZ.out.1 HRL.out (HD.out.box.kp kz (by have := GZ.out; omega))
          refine hK.out _ _ HD.out.box.c6 (fun hHeld' => ?_)
          clear hK K hHeld z0 z1 z2 z3 z4 z5 y0 y1 y2 y3 y4 y5 kz BZ OV NV GZ
          have hHeld := hHeld'
          clear hHeld'
          refine wLy ?_
          refine wTk 17 ?_
          refine wTk 18 ?_
          refine wpAnyH_done (by kernel_rfl) ?_ _
          clear hHeld
          generalize ((((((W5.setCell ⟨gz, 0, none⟩ (.int .i64 1)).setCell ⟨gz, 1, none⟩ (.int .i64 0)).setCell ⟨gz, 2, none⟩ (.int .i64 (a + 1))).setCell ⟨gz, 3, none⟩ (.int .i64 b)).setCell ⟨gz, 4, none⟩ (.int .i64 c)).setCell ⟨gz, 5, none⟩ (.slice po (l.length + 1) co)) = WY at *
          obtain ⟨z0, z1, z2, z3, z4, z5⟩ := BY.out.1.c6
          obtain ⟨y0, y1, y2, y3, y4, y5⟩ := HD.out.box.c6
          obtain ⟨v0, v1, v2, v3, v4, v5⟩ := HD.out.box.f6
          go_wp2_with fail
          have kr : Kp (fun b => gr ≤ b ∧ b < gr + 1) WY ((((((WY.setCell ⟨gr, 0, none⟩ (.int .i64 1)).setCell ⟨gr, 1, none⟩ (.int .i64 0)).setCell ⟨gr, 2, none⟩ (.int .i64 (a + 1))).setCell ⟨gr, 3, none⟩ (.int .i64 b)).setCell ⟨gr, 4, none⟩ (.int .i64 c)).setCell ⟨gr, 5, none⟩ (.slice po (l.length + 1) co)) := (((((Kp.set1 (g := gr)).trans1 Kp.set1).trans1 Kp.set1).trans1 Kp.set1).trans1 Kp.set1).trans1 Kp.set1
          have HE : Hid (GD w ((((((WY.setCell ⟨gr, 0, none⟩ (.int .i64 1)).setCell ⟨gr, 1, none⟩ (.int .i64 0)).setCell ⟨gr, 2, none⟩ (.int .i64 (a + 1))).setCell ⟨gr, 3, none⟩ (.int .i64 b)).setCell ⟨gr, 4, none⟩ (.int .i64 c)).setCell ⟨gr, 5, none⟩ (.slice po (l.length + 1) co)) gs gr ao len cap zs k 1 0 (a + 1) b c po (l.length + 1) co ∧ GRow (gr + 1) ((((((WY.setCell ⟨gr, 0, none⟩ (.int .i64 1)).setCell ⟨gr, 1, none⟩ (.int .i64 0)).setCell ⟨gr, 2, none⟩ (.int .i64 (a + 1))).setCell ⟨gr, 3, none⟩ (.int .i64 b)).setCell ⟨gr, 4, none⟩ (.int .i64 c)).setCell ⟨gr, 5, none⟩ (.slice po (l.length + 1) co)) po (flatD (l ++ [⟨0, a + 1⟩]))) := by
            have h1 := BY.out.2.2.1
            have h2 := HD.out.lt
            have q0 : ∀ k, (Value.slice po (l.length + 1) co).ownBlock = some k → ¬ k = gr := fun k hk => by have := BY.out.2.1.ge k hk; omega
            refine ⟨HD.out.kp kr HD.out.lt.2 HRL.out HD.out.box.s6, ?_⟩
            obtain ⟨_, _, e1, _, hg⟩ := ((((((BY.out.2.1.kp Kp.set q0).kp Kp.set q0).kp Kp.set q0).kp Kp.set q0).kp Kp.set q0).kp Kp.set q0).grow
            cases e1
            rw [flatD_app]
            exact hg.weak (by omega)
          clear z0 z1 z2 z3 z4 z5 y0 y1 y2 y3 y4 y5 v0 v1 v2 v3 v4 v5 kr HD BY
          go_roundw
          case rel => exact ⟨j - 1, (a + 1), b, c, l ++ [⟨0, a + 1⟩], po, co, k, by omega, hk2, by go_num, by rw [show (l ++ [(⟨0, a + 1⟩ : Dt)]).length = l.length + 1 by simp]; exact HE.out.1, HE.out.2, HI'.out⟩
          case measure => simp [intOf]; omega
        · go_simp
          (try simp only [])
          have BZ : Hid (Box (W3.alloc (.cells #[.int .i64 0, .int .i64 0, .int .i64 0, .int .i64 0, .int .i64 0, .slice none 0 0] 27)) W3.heap.size [.int .i64 0, .int .i64 0, .int .i64 0, .int .i64 0, .int .i64 0, .slice none 0 0]) := box_mk
          have GZ : Hid (w.heap.size < W3.heap.size ∧ gr < W3.heap.size) := ⟨Nat.lt_trans HD.out.lt.2 HD.out.box.lt, HD.out.box.lt⟩
          replace RP : Hid (GRow (gr + 1) (W3.alloc (.cells #[.int .i64 0, .int .i64 0, .int .i64 0, .int .i64 0, .int .i64 0, .slice none 0 0] 27)) p (flatD l)) := RP.out.next (bel_alloc _ _)
          replace HD : Hid (GD w (W3.alloc (.cells #[.int .i64 0, .int .i64 0, .int .i64 0, .int .i64 0, .int .i64 0, .slice none 0 0] 27)) gs gr ao len cap zs k 1 0 a b c p l.length q) := HD.out.next (bel_alloc _ _)
          refine wHk hK HD.out.box.c6 ?_
          clear hK K hHeld
          intro hHeld
          generalize W3.alloc (.cells #[.int .i64 0, .int .i64 0, .int .i64 0, .int .i64 0, .int .i64 0, .slice none 0 0] 27) = W4 at *
          generalize W3.heap.size = gz at *
          refine wRd 10 (fun K hK => ?_)
          go_simp
          go_at_call 32
          refine (lack_ok0 (gr + 1) q p l 1 0 a b c W4 hx hl4 RP.out).mono ?_
          rintro r W5 ⟨po, co, rfl, hO, hb⟩
          (try simp only [])
          have OV : Hid (OwnG W5 31 2 (.slice po (l.length + 1) co) (l.length + 1) (flatD l ++ [.int .i64 0, .int .i64 (a + 1)]) W4.heap.size ∧ gr < W4.heap.size) := ⟨hO, HD.out.box.lt⟩
          have NV : Hid (∀ k, (Value.slice po (l.length + 1) co).ownBlock = some k → ¬ k = gz) := fun k hk => by have := hO.ge k hk; have := BZ.out.lt; omega
          replace BZ : Hid (Box W5 gz [.int .i64 0, .int .i64 0, .int .i64 0, .int .i64 0, .int .i64 0, .slice none 0 0]) := BZ.out.next hb
          replace HD : Hid (GD w W5 gs gr ao len cap zs k 1 0 a b c p l.length q) := HD.out.next hb
          clear hO hb RP
          refine wHk hK HD.out.box.c6 ?_
          clear hK K hHeld
          intro hHeld
          generalize W4.heap.size = lv at *
          refine wTk 11 ?_
          refine wTk 12 ?_
          refine wTk 13 ?_
          refine wTk 14 ?_
          obtain ⟨z0, z1, z2, z3, z4, z5⟩ := BZ.out.c6
          obtain ⟨y0, y1, y2, y3, y4, y5⟩ := BZ.out.f6
          refine wRd 16 (fun K hK => ?_)
          go_simp
          (try simp only [])
          have kz : Kp (fun b => gz ≤ b ∧ b < gz + 1) W5 ((((((W5.setCell ⟨gz, 0, none⟩ (.int .i64 1)).setCell ⟨gz, 1, none⟩ (.int .i64 0)).setCell ⟨gz, 2, none⟩ (.int .i64 (a + 1))).setCell ⟨gz, 3, none⟩ (.int .i64 b)).setCell ⟨gz, 4, none⟩ (.int .i64 c)).setCell ⟨gz, 5, none⟩ (.slice po (l.length + 1) co)) := (((((Kp.set1 (g := gz)).trans1 Kp.set1).trans1 Kp.set1).trans1 Kp.set1).trans1 Kp.set1).trans1 Kp.set1
          have BY : Hid (Box ((((((W5.setCell ⟨gz, 0, none⟩ (.int .i64 1)).setCell ⟨gz, 1, none⟩ (.int .i64 0)).setCell ⟨gz, 2, none⟩ (.int .i64 (a + 1))).setCell ⟨gz, 3, none⟩ (.int .i64 b)).setCell ⟨gz, 4, none⟩ (.int .i64 c)).setCell ⟨gz, 5, none⟩ (.slice po (l.length + 1) co)) gz [.int .i64 1, .int .i64 0, .int .i64 (a + 1), .int .i64 b, .int .i64 c, .slice po (l.length + 1) co] ∧ OwnG ((((((W5.setCell ⟨gz, 0, none⟩ (.int .i64 1)).setCell ⟨gz, 1, none⟩ (.int .i64 0)).setCell ⟨gz, 2, none⟩ (.int .i64 (a + 1))).setCell ⟨gz, 3, none⟩ (.int .i64 b)).setCell ⟨gz, 4, none⟩ (.int .i64 c)).setCell ⟨gz, 5, none⟩ (.slice po (l.length + 1) co)) 31 2 (.slice po (l.length + 1) co) (l.length + 1) (flatD l ++ [.int .i64 0, .int .i64 (a + 1)]) lv ∧ gr < lv ∧ gr < gz) := ⟨BZ.out.s6, ((((((OV.out.1.kp Kp.set NV.out).kp Kp.set NV.out).kp Kp.set NV.out).kp Kp.set NV.out).kp Kp.set NV.out).kp Kp.set NV.out), OV.out.2, GZ.out.2⟩
          replace HD : Hid (GD w ((((((W5.setCell ⟨gz, 0, none⟩ (.int .i64 1)).setCell ⟨gz, 1, none⟩ (.int .i64 0)).setCell ⟨gz, 2, none⟩ (.int .i64 (a + 1))).setCell ⟨gz, 3, none⟩ (.int .i64 b)).setCell ⟨gz, 4, none⟩ (.int .i64 c)).setCell ⟨gz, 5, none⟩ (.slice po (l.length + 1) co)) gs gr ao len cap zs k 1 0 a b c p l.length q) := HD.out.kp kz GZ.out.1 HRL.out (HD.out.box.kp kz (by have := GZ.out; omega))
          refine hK.out _ _ HD.out.box.c6 (fun hHeld' => ?_)
          clear hK K hHeld z0 z1 z2 z3 z4 z5 y0 y1 y2 y3 y4 y5 kz BZ OV NV GZ
          have hHeld := hHeld'
          clear hHeld'
          refine wLy ?_
          refine wTk 17 ?_
          refine wTk 18 ?_
          refine wpAnyH_done (by kernel_rfl) ?_ _
          clear hHeld
          generalize ((((((W5.setCell ⟨gz, 0, none⟩ (.int .i64 1)).setCell ⟨gz, 1, none⟩ (.int .i64 0)).setCell ⟨gz, 2, none⟩ (.int .i64 (a + 1))).setCell ⟨gz, 3, none⟩ (.int .i64 b)).setCell ⟨gz, 4, none⟩ (.int .i64 c)).setCell ⟨gz, 5, none⟩ (.slice po (l.length + 1) co)) = WY at *
          obtain ⟨z0, z1, z2, z3, z4, z5⟩ := BY.out.1.c6
          obtain ⟨y0, y1, y2, y3, y4, y5⟩ := HD.out.box.c6
          obtain ⟨v0, v1, v2, v3, v4, v5⟩ := HD.out.box.f6
          go_wp2_with fail
          have kr : Kp (fun b => gr ≤ b ∧ b < gr + 1) WY ((((((WY.setCell ⟨gr, 0, none⟩ (.int .i64 1)).setCell ⟨gr, 1, none⟩ (.int .i64 0)).setCell ⟨gr, 2, none⟩ (.int .i64 (a + 1))).setCell ⟨gr, 3, none⟩ (.int .i64 b)).setCell ⟨gr, 4, none⟩ (.int .i64 c)).setCell ⟨gr, 5, none⟩ (.slice po (l.length + 1) co)) := (((((Kp.set1 (g := gr)).trans1 Kp.set1).trans1 Kp.set1).trans1 Kp.set1).trans1 Kp.set1).trans1 Kp.set1
          have HE : Hid (GD w ((((((WY.setCell ⟨gr, 0, none⟩ (.int .i64 1)).setCell ⟨gr, 1, none⟩ (.int .i64 0)).setCell ⟨gr, 2, none⟩ (.int .i64 (a + 1))).setCell ⟨gr, 3, none⟩ (.int .i64 b)).setCell ⟨gr, 4, none⟩ (.int .i64 c)).setCell ⟨gr, 5, none⟩ (.slice po (l.length + 1) co)) gs gr ao len cap zs k 1 0 (a + 1) b c po (l.length + 1) co ∧ GRow (gr + 1) ((((((WY.setCell ⟨gr, 0, none⟩ (.int .i64 1)).setCell ⟨gr, 1, none⟩ (.int .i64 0)).setCell ⟨gr, 2, none⟩ (.int .i64 (a + 1))).setCell ⟨gr, 3, none⟩ (.int .i64 b)).setCell ⟨gr, 4, none⟩ (.int .i64 c)).setCell ⟨gr, 5, none⟩ (.slice po (l.length + 1) co)) po (flatD (l ++ [⟨0, a + 1⟩]))) := by
            have h1 := BY.out.2.2.1
            have h2 := HD.out.lt
            have q0 : ∀ k, (Value.slice po (l.length + 1) co).ownBlock = some k → ¬ k = gr := fun k hk => by have := BY.out.2.1.ge k hk; omega
            refine ⟨HD.out.kp kr HD.out.lt.2 HRL.out HD.out.box.s6, ?_⟩
            obtain ⟨_, _, e1, _, hg⟩ := ((((((BY.out.2.1.kp Kp.set q0).kp Kp.set q0).kp Kp.set q0).kp Kp.set q0).kp Kp.set q0).kp Kp.set q0).grow
            cases e1
            rw [flatD_app]
            exact hg.weak (by omega)
          clear z0 z1 z2 z3 z4 z5 y0 y1 y2 y3 y4 y5 v0 v1 v2 v3 v4 v5 kr HD BY
          go_roundw
          case rel => exact ⟨j - 1, (a + 1), b, c, l ++ [⟨0, a + 1⟩], po, co, k, by omega, hk2, by go_num, by rw [show (l ++ [(⟨0, a + 1⟩ : Dt)]).length = l.length + 1 by simp]; exact HE.out.1, HE.out.2, HI'.out⟩
          case measure => simp [intOf]; omega
      · have hx : 0 ≤ b ∧ b ≤ 9999 := by have := HI.out.b0; omega
        have HI' : Hid (GI (8 - (j - 1)) a (b + 1) c (l ++ [⟨1, b + 1⟩])) := by
          have := HI.out.step1 (by omega)
          rw [show 8 - j + 1 = 8 - (j - 1) by omega] at this
          exact this
        have hw : IntKind.i64.wrap (b + 1) = b + 1 := by rw [IntKind.wrap_i64]; omega
        go_upto_region 6 with fail
        refine wp_region_held_drew (S := (fun w' => w'.cell? ⟨gr, 0, none⟩ = some (.int .i64 1) ∧ w'.cell? ⟨gr, 1, none⟩ = some (.int .i64 0) ∧ w'.cell? ⟨gr, 2, none⟩ = some (.int .i64 a) ∧ w'.cell? ⟨gr, 3, none⟩ = some (.int .i64 b) ∧ w'.cell? ⟨gr, 4, none⟩ = some (.int .i64 c) ∧ w'.cell? ⟨gr, 5, none⟩ = some (.slice p l.length q))) (by kernel_rfl) ?_ (fun hHeld => ?_)
        · (try dsimp only)
          exact (HD.out.box.next (bel_drew _)).c6
        replace HD : Hid (GD w W2.drew gs gr ao len cap zs k 1 0 a b c p l.length q) := HD.out.next (bel_drew _)
        replace RP : Hid (GRow (gr + 1) W2.drew p (flatD l)) := RP.out.next (bel_drew _)
        generalize W2.drew = W3 at *
        refine wTk 0 ?_
        refine wTk 1 ?_
        refine wTk 2 ?_
        refine wTk 3 ?_
        refine wTk 4 ?_
        refine wTk 5 ?_
        refine wTk 6 ?_
        refine wTk 7 ?_
        refine wTk 8 ?_
        refine wTk 9 ?_
        refine wRd2 10 15 (fun K hK => ?_) (fun K hK => ?_)
        · go_simp
          go_at_call 32
          refine (lack_ok1 (gr + 1) q p l 1 0 a b c W3 hx hl4 RP.out).mono ?_
          rintro r W4 ⟨po, co, rfl, hO, hb⟩
          (try simp only [])
          have OV : Hid (OwnG W4 31 2 (.slice po (l.length + 1) co) (l.length + 1) (flatD l ++ [.int .i64 1, .int .i64 (b + 1)]) W3.heap.size ∧ gr < W3.heap.size) := ⟨hO, HD.out.box.lt⟩
          replace HD : Hid (GD w W4 gs gr ao len cap zs k 1 0 a b c p l.length q) := HD.out.next hb
          clear hO hb RP
          refine wHk hK HD.out.box.c6 ?_
          clear hK K hHeld
          intro hHeld
          generalize W3.heap.size = lv at *
          refine wTk 11 ?_
          refine wTk 12 ?_
          refine wTk 13 ?_
          refine wTk 14 ?_
          refine wRd 15 (fun K hK => ?_)
          go_simp
          (try simp only [])
          have BZ : Hid (Box (W4.alloc (.cells #[.int .i64 0, .int .i64 0, .int .i64 0, .int .i64 0, .int .i64 0, .slice none 0 0] 27)) W4.heap.size [.int .i64 0, .int .i64 0, .int .i64 0, .int .i64 0, .int .i64 0, .slice none 0 0]) := box_mk
          have GZ : Hid (w.heap.size < W4.heap.size ∧ gr < W4.heap.size) := ⟨Nat.lt_trans HD.out.lt.2 HD.out.box.lt, HD.out.box.lt⟩
          have NV : Hid (∀ k, (Value.slice po (l.length + 1) co).ownBlock = some k → ¬ k = W4.heap.size) := fun k hk => by have := (OV.out.1.own.lt k hk).2; omega
          replace OV : Hid (OwnG (W4.alloc (.cells #[.int .i64 0, .int .i64 0, .int .i64 0, .int .i64 0, .int .i64 0, .slice none 0 0] 27)) 31 2 (.slice po (l.length + 1) co) (l.length + 1) (flatD l ++ [.int .i64 1, .int .i64 (b + 1)]) lv ∧ gr < lv) := ⟨OV.out.1.next (bel_alloc _ _), OV.out.2⟩
          replace HD : Hid (GD w (W4.alloc (.cells #[.int .i64 0, .int .i64 0, .int .i64 0, .int .i64 0, .int .i64 0, .slice none 0 0] 27)) gs gr ao len cap zs k 1 0 a b c p l.length q) := HD.out.next (bel_alloc _ _)
          refine wHk hK HD.out.box.c6 ?_
          clear hK K hHeld
          intro hHeld
          generalize W4.alloc (.cells #[.int .i64 0, .int .i64 0, .int .i64 0, .int .i64 0, .int .i64 0, .slice none 0 0] 27) = W5 at *
          generalize W4.heap.size = gz at *
          obtain ⟨z0, z1, z2, z3, z4, z5⟩ := BZ.out.c6
          obtain ⟨y0, y1, y2, y3, y4, y5⟩ := BZ.out.f6
          refine wRd 16 (fun K hK => ?_)
          go_simp
          (try simp only [])
          have kz : Kp (fun b => gz ≤ b ∧ b < gz + 1) W5 ((((((W5.setCell ⟨gz, 0, none⟩ (.int .i64 1)).setCell ⟨gz, 1, none⟩ (.int .i64 0)).setCell ⟨gz, 2, none⟩ (.int .i64 a)).setCell ⟨gz, 3, none⟩ (.int .i64 (b + 1))).setCell ⟨gz, 4, none⟩ (.int .i64 c)).setCell ⟨gz, 5, none⟩ (.slice po (l.length + 1) co)) := (((((Kp.set1 (g := gz)).trans1 Kp.set1).trans1 Kp.set1).trans1 Kp.set1).trans1 Kp.set1).trans1 Kp.set1
          have BY : Hid (Box ((((((W5.setCell ⟨gz, 0, none⟩ (.int .i64 1)).setCell ⟨gz, 1, none⟩ (.int .i64 0)).setCell ⟨gz, 2, none⟩ (.int .i64 a)).setCell ⟨gz, 3, none⟩ (.int .i64 (b + 1))).setCell ⟨gz, 4, none⟩ (.int .i64 c)).setCell ⟨gz, 5, none⟩ (.slice po (l.length + 1) co)) gz [.int .i64 1, .int .i64 0, .int .i64 a, .int .i64 (b + 1), .int .i64 c, .slice po (l.length + 1) co] ∧ OwnG ((((((W5.setCell ⟨gz, 0, none⟩ (.int .i64 1)).setCell ⟨gz, 1, none⟩ (.int .i64 0)).setCell ⟨gz, 2, none⟩ (.int .i64 a)).setCell ⟨gz, 3, none⟩ (.int .i64 (b + 1))).setCell ⟨gz, 4, none⟩ (.int .i64 c)).setCell ⟨gz, 5, none⟩ (.slice po (l.length + 1) co)) 31 2 (.slice po (l.length + 1) co) (l.length + 1) (flatD l ++ [.int .i64 1, .int .i64 (b + 1)]) lv ∧ gr < lv ∧ gr < gz) := ⟨BZ.out.s6, ((((((OV.out.1.kp Kp.set NV.out).kp Kp.set NV.out).kp Kp.set NV.out).kp Kp.set NV.out).kp Kp.set NV.out).kp Kp.set NV.out), OV.out.2, GZ.out.2⟩
          replace HD : Hid (GD w ((((((W5.setCell ⟨gz, 0, none⟩ (.int .i64 1)).setCell ⟨gz, 1, none⟩ (.int .i64 0)).setCell ⟨gz, 2, none⟩ (.int .i64 a)).setCell ⟨gz, 3, none⟩ (.int .i64 (b + 1))).setCell ⟨gz, 4, none⟩ (.int .i64 c)).setCell ⟨gz, 5, none⟩ (.slice po (l.length + 1) co)) gs gr ao len cap zs k 1 0 a b c p l.length q) := HD.out.kp kz GZ.out.1 HRL.out (HD.out.box.kp kz (by have := GZ.out; omega))
          refine hK.out _ _ HD.out.box.c6 (fun hHeld' => ?_)
          clear hK K hHeld z0 z1 z2 z3 z4 z5 y0 y1 y2 y3 y4 y5 kz BZ OV NV GZ
          have hHeld := hHeld'
          clear hHeld'
          refine wLy ?_
          refine wTk 17 ?_
          refine wTk 18 ?_
          refine wpAnyH_done (by kernel_rfl) ?_ _
          clear hHeld
          generalize ((((((W5.setCell ⟨gz, 0, none⟩ (.int .i64 1)).setCell ⟨gz, 1, none⟩ (.int .i64 0)).setCell ⟨gz, 2, none⟩ (.int .i64 a)).setCell ⟨gz, 3, none⟩ (.int .i64 (b + 1))).setCell ⟨gz, 4, none⟩ (.int .i64 c)).setCell ⟨gz, 5, none⟩ (.slice po (l.length + 1) co)) = WY at *
          obtain ⟨z0, z1, z2, z3, z4, z5⟩ := BY.out.1.c6
          obtain ⟨y0, y1, y2, y3, y4, y5⟩ := HD.out.box.c6
          obtain ⟨v0, v1, v2, v3, v4, v5⟩ := HD.out.box.f6
          go_wp2_with fail
          have kr : Kp (fun b => gr ≤ b ∧ b < gr + 1) WY ((((((WY.setCell ⟨gr, 0, none⟩ (.int .i64 1)).setCell ⟨gr, 1, none⟩ (.int .i64 0)).setCell ⟨gr, 2, none⟩ (.int .i64 a)).setCell ⟨gr, 3, none⟩ (.int .i64 (b + 1))).setCell ⟨gr, 4, none⟩ (.int .i64 c)).setCell ⟨gr, 5, none⟩ (.slice po (l.length + 1) co)) := (((((Kp.set1 (g := gr)).trans1 Kp.set1).trans1 Kp.set1).trans1 Kp.set1).trans1 Kp.set1).trans1 Kp.set1
          have HE : Hid (GD w ((((((WY.setCell ⟨gr, 0, none⟩ (.int .i64 1)).setCell ⟨gr, 1, none⟩ (.int .i64 0)).setCell ⟨gr, 2, none⟩ (.int .i64 a)).setCell ⟨gr, 3, none⟩ (.int .i64 (b + 1))).setCell ⟨gr, 4, none⟩ (.int .i64 c)).setCell ⟨gr, 5, none⟩ (.slice po (l.length + 1) co)) gs gr ao len cap zs k 1 0 a (b + 1) c po (l.length + 1) co ∧ GRow (gr + 1) ((((((WY.setCell ⟨gr, 0, none⟩ (.int .i64 1)).setCell ⟨gr, 1, none⟩ (.int .i64 0)).setCell ⟨gr, 2, none⟩ (.int .i64 a)).setCell ⟨gr, 3, none⟩ (.int .i64 (b + 1))).setCell ⟨gr, 4, none⟩ (.int .i64 c)).setCell ⟨gr, 5, none⟩ (.slice po (l.length + 1) co)) po (flatD (l ++ [⟨1, b + 1⟩]))) := by
            have h1 := BY.out.2.2.1
            have h2 := HD.out.lt
            have q0 : ∀ k, (Value.slice po (l.length + 1) co).ownBlock = some k → ¬ k = gr := fun k hk => by have := BY.out.2.1.ge k hk; omega
            refine ⟨HD.out.kp kr HD.out.lt.2 HRL.out HD.out.box.s6, ?_⟩
            obtain ⟨_, _, e1, _, hg⟩ := ((((((BY.out.2.1.kp Kp.set q0).kp Kp.set q0).kp Kp.set q0).kp Kp.set q0).kp Kp.set q0).kp Kp.set q0).grow
            cases e1
            rw [flatD_app]
            exact hg.weak (by omega)
          clear z0 z1 z2 z3 z4 z5 y0 y1 y2 y3 y4 y5 v0 v1 v2 v3 v4 v5 kr HD BY
          go_roundw
          case rel => exact ⟨j - 1, a, (b + 1), c, l ++ [⟨1, b + 1⟩], po, co, k, by omega, hk2, by go_num, by rw [show (l ++ [(⟨1, b + 1⟩ : Dt)]).length = l.length + 1 by simp]; exact HE.out.1, HE.out.2, HI'.out⟩
          case measure => simp [intOf]; omega
        · go_simp
          (try simp only [])
          have BZ : Hid (Box (W3.alloc (.cells #[.int .i64 0, .int .i64 0, .int .i64 0, .int .i64 0, .int .i64 0, .slice none 0 0] 27)) W3.heap.size [.int .i64 0, .int .i64 0, .int .i64 0, .int .i64 0, .int .i64 0, .slice none 0 0]) := box_mk
          have GZ : Hid (w.heap.size < W3.heap.size ∧ gr < W3.heap.size) := ⟨Nat.lt_trans HD.out.lt.2 HD.out.box.lt, HD.out.box.lt⟩
          replace RP : Hid (GRow (gr + 1) (W3.alloc (.cells #[.int .i64 0, .int .i64 0, .int .i64 0, .int .i64 0, .int .i64 0, .slice none 0 0] 27)) p (flatD l)) := RP.out.next (bel_alloc _ _)
          replace HD : Hid (GD w (W3.alloc (.cells #[.int .i64 0, .int .i64 0, .int .i64 0, .int .i64 0, .int .i64 0, .slice none 0 0] 27)) gs gr ao len cap zs k 1 0 a b c p l.length q) := HD.out.next (bel_alloc _ _)
          refine wHk hK HD.out.box.c6 ?_
          clear hK K hHeld
          intro hHeld
          generalize W3.alloc (.cells #[.int .i64 0, .int .i64 0, .int .i64 0, .int .i64 0, .int .i64 0, .slice none 0 0] 27) = W4 at *
          generalize W3.heap.size = gz at *
          refine wRd 10 (fun K hK => ?_)
          go_simp
          go_at_call 32
          refine (lack_ok1 (gr + 1) q p l 1 0 a b c W4 hx hl4 RP.out).mono ?_
          rintro r W5 ⟨po, co, rfl, hO, hb⟩
          (try simp only [])
          have OV : Hid (OwnG W5 31 2 (.slice po (l.length + 1) co) (l.length + 1) (flatD l ++ [.int .i64 1, .int .i64 (b + 1)]) W4.heap.size ∧ gr < W4.heap.size) := ⟨hO, HD.out.box.lt⟩
          have NV : Hid (∀ k, (Value.slice po (l.length + 1) co).ownBlock = some k → ¬ k = gz) := fun k hk => by have := hO.ge k hk; have := BZ.out.lt; omega
          replace BZ : Hid (Box W5 gz [.int .i64 0, .int .i64 0, .int .i64 0, .int .i64 0, .int .i64 0, .slice none 0 0]) := BZ.out.next hb
          replace HD : Hid (GD w W5 gs gr ao len cap zs k 1 0 a b c p l.length q) := HD.out.next hb
          clear hO hb RP
          refine wHk hK HD.out.box.c6 ?_
          clear hK K hHeld
          intro hHeld
          generalize W4.heap.size = lv at *
          refine wTk 11 ?_
          refine wTk 12 ?_
          refine wTk 13 ?_
          refine wTk 14 ?_
          obtain ⟨z0, z1, z2, z3, z4, z5⟩ := BZ.out.c6
          obtain ⟨y0, y1, y2, y3, y4, y5⟩ := BZ.out.f6
          refine wRd 16 (fun K hK => ?_)
          go_simp
          (try simp only [])
          have kz : Kp (fun b => gz ≤ b ∧ b < gz + 1) W5 ((((((W5.setCell ⟨gz, 0, none⟩ (.int .i64 1)).setCell ⟨gz, 1, none⟩ (.int .i64 0)).setCell ⟨gz, 2, none⟩ (.int .i64 a)).setCell ⟨gz, 3, none⟩ (.int .i64 (b + 1))).setCell ⟨gz, 4, none⟩ (.int .i64 c)).setCell ⟨gz, 5, none⟩ (.slice po (l.length + 1) co)) := (((((Kp.set1 (g := gz)).trans1 Kp.set1).trans1 Kp.set1).trans1 Kp.set1).trans1 Kp.set1).trans1 Kp.set1
          have BY : Hid (Box ((((((W5.setCell ⟨gz, 0, none⟩ (.int .i64 1)).setCell ⟨gz, 1, none⟩ (.int .i64 0)).setCell ⟨gz, 2, none⟩ (.int .i64 a)).setCell ⟨gz, 3, none⟩ (.int .i64 (b + 1))).setCell ⟨gz, 4, none⟩ (.int .i64 c)).setCell ⟨gz, 5, none⟩ (.slice po (l.length + 1) co)) gz [.int .i64 1, .int .i64 0, .int .i64 a, .int .i64 (b + 1), .int .i64 c, .slice po (l.length + 1) co] ∧ OwnG ((((((W5.setCell ⟨gz, 0, none⟩ (.int .i64 1)).setCell ⟨gz, 1, none⟩ (.int .i64 0)).setCell ⟨gz, 2, none⟩ (.int .i64 a)).setCell ⟨gz, 3, none⟩ (.int .i64 (b + 1))).setCell ⟨gz, 4, none⟩ (.int .i64 c)).setCell ⟨gz, 5, none⟩ (.slice po (l.length + 1) co)) 31 2 (.slice po (l.length + 1) co) (l.length + 1) (flatD l ++ [.int .i64 1, .int .i64 (b + 1)]) lv ∧ gr < lv ∧ gr < gz) := ⟨BZ.out.s6, ((((((OV.out.1.kp Kp.set NV.out).kp Kp.set NV.out).kp Kp.set NV.out).kp Kp.set NV.out).kp Kp.set NV.out).kp Kp.set NV.out), OV.out.2, GZ.out.2⟩
          replace HD : Hid (GD w ((((((W5.setCell ⟨gz, 0, none⟩ (.int .i64 1)).setCell ⟨gz, 1, none⟩ (.int .i64 0)).setCell ⟨gz, 2, none⟩ (.int .i64 a)).setCell ⟨gz, 3, none⟩ (.int .i64 (b + 1))).setCell ⟨gz, 4, none⟩ (.int .i64 c)).setCell ⟨gz, 5, none⟩ (.slice po (l.length + 1) co)) gs gr ao len cap zs k 1 0 a b c p l.length q) := HD.out.kp kz GZ.out.1 HRL.out (HD.out.box.kp kz (by have := GZ.out; omega))
          refine hK.out _ _ HD.out.box.c6 (fun hHeld' => ?_)
          clear hK K hHeld z0 z1 z2 z3 z4 z5 y0 y1 y2 y3 y4 y5 kz BZ OV NV GZ
          have hHeld := hHeld'
          clear hHeld'
          refine wLy ?_
          refine wTk 17 ?_
          refine wTk 18 ?_
          refine wpAnyH_done (by kernel_rfl) ?_ _
          clear hHeld
          generalize ((((((W5.setCell ⟨gz, 0, none⟩ (.int .i64 1)).setCell ⟨gz, 1, none⟩ (.int .i64 0)).setCell ⟨gz, 2, none⟩ (.int .i64 a)).setCell ⟨gz, 3, none⟩ (.int .i64 (b + 1))).setCell ⟨gz, 4, none⟩ (.int .i64 c)).setCell ⟨gz, 5, none⟩ (.slice po (l.length + 1) co)) = WY at *
          obtain ⟨z0, z1, z2, z3, z4, z5⟩ := BY.out.1.c6
          obtain ⟨y0, y1, y2, y3, y4, y5⟩ := HD.out.box.c6
          obtain ⟨v0, v1, v2, v3, v4, v5⟩ := HD.out.box.f6
          go_wp2_with fail
          have kr : Kp (fun b => gr ≤ b ∧ b < gr + 1) WY ((((((WY.setCell ⟨gr, 0, none⟩ (.int .i64 1)).setCell ⟨gr, 1, none⟩ (.int .i64 0)).setCell ⟨gr, 2, none⟩ (.int .i64 a)).setCell ⟨gr, 3, none⟩ (.int .i64 (b + 1))).setCell ⟨gr, 4, none⟩ (.int .i64 c)).setCell ⟨gr, 5, none⟩ (.slice po (l.length + 1) co)) := (((((Kp.set1 (g := gr)).trans1 Kp.set1).trans1 Kp.set1).trans1 Kp.set1).trans1 Kp.set1).trans1 Kp.set1
          have HE : Hid (GD w ((((((WY.setCell ⟨gr, 0, none⟩ (.int .i64 1)).setCell ⟨gr, 1, none⟩ (.int .i64 0)).setCell ⟨gr, 2, none⟩ (.int .i64 a)).setCell ⟨gr, 3, none⟩ (.int .i64 (b + 1))).setCell ⟨gr, 4, none⟩ (.int .i64 c)).setCell ⟨gr, 5, none⟩ (.slice po (l.length + 1) co)) gs gr ao len cap zs k 1 0 a (b + 1) c po (l.length + 1) co ∧ GRow (gr + 1) ((((((WY.setCell ⟨gr, 0, none⟩ (.int .i64 1)).setCell ⟨gr, 1, none⟩ (.int .i64 0)).setCell ⟨gr, 2, none⟩ (.int .i64 a)).setCell ⟨gr, 3, none⟩ (.int .i64 (b + 1))).setCell ⟨gr, 4, none⟩ (.int .i64 c)).setCell ⟨gr, 5, none⟩ (.slice po (l.length + 1) co)) po (flatD (l ++ [⟨1, b + 1⟩]))) := by
            have h1 := BY.out.2.2.1
            have h2 := HD.out.lt
            have q0 : ∀ k, (Value.slice po (l.length + 1) co).ownBlock = some k → ¬ k = gr := fun k hk => by have := BY.out.2.1.ge k hk; omega
            refine ⟨HD.out.kp kr HD.out.lt.2 HRL.out HD.out.box.s6, ?_⟩
            obtain ⟨_, _, e1, _, hg⟩ := ((((((BY.out.2.1.kp Kp.set q0).kp Kp.set q0).kp Kp.set q0).kp Kp.set q0).kp Kp.set q0).kp Kp.set q0).grow
            cases e1
            rw [flatD_app]
            exact hg.weak (by omega)
          clear z0 z1 z2 z3 z4 z5 y0 y1 y2 y3 y4 y5 v0 v1 v2 v3 v4 v5 kr HD BY
          go_roundw
          case rel => exact ⟨j - 1, a, (b + 1), c, l ++ [⟨1, b + 1⟩], po, co, k, by omega, hk2, by go_num, by rw [show (l ++ [(⟨1, b + 1⟩ : Dt)]).length = l.length + 1 by simp]; exact HE.out.1, HE.out.2, HI'.out⟩
          case measure => simp [intOf]; omega
      · have hx : 0 ≤ c ∧ c ≤ 9999 := by have := HI.out.c0; omega
        have HI' : Hid (GI (8 - (j - 1)) a b (c + 1) (l ++ [⟨2, c + 1⟩])) := by
          have := HI.out.step2 (by omega)
          rw [show 8 - j + 1 = 8 - (j - 1) by omega] at this
          exact this
        have hw : IntKind.i64.wrap (c + 1) = c + 1 := by rw [IntKind.wrap_i64]; omega
        go_upto_region 6 with fail
        refine wp_region_held_drew (S := (fun w' => w'.cell? ⟨gr, 0, none⟩ = some (.int .i64 1) ∧ w'.cell? ⟨gr, 1, none⟩ = some (.int .i64 0) ∧ w'.cell? ⟨gr, 2, none⟩ = some (.int .i64 a) ∧ w'.cell? ⟨gr, 3, none⟩ = some (.int .i64 b) ∧ w'.cell? ⟨gr, 4, none⟩ = some (.int .i64 c) ∧ w'.cell? ⟨gr, 5, none⟩ = some (.slice p l.length q))) (by kernel_rfl) ?_ (fun hHeld => ?_)
        · (try dsimp only)
          exact (HD.out.box.next (bel_drew _)).c6
        replace HD : Hid (GD w W2.drew gs gr ao len cap zs k 1 0 a b c p l.length q) := HD.out.next (bel_drew _)
        replace RP : Hid (GRow (gr + 1) W2.drew p (flatD l)) := RP.out.next (bel_drew _)
        generalize W2.drew = W3 at *
        refine wTk 0 ?_
        refine wTk 1 ?_
        refine wTk 2 ?_
        refine wTk 3 ?_
        refine wTk 4 ?_
        refine wTk 5 ?_
        refine wTk 6 ?_
        refine wTk 7 ?_
        refine wTk 8 ?_
        refine wTk 9 ?_
        refine wRd2 10 15 (fun K hK => ?_) (fun K hK => ?_)
        · go_simp
          go_at_call 32
          refine (lack_ok2 (gr + 1) q p l 1 0 a b c W3 hx hl4 RP.out).mono ?_
          rintro r W4 ⟨po, co, rfl, hO, hb⟩
          (try simp only [])
          have OV : Hid (OwnG W4 31 2 (.slice po (l.length + 1) co) (l.length + 1) (flatD l ++ [.int .i64 2, .int .i64 (c + 1)]) W3.heap.size ∧ gr < W3.heap.size) := ⟨hO, HD.out.box.lt⟩
          replace HD : Hid (GD w W4 gs gr ao len cap zs k 1 0 a b c p l.length q) := HD.out.next hb
          clear hO hb RP
          refine wHk hK HD.out.box.c6 ?_
          clear hK K hHeld
          intro hHeld
          generalize W3.heap.size = lv at *
          refine wTk 11 ?_
          refine wTk 12 ?_
          refine wTk 13 ?_
          refine wTk 14 ?_
          refine wRd 15 (fun K hK => ?_)
          go_simp
          (try simp only [])
          have BZ : Hid (Box (W4.alloc (.cells #[.int .i64 0, .int .i64 0, .int .i64 0, .int .i64 0, .int .i64 0, .slice none 0 0] 27)) W4.heap.size [.int .i64 0, .int .i64 0, .int .i64 0, .int .i64 0, .int .i64 0, .slice none 0 0]) := box_mk
          have GZ : Hid (w.heap.size < W4.heap.size ∧ gr < W4.heap.size) := ⟨Nat.lt_trans HD.out.lt.2 HD.out.box.lt, HD.out.box.lt⟩
          have NV : Hid (∀ k, (Value.slice po (l.length + 1) co).ownBlock = some k → ¬ k = W4.heap.size) := fun k hk => by have := (OV.out.1.own.lt k hk).2; omega
          replace OV : Hid (OwnG (W4.alloc (.cells #[.int .i64 0, .int .i64 0, .int .i64 0, .int .i64 0, .int .i64 0, .slice none 0 0] 27)) 31 2 (.slice po (l.length + 1) co) (l.length + 1) (flatD l ++ [.int .i64 2, .int .i64 (c + 1)]) lv ∧ gr < lv) := ⟨OV.out.1.next (bel_alloc _ _), OV.out.2⟩
          replace HD : Hid (GD w (W4.alloc (.cells #[.int .i64 0, .int .i64 0, .int .i64 0, .int .i64 0, .int .i64 0, .slice none 0 0] 27)) gs gr ao len cap zs k 1 0 a b c p l.length q) := HD.out.next (bel_alloc _ _)
          refine wHk hK HD.out.box.c6 ?_
          clear hK K hHeld
          intro hHeld
          generalize W4.alloc (.cells #[.int .i64 0, .int .i64 0, .int .i64 0, .int .i64 0, .int .i64 0, .slice none 0 0] 27) = W5 at *
          generalize W4.heap.size = gz at *
          obtain ⟨z0, z1, z2, z3, z4, z5⟩ := BZ.out.c6
          obtain ⟨y0, y1, y2, y3, y4, y5⟩ := BZ.out.f6
          refine wRd 16 (fun K hK => ?_)
          go_simp
          (try simp only [])
          have kz : Kp (fun b => gz ≤ b ∧ b < gz + 1) W5 ((((((W5.setCell ⟨gz, 0, none⟩ (.int .i64 1)).setCell ⟨gz, 1, none⟩ (.int .i64 0)).setCell ⟨gz, 2, none⟩ (.int .i64 a)).setCell ⟨gz, 3, none⟩ (.int .i64 b)).setCell ⟨gz, 4, none⟩ (.int .i64 (c + 1))).setCell ⟨gz, 5, none⟩ (.slice po (l.length + 1) co)) := (((((Kp.set1 (g := gz)).trans1 Kp.set1).trans1 Kp.set1).trans1 Kp.set1).trans1 Kp.set1).trans1 Kp.set1
          have BY : Hid (Box ((((((W5.setCell ⟨gz, 0, none⟩ (.int .i64 1)).setCell ⟨gz, 1, none⟩ (.int .i64 0)).setCell ⟨gz, 2, none⟩ (.int .i64 a)).setCell ⟨gz, 3, none⟩ (.int .i64 b)).setCell ⟨gz, 4, none⟩ (.int .i64 (c + 1))).setCell ⟨gz, 5, none⟩ (.slice po (l.length + 1) co)) gz [.int .i64 1, .int .i64 0, .int .i64 a, .int .i64 b, .int .i64 (c + 1), .slice po (l.length + 1) co] ∧ OwnG ((((((W5.setCell ⟨gz, 0, none⟩ (.int .i64 1)).setCell ⟨gz, 1, none⟩ (.int .i64 0)).setCell ⟨gz, 2, none⟩ (.int .i64 a)).setCell ⟨gz, 3, none⟩ (.int .i64 b)).setCell ⟨gz, 4, none⟩ (.int .i64 (c + 1))).setCell ⟨gz, 5, none⟩ (.slice po (l.length + 1) co)) 31 2 (.slice po (l.length + 1) co) (l.length + 1) (flatD l ++ [.int .i64 2, .int .i64 (c + 1)]) lv ∧ gr < lv ∧ gr < gz) := ⟨BZ.out.s6, ((((((OV.out.1.kp Kp.set NV.out).kp Kp.set NV.out).kp Kp.set NV.out).kp Kp.set NV.out).kp Kp.set NV.out).kp Kp.set NV.out), OV.out.2, GZ.out.2⟩
          replace HD : Hid (GD w ((((((W5.setCell ⟨gz, 0, none⟩ (.int .i64 1)).setCell ⟨gz, 1, none⟩ (.int .i64 0)).setCell ⟨gz, 2, none⟩ (.int .i64 a)).setCell ⟨gz, 3, none⟩ (.int .i64 b)).setCell ⟨gz, 4, none⟩ (.int .i64 (c + 1))).setCell ⟨gz, 5, none⟩ (.slice po (l.length + 1) co)) gs gr ao len cap zs k 1 0 a b c p l.length q) := HD.out.kp kz GZ.out.1 HRL.out (HD.out.box.kp kz (by have := GZ.out; omega))
          refine hK.out _ _ HD.out.box.c6 (fun hHeld' => ?_)
          clear hK K hHeld z0 z1 z2 z3 z4 z5 y0 y1 y2 y3 y4 y5 kz BZ OV NV GZ
          have hHeld := hHeld'
          clear hHeld'
          refine wLy ?_
          refine wTk 17 ?_
          refine wTk 18 ?_
          refine wpAnyH_done (by kernel_rfl) ?_ _
          clear hHeld
          generalize ((((((W5.setCell ⟨gz, 0, none⟩ (.int .i64 1)).setCell ⟨gz, 1, none⟩ (.int .i64 0)).setCell ⟨gz, 2, none⟩ (.int .i64 a)).setCell ⟨gz, 3, none⟩ (.int .i64 b)).setCell ⟨gz, 4, none⟩ (.int .i64 (c + 1))).setCell ⟨gz, 5, none⟩ (.slice po (l.length + 1) co)) = WY at *
          obtain ⟨z0, z1, z2, z3, z4, z5⟩ := BY.out.1.c6
          obtain ⟨y0, y1, y2, y3, y4, y5⟩ := HD.out.box.c6
          obtain ⟨v0, v1, v2, v3, v4, v5⟩ := HD.out.box.f6
          go_wp2_with fail
          have kr : Kp (fun b => gr ≤ b ∧ b < gr + 1) WY ((((((WY.setCell ⟨gr, 0, none⟩ (.int .i64 1)).setCell ⟨gr, 1, none⟩ (.int .i64 0)).setCell ⟨gr, 2, none⟩ (.int .i64 a)).setCell ⟨gr, 3, none⟩ (.int .i64 b)).setCell ⟨gr, 4, none⟩ (.int .i64 (c + 1))).setCell ⟨gr, 5, none⟩ (.slice po (l.length + 1) co)) := (((((Kp.set1 (g := gr)).trans1 Kp.set1).trans1 Kp.set1).trans1 Kp.set1).trans1 Kp.set1).trans1 Kp.set1
          have HE : Hid (GD w ((((((WY.setCell ⟨gr, 0, none⟩ (.int .i64 1)).setCell ⟨gr, 1, none⟩ (.int .i64 0)).setCell ⟨gr, 2, none⟩ (.int .i64 a)).setCell ⟨gr, 3, none⟩ (.int .i64 b)).setCell ⟨gr, 4, none⟩ (.int .i64 (c + 1))).setCell ⟨gr, 5, none⟩ (.slice po (l.length + 1) co)) gs gr ao len cap zs k 1 0 a b (c + 1) po (l.length + 1) co ∧ GRow (gr + 1) ((((((WY.setCell ⟨gr, 0, none⟩ (.int .i64 1)).setCell ⟨gr, 1, none⟩ (.int .i64 0)).setCell ⟨gr, 2, none⟩ (.int .i64 a)).setCell ⟨gr, 3, none⟩ (.int .i64 b)).setCell ⟨gr, 4, none⟩ (.int .i64 (c + 1))).setCell ⟨gr, 5, none⟩ (.slice po (l.length + 1) co)) po (flatD (l ++ [⟨2, c + 1⟩]))) := by
            have h1 := BY.out.2.2.1
            have h2 := HD.out.lt
            have q0 : ∀ k, (Value.slice po (l.length + 1) co).ownBlock = some k → ¬ k = gr := fun k hk => by have := BY.out.2.1.ge k hk; omega
            refine ⟨HD.out.kp kr HD.out.lt.2 HRL.out HD.out.box.s6, ?_⟩
            obtain ⟨_, _, e1, _, hg⟩ := ((((((BY.out.2.1.kp Kp.set q0).kp Kp.set q0).kp Kp.set q0).kp Kp.set q0).kp Kp.set q0).kp Kp.set q0).grow
            cases e1
            rw [flatD_app]
            exact hg.weak (by omega)
          clear z0 z1 z2 z3 z4 z5 y0 y1 y2 y3 y4 y5 v0 v1 v2 v3 v4 v5 kr HD BY
          go_roundw
          case rel => exact ⟨j - 1, a, b, (c + 1), l ++ [⟨2, c + 1⟩], po, co, k, by omega, hk2, by go_num, by rw [show (l ++ [(⟨2, c + 1⟩ : Dt)]).length = l.length + 1 by simp]; exact HE.out.1, HE.out.2, HI'.out⟩
          case measure => simp [intOf]; omega
        · go_simp
          (try simp only [])
          have BZ : Hid (Box (W3.alloc (.cells #[.int .i64 0, .int .i64 0, .int .i64 0, .int .i64 0, .int .i64 0, .slice none 0 0] 27)) W3.heap.size [.int .i64 0, .int .i64 0, .int .i64 0, .int .i64 0, .int .i64 0, .slice none 0 0]) := box_mk
          have GZ : Hid (w.heap.size < W3.heap.size ∧ gr < W3.heap.size) := ⟨Nat.lt_trans HD.out.lt.2 HD.out.box.lt, HD.out.box.lt⟩
          replace RP : Hid (GRow (gr + 1) (W3.alloc (.cells #[.int .i64 0, .int .i64 0, .int .i64 0, .int .i64 0, .int .i64 0, .slice none 0 0] 27)) p (flatD l)) := RP.out.next (bel_alloc _ _)
          replace HD : Hid (GD w (W3.alloc (.cells #[.int .i64 0, .int .i64 0, .int .i64 0, .int .i64 0, .int .i64 0, .slice none 0 0] 27)) gs gr ao len cap zs k 1 0 a b c p l.length q) := HD.out.next (bel_alloc _ _)
          refine wHk hK HD.out.box.c6 ?_
          clear hK K hHeld
          intro hHeld
          generalize W3.alloc (.cells #[.int .i64 0, .int .i64 0, .int .i64 0, .int .i64 0, .int .i64 0, .slice none 0 0] 27) = W4 at *
          generalize W3.heap.size = gz at *
          refine wRd 10 (fun K hK => ?_)
          go_simp
          go_at_call 32
          refine (lack_ok2 (gr + 1) q p l 1 0 a b c W4 hx hl4 RP.out).mono ?_
          rintro r W5 ⟨po, co, rfl, hO, hb⟩
          (try simp only [])
          have OV : Hid (OwnG W5 31 2 (.slice po (l.length + 1) co) (l.length + 1) (flatD l ++ [.int .i64 2, .int .i64 (c + 1)]) W4.heap.size ∧ gr < W4.heap.size) := ⟨hO, HD.out.box.lt⟩
          have NV : Hid (∀ k, (Value.slice po (l.length + 1) co).ownBlock = some k → ¬ k = gz) := fun k hk => by have := hO.ge k hk; have := BZ.out.lt; omega
          replace BZ : Hid (Box W5 gz [.int .i64 0, .int .i64 0, .int .i64 0, .int .i64 0, .int .i64 0, .slice none 0 0]) := BZ.out.next hb
          replace HD : Hid (GD w W5 gs gr ao len cap zs k 1 0 a b c p l.length q) := HD.out.next hb
          clear hO hb RP
          refine wHk hK HD.out.box.c6 ?_
          clear hK K hHeld
          intro hHeld
          generalize W4.heap.size = lv at *
          refine wTk 11 ?_
          refine wTk 12 ?_
          refine wTk 13 ?_
          refine wTk 14 ?_
          obtain ⟨z0, z1, z2, z3, z4, z5⟩ := BZ.out.c6
          obtain ⟨y0, y1, y2, y3, y4, y5⟩ := BZ.out.f6
          refine wRd 16 (fun K hK => ?_)
          go_simp
          (try simp only [])
          have kz : Kp (fun b => gz ≤ b ∧ b < gz + 1) W5 ((((((W5.setCell ⟨gz, 0, none⟩ (.int .i64 1)).setCell ⟨gz, 1, none⟩ (.int .i64 0)).setCell ⟨gz, 2, none⟩ (.int .i64 a)).setCell ⟨gz, 3, none⟩ (.int .i64 b)).setCell ⟨gz, 4, none⟩ (.int .i64 (c + 1))).setCell ⟨gz, 5, none⟩ (.slice po (l.length + 1) co)) := (((((Kp.set1 (g := gz)).trans1 Kp.set1).trans1 Kp.set1).trans1 Kp.set1).trans1 Kp.set1).trans1 Kp.set1
          have BY : Hid (Box ((((((W5.setCell ⟨gz, 0, none⟩ (.int .i64 1)).setCell ⟨gz, 1, none⟩ (.int .i64 0)).setCell ⟨gz, 2, none⟩ (.int .i64 a)).setCell ⟨gz, 3, none⟩ (.int .i64 b)).setCell ⟨gz, 4, none⟩ (.int .i64 (c + 1))).setCell ⟨gz, 5, none⟩ (.slice po (l.length + 1) co)) gz [.int .i64 1, .int .i64 0, .int .i64 a, .int .i64 b, .int .i64 (c + 1), .slice po (l.length + 1) co] ∧ OwnG ((((((W5.setCell ⟨gz, 0, none⟩ (.int .i64 1)).setCell ⟨gz, 1, none⟩ (.int .i64 0)).setCell ⟨gz, 2, none⟩ (.int .i64 a)).setCell ⟨gz, 3, none⟩ (.int .i64 b)).setCell ⟨gz, 4, none⟩ (.int .i64 (c + 1))).setCell ⟨gz, 5, none⟩ (.slice po (l.length + 1) co)) 31 2 (.slice po (l.length + 1) co) (l.length + 1) (flatD l ++ [.int .i64 2, .int .i64 (c + 1)]) lv ∧ gr < lv ∧ gr < gz) := ⟨BZ.out.s6, ((((((OV.out.1.kp Kp.set NV.out).kp Kp.set NV.out).kp Kp.set NV.out).kp Kp.set NV.out).kp Kp.set NV.out).kp Kp.set NV.out), OV.out.2, GZ.out.2⟩
          replace HD : Hid (GD w ((((((W5.setCell ⟨gz, 0, none⟩ (.int .i64 1)).setCell ⟨gz, 1, none⟩ (.int .i64 0)).setCell ⟨gz, 2, none⟩ (.int .i64 a)).setCell ⟨gz, 3, none⟩ (.int .i64 b)).setCell ⟨gz, 4, none⟩ (.int .i64 (c + 1))).setCell ⟨gz, 5, none⟩ (.slice po (l.length + 1) co)) gs gr ao len cap zs k 1 0 a b c p l.length q) := HD.out.kp kz GZ.out.1 HRL.out (HD.out.box.kp kz (by have := GZ.out; omega))
          refine hK.out _ _ HD.out.box.c6 (fun hHeld' => ?_)
          clear hK K hHeld z0 z1 z2 z3 z4 z5 y0 y1 y2 y3 y4 y5 kz BZ OV NV GZ
          have hHeld := hHeld'
          clear hHeld'
          refine wLy ?_
          refine wTk 17 ?_
          refine wTk 18 ?_
          refine wpAnyH_done (by kernel_rfl) ?_ _
          clear hHeld
          generalize ((((((W5.setCell ⟨gz, 0, none⟩ (.int .i64 1)).setCell ⟨gz, 1, none⟩ (.int .i64 0)).setCell ⟨gz, 2, none⟩ (.int .i64 a)).setCell ⟨gz, 3, none⟩ (.int .i64 b)).setCell ⟨gz, 4, none⟩ (.int .i64 (c + 1))).setCell ⟨gz, 5, none⟩ (.slice po (l.length + 1) co)) = WY at *
          obtain ⟨z0, z1, z2, z3, z4, z5⟩ := BY.out.1.c6
          obtain ⟨y0, y1, y2, y3, y4, y5⟩ := HD.out.box.c6
          obtain ⟨v0, v1, v2, v3, v4, v5⟩ := HD.out.box.f6
          go_wp2_with fail
          have kr : Kp (fun b => gr ≤ b ∧ b < gr + 1) WY ((((((WY.setCell ⟨gr, 0, none⟩ (.int .i64 1)).setCell ⟨gr, 1, none⟩ (.int .i64 0)).setCell ⟨gr, 2, none⟩ (.int .i64 a)).setCell ⟨gr, 3, none⟩ (.int .i64 b)).setCell ⟨gr, 4, none⟩ (.int .i64 (c + 1))).setCell ⟨gr, 5, none⟩ (.slice po (l.length + 1) co)) := (((((Kp.set1 (g := gr)).trans1 Kp.set1).trans1 Kp.set1).trans1 Kp.set1).trans1 Kp.set1).trans1 Kp.set1
          have HE : Hid (GD w ((((((WY.setCell ⟨gr, 0, none⟩ (.int .i64 1)).setCell ⟨gr, 1, none⟩ (.int .i64 0)).setCell ⟨gr, 2, none⟩ (.int .i64 a)).setCell ⟨gr, 3, none⟩ (.int .i64 b)).setCell ⟨gr, 4, none⟩ (.int .i64 (c + 1))).setCell ⟨gr, 5, none⟩ (.slice po (l.length + 1) co)) gs gr ao len cap zs k 1 0 a b (c + 1) po (l.length + 1) co ∧ GRow (gr + 1) ((((((WY.setCell ⟨gr, 0, none⟩ (.int .i64 1)).setCell ⟨gr, 1, none⟩ (.int .i64 0)).setCell ⟨gr, 2, none⟩ (.int .i64 a)).setCell ⟨gr, 3, none⟩ (.int .i64 b)).setCell ⟨gr, 4, none⟩ (.int .i64 (c + 1))).setCell ⟨gr, 5, none⟩ (.slice po (l.length + 1) co)) po (flatD (l ++ [⟨2, c + 1⟩]))) := by
            have h1 := BY.out.2.2.1
            have h2 := HD.out.lt
            have q0 : ∀ k, (Value.slice po (l.length + 1) co).ownBlock = some k → ¬ k = gr := fun k hk => by have := BY.out.2.1.ge k hk; omega
            refine ⟨HD.out.kp kr HD.out.lt.2 HRL.out HD.out.box.s6, ?_⟩
            obtain ⟨_, _, e1, _, hg⟩ := ((((((BY.out.2.1.kp Kp.set q0).kp Kp.set q0).kp Kp.set q0).kp Kp.set q0).kp Kp.set q0).kp Kp.set q0).grow
            cases e1
            rw [flatD_app]
            exact hg.weak (by omega)
          clear z0 z1 z2 z3 z4 z5 y0 y1 y2 y3 y4 y5 v0 v1 v2 v3 v4 v5 kr HD BY
          go_roundw
          case rel => exact ⟨j - 1, a, b, (c + 1), l ++ [⟨2, c + 1⟩], po, co, k, by omega, hk2, by go_num, by rw [show (l ++ [(⟨2, c + 1⟩ : Dt)]).length = l.length + 1 by simp]; exact HE.out.1, HE.out.2, HI'.out⟩
          case measure => simp [intOf]; omega
    · have hj1 : ¬ (0 : Int) < (j : Int) := by omega
      have hj2 : j = 0 := by omega
      subst hj2
      go_upto_region 8 with fail
      refine wp_region_held_drew (S := (fun _ => True)) (by kernel_rfl) trivial (fun hHeld => ?_)
      replace HD : Hid (GD w wr.drew gs gr ao len cap zs k 1 0 a b c p l.length q) := HD.out.next (bel_drew _)
      replace RP : Hid (GRow (gr + 1) wr.drew p (flatD l)) := RP.out.next (bel_drew _)
      generalize wr.drew = W3 at *
      refine wTk 0 ?_
      refine wTk 2 ?_
      refine wRd2 1 3 (fun K hK => ?_) (fun K hK => ?_)
      · obtain ⟨y0, y1, y2, y3, y4, y5⟩ := HD.out.box.c6
        go_simp
        (try simp only [])
        clear y0 y1 y2 y3 y4 y5
        refine wHk hK trivial ?_
        clear hK K hHeld
        intro hHeld
        refine wRd 3 (fun K hK => ?_)
        obtain ⟨s, hs⟩ := HD.out.src
        go_simp
        go_at_call 48
        refine (next_any gs len cap ao zs k s 3 (by omega) (by omega) _ hs HD.out.row HN.out hl (by omega) (by omega)).mono ?_
        rintro r W4 ⟨n8, s', ⟨hn0, hn1⟩, rfl, hS, hG⟩
        (try simp only [])
        replace RP : Hid (GRow (gr + 1) W4 p (flatD l)) := RP.out.keep (kept_grown hG (by have := HD.out.lt; omega))
        replace HD : Hid (GD w W4 gs gr ao len cap zs (k + 1) 1 0 a b c p l.length q) := HD.out.by HN.out hG ⟨s', hS⟩
        clear hs hS hG
        refine wHk hK trivial ?_
        clear hK K hHeld
        intro hHeld
        have hw8 : IntKind.i64.wrap (1 + n8) = 1 + n8 := by rw [IntKind.wrap_i64]; omega
        refine wTk 4 ?_
        refine wTk 5 ?_
        obtain ⟨y0, y1, y2, y3, y4, y5⟩ := HD.out.box.c6
        obtain ⟨v0, v1, v2, v3, v4, v5⟩ := HD.out.box.f6
        refine wRd 6 (fun K hK => ?_)
        go_simp
        (try simp only [])
        have HD2 : Hid (GD w (W4.setCell ⟨gr, 0, none⟩ (.int .i64 (1 + n8))) gs gr ao len cap zs (k + 1) (1 + n8) 0 a b c p l.length q) := by
          refine HD.out.kp Kp.set1 HD.out.lt.2 HRL.out ?_
          have := HD.out.box.set (i := 0) (u := .int .i64 (1 + n8)) (by simp)
          simpa using this
        have RP2 : Hid (GRow (gr + 1) (W4.setCell ⟨gr, 0, none⟩ (.int .i64 (1 + n8))) p (flatD l)) := RP.out.keep (kept_set (by omega))
        refine hK.out _ _ trivial (fun hHeld' => ?_)
        clear hK K hHeld hHeld' y0 y1 y2 y3 y4 y5 v0 v1 v2 v3 v4 v5 HD RP
        refine wLy ?_
        refine wpAnyH_done (by kernel_rfl) ?_ _
        generalize (W4.setCell ⟨gr, 0, none⟩ (.int .i64 (1 + n8))) = WA at *
        obtain ⟨s, hs⟩ := HD2.out.src
        go_wp2_with fail
        refine (next_any gs len cap ao zs (k + 1) s 3 (by omega) (by omega) _ hs HD2.out.row HN.out hl (by omega) (by omega)).mono ?_
        rintro r WA2 ⟨n9, s', ⟨hm0, hm1⟩, rfl, hS, hG⟩
        replace RP2 : Hid (GRow (gr + 1) WA2 p (flatD l)) := RP2.out.keep (kept_grown hG (by have := HD2.out.lt; omega))
        replace HD2 : Hid (GD w WA2 gs gr ao len cap zs (k + 1 + 1) (1 + n8) 0 a b c p l.length q) := HD2.out.by HN.out hG ⟨s', hS⟩
        clear hs hS hG
        obtain ⟨y0, y1, y2, y3, y4, y5⟩ := HD2.out.box.c6
        obtain ⟨v0, v1, v2, v3, v4, v5⟩ := HD2.out.box.f6
        go_upto_region 10 with fail
        clear y0 y1 y2 y3 y4 y5 v0 v1 v2 v3 v4 v5
        refine wp_gen (fun W => GD w W gs gr ao len cap zs (k + 1 + 1) (1 + n8) n9 a b c p l.length q ∧ GRow (gr + 1) W p (flatD l)) ⟨HD2.out.kp Kp.set1 HD2.out.lt.2 HRL.out (by
          have := HD2.out.box.set (i := 1) (u := .int .i64 n9) (by simp)
          simpa using this), RP2.out.keep (kept_set (by omega))⟩ (fun WB hI => ?_)
        clear HD2 RP2
        have Y : Hid _ := hI
        clear hI
        obtain ⟨y0, y1, y2, y3, y4, y5⟩ := Y.out.1.box.c6
        obtain ⟨b0, b1, b2, b3, b4, b5⟩ := Y.out.1.ans.c6
        obtain ⟨f0, f1, f2, f3, f4, f5⟩ := Y.out.1.ans.f6
        go_wp2_with fail
        clear y0 y1 y2 y3 y4 y5 b0 b1 b2 b3 b4 b5 f0 f1 f2 f3 f4 f5
        have Z := Y.out.1.ans.s6 (u0 := .int .i64 (1 + n8)) (u1 := .int .i64 n9) (u2 := .int .i64 a) (u3 := .int .i64 b) (u4 := .int .i64 c) (u5 := .slice p l.length q)
        obtain ⟨z0, z1, z2, z3, z4, z5⟩ := Z.c6
        clear Z
        refine bodyPost_ret (v := .agg #[.int .i64 (1 + n8), .int .i64 n9, .int .i64 a, .int .i64 b, .int .i64 c, .slice p l.length q]) (by simp [results, Try.results26, go_sem, z0, z1, z2, z3, z4, z5]) rfl ?_
        have hq : w.heap.size < gr + 1 := by have := Y.out.1.lt; omega
        refine ⟨1 + n8, n9, a, b, c, l, p, q, rfl, (((((((Y.out.2.keep (kept_set hq)).keep (kept_set hq)).keep (kept_set hq)).keep (kept_set hq)).keep (kept_set hq)).keep (kept_set hq)).weak (by have := Y.out.1.lt; omega)), HI.out, by omega, by omega, ?_⟩
        exact gb_in (gb_in (gb_in (gb_in (gb_in (gb_in Y.out.1.grown (Nat.le_refl _)) (Nat.le_refl _)) (Nat.le_refl _)) (Nat.le_refl _)) (Nat.le_refl _)) (Nat.le_refl _)
      · obtain ⟨s, hs⟩ := HD.out.src
        go_simp
        go_at_call 48
        refine (next_any gs len cap ao zs k s 3 (by omega) (by omega) _ hs HD.out.row HN.out hl (by omega) (by omega)).mono ?_
        rintro r W4 ⟨n8, s', ⟨hn0, hn1⟩, rfl, hS, hG⟩
        (try simp only [])
        replace RP : Hid (GRow (gr + 1) W4 p (flatD l)) := RP.out.keep (kept_grown hG (by have := HD.out.lt; omega))
        replace HD : Hid (GD w W4 gs gr ao len cap zs (k + 1) 1 0 a b c p l.length q) := HD.out.by HN.out hG ⟨s', hS⟩
        clear hs hS hG
        refine wHk hK trivial ?_
        clear hK K hHeld
        intro hHeld
        refine wRd 1 (fun K hK => ?_)
        obtain ⟨y0, y1, y2, y3, y4, y5⟩ := HD.out.box.c6
        go_simp
        (try simp only [])
        clear y0 y1 y2 y3 y4 y5
        refine wHk hK trivial ?_
        clear hK K hHeld
        intro hHeld
        have hw8 : IntKind.i64.wrap (1 + n8) = 1 + n8 := by rw [IntKind.wrap_i64]; omega
        refine wTk 4 ?_
        refine wTk 5 ?_
        obtain ⟨y0, y1, y2, y3, y4, y5⟩ := HD.out.box.c6
        obtain ⟨v0, v1, v2, v3, v4, v5⟩ := HD.out.box.f6
        refine wRd 6 (fun K hK => ?_)
        go_simp
        (try simp only [])
        have HD2 : Hid (GD w (W4.setCell ⟨gr, 0, none⟩ (.int .i64 (1 + n8))) gs gr ao len cap zs (k + 1) (1 + n8) 0 a b c p l.length q) := by
          refine HD.out.kp Kp.set1 HD.out.lt.2 HRL.out ?_
          have := HD.out.box.set (i := 0) (u := .int .i64 (1 + n8)) (by simp)
          simpa using this
        have RP2 : Hid (GRow (gr + 1) (W4.setCell ⟨gr, 0, none⟩ (.int .i64 (1 + n8))) p (flatD l)) := RP.out.keep (kept_set (by omega))
        refine hK.out _ _ trivial (fun hHeld' => ?_)
        clear hK K hHeld hHeld' y0 y1 y2 y3 y4 y5 v0 v1 v2 v3 v4 v5 HD RP
        refine wLy ?_
        refine wpAnyH_done (by kernel_rfl) ?_ _
        generalize (W4.setCell ⟨gr, 0, none⟩ (.int .i64 (1 + n8))) = WA at *
        obtain ⟨s, hs⟩ := HD2.out.src
        go_wp2_with fail
        refine (next_any gs len cap ao zs (k + 1) s 3 (by omega) (by omega) _ hs HD2.out.row HN.out hl (by omega) (by omega)).mono ?_
        rintro r WA2 ⟨n9, s', ⟨hm0, hm1⟩, rfl, hS, hG⟩
        replace RP2 : Hid (GRow (gr + 1) WA2 p (flatD l)) := RP2.out.keep (kept_grown hG (by have := HD2.out.lt; omega))
        replace HD2 : Hid (GD w WA2 gs gr ao len cap zs (k + 1 + 1) (1 + n8) 0 a b c p l.length q) := HD2.out.by HN.out hG ⟨s', hS⟩
        clear hs hS hG
        obtain ⟨y0, y1, y2, y3, y4, y5⟩ := HD2.out.box.c6
        obtain ⟨v0, v1, v2, v3, v4, v5⟩ := HD2.out.box.f6
        go_upto_region 10 with fail
        clear y0 y1 y2 y3 y4 y5 v0 v1 v2 v3 v4 v5
        refine wp_gen (fun W => GD w W gs gr ao len cap zs (k + 1 + 1) (1 + n8) n9 a b c p l.length q ∧ GRow (gr + 1) W p (flatD l)) ⟨HD2.out.kp Kp.set1 HD2.out.lt.2 HRL.out (by
          have := HD2.out.box.set (i := 1) (u := .int .i64 n9) (by simp)
          simpa using this), RP2.out.keep (kept_set (by omega))⟩ (fun WB hI => ?_)
        clear HD2 RP2
        have Y : Hid _ := hI
        clear hI
        obtain ⟨y0, y1, y2, y3, y4, y5⟩ := Y.out.1.box.c6
        obtain ⟨b0, b1, b2, b3, b4, b5⟩ := Y.out.1.ans.c6
        obtain ⟨f0, f1, f2, f3, f4, f5⟩ := Y.out.1.ans.f6
        go_wp2_with fail
        clear y0 y1 y2 y3 y4 y5 b0 b1 b2 b3 b4 b5 f0 f1 f2 f3 f4 f5
        have Z := Y.out.1.ans.s6 (u0 := .int .i64 (1 + n8)) (u1 := .int .i64 n9) (u2 := .int .i64 a) (u3 := .int .i64 b) (u4 := .int .i64 c) (u5 := .slice p l.length q)
        obtain ⟨z0, z1, z2, z3, z4, z5⟩ := Z.c6
        clear Z
        refine bodyPost_ret (v := .agg #[.int .i64 (1 + n8), .int .i64 n9, .int .i64 a, .int .i64 b, .int .i64 c, .slice p l.length q]) (by simp [results, Try.results26, go_sem, z0, z1, z2, z3, z4, z5]) rfl ?_
        have hq : w.heap.size < gr + 1 := by have := Y.out.1.lt; omega
        refine ⟨1 + n8, n9, a, b, c, l, p, q, rfl, (((((((Y.out.2.keep (kept_set hq)).keep (kept_set hq)).keep (kept_set hq)).keep (kept_set hq)).keep (kept_set hq)).keep (kept_set hq)).weak (by have := Y.out.1.lt; omega)), HI.out, by omega, by omega, ?_⟩
        exact gb_in (gb_in (gb_in (gb_in (gb_in (gb_in Y.out.1.grown (Nat.le_refl _)) (Nat.le_refl _)) (Nat.le_refl _)) (Nat.le_refl _)) (Nat.le_refl _)) (Nat.le_refl _)
end Go.Proofs.Ytklajcdlacemaaa
