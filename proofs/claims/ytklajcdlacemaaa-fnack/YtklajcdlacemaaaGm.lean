/- l11Ack of the specification where the event is the next one. -/
import Derived.Test.YtklajcdlacemaaaRows
import Derived.WalkKit
import Derived.WalkSpells
import Derived.WalkLawsBesides
import Derived.Deep.QuietTactic
import Derived.BigQuiet
import Derived.Deep.RegionHeld3
import Derived.Test.YtklajcdlacemaaaGl
import Derived.LoopN
namespace Go.Proofs.Ytklajcdlacemaaa
open Go.RowKit
set_option linter.unusedSimpArgs false
set_option linter.unusedVariables false

section
variable {P : Program} {md : Region.Mode} {ops : Array Oper} {Q : Exit → Act → World → Prop} {S : World → Prop} {oi oj ok : Oper} {fuel : Nat} {listed : Array Bool} {a : Act} {w : World}
theorem wRd3 (i j k : Nat) {H H2 H3 : (Act → World → Prop) → Prop}
    (h : ∀ K' : Act → World → Prop, Shut (∀ a w, S w → (S w → wpAnyH P md ops Q S fuel (listed.setIfInBounds i true) a w) → K' a w) → H K')
    (h2 : ∀ K' : Act → World → Prop, Shut (∀ a w, S w → (S w → wpAnyH P md ops Q S fuel (listed.setIfInBounds j true) a w) → K' a w) → H2 K')
    (h3 : ∀ K' : Act → World → Prop, Shut (∀ a w, S w → (S w → wpAnyH P md ops Q S fuel (listed.setIfInBounds k true) a w) → K' a w) → H3 K')
    (ho : ops[i]? = some oi := by rfl) (ho2 : ops[j]? = some oj := by rfl) (ho3 : ops[k]? = some ok := by rfl) (hr : Region.ready md ops listed = [i, j, k] := by kernel_rfl)
    (e : ∀ K', (if Region.wanted oi (yielded ops a.tmps) = true then Oper.wp P oi a w K' Q else K' (a.put oi.dst undef) w) = H K' := by
      intro K
      (try simp only [Act.put, List.getElem_toArray, List.getElem_cons_zero, List.getElem_cons_succ, List.setIfInBounds_toArray, List.set_cons_zero, List.set_cons_succ])
      rfl)
    (e2 : ∀ K', (if Region.wanted oj (yielded ops a.tmps) = true then Oper.wp P oj a w K' Q else K' (a.put oj.dst undef) w) = H2 K' := by
      intro K
      (try simp only [Act.put, List.getElem_toArray, List.getElem_cons_zero, List.getElem_cons_succ, List.setIfInBounds_toArray, List.set_cons_zero, List.set_cons_succ])
      rfl)
    (e3 : ∀ K', (if Region.wanted ok (yielded ops a.tmps) = true then Oper.wp P ok a w K' Q else K' (a.put ok.dst undef) w) = H3 K' := by
      intro K
      (try simp only [Act.put, List.getElem_toArray, List.getElem_cons_zero, List.getElem_cons_succ, List.setIfInBounds_toArray, List.set_cons_zero, List.set_cons_succ])
      rfl) : wpAnyH P md ops Q S (fuel + 1) listed a w := wpAnyH_ready hr (by simp) (.cons ho (fun K hK => e K ▸ h K hK) (.cons ho2 (fun K hK => e2 K ▸ h2 K hK) (.cons ho3 (fun K hK => e3 K ▸ h3 K hK) .nil)))
end

/-- The three boxes of l11Ack, and where new rows begin. -/
def AX (w W : World) (lv : Nat) (c d z : List Value) : Prop := Box W w.heap.size c ∧ Box W (w.heap.size + 1) d ∧ Box W (w.heap.size + 1 + 1) z ∧ Below w.heap.size w W ∧ w.heap.size + 1 + 1 < lv ∧ lv ≤ W.heap.size
theorem Box.bel {W W' : World} {g lv : Nat} {vs : List Value} (h : Box W g vs) (hb : Below lv W W') (hg : g < lv) : Box W' g vs :=
  ⟨fun j hj => ⟨by rw [World.cell?_of_block (w := W) (hb.block g hg)]; exact (h.is j hj).1, by rw [World.frozen?_of_block (w := W) (hb.block g hg)]; exact (h.is j hj).2⟩, Nat.lt_of_lt_of_le h.lt hb.size⟩
theorem AX.step {w W W' : World} {lv : Nat} {c d z : List Value} (h : AX w W lv c d z) (hb : Below lv W W') : AX w W' lv c d z := by
  obtain ⟨h1, h2, h3, h4, h5, h6⟩ := h
  exact ⟨h1.bel hb (by omega), h2.bel hb (by omega), h3.bel hb (by omega), h4.trans (hb.mono (by omega)), h5, Nat.le_trans h6 hb.size⟩
theorem AX.alloc {w W : World} {lv : Nat} {c d z : List Value} {ob : Obj} (h : AX w W lv c d z) : AX w (W.alloc ob) lv c d z := h.step ((bel_alloc _ _).mono h.2.2.2.2.2)
theorem box_row {W : World} {g : Nat} {vs : List Value} (h : Box W g vs) : GRow 0 W (some ⟨g, 0, none⟩) vs := .inr ⟨g, 0, rfl, Nat.zero_le _, fun j hj => by simpa using (h.is j hj).1⟩

set_option maxRecDepth 100000 in
set_option maxHeartbeats 4000000 in
theorem lack_ok0 (lo q : Nat) (p : Option Addr) (l : List Dt) (e o a b c : Int) (w : World) (hx : 0 ≤ a ∧ a ≤ 9999) (hl : l.length < 4096) (hr0 : GRow lo w p (flatD l)) :
    Calls Try.prog 32 #[.agg #[.int .i64 e, .int .i64 o, .int .i64 a, .int .i64 b, .int .i64 c, .slice p l.length q], .int .i64 e, .agg #[.int .i64 0, .int .i64 (a + 1)]] w fun r w' => ∃ po co, r = .returned (.tuple #[.agg #[.int .i64 e, .int .i64 o, .int .i64 (a + 1), .int .i64 b, .int .i64 c, .slice po (l.length + 1) co], .bool true, .int .i64 0]) ∧ OwnG w' 31 2 (.slice po (l.length + 1) co) (l.length + 1) (flatD l ++ [.int .i64 0, .int .i64 (a + 1)]) w.heap.size ∧ Below w.heap.size w w' := by
  have hr : Hid (GRow lo w p (flatD l)) := hr0
  clear hr0
  have hw : IntKind.i64.wrap (a + 1) = a + 1 := by rw [IntKind.wrap_i64]; omega
  have h3 : ((l.length : Int) == 4096) = false := by simp; omega
  go_enter Try.func32, Try.ntmps32
  go_upto_region 1 with fail
  refine wp_gen (fun W => Box W w.heap.size [.int .i64 e, .int .i64 o, .int .i64 a, .int .i64 b, .int .i64 c, .slice p l.length q] ∧ Box W (w.heap.size + 1) [.int .i64 0, .int .i64 (a + 1)] ∧ Box W (w.heap.size + 1 + 1) [.int .i64 0, .int .i64 0, .int .i64 0, .int .i64 0, .int .i64 0, .slice none 0 0] ∧ Below w.heap.size w W) ⟨box_mk.alloc.alloc, box_mid, box_end, bel3 _ _ _ _⟩ (fun W0 hI => ?_)
  have Y : Hid _ := hI
  clear hI
  obtain ⟨a0, a1, a2, a3, a4, a5⟩ := Y.out.1.c6
  obtain ⟨d0, d1⟩ := Y.out.2.1.c2
  go_wp2_with fail
  refine (has_0false a b c (a + 1) _ (by omega)).mono ?_
  rintro e1 W1 ⟨rfl, hb⟩
  replace Y : Hid (Box W1 w.heap.size [.int .i64 e, .int .i64 o, .int .i64 a, .int .i64 b, .int .i64 c, .slice p l.length q] ∧ Box W1 (w.heap.size + 1) [.int .i64 0, .int .i64 (a + 1)] ∧ Box W1 (w.heap.size + 1 + 1) [.int .i64 0, .int .i64 0, .int .i64 0, .int .i64 0, .int .i64 0, .slice none 0 0] ∧ Below w.heap.size w W1) := ⟨Y.out.1.next hb, Y.out.2.1.next hb, Y.out.2.2.1.next hb, Y.out.2.2.2.trans (hb.mono Y.out.2.2.2.size)⟩
  clear hb a0 a1 a2 a3 a4 a5 d0 d1
  obtain ⟨a0, a1, a2, a3, a4, a5⟩ := Y.out.1.c6
  obtain ⟨d0, d1⟩ := Y.out.2.1.c2
  go_wp2_with fail
  go_quiet (fail)
  rename_i nq _
  go_wp2_with fail
  have hb : Below W1.heap.size W1 _ := below_drewN (Below.refl _ _) nq
  refine (add_0 a b c (a + 1) _ (by omega)).mono ?_
  rintro e1 W2 ⟨rfl, hb2⟩
  have hb3 := hb.trans (hb2.mono hb.size)
  replace Y : Hid (Box W2 w.heap.size [.int .i64 e, .int .i64 o, .int .i64 a, .int .i64 b, .int .i64 c, .slice p l.length q] ∧ Box W2 (w.heap.size + 1) [.int .i64 0, .int .i64 (a + 1)] ∧ Box W2 (w.heap.size + 1 + 1) [.int .i64 0, .int .i64 0, .int .i64 0, .int .i64 0, .int .i64 0, .slice none 0 0] ∧ Below w.heap.size w W2) := ⟨Y.out.1.next hb3, Y.out.2.1.next hb3, Y.out.2.2.1.next hb3, Y.out.2.2.2.trans (hb3.mono Y.out.2.2.2.size)⟩
  clear hb hb2 hb3 a0 a1 a2 a3 a4 a5 d0 d1
  obtain ⟨a0, a1, a2, a3, a4, a5⟩ := Y.out.1.c6
  obtain ⟨f0, f1, f2, f3, f4, f5⟩ := Y.out.1.f6
  go_upto_region 10 with fail
  clear a0 a1 a2 a3 a4 a5 f0 f1 f2 f3 f4 f5
  refine wp_gen (fun W => Box W w.heap.size [.int .i64 e, .int .i64 o, .int .i64 (a + 1), .int .i64 b, .int .i64 c, .slice p l.length q] ∧ Box W (w.heap.size + 1) [.int .i64 0, .int .i64 (a + 1)] ∧ Box W (w.heap.size + 1 + 1) [.int .i64 0, .int .i64 0, .int .i64 0, .int .i64 0, .int .i64 0, .slice none 0 0] ∧ Below w.heap.size w W) ?_ (fun W3 hI => ?_)
  · refine ⟨?_, (((Y.out.2.1.oth (by omega)).oth (by omega)).oth (by omega)), (((Y.out.2.2.1.oth (by omega)).oth (by omega)).oth (by omega)), bel_in (bel_in (bel_in Y.out.2.2.2 (by omega)) (by omega)) (by omega)⟩
    have := ((Y.out.1.set (i := 2) (u := .int .i64 (a + 1)) (by simp)).set (i := 3) (u := .int .i64 b) (by simp)).set (i := 4) (u := .int .i64 c) (by simp)
    simpa using this
  clear Y
  have Y : Hid _ := hI
  clear hI
  refine wp_region_held_drew (S := (fun w' => w'.cell? ⟨w.heap.size + 1, 0, none⟩ = some (.int .i64 0) ∧ w'.cell? ⟨w.heap.size + 1, 1, none⟩ = some (.int .i64 (a + 1)))) (by kernel_rfl) ?_ (fun hHeld => ?_)
  · (try dsimp only)
    exact (Y.out.2.1.next (bel_drew _)).c2
  have RP : Hid (GRow lo W3.drew p (flatD l)) := (hr.out.next Y.out.2.2.2).next (bel_drew _)
  replace Y : Hid (Box W3.drew w.heap.size [.int .i64 e, .int .i64 o, .int .i64 (a + 1), .int .i64 b, .int .i64 c, .slice p l.length q] ∧ Box W3.drew (w.heap.size + 1) [.int .i64 0, .int .i64 (a + 1)] ∧ Box W3.drew (w.heap.size + 1 + 1) [.int .i64 0, .int .i64 0, .int .i64 0, .int .i64 0, .int .i64 0, .slice none 0 0] ∧ Below w.heap.size w W3.drew) := ⟨Y.out.1.next (bel_drew _), Y.out.2.1.next (bel_drew _), Y.out.2.2.1.next (bel_drew _), Y.out.2.2.2.trans ((bel_drew _).mono Y.out.2.2.2.size)⟩
  generalize W3.drew = W4 at *
  have X : Hid (AX w W4 W4.heap.size [.int .i64 e, .int .i64 o, .int .i64 (a + 1), .int .i64 b, .int .i64 c, .slice p l.length q] [.int .i64 0, .int .i64 (a + 1)] [.int .i64 0, .int .i64 0, .int .i64 0, .int .i64 0, .int .i64 0, .slice none 0 0]) := ⟨Y.out.1, Y.out.2.1, Y.out.2.2.1, Y.out.2.2.2, Y.out.2.2.1.lt, Nat.le_refl _⟩
  clear Y hr
  obtain ⟨lv, hlv⟩ : ∃ lv, lv = W4.heap.size := ⟨_, rfl⟩
  rw [← hlv] at X
  clear hlv
  refine wTk 1 ?_
  refine wTk 4 ?_
  refine wRd3 0 2 5 (fun K hK => ?_) (fun K hK => ?_) (fun K hK => ?_)
  · go_simp
    (try simp only [])
    have OV : Hid (OwnG (W4.alloc (.cells #[] 31)) 31 2 (.slice (some ⟨W4.heap.size, 0, none⟩) 0 0) 0 [] lv) := OwnG.lit X.out.2.2.2.2.2
    replace X : Hid (AX w (W4.alloc (.cells #[] 31)) lv [.int .i64 e, .int .i64 o, .int .i64 (a + 1), .int .i64 b, .int .i64 c, .slice p l.length q] [.int .i64 0, .int .i64 (a + 1)] [.int .i64 0, .int .i64 0, .int .i64 0, .int .i64 0, .int .i64 0, .slice none 0 0]) := X.out.alloc
    replace RP : Hid (GRow lo (W4.alloc (.cells #[] 31)) p (flatD l)) := RP.out.next (bel_alloc W4 (.cells #[] 31))
    refine wHk hK X.out.2.1.c2 ?_
    clear hK K hHeld
    intro hHeld
    generalize W4.alloc (.cells #[] 31) = W5 at *
    generalize W4.heap.size = gz at *
    refine wRd2 2 5 (fun K hK => ?_) (fun K hK => ?_)
    · obtain ⟨a0, a1, a2, a3, a4, a5⟩ := X.out.1.c6
      go_simp
      (try simp only [])
      clear a0 a1 a2 a3 a4 a5
      refine wHk hK X.out.2.1.c2 ?_
      clear hK K hHeld
      intro hHeld
      refine wRd2 3 5 (fun K hK => ?_) (fun K hK => ?_)
      · rw [if_pos (by rfl)]
        refine wp_appG elD (.tmp 43) (.tmp 45) rfl (Value.slice (some ⟨gz, 0, none⟩) 0 0) 0 [] lv l.length rfl OV.out X.out.2.2.2.2.2 p l.length q (flatD l) rfl (flatD_len l) (flatD_one l) lo RP.out (by omega) (by omega) ?_
        intro vo vc W7 hO hg _
        (try simp only [])
        replace X : Hid (AX w W7 lv [.int .i64 e, .int .i64 o, .int .i64 (a + 1), .int .i64 b, .int .i64 c, .slice p l.length q] [.int .i64 0, .int .i64 (a + 1)] [.int .i64 0, .int .i64 0, .int .i64 0, .int .i64 0, .int .i64 0, .slice none 0 0]) := X.out.step (hg.below X.out.2.2.2.2.2 OV.out.ge)
        replace hO : OwnG W7 31 2 (.slice vo l.length vc) l.length (flatD l) lv := by simpa using hO
        replace OV : Hid (OwnG W7 31 2 (.slice vo l.length vc) l.length (flatD l) lv) := hO
        clear hO hg RP
        refine wHk hK X.out.2.1.c2 ?_
        clear hK K hHeld
        intro hHeld
        refine wRd 5 (fun K hK => ?_)
        go_simp
        (try simp only [])
        have B1 : Hid (Box (W7.alloc (.cells #[.int .i64 0, .int .i64 (a + 1)] 31)) W7.heap.size [.int .i64 0, .int .i64 (a + 1)]) := box_mk
        have NE : Hid ((Value.slice vo l.length vc).ownBlock ≠ some W7.heap.size) := fun h => by have := (OV.out.own.lt _ h).2; omega
        replace OV : Hid _ := OV.out.next (bel_alloc W7 (.cells #[.int .i64 0, .int .i64 (a + 1)] 31))
        replace X : Hid (AX w (W7.alloc (.cells #[.int .i64 0, .int .i64 (a + 1)] 31)) lv [.int .i64 e, .int .i64 o, .int .i64 (a + 1), .int .i64 b, .int .i64 c, .slice p l.length q] [.int .i64 0, .int .i64 (a + 1)] [.int .i64 0, .int .i64 0, .int .i64 0, .int .i64 0, .int .i64 0, .slice none 0 0]) := X.out.alloc
        refine wHk hK X.out.2.1.c2 ?_
        clear hK K hHeld
        intro hHeld
        generalize W7.alloc (.cells #[.int .i64 0, .int .i64 (a + 1)] 31) = W8 at *
        generalize W7.heap.size = g5 at *
        refine wRd 6 (fun K hK => ?_)
        rw [if_pos (by rfl)]
        refine wp_appG elD (.tmp 46) (.tmp 48) rfl (Value.slice vo l.length vc) l.length (flatD l) lv (l.length + 1) rfl OV.out X.out.2.2.2.2.2 (some ⟨g5, 0, none⟩) 1 1 [.int .i64 0, .int .i64 (a + 1)] rfl (by simp) (by simp [Value.oneCell']) 0 (box_row B1.out) (by omega) rfl ?_
        intro po co W9 hO hg _
        (try simp only [])
        replace X : Hid (AX w W9 lv [.int .i64 e, .int .i64 o, .int .i64 (a + 1), .int .i64 b, .int .i64 c, .slice p l.length q] [.int .i64 0, .int .i64 (a + 1)] [.int .i64 0, .int .i64 0, .int .i64 0, .int .i64 0, .int .i64 0, .slice none 0 0]) := X.out.step (hg.below X.out.2.2.2.2.2 OV.out.ge)
        replace OV : Hid (OwnG W9 31 2 (.slice po (l.length + 1) co) (l.length + 1) (flatD l ++ [.int .i64 0, .int .i64 (a + 1)]) lv) := hO
        clear hO hg B1 NE
        refine wHk hK X.out.2.1.c2 ?_
        clear hK K hHeld
        intro hHeld
        refine wTk 7 ?_
        obtain ⟨a0, a1, a2, a3, a4, a5⟩ := X.out.1.c6
        obtain ⟨g0, g1, g2, g3, g4, g6⟩ := X.out.1.f6
        have X2 : Hid (Box (W9.setCell ⟨w.heap.size, 5, none⟩ (.slice po (l.length + 1) co)) w.heap.size [.int .i64 e, .int .i64 o, .int .i64 (a + 1), .int .i64 b, .int .i64 c, .slice po (l.length + 1) co] ∧ Box (W9.setCell ⟨w.heap.size, 5, none⟩ (.slice po (l.length + 1) co)) (w.heap.size + 1) [.int .i64 0, .int .i64 (a + 1)] ∧ Box (W9.setCell ⟨w.heap.size, 5, none⟩ (.slice po (l.length + 1) co)) (w.heap.size + 1 + 1) [.int .i64 0, .int .i64 0, .int .i64 0, .int .i64 0, .int .i64 0, .slice none 0 0] ∧ Below w.heap.size w (W9.setCell ⟨w.heap.size, 5, none⟩ (.slice po (l.length + 1) co)) ∧ OwnG (W9.setCell ⟨w.heap.size, 5, none⟩ (.slice po (l.length + 1) co)) 31 2 (.slice po (l.length + 1) co) (l.length + 1) (flatD l ++ [.int .i64 0, .int .i64 (a + 1)]) lv ∧ w.heap.size + 1 + 1 < lv) := by
          have hlt := X.out.2.2.2.2.1
          refine ⟨?_, X.out.2.1.oth (by omega), X.out.2.2.1.oth (by omega), bel_in X.out.2.2.2.1 (by omega), OV.out.kp Kp.set (fun k hk => by have := OV.out.ge k hk; omega), hlt⟩
          have := X.out.1.set (i := 5) (u := (.slice po (l.length + 1) co)) (by simp)
          simpa using this
        refine wRd 8 (fun K hK => ?_)
        go_simp
        (try simp only [])
        refine hK.out _ _ X2.out.2.1.c2 (fun hHeld' => ?_)
        clear hK K hHeld hHeld' a0 a1 a2 a3 a4 a5 g0 g1 g2 g3 g4 g6 X OV
        refine wLy ?_
        refine wpAnyH_done (by kernel_rfl) ?_ _
        generalize (W9.setCell ⟨w.heap.size, 5, none⟩ (.slice po (l.length + 1) co)) = WZ at *
        obtain ⟨a0, a1, a2, a3, a4, a5⟩ := X2.out.1.c6
        obtain ⟨b0, b1, b2, b3, b4, b5⟩ := X2.out.2.2.1.c6
        obtain ⟨f0, f1, f2, f3, f4, f5⟩ := X2.out.2.2.1.f6
        go_wp2_with fail
        clear a0 a1 a2 a3 a4 a5 b0 b1 b2 b3 b4 b5 f0 f1 f2 f3 f4 f5
        have hlt := X2.out.2.2.2.2.2
        have q0 : ∀ k, (Value.slice po (l.length + 1) co).ownBlock = some k → ¬ k = w.heap.size + 1 + 1 := fun k hk => by have := X2.out.2.2.2.2.1.ge k hk; omega
        have Z := X2.out.2.2.1.s6 (u0 := .int .i64 e) (u1 := .int .i64 o) (u2 := .int .i64 (a + 1)) (u3 := .int .i64 b) (u4 := .int .i64 c) (u5 := .slice po (l.length + 1) co)
        obtain ⟨z0, z1, z2, z3, z4, z5⟩ := Z.c6
        clear Z
        refine bodyPost_ret (v := .tuple #[.agg #[.int .i64 e, .int .i64 o, .int .i64 (a + 1), .int .i64 b, .int .i64 c, .slice po (l.length + 1) co], .bool true, .int .i64 0]) (by simp [results, Try.results32, go_sem, z0, z1, z2, z3, z4, z5]) rfl ?_
        have HBL : Below w.heap.size w _ := bel_in (bel_in (bel_in (bel_in (bel_in (bel_in X2.out.2.2.2.1 (i := 0) (u := .int .i64 e) (g := (w.heap.size + 1 + 1)) (by omega)) (i := 1) (u := .int .i64 o) (g := (w.heap.size + 1 + 1)) (by omega)) (i := 2) (u := .int .i64 (a + 1)) (g := (w.heap.size + 1 + 1)) (by omega)) (i := 3) (u := .int .i64 b) (g := (w.heap.size + 1 + 1)) (by omega)) (i := 4) (u := .int .i64 c) (g := (w.heap.size + 1 + 1)) (by omega)) (i := 5) (u := .slice po (l.length + 1) co) (g := (w.heap.size + 1 + 1)) (by omega)
        exact ⟨po, co, rfl, (((((((X2.out.2.2.2.2.1.kp Kp.set q0).kp Kp.set q0).kp Kp.set q0).kp Kp.set q0).kp Kp.set q0).kp Kp.set q0).weak (by omega)), HBL⟩
      · go_simp
        (try simp only [])
        have B1 : Hid (Box (W5.alloc (.cells #[.int .i64 0, .int .i64 (a + 1)] 31)) W5.heap.size [.int .i64 0, .int .i64 (a + 1)]) := box_mk
        have NE : Hid ((Value.slice (some ⟨gz, 0, none⟩) 0 0).ownBlock ≠ some W5.heap.size) := fun h => by have := (OV.out.own.lt _ h).2; omega
        replace OV : Hid _ := OV.out.next (bel_alloc W5 (.cells #[.int .i64 0, .int .i64 (a + 1)] 31))
        replace RP : Hid (GRow lo (W5.alloc (.cells #[.int .i64 0, .int .i64 (a + 1)] 31)) p (flatD l)) := RP.out.next (bel_alloc W5 (.cells #[.int .i64 0, .int .i64 (a + 1)] 31))
        replace X : Hid (AX w (W5.alloc (.cells #[.int .i64 0, .int .i64 (a + 1)] 31)) lv [.int .i64 e, .int .i64 o, .int .i64 (a + 1), .int .i64 b, .int .i64 c, .slice p l.length q] [.int .i64 0, .int .i64 (a + 1)] [.int .i64 0, .int .i64 0, .int .i64 0, .int .i64 0, .int .i64 0, .slice none 0 0]) := X.out.alloc
        refine wHk hK X.out.2.1.c2 ?_
        clear hK K hHeld
        intro hHeld
        generalize W5.alloc (.cells #[.int .i64 0, .int .i64 (a + 1)] 31) = W7 at *
        generalize W5.heap.size = g5 at *
        refine wRd 3 (fun K hK => ?_)
        rw [if_pos (by rfl)]
        refine wp_appG elD (.tmp 43) (.tmp 45) rfl (Value.slice (some ⟨gz, 0, none⟩) 0 0) 0 [] lv l.length rfl OV.out X.out.2.2.2.2.2 p l.length q (flatD l) rfl (flatD_len l) (flatD_one l) lo RP.out (by omega) (by omega) ?_
        intro vo vc W8 hO hg _
        (try simp only [])
        replace X : Hid (AX w W8 lv [.int .i64 e, .int .i64 o, .int .i64 (a + 1), .int .i64 b, .int .i64 c, .slice p l.length q] [.int .i64 0, .int .i64 (a + 1)] [.int .i64 0, .int .i64 0, .int .i64 0, .int .i64 0, .int .i64 0, .slice none 0 0]) := X.out.step (hg.below X.out.2.2.2.2.2 OV.out.ge)
        have NE2 : Hid ((Value.slice vo l.length vc).ownBlock ≠ some g5) := B1.out.ne hg NE.out
        replace B1 : Hid _ := B1.out.gro hg NE.out
        replace NE := NE2
        clear NE2
        replace hO : OwnG W8 31 2 (.slice vo l.length vc) l.length (flatD l) lv := by simpa using hO
        replace OV : Hid (OwnG W8 31 2 (.slice vo l.length vc) l.length (flatD l) lv) := hO
        clear hO hg RP
        refine wHk hK X.out.2.1.c2 ?_
        clear hK K hHeld
        intro hHeld
        refine wRd 6 (fun K hK => ?_)
        rw [if_pos (by rfl)]
        refine wp_appG elD (.tmp 46) (.tmp 48) rfl (Value.slice vo l.length vc) l.length (flatD l) lv (l.length + 1) rfl OV.out X.out.2.2.2.2.2 (some ⟨g5, 0, none⟩) 1 1 [.int .i64 0, .int .i64 (a + 1)] rfl (by simp) (by simp [Value.oneCell']) 0 (box_row B1.out) (by omega) rfl ?_
        intro po co W9 hO hg _
        (try simp only [])
        replace X : Hid (AX w W9 lv [.int .i64 e, .int .i64 o, .int .i64 (a + 1), .int .i64 b, .int .i64 c, .slice p l.length q] [.int .i64 0, .int .i64 (a + 1)] [.int .i64 0, .int .i64 0, .int .i64 0, .int .i64 0, .int .i64 0, .slice none 0 0]) := X.out.step (hg.below X.out.2.2.2.2.2 OV.out.ge)
        replace OV : Hid (OwnG W9 31 2 (.slice po (l.length + 1) co) (l.length + 1) (flatD l ++ [.int .i64 0, .int .i64 (a + 1)]) lv) := hO
        clear hO hg B1 NE
        refine wHk hK X.out.2.1.c2 ?_
        clear hK K hHeld
        intro hHeld
        refine wTk 7 ?_
        obtain ⟨a0, a1, a2, a3, a4, a5⟩ := X.out.1.c6
        obtain ⟨g0, g1, g2, g3, g4, g6⟩ := X.out.1.f6
        have X2 : Hid (Box (W9.setCell ⟨w.heap.size, 5, none⟩ (.slice po (l.length + 1) co)) w.heap.size [.int .i64 e, .int .i64 o, .int .i64 (a + 1), .int .i64 b, .int .i64 c, .slice po (l.length + 1) co] ∧ Box (W9.setCell ⟨w.heap.size, 5, none⟩ (.slice po (l.length + 1) co)) (w.heap.size + 1) [.int .i64 0, .int .i64 (a + 1)] ∧ Box (W9.setCell ⟨w.heap.size, 5, none⟩ (.slice po (l.length + 1) co)) (w.heap.size + 1 + 1) [.int .i64 0, .int .i64 0, .int .i64 0, .int .i64 0, .int .i64 0, .slice none 0 0] ∧ Below w.heap.size w (W9.setCell ⟨w.heap.size, 5, none⟩ (.slice po (l.length + 1) co)) ∧ OwnG (W9.setCell ⟨w.heap.size, 5, none⟩ (.slice po (l.length + 1) co)) 31 2 (.slice po (l.length + 1) co) (l.length + 1) (flatD l ++ [.int .i64 0, .int .i64 (a + 1)]) lv ∧ w.heap.size + 1 + 1 < lv) := by
          have hlt := X.out.2.2.2.2.1
          refine ⟨?_, X.out.2.1.oth (by omega), X.out.2.2.1.oth (by omega), bel_in X.out.2.2.2.1 (by omega), OV.out.kp Kp.set (fun k hk => by have := OV.out.ge k hk; omega), hlt⟩
          have := X.out.1.set (i := 5) (u := (.slice po (l.length + 1) co)) (by simp)
          simpa using this
        refine wRd 8 (fun K hK => ?_)
        go_simp
        (try simp only [])
        refine hK.out _ _ X2.out.2.1.c2 (fun hHeld' => ?_)
        clear hK K hHeld hHeld' a0 a1 a2 a3 a4 a5 g0 g1 g2 g3 g4 g6 X OV
        refine wLy ?_
        refine wpAnyH_done (by kernel_rfl) ?_ _
        generalize (W9.setCell ⟨w.heap.size, 5, none⟩ (.slice po (l.length + 1) co)) = WZ at *
        obtain ⟨a0, a1, a2, a3, a4, a5⟩ := X2.out.1.c6
        obtain ⟨b0, b1, b2, b3, b4, b5⟩ := X2.out.2.2.1.c6
        obtain ⟨f0, f1, f2, f3, f4, f5⟩ := X2.out.2.2.1.f6
        go_wp2_with fail
        clear a0 a1 a2 a3 a4 a5 b0 b1 b2 b3 b4 b5 f0 f1 f2 f3 f4 f5
        have hlt := X2.out.2.2.2.2.2
        have q0 : ∀ k, (Value.slice po (l.length + 1) co).ownBlock = some k → ¬ k = w.heap.size + 1 + 1 := fun k hk => by have := X2.out.2.2.2.2.1.ge k hk; omega
        have Z := X2.out.2.2.1.s6 (u0 := .int .i64 e) (u1 := .int .i64 o) (u2 := .int .i64 (a + 1)) (u3 := .int .i64 b) (u4 := .int .i64 c) (u5 := .slice po (l.length + 1) co)
        obtain ⟨z0, z1, z2, z3, z4, z5⟩ := Z.c6
        clear Z
        refine bodyPost_ret (v := .tuple #[.agg #[.int .i64 e, .int .i64 o, .int .i64 (a + 1), .int .i64 b, .int .i64 c, .slice po (l.length + 1) co], .bool true, .int .i64 0]) (by simp [results, Try.results32, go_sem, z0, z1, z2, z3, z4, z5]) rfl ?_
        have HBL : Below w.heap.size w _ := bel_in (bel_in (bel_in (bel_in (bel_in (bel_in X2.out.2.2.2.1 (i := 0) (u := .int .i64 e) (g := (w.heap.size + 1 + 1)) (by omega)) (i := 1) (u := .int .i64 o) (g := (w.heap.size + 1 + 1)) (by omega)) (i := 2) (u := .int .i64 (a + 1)) (g := (w.heap.size + 1 + 1)) (by omega)) (i := 3) (u := .int .i64 b) (g := (w.heap.size + 1 + 1)) (by omega)) (i := 4) (u := .int .i64 c) (g := (w.heap.size + 1 + 1)) (by omega)) (i := 5) (u := .slice po (l.length + 1) co) (g := (w.heap.size + 1 + 1)) (by omega)
        exact ⟨po, co, rfl, (((((((X2.out.2.2.2.2.1.kp Kp.set q0).kp Kp.set q0).kp Kp.set q0).kp Kp.set q0).kp Kp.set q0).kp Kp.set q0).weak (by omega)), HBL⟩
    · go_simp
      (try simp only [])
      have B1 : Hid (Box (W5.alloc (.cells #[.int .i64 0, .int .i64 (a + 1)] 31)) W5.heap.size [.int .i64 0, .int .i64 (a + 1)]) := box_mk
      have NE : Hid ((Value.slice (some ⟨gz, 0, none⟩) 0 0).ownBlock ≠ some W5.heap.size) := fun h => by have := (OV.out.own.lt _ h).2; omega
      replace OV : Hid _ := OV.out.next (bel_alloc W5 (.cells #[.int .i64 0, .int .i64 (a + 1)] 31))
      replace RP : Hid (GRow lo (W5.alloc (.cells #[.int .i64 0, .int .i64 (a + 1)] 31)) p (flatD l)) := RP.out.next (bel_alloc W5 (.cells #[.int .i64 0, .int .i64 (a + 1)] 31))
      replace X : Hid (AX w (W5.alloc (.cells #[.int .i64 0, .int .i64 (a + 1)] 31)) lv [.int .i64 e, .int .i64 o, .int .i64 (a + 1), .int .i64 b, .int .i64 c, .slice p l.length q] [.int .i64 0, .int .i64 (a + 1)] [.int .i64 0, .int .i64 0, .int .i64 0, .int .i64 0, .int .i64 0, .slice none 0 0]) := X.out.alloc
      refine wHk hK X.out.2.1.c2 ?_
      clear hK K hHeld
      intro hHeld
      generalize W5.alloc (.cells #[.int .i64 0, .int .i64 (a + 1)] 31) = W6 at *
      generalize W5.heap.size = g5 at *
      refine wRd 2 (fun K hK => ?_)
      obtain ⟨a0, a1, a2, a3, a4, a5⟩ := X.out.1.c6
      go_simp
      (try simp only [])
      clear a0 a1 a2 a3 a4 a5
      refine wHk hK X.out.2.1.c2 ?_
      clear hK K hHeld
      intro hHeld
      refine wRd 3 (fun K hK => ?_)
      rw [if_pos (by rfl)]
      refine wp_appG elD (.tmp 43) (.tmp 45) rfl (Value.slice (some ⟨gz, 0, none⟩) 0 0) 0 [] lv l.length rfl OV.out X.out.2.2.2.2.2 p l.length q (flatD l) rfl (flatD_len l) (flatD_one l) lo RP.out (by omega) (by omega) ?_
      intro vo vc W8 hO hg _
      (try simp only [])
      replace X : Hid (AX w W8 lv [.int .i64 e, .int .i64 o, .int .i64 (a + 1), .int .i64 b, .int .i64 c, .slice p l.length q] [.int .i64 0, .int .i64 (a + 1)] [.int .i64 0, .int .i64 0, .int .i64 0, .int .i64 0, .int .i64 0, .slice none 0 0]) := X.out.step (hg.below X.out.2.2.2.2.2 OV.out.ge)
      have NE2 : Hid ((Value.slice vo l.length vc).ownBlock ≠ some g5) := B1.out.ne hg NE.out
      replace B1 : Hid _ := B1.out.gro hg NE.out
      replace NE := NE2
      clear NE2
      replace hO : OwnG W8 31 2 (.slice vo l.length vc) l.length (flatD l) lv := by simpa using hO
      replace OV : Hid (OwnG W8 31 2 (.slice vo l.length vc) l.length (flatD l) lv) := hO
      clear hO hg RP
      refine wHk hK X.out.2.1.c2 ?_
      clear hK K hHeld
      intro hHeld
      refine wRd 6 (fun K hK => ?_)
      rw [if_pos (by rfl)]
      refine wp_appG elD (.tmp 46) (.tmp 48) rfl (Value.slice vo l.length vc) l.length (flatD l) lv (l.length + 1) rfl OV.out X.out.2.2.2.2.2 (some ⟨g5, 0, none⟩) 1 1 [.int .i64 0, .int .i64 (a + 1)] rfl (by simp) (by simp [Value.oneCell']) 0 (box_row B1.out) (by omega) rfl ?_
      intro po co W9 hO hg _
      (try simp only [])
      replace X : Hid (AX w W9 lv [.int .i64 e, .int .i64 o, .int .i64 (a + 1), .int .i64 b, .int .i64 c, .slice p l.length q] [.int .i64 0, .int .i64 (a + 1)] [.int .i64 0, .int .i64 0, .int .i64 0, .int .i64 0, .int .i64 0, .slice none 0 0]) := X.out.step (hg.below X.out.2.2.2.2.2 OV.out.ge)
      replace OV : Hid (OwnG W9 31 2 (.slice po (l.length + 1) co) (l.length + 1) (flatD l ++ [.int .i64 0, .int .i64 (a + 1)]) lv) := hO
      clear hO hg B1 NE
      refine wHk hK X.out.2.1.c2 ?_
      clear hK K hHeld
      intro hHeld
      refine wTk 7 ?_
      obtain ⟨a0, a1, a2, a3, a4, a5⟩ := X.out.1.c6
      obtain ⟨g0, g1, g2, g3, g4, g6⟩ := X.out.1.f6
      have X2 : Hid (Box (W9.setCell ⟨w.heap.size, 5, none⟩ (.slice po (l.length + 1) co)) w.heap.size [.int .i64 e, .int .i64 o, .int .i64 (a + 1), .int .i64 b, .int .i64 c, .slice po (l.length + 1) co] ∧ Box (W9.setCell ⟨w.heap.size, 5, none⟩ (.slice po (l.length + 1) co)) (w.heap.size + 1) [.int .i64 0, .int .i64 (a + 1)] ∧ Box (W9.setCell ⟨w.heap.size, 5, none⟩ (.slice po (l.length + 1) co)) (w.heap.size + 1 + 1) [.int .i64 0, .int .i64 0, .int .i64 0, .int .i64 0, .int .i64 0, .slice none 0 0] ∧ Below w.heap.size w (W9.setCell ⟨w.heap.size, 5, none⟩ (.slice po (l.length + 1) co)) ∧ OwnG (W9.setCell ⟨w.heap.size, 5, none⟩ (.slice po (l.length + 1) co)) 31 2 (.slice po (l.length + 1) co) (l.length + 1) (flatD l ++ [.int .i64 0, .int .i64 (a + 1)]) lv ∧ w.heap.size + 1 + 1 < lv) := by
        have hlt := X.out.2.2.2.2.1
        refine ⟨?_, X.out.2.1.oth (by omega), X.out.2.2.1.oth (by omega), bel_in X.out.2.2.2.1 (by omega), OV.out.kp Kp.set (fun k hk => by have := OV.out.ge k hk; omega), hlt⟩
        have := X.out.1.set (i := 5) (u := (.slice po (l.length + 1) co)) (by simp)
        simpa using this
      refine wRd 8 (fun K hK => ?_)
      go_simp
      (try simp only [])
      refine hK.out _ _ X2.out.2.1.c2 (fun hHeld' => ?_)
      clear hK K hHeld hHeld' a0 a1 a2 a3 a4 a5 g0 g1 g2 g3 g4 g6 X OV
      refine wLy ?_
      refine wpAnyH_done (by kernel_rfl) ?_ _
      generalize (W9.setCell ⟨w.heap.size, 5, none⟩ (.slice po (l.length + 1) co)) = WZ at *
      obtain ⟨a0, a1, a2, a3, a4, a5⟩ := X2.out.1.c6
      obtain ⟨b0, b1, b2, b3, b4, b5⟩ := X2.out.2.2.1.c6
      obtain ⟨f0, f1, f2, f3, f4, f5⟩ := X2.out.2.2.1.f6
      go_wp2_with fail
      clear a0 a1 a2 a3 a4 a5 b0 b1 b2 b3 b4 b5 f0 f1 f2 f3 f4 f5
      have hlt := X2.out.2.2.2.2.2
      have q0 : ∀ k, (Value.slice po (l.length + 1) co).ownBlock = some k → ¬ k = w.heap.size + 1 + 1 := fun k hk => by have := X2.out.2.2.2.2.1.ge k hk; omega
      have Z := X2.out.2.2.1.s6 (u0 := .int .i64 e) (u1 := .int .i64 o) (u2 := .int .i64 (a + 1)) (u3 := .int .i64 b) (u4 := .int .i64 c) (u5 := .slice po (l.length + 1) co)
      obtain ⟨z0, z1, z2, z3, z4, z5⟩ := Z.c6
      clear Z
      refine bodyPost_ret (v := .tuple #[.agg #[.int .i64 e, .int .i64 o, .int .i64 (a + 1), .int .i64 b, .int .i64 c, .slice po (l.length + 1) co], .bool true, .int .i64 0]) (by simp [results, Try.results32, go_sem, z0, z1, z2, z3, z4, z5]) rfl ?_
      have HBL : Below w.heap.size w _ := bel_in (bel_in (bel_in (bel_in (bel_in (bel_in X2.out.2.2.2.1 (i := 0) (u := .int .i64 e) (g := (w.heap.size + 1 + 1)) (by omega)) (i := 1) (u := .int .i64 o) (g := (w.heap.size + 1 + 1)) (by omega)) (i := 2) (u := .int .i64 (a + 1)) (g := (w.heap.size + 1 + 1)) (by omega)) (i := 3) (u := .int .i64 b) (g := (w.heap.size + 1 + 1)) (by omega)) (i := 4) (u := .int .i64 c) (g := (w.heap.size + 1 + 1)) (by omega)) (i := 5) (u := .slice po (l.length + 1) co) (g := (w.heap.size + 1 + 1)) (by omega)
      exact ⟨po, co, rfl, (((((((X2.out.2.2.2.2.1.kp Kp.set q0).kp Kp.set q0).kp Kp.set q0).kp Kp.set q0).kp Kp.set q0).kp Kp.set q0).weak (by omega)), HBL⟩
  · obtain ⟨a0, a1, a2, a3, a4, a5⟩ := X.out.1.c6
    go_simp
    (try simp only [])
    clear a0 a1 a2 a3 a4 a5
    refine wHk hK X.out.2.1.c2 ?_
    clear hK K hHeld
    intro hHeld
    refine wRd2 0 5 (fun K hK => ?_) (fun K hK => ?_)
    · go_simp
      (try simp only [])
      have OV : Hid (OwnG (W4.alloc (.cells #[] 31)) 31 2 (.slice (some ⟨W4.heap.size, 0, none⟩) 0 0) 0 [] lv) := OwnG.lit X.out.2.2.2.2.2
      replace X : Hid (AX w (W4.alloc (.cells #[] 31)) lv [.int .i64 e, .int .i64 o, .int .i64 (a + 1), .int .i64 b, .int .i64 c, .slice p l.length q] [.int .i64 0, .int .i64 (a + 1)] [.int .i64 0, .int .i64 0, .int .i64 0, .int .i64 0, .int .i64 0, .slice none 0 0]) := X.out.alloc
      replace RP : Hid (GRow lo (W4.alloc (.cells #[] 31)) p (flatD l)) := RP.out.next (bel_alloc W4 (.cells #[] 31))
      refine wHk hK X.out.2.1.c2 ?_
      clear hK K hHeld
      intro hHeld
      generalize W4.alloc (.cells #[] 31) = W6 at *
      generalize W4.heap.size = gz at *
      refine wRd2 3 5 (fun K hK => ?_) (fun K hK => ?_)
      · rw [if_pos (by rfl)]
        refine wp_appG elD (.tmp 43) (.tmp 45) rfl (Value.slice (some ⟨gz, 0, none⟩) 0 0) 0 [] lv l.length rfl OV.out X.out.2.2.2.2.2 p l.length q (flatD l) rfl (flatD_len l) (flatD_one l) lo RP.out (by omega) (by omega) ?_
        intro vo vc W7 hO hg _
        (try simp only [])
        replace X : Hid (AX w W7 lv [.int .i64 e, .int .i64 o, .int .i64 (a + 1), .int .i64 b, .int .i64 c, .slice p l.length q] [.int .i64 0, .int .i64 (a + 1)] [.int .i64 0, .int .i64 0, .int .i64 0, .int .i64 0, .int .i64 0, .slice none 0 0]) := X.out.step (hg.below X.out.2.2.2.2.2 OV.out.ge)
        replace hO : OwnG W7 31 2 (.slice vo l.length vc) l.length (flatD l) lv := by simpa using hO
        replace OV : Hid (OwnG W7 31 2 (.slice vo l.length vc) l.length (flatD l) lv) := hO
        clear hO hg RP
        refine wHk hK X.out.2.1.c2 ?_
        clear hK K hHeld
        intro hHeld
        refine wRd 5 (fun K hK => ?_)
        go_simp
        (try simp only [])
        have B1 : Hid (Box (W7.alloc (.cells #[.int .i64 0, .int .i64 (a + 1)] 31)) W7.heap.size [.int .i64 0, .int .i64 (a + 1)]) := box_mk
        have NE : Hid ((Value.slice vo l.length vc).ownBlock ≠ some W7.heap.size) := fun h => by have := (OV.out.own.lt _ h).2; omega
        replace OV : Hid _ := OV.out.next (bel_alloc W7 (.cells #[.int .i64 0, .int .i64 (a + 1)] 31))
        replace X : Hid (AX w (W7.alloc (.cells #[.int .i64 0, .int .i64 (a + 1)] 31)) lv [.int .i64 e, .int .i64 o, .int .i64 (a + 1), .int .i64 b, .int .i64 c, .slice p l.length q] [.int .i64 0, .int .i64 (a + 1)] [.int .i64 0, .int .i64 0, .int .i64 0, .int .i64 0, .int .i64 0, .slice none 0 0]) := X.out.alloc
        refine wHk hK X.out.2.1.c2 ?_
        clear hK K hHeld
        intro hHeld
        generalize W7.alloc (.cells #[.int .i64 0, .int .i64 (a + 1)] 31) = W8 at *
        generalize W7.heap.size = g5 at *
        refine wRd 6 (fun K hK => ?_)
        rw [if_pos (by rfl)]
        refine wp_appG elD (.tmp 46) (.tmp 48) rfl (Value.slice vo l.length vc) l.length (flatD l) lv (l.length + 1) rfl OV.out X.out.2.2.2.2.2 (some ⟨g5, 0, none⟩) 1 1 [.int .i64 0, .int .i64 (a + 1)] rfl (by simp) (by simp [Value.oneCell']) 0 (box_row B1.out) (by omega) rfl ?_
        intro po co W9 hO hg _
        (try simp only [])
        replace X : Hid (AX w W9 lv [.int .i64 e, .int .i64 o, .int .i64 (a + 1), .int .i64 b, .int .i64 c, .slice p l.length q] [.int .i64 0, .int .i64 (a + 1)] [.int .i64 0, .int .i64 0, .int .i64 0, .int .i64 0, .int .i64 0, .slice none 0 0]) := X.out.step (hg.below X.out.2.2.2.2.2 OV.out.ge)
        replace OV : Hid (OwnG W9 31 2 (.slice po (l.length + 1) co) (l.length + 1) (flatD l ++ [.int .i64 0, .int .i64 (a + 1)]) lv) := hO
        clear hO hg B1 NE
        refine wHk hK X.out.2.1.c2 ?_
        clear hK K hHeld
        intro hHeld
        refine wTk 7 ?_
        obtain ⟨a0, a1, a2, a3, a4, a5⟩ := X.out.1.c6
        obtain ⟨g0, g1, g2, g3, g4, g6⟩ := X.out.1.f6
        have X2 : Hid (Box (W9.setCell ⟨w.heap.size, 5, none⟩ (.slice po (l.length + 1) co)) w.heap.size [.int .i64 e, .int .i64 o, .int .i64 (a + 1), .int .i64 b, .int .i64 c, .slice po (l.length + 1) co] ∧ Box (W9.setCell ⟨w.heap.size, 5, none⟩ (.slice po (l.length + 1) co)) (w.heap.size + 1) [.int .i64 0, .int .i64 (a + 1)] ∧ Box (W9.setCell ⟨w.heap.size, 5, none⟩ (.slice po (l.length + 1) co)) (w.heap.size + 1 + 1) [.int .i64 0, .int .i64 0, .int .i64 0, .int .i64 0, .int .i64 0, .slice none 0 0] ∧ Below w.heap.size w (W9.setCell ⟨w.heap.size, 5, none⟩ (.slice po (l.length + 1) co)) ∧ OwnG (W9.setCell ⟨w.heap.size, 5, none⟩ (.slice po (l.length + 1) co)) 31 2 (.slice po (l.length + 1) co) (l.length + 1) (flatD l ++ [.int .i64 0, .int .i64 (a + 1)]) lv ∧ w.heap.size + 1 + 1 < lv) := by
          have hlt := X.out.2.2.2.2.1
          refine ⟨?_, X.out.2.1.oth (by omega), X.out.2.2.1.oth (by omega), bel_in X.out.2.2.2.1 (by omega), OV.out.kp Kp.set (fun k hk => by have := OV.out.ge k hk; omega), hlt⟩
          have := X.out.1.set (i := 5) (u := (.slice po (l.length + 1) co)) (by simp)
          simpa using this
        refine wRd 8 (fun K hK => ?_)
        go_simp
        (try simp only [])
        refine hK.out _ _ X2.out.2.1.c2 (fun hHeld' => ?_)
        clear hK K hHeld hHeld' a0 a1 a2 a3 a4 a5 g0 g1 g2 g3 g4 g6 X OV
        refine wLy ?_
        refine wpAnyH_done (by kernel_rfl) ?_ _
        generalize (W9.setCell ⟨w.heap.size, 5, none⟩ (.slice po (l.length + 1) co)) = WZ at *
        obtain ⟨a0, a1, a2, a3, a4, a5⟩ := X2.out.1.c6
        obtain ⟨b0, b1, b2, b3, b4, b5⟩ := X2.out.2.2.1.c6
        obtain ⟨f0, f1, f2, f3, f4, f5⟩ := X2.out.2.2.1.f6
        go_wp2_with fail
        clear a0 a1 a2 a3 a4 a5 b0 b1 b2 b3 b4 b5 f0 f1 f2 f3 f4 f5
        have hlt := X2.out.2.2.2.2.2
        have q0 : ∀ k, (Value.slice po (l.length + 1) co).ownBlock = some k → ¬ k = w.heap.size + 1 + 1 := fun k hk => by have := X2.out.2.2.2.2.1.ge k hk; omega
        have Z := X2.out.2.2.1.s6 (u0 := .int .i64 e) (u1 := .int .i64 o) (u2 := .int .i64 (a + 1)) (u3 := .int .i64 b) (u4 := .int .i64 c) (u5 := .slice po (l.length + 1) co)
        obtain ⟨z0, z1, z2, z3, z4, z5⟩ := Z.c6
        clear Z
        refine bodyPost_ret (v := .tuple #[.agg #[.int .i64 e, .int .i64 o, .int .i64 (a + 1), .int .i64 b, .int .i64 c, .slice po (l.length + 1) co], .bool true, .int .i64 0]) (by simp [results, Try.results32, go_sem, z0, z1, z2, z3, z4, z5]) rfl ?_
        have HBL : Below w.heap.size w _ := bel_in (bel_in (bel_in (bel_in (bel_in (bel_in X2.out.2.2.2.1 (i := 0) (u := .int .i64 e) (g := (w.heap.size + 1 + 1)) (by omega)) (i := 1) (u := .int .i64 o) (g := (w.heap.size + 1 + 1)) (by omega)) (i := 2) (u := .int .i64 (a + 1)) (g := (w.heap.size + 1 + 1)) (by omega)) (i := 3) (u := .int .i64 b) (g := (w.heap.size + 1 + 1)) (by omega)) (i := 4) (u := .int .i64 c) (g := (w.heap.size + 1 + 1)) (by omega)) (i := 5) (u := .slice po (l.length + 1) co) (g := (w.heap.size + 1 + 1)) (by omega)
        exact ⟨po, co, rfl, (((((((X2.out.2.2.2.2.1.kp Kp.set q0).kp Kp.set q0).kp Kp.set q0).kp Kp.set q0).kp Kp.set q0).kp Kp.set q0).weak (by omega)), HBL⟩
      · go_simp
        (try simp only [])
        have B1 : Hid (Box (W6.alloc (.cells #[.int .i64 0, .int .i64 (a + 1)] 31)) W6.heap.size [.int .i64 0, .int .i64 (a + 1)]) := box_mk
        have NE : Hid ((Value.slice (some ⟨gz, 0, none⟩) 0 0).ownBlock ≠ some W6.heap.size) := fun h => by have := (OV.out.own.lt _ h).2; omega
        replace OV : Hid _ := OV.out.next (bel_alloc W6 (.cells #[.int .i64 0, .int .i64 (a + 1)] 31))
        replace RP : Hid (GRow lo (W6.alloc (.cells #[.int .i64 0, .int .i64 (a + 1)] 31)) p (flatD l)) := RP.out.next (bel_alloc W6 (.cells #[.int .i64 0, .int .i64 (a + 1)] 31))
        replace X : Hid (AX w (W6.alloc (.cells #[.int .i64 0, .int .i64 (a + 1)] 31)) lv [.int .i64 e, .int .i64 o, .int .i64 (a + 1), .int .i64 b, .int .i64 c, .slice p l.length q] [.int .i64 0, .int .i64 (a + 1)] [.int .i64 0, .int .i64 0, .int .i64 0, .int .i64 0, .int .i64 0, .slice none 0 0]) := X.out.alloc
        refine wHk hK X.out.2.1.c2 ?_
        clear hK K hHeld
        intro hHeld
        generalize W6.alloc (.cells #[.int .i64 0, .int .i64 (a + 1)] 31) = W7 at *
        generalize W6.heap.size = g5 at *
        refine wRd 3 (fun K hK => ?_)
        rw [if_pos (by rfl)]
        refine wp_appG elD (.tmp 43) (.tmp 45) rfl (Value.slice (some ⟨gz, 0, none⟩) 0 0) 0 [] lv l.length rfl OV.out X.out.2.2.2.2.2 p l.length q (flatD l) rfl (flatD_len l) (flatD_one l) lo RP.out (by omega) (by omega) ?_
        intro vo vc W8 hO hg _
        (try simp only [])
        replace X : Hid (AX w W8 lv [.int .i64 e, .int .i64 o, .int .i64 (a + 1), .int .i64 b, .int .i64 c, .slice p l.length q] [.int .i64 0, .int .i64 (a + 1)] [.int .i64 0, .int .i64 0, .int .i64 0, .int .i64 0, .int .i64 0, .slice none 0 0]) := X.out.step (hg.below X.out.2.2.2.2.2 OV.out.ge)
        have NE2 : Hid ((Value.slice vo l.length vc).ownBlock ≠ some g5) := B1.out.ne hg NE.out
        replace B1 : Hid _ := B1.out.gro hg NE.out
        replace NE := NE2
        clear NE2
        replace hO : OwnG W8 31 2 (.slice vo l.length vc) l.length (flatD l) lv := by simpa using hO
        replace OV : Hid (OwnG W8 31 2 (.slice vo l.length vc) l.length (flatD l) lv) := hO
        clear hO hg RP
        refine wHk hK X.out.2.1.c2 ?_
        clear hK K hHeld
        intro hHeld
        refine wRd 6 (fun K hK => ?_)
        rw [if_pos (by rfl)]
        refine wp_appG elD (.tmp 46) (.tmp 48) rfl (Value.slice vo l.length vc) l.length (flatD l) lv (l.length + 1) rfl OV.out X.out.2.2.2.2.2 (some ⟨g5, 0, none⟩) 1 1 [.int .i64 0, .int .i64 (a + 1)] rfl (by simp) (by simp [Value.oneCell']) 0 (box_row B1.out) (by omega) rfl ?_
        intro po co W9 hO hg _
        (try simp only [])
        replace X : Hid (AX w W9 lv [.int .i64 e, .int .i64 o, .int .i64 (a + 1), .int .i64 b, .int .i64 c, .slice p l.length q] [.int .i64 0, .int .i64 (a + 1)] [.int .i64 0, .int .i64 0, .int .i64 0, .int .i64 0, .int .i64 0, .slice none 0 0]) := X.out.step (hg.below X.out.2.2.2.2.2 OV.out.ge)
        replace OV : Hid (OwnG W9 31 2 (.slice po (l.length + 1) co) (l.length + 1) (flatD l ++ [.int .i64 0, .int .i64 (a + 1)]) lv) := hO
        clear hO hg B1 NE
        refine wHk hK X.out.2.1.c2 ?_
        clear hK K hHeld
        intro hHeld
        refine wTk 7 ?_
        obtain ⟨a0, a1, a2, a3, a4, a5⟩ := X.out.1.c6
        obtain ⟨g0, g1, g2, g3, g4, g6⟩ := X.out.1.f6
        have X2 : Hid (Box (W9.setCell ⟨w.heap.size, 5, none⟩ (.slice po (l.length + 1) co)) w.heap.size [.int .i64 e, .int .i64 o, .int .i64 (a + 1), .int .i64 b, .int .i64 c, .slice po (l.length + 1) co] ∧ Box (W9.setCell ⟨w.heap.size, 5, none⟩ (.slice po (l.length + 1) co)) (w.heap.size + 1) [.int .i64 0, .int .i64 (a + 1)] ∧ Box (W9.setCell ⟨w.heap.size, 5, none⟩ (.slice po (l.length + 1) co)) (w.heap.size + 1 + 1) [.int .i64 0, .int .i64 0, .int .i64 0, .int .i64 0, .int .i64 0, .slice none 0 0] ∧ Below w.heap.size w (W9.setCell ⟨w.heap.size, 5, none⟩ (.slice po (l.length + 1) co)) ∧ OwnG (W9.setCell ⟨w.heap.size, 5, none⟩ (.slice po (l.length + 1) co)) 31 2 (.slice po (l.length + 1) co) (l.length + 1) (flatD l ++ [.int .i64 0, .int .i64 (a + 1)]) lv ∧ w.heap.size + 1 + 1 < lv) := by
          have hlt := X.out.2.2.2.2.1
          refine ⟨?_, X.out.2.1.oth (by omega), X.out.2.2.1.oth (by omega), bel_in X.out.2.2.2.1 (by omega), OV.out.kp Kp.set (fun k hk => by have := OV.out.ge k hk; omega), hlt⟩
          have := X.out.1.set (i := 5) (u := (.slice po (l.length + 1) co)) (by simp)
          simpa using this
        refine wRd 8 (fun K hK => ?_)
        go_simp
        (try simp only [])
        refine hK.out _ _ X2.out.2.1.c2 (fun hHeld' => ?_)
        clear hK K hHeld hHeld' a0 a1 a2 a3 a4 a5 g0 g1 g2 g3 g4 g6 X OV
        refine wLy ?_
        refine wpAnyH_done (by kernel_rfl) ?_ _
        generalize (W9.setCell ⟨w.heap.size, 5, none⟩ (.slice po (l.length + 1) co)) = WZ at *
        obtain ⟨a0, a1, a2, a3, a4, a5⟩ := X2.out.1.c6
        obtain ⟨b0, b1, b2, b3, b4, b5⟩ := X2.out.2.2.1.c6
        obtain ⟨f0, f1, f2, f3, f4, f5⟩ := X2.out.2.2.1.f6
        go_wp2_with fail
        clear a0 a1 a2 a3 a4 a5 b0 b1 b2 b3 b4 b5 f0 f1 f2 f3 f4 f5
        have hlt := X2.out.2.2.2.2.2
        have q0 : ∀ k, (Value.slice po (l.length + 1) co).ownBlock = some k → ¬ k = w.heap.size + 1 + 1 := fun k hk => by have := X2.out.2.2.2.2.1.ge k hk; omega
        have Z := X2.out.2.2.1.s6 (u0 := .int .i64 e) (u1 := .int .i64 o) (u2 := .int .i64 (a + 1)) (u3 := .int .i64 b) (u4 := .int .i64 c) (u5 := .slice po (l.length + 1) co)
        obtain ⟨z0, z1, z2, z3, z4, z5⟩ := Z.c6
        clear Z
        refine bodyPost_ret (v := .tuple #[.agg #[.int .i64 e, .int .i64 o, .int .i64 (a + 1), .int .i64 b, .int .i64 c, .slice po (l.length + 1) co], .bool true, .int .i64 0]) (by simp [results, Try.results32, go_sem, z0, z1, z2, z3, z4, z5]) rfl ?_
        have HBL : Below w.heap.size w _ := bel_in (bel_in (bel_in (bel_in (bel_in (bel_in X2.out.2.2.2.1 (i := 0) (u := .int .i64 e) (g := (w.heap.size + 1 + 1)) (by omega)) (i := 1) (u := .int .i64 o) (g := (w.heap.size + 1 + 1)) (by omega)) (i := 2) (u := .int .i64 (a + 1)) (g := (w.heap.size + 1 + 1)) (by omega)) (i := 3) (u := .int .i64 b) (g := (w.heap.size + 1 + 1)) (by omega)) (i := 4) (u := .int .i64 c) (g := (w.heap.size + 1 + 1)) (by omega)) (i := 5) (u := .slice po (l.length + 1) co) (g := (w.heap.size + 1 + 1)) (by omega)
        exact ⟨po, co, rfl, (((((((X2.out.2.2.2.2.1.kp Kp.set q0).kp Kp.set q0).kp Kp.set q0).kp Kp.set q0).kp Kp.set q0).kp Kp.set q0).weak (by omega)), HBL⟩
    · go_simp
      (try simp only [])
      have B1 : Hid (Box (W4.alloc (.cells #[.int .i64 0, .int .i64 (a + 1)] 31)) W4.heap.size [.int .i64 0, .int .i64 (a + 1)]) := box_mk
      replace RP : Hid (GRow lo (W4.alloc (.cells #[.int .i64 0, .int .i64 (a + 1)] 31)) p (flatD l)) := RP.out.next (bel_alloc W4 (.cells #[.int .i64 0, .int .i64 (a + 1)] 31))
      replace X : Hid (AX w (W4.alloc (.cells #[.int .i64 0, .int .i64 (a + 1)] 31)) lv [.int .i64 e, .int .i64 o, .int .i64 (a + 1), .int .i64 b, .int .i64 c, .slice p l.length q] [.int .i64 0, .int .i64 (a + 1)] [.int .i64 0, .int .i64 0, .int .i64 0, .int .i64 0, .int .i64 0, .slice none 0 0]) := X.out.alloc
      refine wHk hK X.out.2.1.c2 ?_
      clear hK K hHeld
      intro hHeld
      generalize W4.alloc (.cells #[.int .i64 0, .int .i64 (a + 1)] 31) = W6 at *
      generalize W4.heap.size = g5 at *
      refine wRd 0 (fun K hK => ?_)
      go_simp
      (try simp only [])
      have OV : Hid (OwnG (W6.alloc (.cells #[] 31)) 31 2 (.slice (some ⟨W6.heap.size, 0, none⟩) 0 0) 0 [] lv) := OwnG.lit X.out.2.2.2.2.2
      have NE : Hid ((Value.slice (some ⟨W6.heap.size, 0, none⟩) 0 0).ownBlock ≠ some g5) := fun h => by have := B1.out.lt; simp [Value.ownBlock] at h; omega
      replace B1 : Hid _ := B1.out.alloc (ob := (.cells #[] 31))
      replace X : Hid (AX w (W6.alloc (.cells #[] 31)) lv [.int .i64 e, .int .i64 o, .int .i64 (a + 1), .int .i64 b, .int .i64 c, .slice p l.length q] [.int .i64 0, .int .i64 (a + 1)] [.int .i64 0, .int .i64 0, .int .i64 0, .int .i64 0, .int .i64 0, .slice none 0 0]) := X.out.alloc
      replace RP : Hid (GRow lo (W6.alloc (.cells #[] 31)) p (flatD l)) := RP.out.next (bel_alloc W6 (.cells #[] 31))
      refine wHk hK X.out.2.1.c2 ?_
      clear hK K hHeld
      intro hHeld
      generalize W6.alloc (.cells #[] 31) = W7 at *
      generalize W6.heap.size = gz at *
      refine wRd 3 (fun K hK => ?_)
      rw [if_pos (by rfl)]
      refine wp_appG elD (.tmp 43) (.tmp 45) rfl (Value.slice (some ⟨gz, 0, none⟩) 0 0) 0 [] lv l.length rfl OV.out X.out.2.2.2.2.2 p l.length q (flatD l) rfl (flatD_len l) (flatD_one l) lo RP.out (by omega) (by omega) ?_
      intro vo vc W8 hO hg _
      (try simp only [])
      replace X : Hid (AX w W8 lv [.int .i64 e, .int .i64 o, .int .i64 (a + 1), .int .i64 b, .int .i64 c, .slice p l.length q] [.int .i64 0, .int .i64 (a + 1)] [.int .i64 0, .int .i64 0, .int .i64 0, .int .i64 0, .int .i64 0, .slice none 0 0]) := X.out.step (hg.below X.out.2.2.2.2.2 OV.out.ge)
      have NE2 : Hid ((Value.slice vo l.length vc).ownBlock ≠ some g5) := B1.out.ne hg NE.out
      replace B1 : Hid _ := B1.out.gro hg NE.out
      replace NE := NE2
      clear NE2
      replace hO : OwnG W8 31 2 (.slice vo l.length vc) l.length (flatD l) lv := by simpa using hO
      replace OV : Hid (OwnG W8 31 2 (.slice vo l.length vc) l.length (flatD l) lv) := hO
      clear hO hg RP
      refine wHk hK X.out.2.1.c2 ?_
      clear hK K hHeld
      intro hHeld
      refine wRd 6 (fun K hK => ?_)
      rw [if_pos (by rfl)]
      refine wp_appG elD (.tmp 46) (.tmp 48) rfl (Value.slice vo l.length vc) l.length (flatD l) lv (l.length + 1) rfl OV.out X.out.2.2.2.2.2 (some ⟨g5, 0, none⟩) 1 1 [.int .i64 0, .int .i64 (a + 1)] rfl (by simp) (by simp [Value.oneCell']) 0 (box_row B1.out) (by omega) rfl ?_
      intro po co W9 hO hg _
      (try simp only [])
      replace X : Hid (AX w W9 lv [.int .i64 e, .int .i64 o, .int .i64 (a + 1), .int .i64 b, .int .i64 c, .slice p l.length q] [.int .i64 0, .int .i64 (a + 1)] [.int .i64 0, .int .i64 0, .int .i64 0, .int .i64 0, .int .i64 0, .slice none 0 0]) := X.out.step (hg.below X.out.2.2.2.2.2 OV.out.ge)
      replace OV : Hid (OwnG W9 31 2 (.slice po (l.length + 1) co) (l.length + 1) (flatD l ++ [.int .i64 0, .int .i64 (a + 1)]) lv) := hO
      clear hO hg B1 NE
      refine wHk hK X.out.2.1.c2 ?_
      clear hK K hHeld
      intro hHeld
      refine wTk 7 ?_
      obtain ⟨a0, a1, a2, a3, a4, a5⟩ := X.out.1.c6
      obtain ⟨g0, g1, g2, g3, g4, g6⟩ := X.out.1.f6
      have X2 : Hid (Box (W9.setCell ⟨w.heap.size, 5, none⟩ (.slice po (l.length + 1) co)) w.heap.size [.int .i64 e, .int .i64 o, .int .i64 (a + 1), .int .i64 b, .int .i64 c, .slice po (l.length + 1) co] ∧ Box (W9.setCell ⟨w.heap.size, 5, none⟩ (.slice po (l.length + 1) co)) (w.heap.size + 1) [.int .i64 0, .int .i64 (a + 1)] ∧ Box (W9.setCell ⟨w.heap.size, 5, none⟩ (.slice po (l.length + 1) co)) (w.heap.size + 1 + 1) [.int .i64 0, .int .i64 0, .int .i64 0, .int .i64 0, .int .i64 0, .slice none 0 0] ∧ Below w.heap.size w (W9.setCell ⟨w.heap.size, 5, none⟩ (.slice po (l.length + 1) co)) ∧ OwnG (W9.setCell ⟨w.heap.size, 5, none⟩ (.slice po (l.length + 1) co)) 31 2 (.slice po (l.length + 1) co) (l.length + 1) (flatD l ++ [.int .i64 0, .int .i64 (a + 1)]) lv ∧ w.heap.size + 1 + 1 < lv) := by
        have hlt := X.out.2.2.2.2.1
        refine ⟨?_, X.out.2.1.oth (by omega), X.out.2.2.1.oth (by omega), bel_in X.out.2.2.2.1 (by omega), OV.out.kp Kp.set (fun k hk => by have := OV.out.ge k hk; omega), hlt⟩
        have := X.out.1.set (i := 5) (u := (.slice po (l.length + 1) co)) (by simp)
        simpa using this
      refine wRd 8 (fun K hK => ?_)
      go_simp
      (try simp only [])
      refine hK.out _ _ X2.out.2.1.c2 (fun hHeld' => ?_)
      clear hK K hHeld hHeld' a0 a1 a2 a3 a4 a5 g0 g1 g2 g3 g4 g6 X OV
      refine wLy ?_
      refine wpAnyH_done (by kernel_rfl) ?_ _
      generalize (W9.setCell ⟨w.heap.size, 5, none⟩ (.slice po (l.length + 1) co)) = WZ at *
      obtain ⟨a0, a1, a2, a3, a4, a5⟩ := X2.out.1.c6
      obtain ⟨b0, b1, b2, b3, b4, b5⟩ := X2.out.2.2.1.c6
      obtain ⟨f0, f1, f2, f3, f4, f5⟩ := X2.out.2.2.1.f6
      go_wp2_with fail
      clear a0 a1 a2 a3 a4 a5 b0 b1 b2 b3 b4 b5 f0 f1 f2 f3 f4 f5
      have hlt := X2.out.2.2.2.2.2
      have q0 : ∀ k, (Value.slice po (l.length + 1) co).ownBlock = some k → ¬ k = w.heap.size + 1 + 1 := fun k hk => by have := X2.out.2.2.2.2.1.ge k hk; omega
      have Z := X2.out.2.2.1.s6 (u0 := .int .i64 e) (u1 := .int .i64 o) (u2 := .int .i64 (a + 1)) (u3 := .int .i64 b) (u4 := .int .i64 c) (u5 := .slice po (l.length + 1) co)
      obtain ⟨z0, z1, z2, z3, z4, z5⟩ := Z.c6
      clear Z
      refine bodyPost_ret (v := .tuple #[.agg #[.int .i64 e, .int .i64 o, .int .i64 (a + 1), .int .i64 b, .int .i64 c, .slice po (l.length + 1) co], .bool true, .int .i64 0]) (by simp [results, Try.results32, go_sem, z0, z1, z2, z3, z4, z5]) rfl ?_
      have HBL : Below w.heap.size w _ := bel_in (bel_in (bel_in (bel_in (bel_in (bel_in X2.out.2.2.2.1 (i := 0) (u := .int .i64 e) (g := (w.heap.size + 1 + 1)) (by omega)) (i := 1) (u := .int .i64 o) (g := (w.heap.size + 1 + 1)) (by omega)) (i := 2) (u := .int .i64 (a + 1)) (g := (w.heap.size + 1 + 1)) (by omega)) (i := 3) (u := .int .i64 b) (g := (w.heap.size + 1 + 1)) (by omega)) (i := 4) (u := .int .i64 c) (g := (w.heap.size + 1 + 1)) (by omega)) (i := 5) (u := .slice po (l.length + 1) co) (g := (w.heap.size + 1 + 1)) (by omega)
      exact ⟨po, co, rfl, (((((((X2.out.2.2.2.2.1.kp Kp.set q0).kp Kp.set q0).kp Kp.set q0).kp Kp.set q0).kp Kp.set q0).kp Kp.set q0).weak (by omega)), HBL⟩
  · go_simp
    (try simp only [])
    have B1 : Hid (Box (W4.alloc (.cells #[.int .i64 0, .int .i64 (a + 1)] 31)) W4.heap.size [.int .i64 0, .int .i64 (a + 1)]) := box_mk
    replace RP : Hid (GRow lo (W4.alloc (.cells #[.int .i64 0, .int .i64 (a + 1)] 31)) p (flatD l)) := RP.out.next (bel_alloc W4 (.cells #[.int .i64 0, .int .i64 (a + 1)] 31))
    replace X : Hid (AX w (W4.alloc (.cells #[.int .i64 0, .int .i64 (a + 1)] 31)) lv [.int .i64 e, .int .i64 o, .int .i64 (a + 1), .int .i64 b, .int .i64 c, .slice p l.length q] [.int .i64 0, .int .i64 (a + 1)] [.int .i64 0, .int .i64 0, .int .i64 0, .int .i64 0, .int .i64 0, .slice none 0 0]) := X.out.alloc
    refine wHk hK X.out.2.1.c2 ?_
    clear hK K hHeld
    intro hHeld
    generalize W4.alloc (.cells #[.int .i64 0, .int .i64 (a + 1)] 31) = W5 at *
    generalize W4.heap.size = g5 at *
    refine wRd2 0 2 (fun K hK => ?_) (fun K hK => ?_)
    · go_simp
      (try simp only [])
      have OV : Hid (OwnG (W5.alloc (.cells #[] 31)) 31 2 (.slice (some ⟨W5.heap.size, 0, none⟩) 0 0) 0 [] lv) := OwnG.lit X.out.2.2.2.2.2
      have NE : Hid ((Value.slice (some ⟨W5.heap.size, 0, none⟩) 0 0).ownBlock ≠ some g5) := fun h => by have := B1.out.lt; simp [Value.ownBlock] at h; omega
      replace B1 : Hid _ := B1.out.alloc (ob := (.cells #[] 31))
      replace X : Hid (AX w (W5.alloc (.cells #[] 31)) lv [.int .i64 e, .int .i64 o, .int .i64 (a + 1), .int .i64 b, .int .i64 c, .slice p l.length q] [.int .i64 0, .int .i64 (a + 1)] [.int .i64 0, .int .i64 0, .int .i64 0, .int .i64 0, .int .i64 0, .slice none 0 0]) := X.out.alloc
      replace RP : Hid (GRow lo (W5.alloc (.cells #[] 31)) p (flatD l)) := RP.out.next (bel_alloc W5 (.cells #[] 31))
      refine wHk hK X.out.2.1.c2 ?_
      clear hK K hHeld
      intro hHeld
      generalize W5.alloc (.cells #[] 31) = W6 at *
      generalize W5.heap.size = gz at *
      refine wRd 2 (fun K hK => ?_)
      obtain ⟨a0, a1, a2, a3, a4, a5⟩ := X.out.1.c6
      go_simp
      (try simp only [])
      clear a0 a1 a2 a3 a4 a5
      refine wHk hK X.out.2.1.c2 ?_
      clear hK K hHeld
      intro hHeld
      refine wRd 3 (fun K hK => ?_)
      rw [if_pos (by rfl)]
      refine wp_appG elD (.tmp 43) (.tmp 45) rfl (Value.slice (some ⟨gz, 0, none⟩) 0 0) 0 [] lv l.length rfl OV.out X.out.2.2.2.2.2 p l.length q (flatD l) rfl (flatD_len l) (flatD_one l) lo RP.out (by omega) (by omega) ?_
      intro vo vc W8 hO hg _
      (try simp only [])
      replace X : Hid (AX w W8 lv [.int .i64 e, .int .i64 o, .int .i64 (a + 1), .int .i64 b, .int .i64 c, .slice p l.length q] [.int .i64 0, .int .i64 (a + 1)] [.int .i64 0, .int .i64 0, .int .i64 0, .int .i64 0, .int .i64 0, .slice none 0 0]) := X.out.step (hg.below X.out.2.2.2.2.2 OV.out.ge)
      have NE2 : Hid ((Value.slice vo l.length vc).ownBlock ≠ some g5) := B1.out.ne hg NE.out
      replace B1 : Hid _ := B1.out.gro hg NE.out
      replace NE := NE2
      clear NE2
      replace hO : OwnG W8 31 2 (.slice vo l.length vc) l.length (flatD l) lv := by simpa using hO
      replace OV : Hid (OwnG W8 31 2 (.slice vo l.length vc) l.length (flatD l) lv) := hO
      clear hO hg RP
      refine wHk hK X.out.2.1.c2 ?_
      clear hK K hHeld
      intro hHeld
      refine wRd 6 (fun K hK => ?_)
      rw [if_pos (by rfl)]
      refine wp_appG elD (.tmp 46) (.tmp 48) rfl (Value.slice vo l.length vc) l.length (flatD l) lv (l.length + 1) rfl OV.out X.out.2.2.2.2.2 (some ⟨g5, 0, none⟩) 1 1 [.int .i64 0, .int .i64 (a + 1)] rfl (by simp) (by simp [Value.oneCell']) 0 (box_row B1.out) (by omega) rfl ?_
      intro po co W9 hO hg _
      (try simp only [])
      replace X : Hid (AX w W9 lv [.int .i64 e, .int .i64 o, .int .i64 (a + 1), .int .i64 b, .int .i64 c, .slice p l.length q] [.int .i64 0, .int .i64 (a + 1)] [.int .i64 0, .int .i64 0, .int .i64 0, .int .i64 0, .int .i64 0, .slice none 0 0]) := X.out.step (hg.below X.out.2.2.2.2.2 OV.out.ge)
      replace OV : Hid (OwnG W9 31 2 (.slice po (l.length + 1) co) (l.length + 1) (flatD l ++ [.int .i64 0, .int .i64 (a + 1)]) lv) := hO
      clear hO hg B1 NE
      refine wHk hK X.out.2.1.c2 ?_
      clear hK K hHeld
      intro hHeld
      refine wTk 7 ?_
      obtain ⟨a0, a1, a2, a3, a4, a5⟩ := X.out.1.c6
      obtain ⟨g0, g1, g2, g3, g4, g6⟩ := X.out.1.f6
      have X2 : Hid (Box (W9.setCell ⟨w.heap.size, 5, none⟩ (.slice po (l.length + 1) co)) w.heap.size [.int .i64 e, .int .i64 o, .int .i64 (a + 1), .int .i64 b, .int .i64 c, .slice po (l.length + 1) co] ∧ Box (W9.setCell ⟨w.heap.size, 5, none⟩ (.slice po (l.length + 1) co)) (w.heap.size + 1) [.int .i64 0, .int .i64 (a + 1)] ∧ Box (W9.setCell ⟨w.heap.size, 5, none⟩ (.slice po (l.length + 1) co)) (w.heap.size + 1 + 1) [.int .i64 0, .int .i64 0, .int .i64 0, .int .i64 0, .int .i64 0, .slice none 0 0] ∧ Below w.heap.size w (W9.setCell ⟨w.heap.size, 5, none⟩ (.slice po (l.length + 1) co)) ∧ OwnG (W9.setCell ⟨w.heap.size, 5, none⟩ (.slice po (l.length + 1) co)) 31 2 (.slice po (l.length + 1) co) (l.length + 1) (flatD l ++ [.int .i64 0, .int .i64 (a + 1)]) lv ∧ w.heap.size + 1 + 1 < lv) := by
        have hlt := X.out.2.2.2.2.1
        refine ⟨?_, X.out.2.1.oth (by omega), X.out.2.2.1.oth (by omega), bel_in X.out.2.2.2.1 (by omega), OV.out.kp Kp.set (fun k hk => by have := OV.out.ge k hk; omega), hlt⟩
        have := X.out.1.set (i := 5) (u := (.slice po (l.length + 1) co)) (by simp)
        simpa using this
      refine wRd 8 (fun K hK => ?_)
      go_simp
      (try simp only [])
      refine hK.out _ _ X2.out.2.1.c2 (fun hHeld' => ?_)
      clear hK K hHeld hHeld' a0 a1 a2 a3 a4 a5 g0 g1 g2 g3 g4 g6 X OV
      refine wLy ?_
      refine wpAnyH_done (by kernel_rfl) ?_ _
      generalize (W9.setCell ⟨w.heap.size, 5, none⟩ (.slice po (l.length + 1) co)) = WZ at *
      obtain ⟨a0, a1, a2, a3, a4, a5⟩ := X2.out.1.c6
      obtain ⟨b0, b1, b2, b3, b4, b5⟩ := X2.out.2.2.1.c6
      obtain ⟨f0, f1, f2, f3, f4, f5⟩ := X2.out.2.2.1.f6
      go_wp2_with fail
      clear a0 a1 a2 a3 a4 a5 b0 b1 b2 b3 b4 b5 f0 f1 f2 f3 f4 f5
      have hlt := X2.out.2.2.2.2.2
      have q0 : ∀ k, (Value.slice po (l.length + 1) co).ownBlock = some k → ¬ k = w.heap.size + 1 + 1 := fun k hk => by have := X2.out.2.2.2.2.1.ge k hk; omega
      have Z := X2.out.2.2.1.s6 (u0 := .int .i64 e) (u1 := .int .i64 o) (u2 := .int .i64 (a + 1)) (u3 := .int .i64 b) (u4 := .int .i64 c) (u5 := .slice po (l.length + 1) co)
      obtain ⟨z0, z1, z2, z3, z4, z5⟩ := Z.c6
      clear Z
      refine bodyPost_ret (v := .tuple #[.agg #[.int .i64 e, .int .i64 o, .int .i64 (a + 1), .int .i64 b, .int .i64 c, .slice po (l.length + 1) co], .bool true, .int .i64 0]) (by simp [results, Try.results32, go_sem, z0, z1, z2, z3, z4, z5]) rfl ?_
      have HBL : Below w.heap.size w _ := bel_in (bel_in (bel_in (bel_in (bel_in (bel_in X2.out.2.2.2.1 (i := 0) (u := .int .i64 e) (g := (w.heap.size + 1 + 1)) (by omega)) (i := 1) (u := .int .i64 o) (g := (w.heap.size + 1 + 1)) (by omega)) (i := 2) (u := .int .i64 (a + 1)) (g := (w.heap.size + 1 + 1)) (by omega)) (i := 3) (u := .int .i64 b) (g := (w.heap.size + 1 + 1)) (by omega)) (i := 4) (u := .int .i64 c) (g := (w.heap.size + 1 + 1)) (by omega)) (i := 5) (u := .slice po (l.length + 1) co) (g := (w.heap.size + 1 + 1)) (by omega)
      exact ⟨po, co, rfl, (((((((X2.out.2.2.2.2.1.kp Kp.set q0).kp Kp.set q0).kp Kp.set q0).kp Kp.set q0).kp Kp.set q0).kp Kp.set q0).weak (by omega)), HBL⟩
    · obtain ⟨a0, a1, a2, a3, a4, a5⟩ := X.out.1.c6
      go_simp
      (try simp only [])
      clear a0 a1 a2 a3 a4 a5
      refine wHk hK X.out.2.1.c2 ?_
      clear hK K hHeld
      intro hHeld
      refine wRd 0 (fun K hK => ?_)
      go_simp
      (try simp only [])
      have OV : Hid (OwnG (W5.alloc (.cells #[] 31)) 31 2 (.slice (some ⟨W5.heap.size, 0, none⟩) 0 0) 0 [] lv) := OwnG.lit X.out.2.2.2.2.2
      have NE : Hid ((Value.slice (some ⟨W5.heap.size, 0, none⟩) 0 0).ownBlock ≠ some g5) := fun h => by have := B1.out.lt; simp [Value.ownBlock] at h; omega
      replace B1 : Hid _ := B1.out.alloc (ob := (.cells #[] 31))
      replace X : Hid (AX w (W5.alloc (.cells #[] 31)) lv [.int .i64 e, .int .i64 o, .int .i64 (a + 1), .int .i64 b, .int .i64 c, .slice p l.length q] [.int .i64 0, .int .i64 (a + 1)] [.int .i64 0, .int .i64 0, .int .i64 0, .int .i64 0, .int .i64 0, .slice none 0 0]) := X.out.alloc
      replace RP : Hid (GRow lo (W5.alloc (.cells #[] 31)) p (flatD l)) := RP.out.next (bel_alloc W5 (.cells #[] 31))
      refine wHk hK X.out.2.1.c2 ?_
      clear hK K hHeld
      intro hHeld
      generalize W5.alloc (.cells #[] 31) = W7 at *
      generalize W5.heap.size = gz at *
      refine wRd 3 (fun K hK => ?_)
      rw [if_pos (by rfl)]
      refine wp_appG elD (.tmp 43) (.tmp 45) rfl (Value.slice (some ⟨gz, 0, none⟩) 0 0) 0 [] lv l.length rfl OV.out X.out.2.2.2.2.2 p l.length q (flatD l) rfl (flatD_len l) (flatD_one l) lo RP.out (by omega) (by omega) ?_
      intro vo vc W8 hO hg _
      (try simp only [])
      replace X : Hid (AX w W8 lv [.int .i64 e, .int .i64 o, .int .i64 (a + 1), .int .i64 b, .int .i64 c, .slice p l.length q] [.int .i64 0, .int .i64 (a + 1)] [.int .i64 0, .int .i64 0, .int .i64 0, .int .i64 0, .int .i64 0, .slice none 0 0]) := X.out.step (hg.below X.out.2.2.2.2.2 OV.out.ge)
      have NE2 : Hid ((Value.slice vo l.length vc).ownBlock ≠ some g5) := B1.out.ne hg NE.out
      replace B1 : Hid _ := B1.out.gro hg NE.out
      replace NE := NE2
      clear NE2
      replace hO : OwnG W8 31 2 (.slice vo l.length vc) l.length (flatD l) lv := by simpa using hO
      replace OV : Hid (OwnG W8 31 2 (.slice vo l.length vc) l.length (flatD l) lv) := hO
      clear hO hg RP
      refine wHk hK X.out.2.1.c2 ?_
      clear hK K hHeld
      intro hHeld
      refine wRd 6 (fun K hK => ?_)
      rw [if_pos (by rfl)]
      refine wp_appG elD (.tmp 46) (.tmp 48) rfl (Value.slice vo l.length vc) l.length (flatD l) lv (l.length + 1) rfl OV.out X.out.2.2.2.2.2 (some ⟨g5, 0, none⟩) 1 1 [.int .i64 0, .int .i64 (a + 1)] rfl (by simp) (by simp [Value.oneCell']) 0 (box_row B1.out) (by omega) rfl ?_
      intro po co W9 hO hg _
      (try simp only [])
      replace X : Hid (AX w W9 lv [.int .i64 e, .int .i64 o, .int .i64 (a + 1), .int .i64 b, .int .i64 c, .slice p l.length q] [.int .i64 0, .int .i64 (a + 1)] [.int .i64 0, .int .i64 0, .int .i64 0, .int .i64 0, .int .i64 0, .slice none 0 0]) := X.out.step (hg.below X.out.2.2.2.2.2 OV.out.ge)
      replace OV : Hid (OwnG W9 31 2 (.slice po (l.length + 1) co) (l.length + 1) (flatD l ++ [.int .i64 0, .int .i64 (a + 1)]) lv) := hO
      clear hO hg B1 NE
      refine wHk hK X.out.2.1.c2 ?_
      clear hK K hHeld
      intro hHeld
      refine wTk 7 ?_
      obtain ⟨a0, a1, a2, a3, a4, a5⟩ := X.out.1.c6
      obtain ⟨g0, g1, g2, g3, g4, g6⟩ := X.out.1.f6
      have X2 : Hid (Box (W9.setCell ⟨w.heap.size, 5, none⟩ (.slice po (l.length + 1) co)) w.heap.size [.int .i64 e, .int .i64 o, .int .i64 (a + 1), .int .i64 b, .int .i64 c, .slice po (l.length + 1) co] ∧ Box (W9.setCell ⟨w.heap.size, 5, none⟩ (.slice po (l.length + 1) co)) (w.heap.size + 1) [.int .i64 0, .int .i64 (a + 1)] ∧ Box (W9.setCell ⟨w.heap.size, 5, none⟩ (.slice po (l.length + 1) co)) (w.heap.size + 1 + 1) [.int .i64 0, .int .i64 0, .int .i64 0, .int .i64 0, .int .i64 0, .slice none 0 0] ∧ Below w.heap.size w (W9.setCell ⟨w.heap.size, 5, none⟩ (.slice po (l.length + 1) co)) ∧ OwnG (W9.setCell ⟨w.heap.size, 5, none⟩ (.slice po (l.length + 1) co)) 31 2 (.slice po (l.length + 1) co) (l.length + 1) (flatD l ++ [.int .i64 0, .int .i64 (a + 1)]) lv ∧ w.heap.size + 1 + 1 < lv) := by
        have hlt := X.out.2.2.2.2.1
        refine ⟨?_, X.out.2.1.oth (by omega), X.out.2.2.1.oth (by omega), bel_in X.out.2.2.2.1 (by omega), OV.out.kp Kp.set (fun k hk => by have := OV.out.ge k hk; omega), hlt⟩
        have := X.out.1.set (i := 5) (u := (.slice po (l.length + 1) co)) (by simp)
        simpa using this
      refine wRd 8 (fun K hK => ?_)
      go_simp
      (try simp only [])
      refine hK.out _ _ X2.out.2.1.c2 (fun hHeld' => ?_)
      clear hK K hHeld hHeld' a0 a1 a2 a3 a4 a5 g0 g1 g2 g3 g4 g6 X OV
      refine wLy ?_
      refine wpAnyH_done (by kernel_rfl) ?_ _
      generalize (W9.setCell ⟨w.heap.size, 5, none⟩ (.slice po (l.length + 1) co)) = WZ at *
      obtain ⟨a0, a1, a2, a3, a4, a5⟩ := X2.out.1.c6
      obtain ⟨b0, b1, b2, b3, b4, b5⟩ := X2.out.2.2.1.c6
      obtain ⟨f0, f1, f2, f3, f4, f5⟩ := X2.out.2.2.1.f6
      go_wp2_with fail
      clear a0 a1 a2 a3 a4 a5 b0 b1 b2 b3 b4 b5 f0 f1 f2 f3 f4 f5
      have hlt := X2.out.2.2.2.2.2
      have q0 : ∀ k, (Value.slice po (l.length + 1) co).ownBlock = some k → ¬ k = w.heap.size + 1 + 1 := fun k hk => by have := X2.out.2.2.2.2.1.ge k hk; omega
      have Z := X2.out.2.2.1.s6 (u0 := .int .i64 e) (u1 := .int .i64 o) (u2 := .int .i64 (a + 1)) (u3 := .int .i64 b) (u4 := .int .i64 c) (u5 := .slice po (l.length + 1) co)
      obtain ⟨z0, z1, z2, z3, z4, z5⟩ := Z.c6
      clear Z
      refine bodyPost_ret (v := .tuple #[.agg #[.int .i64 e, .int .i64 o, .int .i64 (a + 1), .int .i64 b, .int .i64 c, .slice po (l.length + 1) co], .bool true, .int .i64 0]) (by simp [results, Try.results32, go_sem, z0, z1, z2, z3, z4, z5]) rfl ?_
      have HBL : Below w.heap.size w _ := bel_in (bel_in (bel_in (bel_in (bel_in (bel_in X2.out.2.2.2.1 (i := 0) (u := .int .i64 e) (g := (w.heap.size + 1 + 1)) (by omega)) (i := 1) (u := .int .i64 o) (g := (w.heap.size + 1 + 1)) (by omega)) (i := 2) (u := .int .i64 (a + 1)) (g := (w.heap.size + 1 + 1)) (by omega)) (i := 3) (u := .int .i64 b) (g := (w.heap.size + 1 + 1)) (by omega)) (i := 4) (u := .int .i64 c) (g := (w.heap.size + 1 + 1)) (by omega)) (i := 5) (u := .slice po (l.length + 1) co) (g := (w.heap.size + 1 + 1)) (by omega)
      exact ⟨po, co, rfl, (((((((X2.out.2.2.2.2.1.kp Kp.set q0).kp Kp.set q0).kp Kp.set q0).kp Kp.set q0).kp Kp.set q0).kp Kp.set q0).weak (by omega)), HBL⟩

set_option maxRecDepth 100000 in
set_option maxHeartbeats 4000000 in
theorem lack_ok1 (lo q : Nat) (p : Option Addr) (l : List Dt) (e o a b c : Int) (w : World) (hx : 0 ≤ b ∧ b ≤ 9999) (hl : l.length < 4096) (hr0 : GRow lo w p (flatD l)) :
    Calls Try.prog 32 #[.agg #[.int .i64 e, .int .i64 o, .int .i64 a, .int .i64 b, .int .i64 c, .slice p l.length q], .int .i64 e, .agg #[.int .i64 1, .int .i64 (b + 1)]] w fun r w' => ∃ po co, r = .returned (.tuple #[.agg #[.int .i64 e, .int .i64 o, .int .i64 a, .int .i64 (b + 1), .int .i64 c, .slice po (l.length + 1) co], .bool true, .int .i64 0]) ∧ OwnG w' 31 2 (.slice po (l.length + 1) co) (l.length + 1) (flatD l ++ [.int .i64 1, .int .i64 (b + 1)]) w.heap.size ∧ Below w.heap.size w w' := by
  have hr : Hid (GRow lo w p (flatD l)) := hr0
  clear hr0
  have hw : IntKind.i64.wrap (b + 1) = b + 1 := by rw [IntKind.wrap_i64]; omega
  have h3 : ((l.length : Int) == 4096) = false := by simp; omega
  go_enter Try.func32, Try.ntmps32
  go_upto_region 1 with fail
  refine wp_gen (fun W => Box W w.heap.size [.int .i64 e, .int .i64 o, .int .i64 a, .int .i64 b, .int .i64 c, .slice p l.length q] ∧ Box W (w.heap.size + 1) [.int .i64 1, .int .i64 (b + 1)] ∧ Box W (w.heap.size + 1 + 1) [.int .i64 0, .int .i64 0, .int .i64 0, .int .i64 0, .int .i64 0, .slice none 0 0] ∧ Below w.heap.size w W) ⟨box_mk.alloc.alloc, box_mid, box_end, bel3 _ _ _ _⟩ (fun W0 hI => ?_)
  have Y : Hid _ := hI
  clear hI
  obtain ⟨a0, a1, a2, a3, a4, a5⟩ := Y.out.1.c6
  obtain ⟨d0, d1⟩ := Y.out.2.1.c2
  go_wp2_with fail
  refine (has_1false a b c (b + 1) _ (by omega)).mono ?_
  rintro e1 W1 ⟨rfl, hb⟩
  replace Y : Hid (Box W1 w.heap.size [.int .i64 e, .int .i64 o, .int .i64 a, .int .i64 b, .int .i64 c, .slice p l.length q] ∧ Box W1 (w.heap.size + 1) [.int .i64 1, .int .i64 (b + 1)] ∧ Box W1 (w.heap.size + 1 + 1) [.int .i64 0, .int .i64 0, .int .i64 0, .int .i64 0, .int .i64 0, .slice none 0 0] ∧ Below w.heap.size w W1) := ⟨Y.out.1.next hb, Y.out.2.1.next hb, Y.out.2.2.1.next hb, Y.out.2.2.2.trans (hb.mono Y.out.2.2.2.size)⟩
  clear hb a0 a1 a2 a3 a4 a5 d0 d1
  obtain ⟨a0, a1, a2, a3, a4, a5⟩ := Y.out.1.c6
  obtain ⟨d0, d1⟩ := Y.out.2.1.c2
  go_wp2_with fail
  go_quiet (fail)
  rename_i nq _
  go_wp2_with fail
  have hb : Below W1.heap.size W1 _ := below_drewN (Below.refl _ _) nq
  refine (add_1 a b c (b + 1) _ (by omega)).mono ?_
  rintro e1 W2 ⟨rfl, hb2⟩
  have hb3 := hb.trans (hb2.mono hb.size)
  replace Y : Hid (Box W2 w.heap.size [.int .i64 e, .int .i64 o, .int .i64 a, .int .i64 b, .int .i64 c, .slice p l.length q] ∧ Box W2 (w.heap.size + 1) [.int .i64 1, .int .i64 (b + 1)] ∧ Box W2 (w.heap.size + 1 + 1) [.int .i64 0, .int .i64 0, .int .i64 0, .int .i64 0, .int .i64 0, .slice none 0 0] ∧ Below w.heap.size w W2) := ⟨Y.out.1.next hb3, Y.out.2.1.next hb3, Y.out.2.2.1.next hb3, Y.out.2.2.2.trans (hb3.mono Y.out.2.2.2.size)⟩
  clear hb hb2 hb3 a0 a1 a2 a3 a4 a5 d0 d1
  obtain ⟨a0, a1, a2, a3, a4, a5⟩ := Y.out.1.c6
  obtain ⟨f0, f1, f2, f3, f4, f5⟩ := Y.out.1.f6
  go_upto_region 10 with fail
  clear a0 a1 a2 a3 a4 a5 f0 f1 f2 f3 f4 f5
  refine wp_gen (fun W => Box W w.heap.size [.int .i64 e, .int .i64 o, .int .i64 a, .int .i64 (b + 1), .int .i64 c, .slice p l.length q] ∧ Box W (w.heap.size + 1) [.int .i64 1, .int .i64 (b + 1)] ∧ Box W (w.heap.size + 1 + 1) [.int .i64 0, .int .i64 0, .int .i64 0, .int .i64 0, .int .i64 0, .slice none 0 0] ∧ Below w.heap.size w W) ?_ (fun W3 hI => ?_)
  · refine ⟨?_, (((Y.out.2.1.oth (by omega)).oth (by omega)).oth (by omega)), (((Y.out.2.2.1.oth (by omega)).oth (by omega)).oth (by omega)), bel_in (bel_in (bel_in Y.out.2.2.2 (by omega)) (by omega)) (by omega)⟩
    have := ((Y.out.1.set (i := 2) (u := .int .i64 a) (by simp)).set (i := 3) (u := .int .i64 (b + 1)) (by simp)).set (i := 4) (u := .int .i64 c) (by simp)
    simpa using this
  clear Y
  have Y : Hid _ := hI
  clear hI
  refine wp_region_held_drew (S := (fun w' => w'.cell? ⟨w.heap.size + 1, 0, none⟩ = some (.int .i64 1) ∧ w'.cell? ⟨w.heap.size + 1, 1, none⟩ = some (.int .i64 (b + 1)))) (by kernel_rfl) ?_ (fun hHeld => ?_)
  · (try dsimp only)
    exact (Y.out.2.1.next (bel_drew _)).c2
  have RP : Hid (GRow lo W3.drew p (flatD l)) := (hr.out.next Y.out.2.2.2).next (bel_drew _)
  replace Y : Hid (Box W3.drew w.heap.size [.int .i64 e, .int .i64 o, .int .i64 a, .int .i64 (b + 1), .int .i64 c, .slice p l.length q] ∧ Box W3.drew (w.heap.size + 1) [.int .i64 1, .int .i64 (b + 1)] ∧ Box W3.drew (w.heap.size + 1 + 1) [.int .i64 0, .int .i64 0, .int .i64 0, .int .i64 0, .int .i64 0, .slice none 0 0] ∧ Below w.heap.size w W3.drew) := ⟨Y.out.1.next (bel_drew _), Y.out.2.1.next (bel_drew _), Y.out.2.2.1.next (bel_drew _), Y.out.2.2.2.trans ((bel_drew _).mono Y.out.2.2.2.size)⟩
  generalize W3.drew = W4 at *
  have X : Hid (AX w W4 W4.heap.size [.int .i64 e, .int .i64 o, .int .i64 a, .int .i64 (b + 1), .int .i64 c, .slice p l.length q] [.int .i64 1, .int .i64 (b + 1)] [.int .i64 0, .int .i64 0, .int .i64 0, .int .i64 0, .int .i64 0, .slice none 0 0]) := ⟨Y.out.1, Y.out.2.1, Y.out.2.2.1, Y.out.2.2.2, Y.out.2.2.1.lt, Nat.le_refl _⟩
  clear Y hr
  obtain ⟨lv, hlv⟩ : ∃ lv, lv = W4.heap.size := ⟨_, rfl⟩
  rw [← hlv] at X
  clear hlv
  refine wTk 1 ?_
  refine wTk 4 ?_
  refine wRd3 0 2 5 (fun K hK => ?_) (fun K hK => ?_) (fun K hK => ?_)
  · go_simp
    (try simp only [])
    have OV : Hid (OwnG (W4.alloc (.cells #[] 31)) 31 2 (.slice (some ⟨W4.heap.size, 0, none⟩) 0 0) 0 [] lv) := OwnG.lit X.out.2.2.2.2.2
    replace X : Hid (AX w (W4.alloc (.cells #[] 31)) lv [.int .i64 e, .int .i64 o, .int .i64 a, .int .i64 (b + 1), .int .i64 c, .slice p l.length q] [.int .i64 1, .int .i64 (b + 1)] [.int .i64 0, .int .i64 0, .int .i64 0, .int .i64 0, .int .i64 0, .slice none 0 0]) := X.out.alloc
    replace RP : Hid (GRow lo (W4.alloc (.cells #[] 31)) p (flatD l)) := RP.out.next (bel_alloc W4 (.cells #[] 31))
    refine wHk hK X.out.2.1.c2 ?_
    clear hK K hHeld
    intro hHeld
    generalize W4.alloc (.cells #[] 31) = W5 at *
    generalize W4.heap.size = gz at *
    refine wRd2 2 5 (fun K hK => ?_) (fun K hK => ?_)
    · obtain ⟨a0, a1, a2, a3, a4, a5⟩ := X.out.1.c6
      go_simp
      (try simp only [])
      clear a0 a1 a2 a3 a4 a5
      refine wHk hK X.out.2.1.c2 ?_
      clear hK K hHeld
      intro hHeld
      refine wRd2 3 5 (fun K hK => ?_) (fun K hK => ?_)
      · rw [if_pos (by rfl)]
        refine wp_appG elD (.tmp 43) (.tmp 45) rfl (Value.slice (some ⟨gz, 0, none⟩) 0 0) 0 [] lv l.length rfl OV.out X.out.2.2.2.2.2 p l.length q (flatD l) rfl (flatD_len l) (flatD_one l) lo RP.out (by omega) (by omega) ?_
        intro vo vc W7 hO hg _
        (try simp only [])
        replace X : Hid (AX w W7 lv [.int .i64 e, .int .i64 o, .int .i64 a, .int .i64 (b + 1), .int .i64 c, .slice p l.length q] [.int .i64 1, .int .i64 (b + 1)] [.int .i64 0, .int .i64 0, .int .i64 0, .int .i64 0, .int .i64 0, .slice none 0 0]) := X.out.step (hg.below X.out.2.2.2.2.2 OV.out.ge)
        replace hO : OwnG W7 31 2 (.slice vo l.length vc) l.length (flatD l) lv := by simpa using hO
        replace OV : Hid (OwnG W7 31 2 (.slice vo l.length vc) l.length (flatD l) lv) := hO
        clear hO hg RP
        refine wHk hK X.out.2.1.c2 ?_
        clear hK K hHeld
        intro hHeld
        refine wRd 5 (fun K hK => ?_)
        go_simp
        (try simp only [])
        have B1 : Hid (Box (W7.alloc (.cells #[.int .i64 1, .int .i64 (b + 1)] 31)) W7.heap.size [.int .i64 1, .int .i64 (b + 1)]) := box_mk
        have NE : Hid ((Value.slice vo l.length vc).ownBlock ≠ some W7.heap.size) := fun h => by have := (OV.out.own.lt _ h).2; omega
        replace OV : Hid _ := OV.out.next (bel_alloc W7 (.cells #[.int .i64 1, .int .i64 (b + 1)] 31))
        replace X : Hid (AX w (W7.alloc (.cells #[.int .i64 1, .int .i64 (b + 1)] 31)) lv [.int .i64 e, .int .i64 o, .int .i64 a, .int .i64 (b + 1), .int .i64 c, .slice p l.length q] [.int .i64 1, .int .i64 (b + 1)] [.int .i64 0, .int .i64 0, .int .i64 0, .int .i64 0, .int .i64 0, .slice none 0 0]) := X.out.alloc
        refine wHk hK X.out.2.1.c2 ?_
        clear hK K hHeld
        intro hHeld
        generalize W7.alloc (.cells #[.int .i64 1, .int .i64 (b + 1)] 31) = W8 at *
        generalize W7.heap.size = g5 at *
        refine wRd 6 (fun K hK => ?_)
        rw [if_pos (by rfl)]
        refine wp_appG elD (.tmp 46) (.tmp 48) rfl (Value.slice vo l.length vc) l.length (flatD l) lv (l.length + 1) rfl OV.out X.out.2.2.2.2.2 (some ⟨g5, 0, none⟩) 1 1 [.int .i64 1, .int .i64 (b + 1)] rfl (by simp) (by simp [Value.oneCell']) 0 (box_row B1.out) (by omega) rfl ?_
        intro po co W9 hO hg _
        (try simp only [])
        replace X : Hid (AX w W9 lv [.int .i64 e, .int .i64 o, .int .i64 a, .int .i64 (b + 1), .int .i64 c, .slice p l.length q] [.int .i64 1, .int .i64 (b + 1)] [.int .i64 0, .int .i64 0, .int .i64 0, .int .i64 0, .int .i64 0, .slice none 0 0]) := X.out.step (hg.below X.out.2.2.2.2.2 OV.out.ge)
        replace OV : Hid (OwnG W9 31 2 (.slice po (l.length + 1) co) (l.length + 1) (flatD l ++ [.int .i64 1, .int .i64 (b + 1)]) lv) := hO
        clear hO hg B1 NE
        refine wHk hK X.out.2.1.c2 ?_
        clear hK K hHeld
        intro hHeld
        refine wTk 7 ?_
        obtain ⟨a0, a1, a2, a3, a4, a5⟩ := X.out.1.c6
        obtain ⟨g0, g1, g2, g3, g4, g6⟩ := X.out.1.f6
        have X2 : Hid (Box (W9.setCell ⟨w.heap.size, 5, none⟩ (.slice po (l.length + 1) co)) w.heap.size [.int .i64 e, .int .i64 o, .int .i64 a, .int .i64 (b + 1), .int .i64 c, .slice po (l.length + 1) co] ∧ Box (W9.setCell ⟨w.heap.size, 5, none⟩ (.slice po (l.length + 1) co)) (w.heap.size + 1) [.int .i64 1, .int .i64 (b + 1)] ∧ Box (W9.setCell ⟨w.heap.size, 5, none⟩ (.slice po (l.length + 1) co)) (w.heap.size + 1 + 1) [.int .i64 0, .int .i64 0, .int .i64 0, .int .i64 0, .int .i64 0, .slice none 0 0] ∧ Below w.heap.size w (W9.setCell ⟨w.heap.size, 5, none⟩ (.slice po (l.length + 1) co)) ∧ OwnG (W9.setCell ⟨w.heap.size, 5, none⟩ (.slice po (l.length + 1) co)) 31 2 (.slice po (l.length + 1) co) (l.length + 1) (flatD l ++ [.int .i64 1, .int .i64 (b + 1)]) lv ∧ w.heap.size + 1 + 1 < lv) := by
          have hlt := X.out.2.2.2.2.1
          refine ⟨?_, X.out.2.1.oth (by omega), X.out.2.2.1.oth (by omega), bel_in X.out.2.2.2.1 (by omega), OV.out.kp Kp.set (fun k hk => by have := OV.out.ge k hk; omega), hlt⟩
          have := X.out.1.set (i := 5) (u := (.slice po (l.length + 1) co)) (by simp)
          simpa using this
        refine wRd 8 (fun K hK => ?_)
        go_simp
        (try simp only [])
        refine hK.out _ _ X2.out.2.1.c2 (fun hHeld' => ?_)
        clear hK K hHeld hHeld' a0 a1 a2 a3 a4 a5 g0 g1 g2 g3 g4 g6 X OV
        refine wLy ?_
        refine wpAnyH_done (by kernel_rfl) ?_ _
        generalize (W9.setCell ⟨w.heap.size, 5, none⟩ (.slice po (l.length + 1) co)) = WZ at *
        obtain ⟨a0, a1, a2, a3, a4, a5⟩ := X2.out.1.c6
        obtain ⟨b0, b1, b2, b3, b4, b5⟩ := X2.out.2.2.1.c6
        obtain ⟨f0, f1, f2, f3, f4, f5⟩ := X2.out.2.2.1.f6
        go_wp2_with fail
        clear a0 a1 a2 a3 a4 a5 b0 b1 b2 b3 b4 b5 f0 f1 f2 f3 f4 f5
        have hlt := X2.out.2.2.2.2.2
        have q0 : ∀ k, (Value.slice po (l.length + 1) co).ownBlock = some k → ¬ k = w.heap.size + 1 + 1 := fun k hk => by have := X2.out.2.2.2.2.1.ge k hk; omega
        have Z := X2.out.2.2.1.s6 (u0 := .int .i64 e) (u1 := .int .i64 o) (u2 := .int .i64 a) (u3 := .int .i64 (b + 1)) (u4 := .int .i64 c) (u5 := .slice po (l.length + 1) co)
        obtain ⟨z0, z1, z2, z3, z4, z5⟩ := Z.c6
        clear Z
        refine bodyPost_ret (v := .tuple #[.agg #[.int .i64 e, .int .i64 o, .int .i64 a, .int .i64 (b + 1), .int .i64 c, .slice po (l.length + 1) co], .bool true, .int .i64 0]) (by simp [results, Try.results32, go_sem, z0, z1, z2, z3, z4, z5]) rfl ?_
        have HBL : Below w.heap.size w _ := bel_in (bel_in (bel_in (bel_in (bel_in (bel_in X2.out.2.2.2.1 (i := 0) (u := .int .i64 e) (g := (w.heap.size + 1 + 1)) (by omega)) (i := 1) (u := .int .i64 o) (g := (w.heap.size + 1 + 1)) (by omega)) (i := 2) (u := .int .i64 a) (g := (w.heap.size + 1 + 1)) (by omega)) (i := 3) (u := .int .i64 (b + 1)) (g := (w.heap.size + 1 + 1)) (by omega)) (i := 4) (u := .int .i64 c) (g := (w.heap.size + 1 + 1)) (by omega)) (i := 5) (u := .slice po (l.length + 1) co) (g := (w.heap.size + 1 + 1)) (by omega)
        exact ⟨po, co, rfl, (((((((X2.out.2.2.2.2.1.kp Kp.set q0).kp Kp.set q0).kp Kp.set q0).kp Kp.set q0).kp Kp.set q0).kp Kp.set q0).weak (by omega)), HBL⟩
      · go_simp
        (try simp only [])
        have B1 : Hid (Box (W5.alloc (.cells #[.int .i64 1, .int .i64 (b + 1)] 31)) W5.heap.size [.int .i64 1, .int .i64 (b + 1)]) := box_mk
        have NE : Hid ((Value.slice (some ⟨gz, 0, none⟩) 0 0).ownBlock ≠ some W5.heap.size) := fun h => by have := (OV.out.own.lt _ h).2; omega
        replace OV : Hid _ := OV.out.next (bel_alloc W5 (.cells #[.int .i64 1, .int .i64 (b + 1)] 31))
        replace RP : Hid (GRow lo (W5.alloc (.cells #[.int .i64 1, .int .i64 (b + 1)] 31)) p (flatD l)) := RP.out.next (bel_alloc W5 (.cells #[.int .i64 1, .int .i64 (b + 1)] 31))
        replace X : Hid (AX w (W5.alloc (.cells #[.int .i64 1, .int .i64 (b + 1)] 31)) lv [.int .i64 e, .int .i64 o, .int .i64 a, .int .i64 (b + 1), .int .i64 c, .slice p l.length q] [.int .i64 1, .int .i64 (b + 1)] [.int .i64 0, .int .i64 0, .int .i64 0, .int .i64 0, .int .i64 0, .slice none 0 0]) := X.out.alloc
        refine wHk hK X.out.2.1.c2 ?_
        clear hK K hHeld
        intro hHeld
        generalize W5.alloc (.cells #[.int .i64 1, .int .i64 (b + 1)] 31) = W7 at *
        generalize W5.heap.size = g5 at *
        refine wRd 3 (fun K hK => ?_)
        rw [if_pos (by rfl)]
        refine wp_appG elD (.tmp 43) (.tmp 45) rfl (Value.slice (some ⟨gz, 0, none⟩) 0 0) 0 [] lv l.length rfl OV.out X.out.2.2.2.2.2 p l.length q (flatD l) rfl (flatD_len l) (flatD_one l) lo RP.out (by omega) (by omega) ?_
        intro vo vc W8 hO hg _
        (try simp only [])
        replace X : Hid (AX w W8 lv [.int .i64 e, .int .i64 o, .int .i64 a, .int .i64 (b + 1), .int .i64 c, .slice p l.length q] [.int .i64 1, .int .i64 (b + 1)] [.int .i64 0, .int .i64 0, .int .i64 0, .int .i64 0, .int .i64 0, .slice none 0 0]) := X.out.step (hg.below X.out.2.2.2.2.2 OV.out.ge)
        have NE2 : Hid ((Value.slice vo l.length vc).ownBlock ≠ some g5) := B1.out.ne hg NE.out
        replace B1 : Hid _ := B1.out.gro hg NE.out
        replace NE := NE2
        clear NE2
        replace hO : OwnG W8 31 2 (.slice vo l.length vc) l.length (flatD l) lv := by simpa using hO
        replace OV : Hid (OwnG W8 31 2 (.slice vo l.length vc) l.length (flatD l) lv) := hO
        clear hO hg RP
        refine wHk hK X.out.2.1.c2 ?_
        clear hK K hHeld
        intro hHeld
        refine wRd 6 (fun K hK => ?_)
        rw [if_pos (by rfl)]
        refine wp_appG elD (.tmp 46) (.tmp 48) rfl (Value.slice vo l.length vc) l.length (flatD l) lv (l.length + 1) rfl OV.out X.out.2.2.2.2.2 (some ⟨g5, 0, none⟩) 1 1 [.int .i64 1, .int .i64 (b + 1)] rfl (by simp) (by simp [Value.oneCell']) 0 (box_row B1.out) (by omega) rfl ?_
        intro po co W9 hO hg _
        (try simp only [])
        replace X : Hid (AX w W9 lv [.int .i64 e, .int .i64 o, .int .i64 a, .int .i64 (b + 1), .int .i64 c, .slice p l.length q] [.int .i64 1, .int .i64 (b + 1)] [.int .i64 0, .int .i64 0, .int .i64 0, .int .i64 0, .int .i64 0, .slice none 0 0]) := X.out.step (hg.below X.out.2.2.2.2.2 OV.out.ge)
        replace OV : Hid (OwnG W9 31 2 (.slice po (l.length + 1) co) (l.length + 1) (flatD l ++ [.int .i64 1, .int .i64 (b + 1)]) lv) := hO
        clear hO hg B1 NE
        refine wHk hK X.out.2.1.c2 ?_
        clear hK K hHeld
        intro hHeld
        refine wTk 7 ?_
        obtain ⟨a0, a1, a2, a3, a4, a5⟩ := X.out.1.c6
        obtain ⟨g0, g1, g2, g3, g4, g6⟩ := X.out.1.f6
        have X2 : Hid (Box (W9.setCell ⟨w.heap.size, 5, none⟩ (.slice po (l.length + 1) co)) w.heap.size [.int .i64 e, .int .i64 o, .int .i64 a, .int .i64 (b + 1), .int .i64 c, .slice po (l.length + 1) co] ∧ Box (W9.setCell ⟨w.heap.size, 5, none⟩ (.slice po (l.length + 1) co)) (w.heap.size + 1) [.int .i64 1, .int .i64 (b + 1)] ∧ Box (W9.setCell ⟨w.heap.size, 5, none⟩ (.slice po (l.length + 1) co)) (w.heap.size + 1 + 1) [.int .i64 0, .int .i64 0, .int .i64 0, .int .i64 0, .int .i64 0, .slice none 0 0] ∧ Below w.heap.size w (W9.setCell ⟨w.heap.size, 5, none⟩ (.slice po (l.length + 1) co)) ∧ OwnG (W9.setCell ⟨w.heap.size, 5, none⟩ (.slice po (l.length + 1) co)) 31 2 (.slice po (l.length + 1) co) (l.length + 1) (flatD l ++ [.int .i64 1, .int .i64 (b + 1)]) lv ∧ w.heap.size + 1 + 1 < lv) := by
          have hlt := X.out.2.2.2.2.1
          refine ⟨?_, X.out.2.1.oth (by omega), X.out.2.2.1.oth (by omega), bel_in X.out.2.2.2.1 (by omega), OV.out.kp Kp.set (fun k hk => by have := OV.out.ge k hk; omega), hlt⟩
          have := X.out.1.set (i := 5) (u := (.slice po (l.length + 1) co)) (by simp)
          simpa using this
        refine wRd 8 (fun K hK => ?_)
        go_simp
        (try simp only [])
        refine hK.out _ _ X2.out.2.1.c2 (fun hHeld' => ?_)
        clear hK K hHeld hHeld' a0 a1 a2 a3 a4 a5 g0 g1 g2 g3 g4 g6 X OV
        refine wLy ?_
        refine wpAnyH_done (by kernel_rfl) ?_ _
        generalize (W9.setCell ⟨w.heap.size, 5, none⟩ (.slice po (l.length + 1) co)) = WZ at *
        obtain ⟨a0, a1, a2, a3, a4, a5⟩ := X2.out.1.c6
        obtain ⟨b0, b1, b2, b3, b4, b5⟩ := X2.out.2.2.1.c6
        obtain ⟨f0, f1, f2, f3, f4, f5⟩ := X2.out.2.2.1.f6
        go_wp2_with fail
        clear a0 a1 a2 a3 a4 a5 b0 b1 b2 b3 b4 b5 f0 f1 f2 f3 f4 f5
        have hlt := X2.out.2.2.2.2.2
        have q0 : ∀ k, (Value.slice po (l.length + 1) co).ownBlock = some k → ¬ k = w.heap.size + 1 + 1 := fun k hk => by have := X2.out.2.2.2.2.1.ge k hk; omega
        have Z := X2.out.2.2.1.s6 (u0 := .int .i64 e) (u1 := .int .i64 o) (u2 := .int .i64 a) (u3 := .int .i64 (b + 1)) (u4 := .int .i64 c) (u5 := .slice po (l.length + 1) co)
        obtain ⟨z0, z1, z2, z3, z4, z5⟩ := Z.c6
        clear Z
        refine bodyPost_ret (v := .tuple #[.agg #[.int .i64 e, .int .i64 o, .int .i64 a, .int .i64 (b + 1), .int .i64 c, .slice po (l.length + 1) co], .bool true, .int .i64 0]) (by simp [results, Try.results32, go_sem, z0, z1, z2, z3, z4, z5]) rfl ?_
        have HBL : Below w.heap.size w _ := bel_in (bel_in (bel_in (bel_in (bel_in (bel_in X2.out.2.2.2.1 (i := 0) (u := .int .i64 e) (g := (w.heap.size + 1 + 1)) (by omega)) (i := 1) (u := .int .i64 o) (g := (w.heap.size + 1 + 1)) (by omega)) (i := 2) (u := .int .i64 a) (g := (w.heap.size + 1 + 1)) (by omega)) (i := 3) (u := .int .i64 (b + 1)) (g := (w.heap.size + 1 + 1)) (by omega)) (i := 4) (u := .int .i64 c) (g := (w.heap.size + 1 + 1)) (by omega)) (i := 5) (u := .slice po (l.length + 1) co) (g := (w.heap.size + 1 + 1)) (by omega)
        exact ⟨po, co, rfl, (((((((X2.out.2.2.2.2.1.kp Kp.set q0).kp Kp.set q0).kp Kp.set q0).kp Kp.set q0).kp Kp.set q0).kp Kp.set q0).weak (by omega)), HBL⟩
    · go_simp
      (try simp only [])
      have B1 : Hid (Box (W5.alloc (.cells #[.int .i64 1, .int .i64 (b + 1)] 31)) W5.heap.size [.int .i64 1, .int .i64 (b + 1)]) := box_mk
      have NE : Hid ((Value.slice (some ⟨gz, 0, none⟩) 0 0).ownBlock ≠ some W5.heap.size) := fun h => by have := (OV.out.own.lt _ h).2; omega
      replace OV : Hid _ := OV.out.next (bel_alloc W5 (.cells #[.int .i64 1, .int .i64 (b + 1)] 31))
      replace RP : Hid (GRow lo (W5.alloc (.cells #[.int .i64 1, .int .i64 (b + 1)] 31)) p (flatD l)) := RP.out.next (bel_alloc W5 (.cells #[.int .i64 1, .int .i64 (b + 1)] 31))
      replace X : Hid (AX w (W5.alloc (.cells #[.int .i64 1, .int .i64 (b + 1)] 31)) lv [.int .i64 e, .int .i64 o, .int .i64 a, .int .i64 (b + 1), .int .i64 c, .slice p l.length q] [.int .i64 1, .int .i64 (b + 1)] [.int .i64 0, .int .i64 0, .int .i64 0, .int .i64 0, .int .i64 0, .slice none 0 0]) := X.out.alloc
      refine wHk hK X.out.2.1.c2 ?_
      clear hK K hHeld
      intro hHeld
      generalize W5.alloc (.cells #[.int .i64 1, .int .i64 (b + 1)] 31) = W6 at *
      generalize W5.heap.size = g5 at *
      refine wRd 2 (fun K hK => ?_)
      obtain ⟨a0, a1, a2, a3, a4, a5⟩ := X.out.1.c6
      go_simp
      (try simp only [])
      clear a0 a1 a2 a3 a4 a5
      refine wHk hK X.out.2.1.c2 ?_
      clear hK K hHeld
      intro hHeld
      refine wRd 3 (fun K hK => ?_)
      rw [if_pos (by rfl)]
      refine wp_appG elD (.tmp 43) (.tmp 45) rfl (Value.slice (some ⟨gz, 0, none⟩) 0 0) 0 [] lv l.length rfl OV.out X.out.2.2.2.2.2 p l.length q (flatD l) rfl (flatD_len l) (flatD_one l) lo RP.out (by omega) (by omega) ?_
      intro vo vc W8 hO hg _
      (try simp only [])
      replace X : Hid (AX w W8 lv [.int .i64 e, .int .i64 o, .int .i64 a, .int .i64 (b + 1), .int .i64 c, .slice p l.length q] [.int .i64 1, .int .i64 (b + 1)] [.int .i64 0, .int .i64 0, .int .i64 0, .int .i64 0, .int .i64 0, .slice none 0 0]) := X.out.step (hg.below X.out.2.2.2.2.2 OV.out.ge)
      have NE2 : Hid ((Value.slice vo l.length vc).ownBlock ≠ some g5) := B1.out.ne hg NE.out
      replace B1 : Hid _ := B1.out.gro hg NE.out
      replace NE := NE2
      clear NE2
      replace hO : OwnG W8 31 2 (.slice vo l.length vc) l.length (flatD l) lv := by simpa using hO
      replace OV : Hid (OwnG W8 31 2 (.slice vo l.length vc) l.length (flatD l) lv) := hO
      clear hO hg RP
      refine wHk hK X.out.2.1.c2 ?_
      clear hK K hHeld
      intro hHeld
      refine wRd 6 (fun K hK => ?_)
      rw [if_pos (by rfl)]
      refine wp_appG elD (.tmp 46) (.tmp 48) rfl (Value.slice vo l.length vc) l.length (flatD l) lv (l.length + 1) rfl OV.out X.out.2.2.2.2.2 (some ⟨g5, 0, none⟩) 1 1 [.int .i64 1, .int .i64 (b + 1)] rfl (by simp) (by simp [Value.oneCell']) 0 (box_row B1.out) (by omega) rfl ?_
      intro po co W9 hO hg _
      (try simp only [])
      replace X : Hid (AX w W9 lv [.int .i64 e, .int .i64 o, .int .i64 a, .int .i64 (b + 1), .int .i64 c, .slice p l.length q] [.int .i64 1, .int .i64 (b + 1)] [.int .i64 0, .int .i64 0, .int .i64 0, .int .i64 0, .int .i64 0, .slice none 0 0]) := X.out.step (hg.below X.out.2.2.2.2.2 OV.out.ge)
      replace OV : Hid (OwnG W9 31 2 (.slice po (l.length + 1) co) (l.length + 1) (flatD l ++ [.int .i64 1, .int .i64 (b + 1)]) lv) := hO
      clear hO hg B1 NE
      refine wHk hK X.out.2.1.c2 ?_
      clear hK K hHeld
      intro hHeld
      refine wTk 7 ?_
      obtain ⟨a0, a1, a2, a3, a4, a5⟩ := X.out.1.c6
      obtain ⟨g0, g1, g2, g3, g4, g6⟩ := X.out.1.f6
      have X2 : Hid (Box (W9.setCell ⟨w.heap.size, 5, none⟩ (.slice po (l.length + 1) co)) w.heap.size [.int .i64 e, .int .i64 o, .int .i64 a, .int .i64 (b + 1), .int .i64 c, .slice po (l.length + 1) co] ∧ Box (W9.setCell ⟨w.heap.size, 5, none⟩ (.slice po (l.length + 1) co)) (w.heap.size + 1) [.int .i64 1, .int .i64 (b + 1)] ∧ Box (W9.setCell ⟨w.heap.size, 5, none⟩ (.slice po (l.length + 1) co)) (w.heap.size + 1 + 1) [.int .i64 0, .int .i64 0, .int .i64 0, .int .i64 0, .int .i64 0, .slice none 0 0] ∧ Below w.heap.size w (W9.setCell ⟨w.heap.size, 5, none⟩ (.slice po (l.length + 1) co)) ∧ OwnG (W9.setCell ⟨w.heap.size, 5, none⟩ (.slice po (l.length + 1) co)) 31 2 (.slice po (l.length + 1) co) (l.length + 1) (flatD l ++ [.int .i64 1, .int .i64 (b + 1)]) lv ∧ w.heap.size + 1 + 1 < lv) := by
        have hlt := X.out.2.2.2.2.1
        refine ⟨?_, X.out.2.1.oth (by omega), X.out.2.2.1.oth (by omega), bel_in X.out.2.2.2.1 (by omega), OV.out.kp Kp.set (fun k hk => by have := OV.out.ge k hk; omega), hlt⟩
        have := X.out.1.set (i := 5) (u := (.slice po (l.length + 1) co)) (by simp)
        simpa using this
      refine wRd 8 (fun K hK => ?_)
      go_simp
      (try simp only [])
      refine hK.out _ _ X2.out.2.1.c2 (fun hHeld' => ?_)
      clear hK K hHeld hHeld' a0 a1 a2 a3 a4 a5 g0 g1 g2 g3 g4 g6 X OV
      refine wLy ?_
      refine wpAnyH_done (by kernel_rfl) ?_ _
      generalize (W9.setCell ⟨w.heap.size, 5, none⟩ (.slice po (l.length + 1) co)) = WZ at *
      obtain ⟨a0, a1, a2, a3, a4, a5⟩ := X2.out.1.c6
      obtain ⟨b0, b1, b2, b3, b4, b5⟩ := X2.out.2.2.1.c6
      obtain ⟨f0, f1, f2, f3, f4, f5⟩ := X2.out.2.2.1.f6
      go_wp2_with fail
      clear a0 a1 a2 a3 a4 a5 b0 b1 b2 b3 b4 b5 f0 f1 f2 f3 f4 f5
      have hlt := X2.out.2.2.2.2.2
      have q0 : ∀ k, (Value.slice po (l.length + 1) co).ownBlock = some k → ¬ k = w.heap.size + 1 + 1 := fun k hk => by have := X2.out.2.2.2.2.1.ge k hk; omega
      have Z := X2.out.2.2.1.s6 (u0 := .int .i64 e) (u1 := .int .i64 o) (u2 := .int .i64 a) (u3 := .int .i64 (b + 1)) (u4 := .int .i64 c) (u5 := .slice po (l.length + 1) co)
      obtain ⟨z0, z1, z2, z3, z4, z5⟩ := Z.c6
      clear Z
      refine bodyPost_ret (v := .tuple #[.agg #[.int .i64 e, .int .i64 o, .int .i64 a, .int .i64 (b + 1), .int .i64 c, .slice po (l.length + 1) co], .bool true, .int .i64 0]) (by simp [results, Try.results32, go_sem, z0, z1, z2, z3, z4, z5]) rfl ?_
      have HBL : Below w.heap.size w _ := bel_in (bel_in (bel_in (bel_in (bel_in (bel_in X2.out.2.2.2.1 (i := 0) (u := .int .i64 e) (g := (w.heap.size + 1 + 1)) (by omega)) (i := 1) (u := .int .i64 o) (g := (w.heap.size + 1 + 1)) (by omega)) (i := 2) (u := .int .i64 a) (g := (w.heap.size + 1 + 1)) (by omega)) (i := 3) (u := .int .i64 (b + 1)) (g := (w.heap.size + 1 + 1)) (by omega)) (i := 4) (u := .int .i64 c) (g := (w.heap.size + 1 + 1)) (by omega)) (i := 5) (u := .slice po (l.length + 1) co) (g := (w.heap.size + 1 + 1)) (by omega)
      exact ⟨po, co, rfl, (((((((X2.out.2.2.2.2.1.kp Kp.set q0).kp Kp.set q0).kp Kp.set q0).kp Kp.set q0).kp Kp.set q0).kp Kp.set q0).weak (by omega)), HBL⟩
  · obtain ⟨a0, a1, a2, a3, a4, a5⟩ := X.out.1.c6
    go_simp
    (try simp only [])
    clear a0 a1 a2 a3 a4 a5
    refine wHk hK X.out.2.1.c2 ?_
    clear hK K hHeld
    intro hHeld
    refine wRd2 0 5 (fun K hK => ?_) (fun K hK => ?_)
    · go_simp
      (try simp only [])
      have OV : Hid (OwnG (W4.alloc (.cells #[] 31)) 31 2 (.slice (some ⟨W4.heap.size, 0, none⟩) 0 0) 0 [] lv) := OwnG.lit X.out.2.2.2.2.2
      replace X : Hid (AX w (W4.alloc (.cells #[] 31)) lv [.int .i64 e, .int .i64 o, .int .i64 a, .int .i64 (b + 1), .int .i64 c, .slice p l.length q] [.int .i64 1, .int .i64 (b + 1)] [.int .i64 0, .int .i64 0, .int .i64 0, .int .i64 0, .int .i64 0, .slice none 0 0]) := X.out.alloc
      replace RP : Hid (GRow lo (W4.alloc (.cells #[] 31)) p (flatD l)) := RP.out.next (bel_alloc W4 (.cells #[] 31))
      refine wHk hK X.out.2.1.c2 ?_
      clear hK K hHeld
      intro hHeld
      generalize W4.alloc (.cells #[] 31) = W6 at *
      generalize W4.heap.size = gz at *
      refine wRd2 3 5 (fun K hK => ?_) (fun K hK => ?_)
      · rw [if_pos (by rfl)]
        refine wp_appG elD (.tmp 43) (.tmp 45) rfl (Value.slice (some ⟨gz, 0, none⟩) 0 0) 0 [] lv l.length rfl OV.out X.out.2.2.2.2.2 p l.length q (flatD l) rfl (flatD_len l) (flatD_one l) lo RP.out (by omega) (by omega) ?_
        intro vo vc W7 hO hg _
        (try simp only [])
        replace X : Hid (AX w W7 lv [.int .i64 e, .int .i64 o, .int .i64 a, .int .i64 (b + 1), .int .i64 c, .slice p l.length q] [.int .i64 1, .int .i64 (b + 1)] [.int .i64 0, .int .i64 0, .int .i64 0, .int .i64 0, .int .i64 0, .slice none 0 0]) := X.out.step (hg.below X.out.2.2.2.2.2 OV.out.ge)
        replace hO : OwnG W7 31 2 (.slice vo l.length vc) l.length (flatD l) lv := by simpa using hO
        replace OV : Hid (OwnG W7 31 2 (.slice vo l.length vc) l.length (flatD l) lv) := hO
        clear hO hg RP
        refine wHk hK X.out.2.1.c2 ?_
        clear hK K hHeld
        intro hHeld
        refine wRd 5 (fun K hK => ?_)
        go_simp
        (try simp only [])
        have B1 : Hid (Box (W7.alloc (.cells #[.int .i64 1, .int .i64 (b + 1)] 31)) W7.heap.size [.int .i64 1, .int .i64 (b + 1)]) := box_mk
        have NE : Hid ((Value.slice vo l.length vc).ownBlock ≠ some W7.heap.size) := fun h => by have := (OV.out.own.lt _ h).2; omega
        replace OV : Hid _ := OV.out.next (bel_alloc W7 (.cells #[.int .i64 1, .int .i64 (b + 1)] 31))
        replace X : Hid (AX w (W7.alloc (.cells #[.int .i64 1, .int .i64 (b + 1)] 31)) lv [.int .i64 e, .int .i64 o, .int .i64 a, .int .i64 (b + 1), .int .i64 c, .slice p l.length q] [.int .i64 1, .int .i64 (b + 1)] [.int .i64 0, .int .i64 0, .int .i64 0, .int .i64 0, .int .i64 0, .slice none 0 0]) := X.out.alloc
        refine wHk hK X.out.2.1.c2 ?_
        clear hK K hHeld
        intro hHeld
        generalize W7.alloc (.cells #[.int .i64 1, .int .i64 (b + 1)] 31) = W8 at *
        generalize W7.heap.size = g5 at *
        refine wRd 6 (fun K hK => ?_)
        rw [if_pos (by rfl)]
        refine wp_appG elD (.tmp 46) (.tmp 48) rfl (Value.slice vo l.length vc) l.length (flatD l) lv (l.length + 1) rfl OV.out X.out.2.2.2.2.2 (some ⟨g5, 0, none⟩) 1 1 [.int .i64 1, .int .i64 (b + 1)] rfl (by simp) (by simp [Value.oneCell']) 0 (box_row B1.out) (by omega) rfl ?_
        intro po co W9 hO hg _
        (try simp only [])
        replace X : Hid (AX w W9 lv [.int .i64 e, .int .i64 o, .int .i64 a, .int .i64 (b + 1), .int .i64 c, .slice p l.length q] [.int .i64 1, .int .i64 (b + 1)] [.int .i64 0, .int .i64 0, .int .i64 0, .int .i64 0, .int .i64 0, .slice none 0 0]) := X.out.step (hg.below X.out.2.2.2.2.2 OV.out.ge)
        replace OV : Hid (OwnG W9 31 2 (.slice po (l.length + 1) co) (l.length + 1) (flatD l ++ [.int .i64 1, .int .i64 (b + 1)]) lv) := hO
        clear hO hg B1 NE
        refine wHk hK X.out.2.1.c2 ?_
        clear hK K hHeld
        intro hHeld
        refine wTk 7 ?_
        obtain ⟨a0, a1, a2, a3, a4, a5⟩ := X.out.1.c6
        obtain ⟨g0, g1, g2, g3, g4, g6⟩ := X.out.1.f6
        have X2 : Hid (Box (W9.setCell ⟨w.heap.size, 5, none⟩ (.slice po (l.length + 1) co)) w.heap.size [.int .i64 e, .int .i64 o, .int .i64 a, .int .i64 (b + 1), .int .i64 c, .slice po (l.length + 1) co] ∧ Box (W9.setCell ⟨w.heap.size, 5, none⟩ (.slice po (l.length + 1) co)) (w.heap.size + 1) [.int .i64 1, .int .i64 (b + 1)] ∧ Box (W9.setCell ⟨w.heap.size, 5, none⟩ (.slice po (l.length + 1) co)) (w.heap.size + 1 + 1) [.int .i64 0, .int .i64 0, .int .i64 0, .int .i64 0, .int .i64 0, .slice none 0 0] ∧ Below w.heap.size w (W9.setCell ⟨w.heap.size, 5, none⟩ (.slice po (l.length + 1) co)) ∧ OwnG (W9.setCell ⟨w.heap.size, 5, none⟩ (.slice po (l.length + 1) co)) 31 2 (.slice po (l.length + 1) co) (l.length + 1) (flatD l ++ [.int .i64 1, .int .i64 (b + 1)]) lv ∧ w.heap.size + 1 + 1 < lv) := by
          have hlt := X.out.2.2.2.2.1
          refine ⟨?_, X.out.2.1.oth (by omega), X.out.2.2.1.oth (by omega), bel_in X.out.2.2.2.1 (by omega), OV.out.kp Kp.set (fun k hk => by have := OV.out.ge k hk; omega), hlt⟩
          have := X.out.1.set (i := 5) (u := (.slice po (l.length + 1) co)) (by simp)
          simpa using this
        refine wRd 8 (fun K hK => ?_)
        go_simp
        (try simp only [])
        refine hK.out _ _ X2.out.2.1.c2 (fun hHeld' => ?_)
        clear hK K hHeld hHeld' a0 a1 a2 a3 a4 a5 g0 g1 g2 g3 g4 g6 X OV
        refine wLy ?_
        refine wpAnyH_done (by kernel_rfl) ?_ _
        generalize (W9.setCell ⟨w.heap.size, 5, none⟩ (.slice po (l.length + 1) co)) = WZ at *
        obtain ⟨a0, a1, a2, a3, a4, a5⟩ := X2.out.1.c6
        obtain ⟨b0, b1, b2, b3, b4, b5⟩ := X2.out.2.2.1.c6
        obtain ⟨f0, f1, f2, f3, f4, f5⟩ := X2.out.2.2.1.f6
        go_wp2_with fail
        clear a0 a1 a2 a3 a4 a5 b0 b1 b2 b3 b4 b5 f0 f1 f2 f3 f4 f5
        have hlt := X2.out.2.2.2.2.2
        have q0 : ∀ k, (Value.slice po (l.length + 1) co).ownBlock = some k → ¬ k = w.heap.size + 1 + 1 := fun k hk => by have := X2.out.2.2.2.2.1.ge k hk; omega
        have Z := X2.out.2.2.1.s6 (u0 := .int .i64 e) (u1 := .int .i64 o) (u2 := .int .i64 a) (u3 := .int .i64 (b + 1)) (u4 := .int .i64 c) (u5 := .slice po (l.length + 1) co)
        obtain ⟨z0, z1, z2, z3, z4, z5⟩ := Z.c6
        clear Z
        refine bodyPost_ret (v := .tuple #[.agg #[.int .i64 e, .int .i64 o, .int .i64 a, .int .i64 (b + 1), .int .i64 c, .slice po (l.length + 1) co], .bool true, .int .i64 0]) (by simp [results, Try.results32, go_sem, z0, z1, z2, z3, z4, z5]) rfl ?_
        have HBL : Below w.heap.size w _ := bel_in (bel_in (bel_in (bel_in (bel_in (bel_in X2.out.2.2.2.1 (i := 0) (u := .int .i64 e) (g := (w.heap.size + 1 + 1)) (by omega)) (i := 1) (u := .int .i64 o) (g := (w.heap.size + 1 + 1)) (by omega)) (i := 2) (u := .int .i64 a) (g := (w.heap.size + 1 + 1)) (by omega)) (i := 3) (u := .int .i64 (b + 1)) (g := (w.heap.size + 1 + 1)) (by omega)) (i := 4) (u := .int .i64 c) (g := (w.heap.size + 1 + 1)) (by omega)) (i := 5) (u := .slice po (l.length + 1) co) (g := (w.heap.size + 1 + 1)) (by omega)
        exact ⟨po, co, rfl, (((((((X2.out.2.2.2.2.1.kp Kp.set q0).kp Kp.set q0).kp Kp.set q0).kp Kp.set q0).kp Kp.set q0).kp Kp.set q0).weak (by omega)), HBL⟩
      · go_simp
        (try simp only [])
        have B1 : Hid (Box (W6.alloc (.cells #[.int .i64 1, .int .i64 (b + 1)] 31)) W6.heap.size [.int .i64 1, .int .i64 (b + 1)]) := box_mk
        have NE : Hid ((Value.slice (some ⟨gz, 0, none⟩) 0 0).ownBlock ≠ some W6.heap.size) := fun h => by have := (OV.out.own.lt _ h).2; omega
        replace OV : Hid _ := OV.out.next (bel_alloc W6 (.cells #[.int .i64 1, .int .i64 (b + 1)] 31))
        replace RP : Hid (GRow lo (W6.alloc (.cells #[.int .i64 1, .int .i64 (b + 1)] 31)) p (flatD l)) := RP.out.next (bel_alloc W6 (.cells #[.int .i64 1, .int .i64 (b + 1)] 31))
        replace X : Hid (AX w (W6.alloc (.cells #[.int .i64 1, .int .i64 (b + 1)] 31)) lv [.int .i64 e, .int .i64 o, .int .i64 a, .int .i64 (b + 1), .int .i64 c, .slice p l.length q] [.int .i64 1, .int .i64 (b + 1)] [.int .i64 0, .int .i64 0, .int .i64 0, .int .i64 0, .int .i64 0, .slice none 0 0]) := X.out.alloc
        refine wHk hK X.out.2.1.c2 ?_
        clear hK K hHeld
        intro hHeld
        generalize W6.alloc (.cells #[.int .i64 1, .int .i64 (b + 1)] 31) = W7 at *
        generalize W6.heap.size = g5 at *
        refine wRd 3 (fun K hK => ?_)
        rw [if_pos (by rfl)]
        refine wp_appG elD (.tmp 43) (.tmp 45) rfl (Value.slice (some ⟨gz, 0, none⟩) 0 0) 0 [] lv l.length rfl OV.out X.out.2.2.2.2.2 p l.length q (flatD l) rfl (flatD_len l) (flatD_one l) lo RP.out (by omega) (by omega) ?_
        intro vo vc W8 hO hg _
        (try simp only [])
        replace X : Hid (AX w W8 lv [.int .i64 e, .int .i64 o, .int .i64 a, .int .i64 (b + 1), .int .i64 c, .slice p l.length q] [.int .i64 1, .int .i64 (b + 1)] [.int .i64 0, .int .i64 0, .int .i64 0, .int .i64 0, .int .i64 0, .slice none 0 0]) := X.out.step (hg.below X.out.2.2.2.2.2 OV.out.ge)
        have NE2 : Hid ((Value.slice vo l.length vc).ownBlock ≠ some g5) := B1.out.ne hg NE.out
        replace B1 : Hid _ := B1.out.gro hg NE.out
        replace NE := NE2
        clear NE2
        replace hO : OwnG W8 31 2 (.slice vo l.length vc) l.length (flatD l) lv := by simpa using hO
        replace OV : Hid (OwnG W8 31 2 (.slice vo l.length vc) l.length (flatD l) lv) := hO
        clear hO hg RP
        refine wHk hK X.out.2.1.c2 ?_
        clear hK K hHeld
        intro hHeld
        refine wRd 6 (fun K hK => ?_)
        rw [if_pos (by rfl)]
        refine wp_appG elD (.tmp 46) (.tmp 48) rfl (Value.slice vo l.length vc) l.length (flatD l) lv (l.length + 1) rfl OV.out X.out.2.2.2.2.2 (some ⟨g5, 0, none⟩) 1 1 [.int .i64 1, .int .i64 (b + 1)] rfl (by simp) (by simp [Value.oneCell']) 0 (box_row B1.out) (by omega) rfl ?_
        intro po co W9 hO hg _
        (try simp only [])
        replace X : Hid (AX w W9 lv [.int .i64 e, .int .i64 o, .int .i64 a, .int .i64 (b + 1), .int .i64 c, .slice p l.length q] [.int .i64 1, .int .i64 (b + 1)] [.int .i64 0, .int .i64 0, .int .i64 0, .int .i64 0, .int .i64 0, .slice none 0 0]) := X.out.step (hg.below X.out.2.2.2.2.2 OV.out.ge)
        replace OV : Hid (OwnG W9 31 2 (.slice po (l.length + 1) co) (l.length + 1) (flatD l ++ [.int .i64 1, .int .i64 (b + 1)]) lv) := hO
        clear hO hg B1 NE
        refine wHk hK X.out.2.1.c2 ?_
        clear hK K hHeld
        intro hHeld
        refine wTk 7 ?_
        obtain ⟨a0, a1, a2, a3, a4, a5⟩ := X.out.1.c6
        obtain ⟨g0, g1, g2, g3, g4, g6⟩ := X.out.1.f6
        have X2 : Hid (Box (W9.setCell ⟨w.heap.size, 5, none⟩ (.slice po (l.length + 1) co)) w.heap.size [.int .i64 e, .int .i64 o, .int .i64 a, .int .i64 (b + 1), .int .i64 c, .slice po (l.length + 1) co] ∧ Box (W9.setCell ⟨w.heap.size, 5, none⟩ (.slice po (l.length + 1) co)) (w.heap.size + 1) [.int .i64 1, .int .i64 (b + 1)] ∧ Box (W9.setCell ⟨w.heap.size, 5, none⟩ (.slice po (l.length + 1) co)) (w.heap.size + 1 + 1) [.int .i64 0, .int .i64 0, .int .i64 0, .int .i64 0, .int .i64 0, .slice none 0 0] ∧ Below w.heap.size w (W9.setCell ⟨w.heap.size, 5, none⟩ (.slice po (l.length + 1) co)) ∧ OwnG (W9.setCell ⟨w.heap.size, 5, none⟩ (.slice po (l.length + 1) co)) 31 2 (.slice po (l.length + 1) co) (l.length + 1) (flatD l ++ [.int .i64 1, .int .i64 (b + 1)]) lv ∧ w.heap.size + 1 + 1 < lv) := by
          have hlt := X.out.2.2.2.2.1
          refine ⟨?_, X.out.2.1.oth (by omega), X.out.2.2.1.oth (by omega), bel_in X.out.2.2.2.1 (by omega), OV.out.kp Kp.set (fun k hk => by have := OV.out.ge k hk; omega), hlt⟩
          have := X.out.1.set (i := 5) (u := (.slice po (l.length + 1) co)) (by simp)
          simpa using this
        refine wRd 8 (fun K hK => ?_)
        go_simp
        (try simp only [])
        refine hK.out _ _ X2.out.2.1.c2 (fun hHeld' => ?_)
        clear hK K hHeld hHeld' a0 a1 a2 a3 a4 a5 g0 g1 g2 g3 g4 g6 X OV
        refine wLy ?_
        refine wpAnyH_done (by kernel_rfl) ?_ _
        generalize (W9.setCell ⟨w.heap.size, 5, none⟩ (.slice po (l.length + 1) co)) = WZ at *
        obtain ⟨a0, a1, a2, a3, a4, a5⟩ := X2.out.1.c6
        obtain ⟨b0, b1, b2, b3, b4, b5⟩ := X2.out.2.2.1.c6
        obtain ⟨f0, f1, f2, f3, f4, f5⟩ := X2.out.2.2.1.f6
        go_wp2_with fail
        clear a0 a1 a2 a3 a4 a5 b0 b1 b2 b3 b4 b5 f0 f1 f2 f3 f4 f5
        have hlt := X2.out.2.2.2.2.2
        have q0 : ∀ k, (Value.slice po (l.length + 1) co).ownBlock = some k → ¬ k = w.heap.size + 1 + 1 := fun k hk => by have := X2.out.2.2.2.2.1.ge k hk; omega
        have Z := X2.out.2.2.1.s6 (u0 := .int .i64 e) (u1 := .int .i64 o) (u2 := .int .i64 a) (u3 := .int .i64 (b + 1)) (u4 := .int .i64 c) (u5 := .slice po (l.length + 1) co)
        obtain ⟨z0, z1, z2, z3, z4, z5⟩ := Z.c6
        clear Z
        refine bodyPost_ret (v := .tuple #[.agg #[.int .i64 e, .int .i64 o, .int .i64 a, .int .i64 (b + 1), .int .i64 c, .slice po (l.length + 1) co], .bool true, .int .i64 0]) (by simp [results, Try.results32, go_sem, z0, z1, z2, z3, z4, z5]) rfl ?_
        have HBL : Below w.heap.size w _ := bel_in (bel_in (bel_in (bel_in (bel_in (bel_in X2.out.2.2.2.1 (i := 0) (u := .int .i64 e) (g := (w.heap.size + 1 + 1)) (by omega)) (i := 1) (u := .int .i64 o) (g := (w.heap.size + 1 + 1)) (by omega)) (i := 2) (u := .int .i64 a) (g := (w.heap.size + 1 + 1)) (by omega)) (i := 3) (u := .int .i64 (b + 1)) (g := (w.heap.size + 1 + 1)) (by omega)) (i := 4) (u := .int .i64 c) (g := (w.heap.size + 1 + 1)) (by omega)) (i := 5) (u := .slice po (l.length + 1) co) (g := (w.heap.size + 1 + 1)) (by omega)
        exact ⟨po, co, rfl, (((((((X2.out.2.2.2.2.1.kp Kp.set q0).kp Kp.set q0).kp Kp.set q0).kp Kp.set q0).kp Kp.set q0).kp Kp.set q0).weak (by omega)), HBL⟩
    · go_simp
      (try simp only [])
      have B1 : Hid (Box (W4.alloc (.cells #[.int .i64 1, .int .i64 (b + 1)] 31)) W4.heap.size [.int .i64 1, .int .i64 (b + 1)]) := box_mk
      replace RP : Hid (GRow lo (W4.alloc (.cells #[.int .i64 1, .int .i64 (b + 1)] 31)) p (flatD l)) := RP.out.next (bel_alloc W4 (.cells #[.int .i64 1, .int .i64 (b + 1)] 31))
      replace X : Hid (AX w (W4.alloc (.cells #[.int .i64 1, .int .i64 (b + 1)] 31)) lv [.int .i64 e, .int .i64 o, .int .i64 a, .int .i64 (b + 1), .int .i64 c, .slice p l.length q] [.int .i64 1, .int .i64 (b + 1)] [.int .i64 0, .int .i64 0, .int .i64 0, .int .i64 0, .int .i64 0, .slice none 0 0]) := X.out.alloc
      refine wHk hK X.out.2.1.c2 ?_
      clear hK K hHeld
      intro hHeld
      generalize W4.alloc (.cells #[.int .i64 1, .int .i64 (b + 1)] 31) = W6 at *
      generalize W4.heap.size = g5 at *
      refine wRd 0 (fun K hK => ?_)
      go_simp
      (try simp only [])
      have OV : Hid (OwnG (W6.alloc (.cells #[] 31)) 31 2 (.slice (some ⟨W6.heap.size, 0, none⟩) 0 0) 0 [] lv) := OwnG.lit X.out.2.2.2.2.2
      have NE : Hid ((Value.slice (some ⟨W6.heap.size, 0, none⟩) 0 0).ownBlock ≠ some g5) := fun h => by have := B1.out.lt; simp [Value.ownBlock] at h; omega
      replace B1 : Hid _ := B1.out.alloc (ob := (.cells #[] 31))
      replace X : Hid (AX w (W6.alloc (.cells #[] 31)) lv [.int .i64 e, .int .i64 o, .int .i64 a, .int .i64 (b + 1), .int .i64 c, .slice p l.length q] [.int .i64 1, .int .i64 (b + 1)] [.int .i64 0, .int .i64 0, .int .i64 0, .int .i64 0, .int .i64 0, .slice none 0 0]) := X.out.alloc
      replace RP : Hid (GRow lo (W6.alloc (.cells #[] 31)) p (flatD l)) := RP.out.next (bel_alloc W6 (.cells #[] 31))
      refine wHk hK X.out.2.1.c2 ?_
      clear hK K hHeld
      intro hHeld
      generalize W6.alloc (.cells #[] 31) = W7 at *
      generalize W6.heap.size = gz at *
      refine wRd 3 (fun K hK => ?_)
      rw [if_pos (by rfl)]
      refine wp_appG elD (.tmp 43) (.tmp 45) rfl (Value.slice (some ⟨gz, 0, none⟩) 0 0) 0 [] lv l.length rfl OV.out X.out.2.2.2.2.2 p l.length q (flatD l) rfl (flatD_len l) (flatD_one l) lo RP.out (by omega) (by omega) ?_
      intro vo vc W8 hO hg _
      (try simp only [])
      replace X : Hid (AX w W8 lv [.int .i64 e, .int .i64 o, .int .i64 a, .int .i64 (b + 1), .int .i64 c, .slice p l.length q] [.int .i64 1, .int .i64 (b + 1)] [.int .i64 0, .int .i64 0, .int .i64 0, .int .i64 0, .int .i64 0, .slice none 0 0]) := X.out.step (hg.below X.out.2.2.2.2.2 OV.out.ge)
      have NE2 : Hid ((Value.slice vo l.length vc).ownBlock ≠ some g5) := B1.out.ne hg NE.out
      replace B1 : Hid _ := B1.out.gro hg NE.out
      replace NE := NE2
      clear NE2
      replace hO : OwnG W8 31 2 (.slice vo l.length vc) l.length (flatD l) lv := by simpa using hO
      replace OV : Hid (OwnG W8 31 2 (.slice vo l.length vc) l.length (flatD l) lv) := hO
      clear hO hg RP
      refine wHk hK X.out.2.1.c2 ?_
      clear hK K hHeld
      intro hHeld
      refine wRd 6 (fun K hK => ?_)
      rw [if_pos (by rfl)]
      refine wp_appG elD (.tmp 46) (.tmp 48) rfl (Value.slice vo l.length vc) l.length (flatD l) lv (l.length + 1) rfl OV.out X.out.2.2.2.2.2 (some ⟨g5, 0, none⟩) 1 1 [.int .i64 1, .int .i64 (b + 1)] rfl (by simp) (by simp [Value.oneCell']) 0 (box_row B1.out) (by omega) rfl ?_
      intro po co W9 hO hg _
      (try simp only [])
      replace X : Hid (AX w W9 lv [.int .i64 e, .int .i64 o, .int .i64 a, .int .i64 (b + 1), .int .i64 c, .slice p l.length q] [.int .i64 1, .int .i64 (b + 1)] [.int .i64 0, .int .i64 0, .int .i64 0, .int .i64 0, .int .i64 0, .slice none 0 0]) := X.out.step (hg.below X.out.2.2.2.2.2 OV.out.ge)
      replace OV : Hid (OwnG W9 31 2 (.slice po (l.length + 1) co) (l.length + 1) (flatD l ++ [.int .i64 1, .int .i64 (b + 1)]) lv) := hO
      clear hO hg B1 NE
      refine wHk hK X.out.2.1.c2 ?_
      clear hK K hHeld
      intro hHeld
      refine wTk 7 ?_
      obtain ⟨a0, a1, a2, a3, a4, a5⟩ := X.out.1.c6
      obtain ⟨g0, g1, g2, g3, g4, g6⟩ := X.out.1.f6
      have X2 : Hid (Box (W9.setCell ⟨w.heap.size, 5, none⟩ (.slice po (l.length + 1) co)) w.heap.size [.int .i64 e, .int .i64 o, .int .i64 a, .int .i64 (b + 1), .int .i64 c, .slice po (l.length + 1) co] ∧ Box (W9.setCell ⟨w.heap.size, 5, none⟩ (.slice po (l.length + 1) co)) (w.heap.size + 1) [.int .i64 1, .int .i64 (b + 1)] ∧ Box (W9.setCell ⟨w.heap.size, 5, none⟩ (.slice po (l.length + 1) co)) (w.heap.size + 1 + 1) [.int .i64 0, .int .i64 0, .int .i64 0, .int .i64 0, .int .i64 0, .slice none 0 0] ∧ Below w.heap.size w (W9.setCell ⟨w.heap.size, 5, none⟩ (.slice po (l.length + 1) co)) ∧ OwnG (W9.setCell ⟨w.heap.size, 5, none⟩ (.slice po (l.length + 1) co)) 31 2 (.slice po (l.length + 1) co) (l.length + 1) (flatD l ++ [.int .i64 1, .int .i64 (b + 1)]) lv ∧ w.heap.size + 1 + 1 < lv) := by
        have hlt := X.out.2.2.2.2.1
        refine ⟨?_, X.out.2.1.oth (by omega), X.out.2.2.1.oth (by omega), bel_in X.out.2.2.2.1 (by omega), OV.out.kp Kp.set (fun k hk => by have := OV.out.ge k hk; omega), hlt⟩
        have := X.out.1.set (i := 5) (u := (.slice po (l.length + 1) co)) (by simp)
        simpa using this
      refine wRd 8 (fun K hK => ?_)
      go_simp
      (try simp only [])
      refine hK.out _ _ X2.out.2.1.c2 (fun hHeld' => ?_)
      clear hK K hHeld hHeld' a0 a1 a2 a3 a4 a5 g0 g1 g2 g3 g4 g6 X OV
      refine wLy ?_
      refine wpAnyH_done (by kernel_rfl) ?_ _
      generalize (W9.setCell ⟨w.heap.size, 5, none⟩ (.slice po (l.length + 1) co)) = WZ at *
      obtain ⟨a0, a1, a2, a3, a4, a5⟩ := X2.out.1.c6
      obtain ⟨b0, b1, b2, b3, b4, b5⟩ := X2.out.2.2.1.c6
      obtain ⟨f0, f1, f2, f3, f4, f5⟩ := X2.out.2.2.1.f6
      go_wp2_with fail
      clear a0 a1 a2 a3 a4 a5 b0 b1 b2 b3 b4 b5 f0 f1 f2 f3 f4 f5
      have hlt := X2.out.2.2.2.2.2
      have q0 : ∀ k, (Value.slice po (l.length + 1) co).ownBlock = some k → ¬ k = w.heap.size + 1 + 1 := fun k hk => by have := X2.out.2.2.2.2.1.ge k hk; omega
      have Z := X2.out.2.2.1.s6 (u0 := .int .i64 e) (u1 := .int .i64 o) (u2 := .int .i64 a) (u3 := .int .i64 (b + 1)) (u4 := .int .i64 c) (u5 := .slice po (l.length + 1) co)
      obtain ⟨z0, z1, z2, z3, z4, z5⟩ := Z.c6
      clear Z
      refine bodyPost_ret (v := .tuple #[.agg #[.int .i64 e, .int .i64 o, .int .i64 a, .int .i64 (b + 1), .int .i64 c, .slice po (l.length + 1) co], .bool true, .int .i64 0]) (by simp [results, Try.results32, go_sem, z0, z1, z2, z3, z4, z5]) rfl ?_
      have HBL : Below w.heap.size w _ := bel_in (bel_in (bel_in (bel_in (bel_in (bel_in X2.out.2.2.2.1 (i := 0) (u := .int .i64 e) (g := (w.heap.size + 1 + 1)) (by omega)) (i := 1) (u := .int .i64 o) (g := (w.heap.size + 1 + 1)) (by omega)) (i := 2) (u := .int .i64 a) (g := (w.heap.size + 1 + 1)) (by omega)) (i := 3) (u := .int .i64 (b + 1)) (g := (w.heap.size + 1 + 1)) (by omega)) (i := 4) (u := .int .i64 c) (g := (w.heap.size + 1 + 1)) (by omega)) (i := 5) (u := .slice po (l.length + 1) co) (g := (w.heap.size + 1 + 1)) (by omega)
      exact ⟨po, co, rfl, (((((((X2.out.2.2.2.2.1.kp Kp.set q0).kp Kp.set q0).kp Kp.set q0).kp Kp.set q0).kp Kp.set q0).kp Kp.set q0).weak (by omega)), HBL⟩
  · go_simp
    (try simp only [])
    have B1 : Hid (Box (W4.alloc (.cells #[.int .i64 1, .int .i64 (b + 1)] 31)) W4.heap.size [.int .i64 1, .int .i64 (b + 1)]) := box_mk
    replace RP : Hid (GRow lo (W4.alloc (.cells #[.int .i64 1, .int .i64 (b + 1)] 31)) p (flatD l)) := RP.out.next (bel_alloc W4 (.cells #[.int .i64 1, .int .i64 (b + 1)] 31))
    replace X : Hid (AX w (W4.alloc (.cells #[.int .i64 1, .int .i64 (b + 1)] 31)) lv [.int .i64 e, .int .i64 o, .int .i64 a, .int .i64 (b + 1), .int .i64 c, .slice p l.length q] [.int .i64 1, .int .i64 (b + 1)] [.int .i64 0, .int .i64 0, .int .i64 0, .int .i64 0, .int .i64 0, .slice none 0 0]) := X.out.alloc
    refine wHk hK X.out.2.1.c2 ?_
    clear hK K hHeld
    intro hHeld
    generalize W4.alloc (.cells #[.int .i64 1, .int .i64 (b + 1)] 31) = W5 at *
    generalize W4.heap.size = g5 at *
    refine wRd2 0 2 (fun K hK => ?_) (fun K hK => ?_)
    · go_simp
      (try simp only [])
      have OV : Hid (OwnG (W5.alloc (.cells #[] 31)) 31 2 (.slice (some ⟨W5.heap.size, 0, none⟩) 0 0) 0 [] lv) := OwnG.lit X.out.2.2.2.2.2
      have NE : Hid ((Value.slice (some ⟨W5.heap.size, 0, none⟩) 0 0).ownBlock ≠ some g5) := fun h => by have := B1.out.lt; simp [Value.ownBlock] at h; omega
      replace B1 : Hid _ := B1.out.alloc (ob := (.cells #[] 31))
      replace X : Hid (AX w (W5.alloc (.cells #[] 31)) lv [.int .i64 e, .int .i64 o, .int .i64 a, .int .i64 (b + 1), .int .i64 c, .slice p l.length q] [.int .i64 1, .int .i64 (b + 1)] [.int .i64 0, .int .i64 0, .int .i64 0, .int .i64 0, .int .i64 0, .slice none 0 0]) := X.out.alloc
      replace RP : Hid (GRow lo (W5.alloc (.cells #[] 31)) p (flatD l)) := RP.out.next (bel_alloc W5 (.cells #[] 31))
      refine wHk hK X.out.2.1.c2 ?_
      clear hK K hHeld
      intro hHeld
      generalize W5.alloc (.cells #[] 31) = W6 at *
      generalize W5.heap.size = gz at *
      refine wRd 2 (fun K hK => ?_)
      obtain ⟨a0, a1, a2, a3, a4, a5⟩ := X.out.1.c6
      go_simp
      (try simp only [])
      clear a0 a1 a2 a3 a4 a5
      refine wHk hK X.out.2.1.c2 ?_
      clear hK K hHeld
      intro hHeld
      refine wRd 3 (fun K hK => ?_)
      rw [if_pos (by rfl)]
      refine wp_appG elD (.tmp 43) (.tmp 45) rfl (Value.slice (some ⟨gz, 0, none⟩) 0 0) 0 [] lv l.length rfl OV.out X.out.2.2.2.2.2 p l.length q (flatD l) rfl (flatD_len l) (flatD_one l) lo RP.out (by omega) (by omega) ?_
      intro vo vc W8 hO hg _
      (try simp only [])
      replace X : Hid (AX w W8 lv [.int .i64 e, .int .i64 o, .int .i64 a, .int .i64 (b + 1), .int .i64 c, .slice p l.length q] [.int .i64 1, .int .i64 (b + 1)] [.int .i64 0, .int .i64 0, .int .i64 0, .int .i64 0, .int .i64 0, .slice none 0 0]) := X.out.step (hg.below X.out.2.2.2.2.2 OV.out.ge)
      have NE2 : Hid ((Value.slice vo l.length vc).ownBlock ≠ some g5) := B1.out.ne hg NE.out
      replace B1 : Hid _ := B1.out.gro hg NE.out
      replace NE := NE2
      clear NE2
      replace hO : OwnG W8 31 2 (.slice vo l.length vc) l.length (flatD l) lv := by simpa using hO
      replace OV : Hid (OwnG W8 31 2 (.slice vo l.length vc) l.length (flatD l) lv) := hO
      clear hO hg RP
      refine wHk hK X.out.2.1.c2 ?_
      clear hK K hHeld
      intro hHeld
      refine wRd 6 (fun K hK => ?_)
      rw [if_pos (by rfl)]
      refine wp_appG elD (.tmp 46) (.tmp 48) rfl (Value.slice vo l.length vc) l.length (flatD l) lv (l.length + 1) rfl OV.out X.out.2.2.2.2.2 (some ⟨g5, 0, none⟩) 1 1 [.int .i64 1, .int .i64 (b + 1)] rfl (by simp) (by simp [Value.oneCell']) 0 (box_row B1.out) (by omega) rfl ?_
      intro po co W9 hO hg _
      (try simp only [])
      replace X : Hid (AX w W9 lv [.int .i64 e, .int .i64 o, .int .i64 a, .int .i64 (b + 1), .int .i64 c, .slice p l.length q] [.int .i64 1, .int .i64 (b + 1)] [.int .i64 0, .int .i64 0, .int .i64 0, .int .i64 0, .int .i64 0, .slice none 0 0]) := X.out.step (hg.below X.out.2.2.2.2.2 OV.out.ge)
      replace OV : Hid (OwnG W9 31 2 (.slice po (l.length + 1) co) (l.length + 1) (flatD l ++ [.int .i64 1, .int .i64 (b + 1)]) lv) := hO
      clear hO hg B1 NE
      refine wHk hK X.out.2.1.c2 ?_
      clear hK K hHeld
      intro hHeld
      refine wTk 7 ?_
      obtain ⟨a0, a1, a2, a3, a4, a5⟩ := X.out.1.c6
      obtain ⟨g0, g1, g2, g3, g4, g6⟩ := X.out.1.f6
      have X2 : Hid (Box (W9.setCell ⟨w.heap.size, 5, none⟩ (.slice po (l.length + 1) co)) w.heap.size [.int .i64 e, .int .i64 o, .int .i64 a, .int .i64 (b + 1), .int .i64 c, .slice po (l.length + 1) co] ∧ Box (W9.setCell ⟨w.heap.size, 5, none⟩ (.slice po (l.length + 1) co)) (w.heap.size + 1) [.int .i64 1, .int .i64 (b + 1)] ∧ Box (W9.setCell ⟨w.heap.size, 5, none⟩ (.slice po (l.length + 1) co)) (w.heap.size + 1 + 1) [.int .i64 0, .int .i64 0, .int .i64 0, .int .i64 0, .int .i64 0, .slice none 0 0] ∧ Below w.heap.size w (W9.setCell ⟨w.heap.size, 5, none⟩ (.slice po (l.length + 1) co)) ∧ OwnG (W9.setCell ⟨w.heap.size, 5, none⟩ (.slice po (l.length + 1) co)) 31 2 (.slice po (l.length + 1) co) (l.length + 1) (flatD l ++ [.int .i64 1, .int .i64 (b + 1)]) lv ∧ w.heap.size + 1 + 1 < lv) := by
        have hlt := X.out.2.2.2.2.1
        refine ⟨?_, X.out.2.1.oth (by omega), X.out.2.2.1.oth (by omega), bel_in X.out.2.2.2.1 (by omega), OV.out.kp Kp.set (fun k hk => by have := OV.out.ge k hk; omega), hlt⟩
        have := X.out.1.set (i := 5) (u := (.slice po (l.length + 1) co)) (by simp)
        simpa using this
      refine wRd 8 (fun K hK => ?_)
      go_simp
      (try simp only [])
      refine hK.out _ _ X2.out.2.1.c2 (fun hHeld' => ?_)
      clear hK K hHeld hHeld' a0 a1 a2 a3 a4 a5 g0 g1 g2 g3 g4 g6 X OV
      refine wLy ?_
      refine wpAnyH_done (by kernel_rfl) ?_ _
      generalize (W9.setCell ⟨w.heap.size, 5, none⟩ (.slice po (l.length + 1) co)) = WZ at *
      obtain ⟨a0, a1, a2, a3, a4, a5⟩ := X2.out.1.c6
      obtain ⟨b0, b1, b2, b3, b4, b5⟩ := X2.out.2.2.1.c6
      obtain ⟨f0, f1, f2, f3, f4, f5⟩ := X2.out.2.2.1.f6
      go_wp2_with fail
      clear a0 a1 a2 a3 a4 a5 b0 b1 b2 b3 b4 b5 f0 f1 f2 f3 f4 f5
      have hlt := X2.out.2.2.2.2.2
      have q0 : ∀ k, (Value.slice po (l.length + 1) co).ownBlock = some k → ¬ k = w.heap.size + 1 + 1 := fun k hk => by have := X2.out.2.2.2.2.1.ge k hk; omega
      have Z := X2.out.2.2.1.s6 (u0 := .int .i64 e) (u1 := .int .i64 o) (u2 := .int .i64 a) (u3 := .int .i64 (b + 1)) (u4 := .int .i64 c) (u5 := .slice po (l.length + 1) co)
      obtain ⟨z0, z1, z2, z3, z4, z5⟩ := Z.c6
      clear Z
      refine bodyPost_ret (v := .tuple #[.agg #[.int .i64 e, .int .i64 o, .int .i64 a, .int .i64 (b + 1), .int .i64 c, .slice po (l.length + 1) co], .bool true, .int .i64 0]) (by simp [results, Try.results32, go_sem, z0, z1, z2, z3, z4, z5]) rfl ?_
      have HBL : Below w.heap.size w _ := bel_in (bel_in (bel_in (bel_in (bel_in (bel_in X2.out.2.2.2.1 (i := 0) (u := .int .i64 e) (g := (w.heap.size + 1 + 1)) (by omega)) (i := 1) (u := .int .i64 o) (g := (w.heap.size + 1 + 1)) (by omega)) (i := 2) (u := .int .i64 a) (g := (w.heap.size + 1 + 1)) (by omega)) (i := 3) (u := .int .i64 (b + 1)) (g := (w.heap.size + 1 + 1)) (by omega)) (i := 4) (u := .int .i64 c) (g := (w.heap.size + 1 + 1)) (by omega)) (i := 5) (u := .slice po (l.length + 1) co) (g := (w.heap.size + 1 + 1)) (by omega)
      exact ⟨po, co, rfl, (((((((X2.out.2.2.2.2.1.kp Kp.set q0).kp Kp.set q0).kp Kp.set q0).kp Kp.set q0).kp Kp.set q0).kp Kp.set q0).weak (by omega)), HBL⟩
    · obtain ⟨a0, a1, a2, a3, a4, a5⟩ := X.out.1.c6
      go_simp
      (try simp only [])
      clear a0 a1 a2 a3 a4 a5
      refine wHk hK X.out.2.1.c2 ?_
      clear hK K hHeld
      intro hHeld
      refine wRd 0 (fun K hK => ?_)
      go_simp
      (try simp only [])
      have OV : Hid (OwnG (W5.alloc (.cells #[] 31)) 31 2 (.slice (some ⟨W5.heap.size, 0, none⟩) 0 0) 0 [] lv) := OwnG.lit X.out.2.2.2.2.2
      have NE : Hid ((Value.slice (some ⟨W5.heap.size, 0, none⟩) 0 0).ownBlock ≠ some g5) := fun h => by have := B1.out.lt; simp [Value.ownBlock] at h; omega
      replace B1 : Hid _ := B1.out.alloc (ob := (.cells #[] 31))
      replace X : Hid (AX w (W5.alloc (.cells #[] 31)) lv [.int .i64 e, .int .i64 o, .int .i64 a, .int .i64 (b + 1), .int .i64 c, .slice p l.length q] [.int .i64 1, .int .i64 (b + 1)] [.int .i64 0, .int .i64 0, .int .i64 0, .int .i64 0, .int .i64 0, .slice none 0 0]) := X.out.alloc
      replace RP : Hid (GRow lo (W5.alloc (.cells #[] 31)) p (flatD l)) := RP.out.next (bel_alloc W5 (.cells #[] 31))
      refine wHk hK X.out.2.1.c2 ?_
      clear hK K hHeld
      intro hHeld
      generalize W5.alloc (.cells #[] 31) = W7 at *
      generalize W5.heap.size = gz at *
      refine wRd 3 (fun K hK => ?_)
      rw [if_pos (by rfl)]
      refine wp_appG elD (.tmp 43) (.tmp 45) rfl (Value.slice (some ⟨gz, 0, none⟩) 0 0) 0 [] lv l.length rfl OV.out X.out.2.2.2.2.2 p l.length q (flatD l) rfl (flatD_len l) (flatD_one l) lo RP.out (by omega) (by omega) ?_
      intro vo vc W8 hO hg _
      (try simp only [])
      replace X : Hid (AX w W8 lv [.int .i64 e, .int .i64 o, .int .i64 a, .int .i64 (b + 1), .int .i64 c, .slice p l.length q] [.int .i64 1, .int .i64 (b + 1)] [.int .i64 0, .int .i64 0, .int .i64 0, .int .i64 0, .int .i64 0, .slice none 0 0]) := X.out.step (hg.below X.out.2.2.2.2.2 OV.out.ge)
      have NE2 : Hid ((Value.slice vo l.length vc).ownBlock ≠ some g5) := B1.out.ne hg NE.out
      replace B1 : Hid _ := B1.out.gro hg NE.out
      replace NE := NE2
      clear NE2
      replace hO : OwnG W8 31 2 (.slice vo l.length vc) l.length (flatD l) lv := by simpa using hO
      replace OV : Hid (OwnG W8 31 2 (.slice vo l.length vc) l.length (flatD l) lv) := hO
      clear hO hg RP
      refine wHk hK X.out.2.1.c2 ?_
      clear hK K hHeld
      intro hHeld
      refine wRd 6 (fun K hK => ?_)
      rw [if_pos (by rfl)]
      refine wp_appG elD (.tmp 46) (.tmp 48) rfl (Value.slice vo l.length vc) l.length (flatD l) lv (l.length + 1) rfl OV.out X.out.2.2.2.2.2 (some ⟨g5, 0, none⟩) 1 1 [.int .i64 1, .int .i64 (b + 1)] rfl (by simp) (by simp [Value.oneCell']) 0 (box_row B1.out) (by omega) rfl ?_
      intro po co W9 hO hg _
      (try simp only [])
      replace X : Hid (AX w W9 lv [.int .i64 e, .int .i64 o, .int .i64 a, .int .i64 (b + 1), .int .i64 c, .slice p l.length q] [.int .i64 1, .int .i64 (b + 1)] [.int .i64 0, .int .i64 0, .int .i64 0, .int .i64 0, .int .i64 0, .slice none 0 0]) := X.out.step (hg.below X.out.2.2.2.2.2 OV.out.ge)
      replace OV : Hid (OwnG W9 31 2 (.slice po (l.length + 1) co) (l.length + 1) (flatD l ++ [.int .i64 1, .int .i64 (b + 1)]) lv) := hO
      clear hO hg B1 NE
      refine wHk hK X.out.2.1.c2 ?_
      clear hK K hHeld
      intro hHeld
      refine wTk 7 ?_
      obtain ⟨a0, a1, a2, a3, a4, a5⟩ := X.out.1.c6
      obtain ⟨g0, g1, g2, g3, g4, g6⟩ := X.out.1.f6
      have X2 : Hid (Box (W9.setCell ⟨w.heap.size, 5, none⟩ (.slice po (l.length + 1) co)) w.heap.size [.int .i64 e, .int .i64 o, .int .i64 a, .int .i64 (b + 1), .int .i64 c, .slice po (l.length + 1) co] ∧ Box (W9.setCell ⟨w.heap.size, 5, none⟩ (.slice po (l.length + 1) co)) (w.heap.size + 1) [.int .i64 1, .int .i64 (b + 1)] ∧ Box (W9.setCell ⟨w.heap.size, 5, none⟩ (.slice po (l.length + 1) co)) (w.heap.size + 1 + 1) [.int .i64 0, .int .i64 0, .int .i64 0, .int .i64 0, .int .i64 0, .slice none 0 0] ∧ Below w.heap.size w (W9.setCell ⟨w.heap.size, 5, none⟩ (.slice po (l.length + 1) co)) ∧ OwnG (W9.setCell ⟨w.heap.size, 5, none⟩ (.slice po (l.length + 1) co)) 31 2 (.slice po (l.length + 1) co) (l.length + 1) (flatD l ++ [.int .i64 1, .int .i64 (b + 1)]) lv ∧ w.heap.size + 1 + 1 < lv) := by
        have hlt := X.out.2.2.2.2.1
        refine ⟨?_, X.out.2.1.oth (by omega), X.out.2.2.1.oth (by omega), bel_in X.out.2.2.2.1 (by omega), OV.out.kp Kp.set (fun k hk => by have := OV.out.ge k hk; omega), hlt⟩
        have := X.out.1.set (i := 5) (u := (.slice po (l.length + 1) co)) (by simp)
        simpa using this
      refine wRd 8 (fun K hK => ?_)
      go_simp
      (try simp only [])
      refine hK.out _ _ X2.out.2.1.c2 (fun hHeld' => ?_)
      clear hK K hHeld hHeld' a0 a1 a2 a3 a4 a5 g0 g1 g2 g3 g4 g6 X OV
      refine wLy ?_
      refine wpAnyH_done (by kernel_rfl) ?_ _
      generalize (W9.setCell ⟨w.heap.size, 5, none⟩ (.slice po (l.length + 1) co)) = WZ at *
      obtain ⟨a0, a1, a2, a3, a4, a5⟩ := X2.out.1.c6
      obtain ⟨b0, b1, b2, b3, b4, b5⟩ := X2.out.2.2.1.c6
      obtain ⟨f0, f1, f2, f3, f4, f5⟩ := X2.out.2.2.1.f6
      go_wp2_with fail
      clear a0 a1 a2 a3 a4 a5 b0 b1 b2 b3 b4 b5 f0 f1 f2 f3 f4 f5
      have hlt := X2.out.2.2.2.2.2
      have q0 : ∀ k, (Value.slice po (l.length + 1) co).ownBlock = some k → ¬ k = w.heap.size + 1 + 1 := fun k hk => by have := X2.out.2.2.2.2.1.ge k hk; omega
      have Z := X2.out.2.2.1.s6 (u0 := .int .i64 e) (u1 := .int .i64 o) (u2 := .int .i64 a) (u3 := .int .i64 (b + 1)) (u4 := .int .i64 c) (u5 := .slice po (l.length + 1) co)
      obtain ⟨z0, z1, z2, z3, z4, z5⟩ := Z.c6
      clear Z
      refine bodyPost_ret (v := .tuple #[.agg #[.int .i64 e, .int .i64 o, .int .i64 a, .int .i64 (b + 1), .int .i64 c, .slice po (l.length + 1) co], .bool true, .int .i64 0]) (by simp [results, Try.results32, go_sem, z0, z1, z2, z3, z4, z5]) rfl ?_
      have HBL : Below w.heap.size w _ := bel_in (bel_in (bel_in (bel_in (bel_in (bel_in X2.out.2.2.2.1 (i := 0) (u := .int .i64 e) (g := (w.heap.size + 1 + 1)) (by omega)) (i := 1) (u := .int .i64 o) (g := (w.heap.size + 1 + 1)) (by omega)) (i := 2) (u := .int .i64 a) (g := (w.heap.size + 1 + 1)) (by omega)) (i := 3) (u := .int .i64 (b + 1)) (g := (w.heap.size + 1 + 1)) (by omega)) (i := 4) (u := .int .i64 c) (g := (w.heap.size + 1 + 1)) (by omega)) (i := 5) (u := .slice po (l.length + 1) co) (g := (w.heap.size + 1 + 1)) (by omega)
      exact ⟨po, co, rfl, (((((((X2.out.2.2.2.2.1.kp Kp.set q0).kp Kp.set q0).kp Kp.set q0).kp Kp.set q0).kp Kp.set q0).kp Kp.set q0).weak (by omega)), HBL⟩

set_option maxRecDepth 100000 in
set_option maxHeartbeats 4000000 in
theorem lack_ok2 (lo q : Nat) (p : Option Addr) (l : List Dt) (e o a b c : Int) (w : World) (hx : 0 ≤ c ∧ c ≤ 9999) (hl : l.length < 4096) (hr0 : GRow lo w p (flatD l)) :
    Calls Try.prog 32 #[.agg #[.int .i64 e, .int .i64 o, .int .i64 a, .int .i64 b, .int .i64 c, .slice p l.length q], .int .i64 e, .agg #[.int .i64 2, .int .i64 (c + 1)]] w fun r w' => ∃ po co, r = .returned (.tuple #[.agg #[.int .i64 e, .int .i64 o, .int .i64 a, .int .i64 b, .int .i64 (c + 1), .slice po (l.length + 1) co], .bool true, .int .i64 0]) ∧ OwnG w' 31 2 (.slice po (l.length + 1) co) (l.length + 1) (flatD l ++ [.int .i64 2, .int .i64 (c + 1)]) w.heap.size ∧ Below w.heap.size w w' := by
  have hr : Hid (GRow lo w p (flatD l)) := hr0
  clear hr0
  have hw : IntKind.i64.wrap (c + 1) = c + 1 := by rw [IntKind.wrap_i64]; omega
  have h3 : ((l.length : Int) == 4096) = false := by simp; omega
  go_enter Try.func32, Try.ntmps32
  go_upto_region 1 with fail
  refine wp_gen (fun W => Box W w.heap.size [.int .i64 e, .int .i64 o, .int .i64 a, .int .i64 b, .int .i64 c, .slice p l.length q] ∧ Box W (w.heap.size + 1) [.int .i64 2, .int .i64 (c + 1)] ∧ Box W (w.heap.size + 1 + 1) [.int .i64 0, .int .i64 0, .int .i64 0, .int .i64 0, .int .i64 0, .slice none 0 0] ∧ Below w.heap.size w W) ⟨box_mk.alloc.alloc, box_mid, box_end, bel3 _ _ _ _⟩ (fun W0 hI => ?_)
  have Y : Hid _ := hI
  clear hI
  obtain ⟨a0, a1, a2, a3, a4, a5⟩ := Y.out.1.c6
  obtain ⟨d0, d1⟩ := Y.out.2.1.c2
  go_wp2_with fail
  refine (has_2false a b c (c + 1) _ (by omega)).mono ?_
  rintro e1 W1 ⟨rfl, hb⟩
  replace Y : Hid (Box W1 w.heap.size [.int .i64 e, .int .i64 o, .int .i64 a, .int .i64 b, .int .i64 c, .slice p l.length q] ∧ Box W1 (w.heap.size + 1) [.int .i64 2, .int .i64 (c + 1)] ∧ Box W1 (w.heap.size + 1 + 1) [.int .i64 0, .int .i64 0, .int .i64 0, .int .i64 0, .int .i64 0, .slice none 0 0] ∧ Below w.heap.size w W1) := ⟨Y.out.1.next hb, Y.out.2.1.next hb, Y.out.2.2.1.next hb, Y.out.2.2.2.trans (hb.mono Y.out.2.2.2.size)⟩
  clear hb a0 a1 a2 a3 a4 a5 d0 d1
  obtain ⟨a0, a1, a2, a3, a4, a5⟩ := Y.out.1.c6
  obtain ⟨d0, d1⟩ := Y.out.2.1.c2
  go_wp2_with fail
  go_quiet (fail)
  rename_i nq _
  go_wp2_with fail
  have hb : Below W1.heap.size W1 _ := below_drewN (Below.refl _ _) nq
  refine (add_2 a b c (c + 1) _ (by omega)).mono ?_
  rintro e1 W2 ⟨rfl, hb2⟩
  have hb3 := hb.trans (hb2.mono hb.size)
  replace Y : Hid (Box W2 w.heap.size [.int .i64 e, .int .i64 o, .int .i64 a, .int .i64 b, .int .i64 c, .slice p l.length q] ∧ Box W2 (w.heap.size + 1) [.int .i64 2, .int .i64 (c + 1)] ∧ Box W2 (w.heap.size + 1 + 1) [.int .i64 0, .int .i64 0, .int .i64 0, .int .i64 0, .int .i64 0, .slice none 0 0] ∧ Below w.heap.size w W2) := ⟨Y.out.1.next hb3, Y.out.2.1.next hb3, Y.out.2.2.1.next hb3, Y.out.2.2.2.trans (hb3.mono Y.out.2.2.2.size)⟩
  clear hb hb2 hb3 a0 a1 a2 a3 a4 a5 d0 d1
  obtain ⟨a0, a1, a2, a3, a4, a5⟩ := Y.out.1.c6
  obtain ⟨f0, f1, f2, f3, f4, f5⟩ := Y.out.1.f6
  go_upto_region 10 with fail
  clear a0 a1 a2 a3 a4 a5 f0 f1 f2 f3 f4 f5
  refine wp_gen (fun W => Box W w.heap.size [.int .i64 e, .int .i64 o, .int .i64 a, .int .i64 b, .int .i64 (c + 1), .slice p l.length q] ∧ Box W (w.heap.size + 1) [.int .i64 2, .int .i64 (c + 1)] ∧ Box W (w.heap.size + 1 + 1) [.int .i64 0, .int .i64 0, .int .i64 0, .int .i64 0, .int .i64 0, .slice none 0 0] ∧ Below w.heap.size w W) ?_ (fun W3 hI => ?_)
  · refine ⟨?_, (((Y.out.2.1.oth (by omega)).oth (by omega)).oth (by omega)), (((Y.out.2.2.1.oth (by omega)).oth (by omega)).oth (by omega)), bel_in (bel_in (bel_in Y.out.2.2.2 (by omega)) (by omega)) (by omega)⟩
    have := ((Y.out.1.set (i := 2) (u := .int .i64 a) (by simp)).set (i := 3) (u := .int .i64 b) (by simp)).set (i := 4) (u := .int .i64 (c + 1)) (by simp)
    simpa using this
  clear Y
  have Y : Hid _ := hI
  clear hI
  refine wp_region_held_drew (S := (fun w' => w'.cell? ⟨w.heap.size + 1, 0, none⟩ = some (.int .i64 2) ∧ w'.cell? ⟨w.heap.size + 1, 1, none⟩ = some (.int .i64 (c + 1)))) (by kernel_rfl) ?_ (fun hHeld => ?_)
  · (try dsimp only)
    exact (Y.out.2.1.next (bel_drew _)).c2
  have RP : Hid (GRow lo W3.drew p (flatD l)) := (hr.out.next Y.out.2.2.2).next (bel_drew _)
  replace Y : Hid (Box W3.drew w.heap.size [.int .i64 e, .int .i64 o, .int .i64 a, .int .i64 b, .int .i64 (c + 1), .slice p l.length q] ∧ Box W3.drew (w.heap.size + 1) [.int .i64 2, .int .i64 (c + 1)] ∧ Box W3.drew (w.heap.size + 1 + 1) [.int .i64 0, .int .i64 0, .int .i64 0, .int .i64 0, .int .i64 0, .slice none 0 0] ∧ Below w.heap.size w W3.drew) := ⟨Y.out.1.next (bel_drew _), Y.out.2.1.next (bel_drew _), Y.out.2.2.1.next (bel_drew _), Y.out.2.2.2.trans ((bel_drew _).mono Y.out.2.2.2.size)⟩
  generalize W3.drew = W4 at *
  have X : Hid (AX w W4 W4.heap.size [.int .i64 e, .int .i64 o, .int .i64 a, .int .i64 b, .int .i64 (c + 1), .slice p l.length q] [.int .i64 2, .int .i64 (c + 1)] [.int .i64 0, .int .i64 0, .int .i64 0, .int .i64 0, .int .i64 0, .slice none 0 0]) := ⟨Y.out.1, Y.out.2.1, Y.out.2.2.1, Y.out.2.2.2, Y.out.2.2.1.lt, Nat.le_refl _⟩
  clear Y hr
  obtain ⟨lv, hlv⟩ : ∃ lv, lv = W4.heap.size := ⟨_, rfl⟩
  rw [← hlv] at X
  clear hlv
  refine wTk 1 ?_
  refine wTk 4 ?_
  refine wRd3 0 2 5 (fun K hK => ?_) (fun K hK => ?_) (fun K hK => ?_)
  · go_simp
    (try simp only [])
    have OV : Hid (OwnG (W4.alloc (.cells #[] 31)) 31 2 (.slice (some ⟨W4.heap.size, 0, none⟩) 0 0) 0 [] lv) := OwnG.lit X.out.2.2.2.2.2
    replace X : Hid (AX w (W4.alloc (.cells #[] 31)) lv [.int .i64 e, .int .i64 o, .int .i64 a, .int .i64 b, .int .i64 (c + 1), .slice p l.length q] [.int .i64 2, .int .i64 (c + 1)] [.int .i64 0, .int .i64 0, .int .i64 0, .int .i64 0, .int .i64 0, .slice none 0 0]) := X.out.alloc
    replace RP : Hid (GRow lo (W4.alloc (.cells #[] 31)) p (flatD l)) := RP.out.next (bel_alloc W4 (.cells #[] 31))
    refine wHk hK X.out.2.1.c2 ?_
    clear hK K hHeld
    intro hHeld
    generalize W4.alloc (.cells #[] 31) = W5 at *
    generalize W4.heap.size = gz at *
    refine wRd2 2 5 (fun K hK => ?_) (fun K hK => ?_)
    · obtain ⟨a0, a1, a2, a3, a4, a5⟩ := X.out.1.c6
      go_simp
      (try simp only [])
      clear a0 a1 a2 a3 a4 a5
      refine wHk hK X.out.2.1.c2 ?_
      clear hK K hHeld
      intro hHeld
      refine wRd2 3 5 (fun K hK => ?_) (fun K hK => ?_)
      · rw [if_pos (by rfl)]
        refine wp_appG elD (.tmp 43) (.tmp 45) rfl (Value.slice (some ⟨gz, 0, none⟩) 0 0) 0 [] lv l.length rfl OV.out X.out.2.2.2.2.2 p l.length q (flatD l) rfl (flatD_len l) (flatD_one l) lo RP.out (by omega) (by omega) ?_
        intro vo vc W7 hO hg _
        (try simp only [])
        replace X : Hid (AX w W7 lv [.int .i64 e, .int .i64 o, .int .i64 a, .int .i64 b, .int .i64 (c + 1), .slice p l.length q] [.int .i64 2, .int .i64 (c + 1)] [.int .i64 0, .int .i64 0, .int .i64 0, .int .i64 0, .int .i64 0, .slice none 0 0]) := X.out.step (hg.below X.out.2.2.2.2.2 OV.out.ge)
        replace hO : OwnG W7 31 2 (.slice vo l.length vc) l.length (flatD l) lv := by simpa using hO
        replace OV : Hid (OwnG W7 31 2 (.slice vo l.length vc) l.length (flatD l) lv) := hO
        clear hO hg RP
        refine wHk hK X.out.2.1.c2 ?_
        clear hK K hHeld
        intro hHeld
        refine wRd 5 (fun K hK => ?_)
        go_simp
        (try simp only [])
        have B1 : Hid (Box (W7.alloc (.cells #[.int .i64 2, .int .i64 (c + 1)] 31)) W7.heap.size [.int .i64 2, .int .i64 (c + 1)]) := box_mk
        have NE : Hid ((Value.slice vo l.length vc).ownBlock ≠ some W7.heap.size) := fun h => by have := (OV.out.own.lt _ h).2; omega
        replace OV : Hid _ := OV.out.next (bel_alloc W7 (.cells #[.int .i64 2, .int .i64 (c + 1)] 31))
        replace X : Hid (AX w (W7.alloc (.cells #[.int .i64 2, .int .i64 (c + 1)] 31)) lv [.int .i64 e, .int .i64 o, .int .i64 a, .int .i64 b, .int .i64 (c + 1), .slice p l.length q] [.int .i64 2, .int .i64 (c + 1)] [.int .i64 0, .int .i64 0, .int .i64 0, .int .i64 0, .int .i64 0, .slice none 0 0]) := X.out.alloc
        refine wHk hK X.out.2.1.c2 ?_
        clear hK K hHeld
        intro hHeld
        generalize W7.alloc (.cells #[.int .i64 2, .int .i64 (c + 1)] 31) = W8 at *
        generalize W7.heap.size = g5 at *
        refine wRd 6 (fun K hK => ?_)
        rw [if_pos (by rfl)]
        refine wp_appG elD (.tmp 46) (.tmp 48) rfl (Value.slice vo l.length vc) l.length (flatD l) lv (l.length + 1) rfl OV.out X.out.2.2.2.2.2 (some ⟨g5, 0, none⟩) 1 1 [.int .i64 2, .int .i64 (c + 1)] rfl (by simp) (by simp [Value.oneCell']) 0 (box_row B1.out) (by omega) rfl ?_
        intro po co W9 hO hg _
        (try simp only [])
        replace X : Hid (AX w W9 lv [.int .i64 e, .int .i64 o, .int .i64 a, .int .i64 b, .int .i64 (c + 1), .slice p l.length q] [.int .i64 2, .int .i64 (c + 1)] [.int .i64 0, .int .i64 0, .int .i64 0, .int .i64 0, .int .i64 0, .slice none 0 0]) := X.out.step (hg.below X.out.2.2.2.2.2 OV.out.ge)
        replace OV : Hid (OwnG W9 31 2 (.slice po (l.length + 1) co) (l.length + 1) (flatD l ++ [.int .i64 2, .int .i64 (c + 1)]) lv) := hO
        clear hO hg B1 NE
        refine wHk hK X.out.2.1.c2 ?_
        clear hK K hHeld
        intro hHeld
        refine wTk 7 ?_
        obtain ⟨a0, a1, a2, a3, a4, a5⟩ := X.out.1.c6
        obtain ⟨g0, g1, g2, g3, g4, g6⟩ := X.out.1.f6
        have X2 : Hid (Box (W9.setCell ⟨w.heap.size, 5, none⟩ (.slice po (l.length + 1) co)) w.heap.size [.int .i64 e, .int .i64 o, .int .i64 a, .int .i64 b, .int .i64 (c + 1), .slice po (l.length + 1) co] ∧ Box (W9.setCell ⟨w.heap.size, 5, none⟩ (.slice po (l.length + 1) co)) (w.heap.size + 1) [.int .i64 2, .int .i64 (c + 1)] ∧ Box (W9.setCell ⟨w.heap.size, 5, none⟩ (.slice po (l.length + 1) co)) (w.heap.size + 1 + 1) [.int .i64 0, .int .i64 0, .int .i64 0, .int .i64 0, .int .i64 0, .slice none 0 0] ∧ Below w.heap.size w (W9.setCell ⟨w.heap.size, 5, none⟩ (.slice po (l.length + 1) co)) ∧ OwnG (W9.setCell ⟨w.heap.size, 5, none⟩ (.slice po (l.length + 1) co)) 31 2 (.slice po (l.length + 1) co) (l.length + 1) (flatD l ++ [.int .i64 2, .int .i64 (c + 1)]) lv ∧ w.heap.size + 1 + 1 < lv) := by
          have hlt := X.out.2.2.2.2.1
          refine ⟨?_, X.out.2.1.oth (by omega), X.out.2.2.1.oth (by omega), bel_in X.out.2.2.2.1 (by omega), OV.out.kp Kp.set (fun k hk => by have := OV.out.ge k hk; omega), hlt⟩
          have := X.out.1.set (i := 5) (u := (.slice po (l.length + 1) co)) (by simp)
          simpa using this
        refine wRd 8 (fun K hK => ?_)
        go_simp
        (try simp only [])
        refine hK.out _ _ X2.out.2.1.c2 (fun hHeld' => ?_)
        clear hK K hHeld hHeld' a0 a1 a2 a3 a4 a5 g0 g1 g2 g3 g4 g6 X OV
        refine wLy ?_
        refine wpAnyH_done (by kernel_rfl) ?_ _
        generalize (W9.setCell ⟨w.heap.size, 5, none⟩ (.slice po (l.length + 1) co)) = WZ at *
        obtain ⟨a0, a1, a2, a3, a4, a5⟩ := X2.out.1.c6
        obtain ⟨b0, b1, b2, b3, b4, b5⟩ := X2.out.2.2.1.c6
        obtain ⟨f0, f1, f2, f3, f4, f5⟩ := X2.out.2.2.1.f6
        go_wp2_with fail
        clear a0 a1 a2 a3 a4 a5 b0 b1 b2 b3 b4 b5 f0 f1 f2 f3 f4 f5
        have hlt := X2.out.2.2.2.2.2
        have q0 : ∀ k, (Value.slice po (l.length + 1) co).ownBlock = some k → ¬ k = w.heap.size + 1 + 1 := fun k hk => by have := X2.out.2.2.2.2.1.ge k hk; omega
        have Z := X2.out.2.2.1.s6 (u0 := .int .i64 e) (u1 := .int .i64 o) (u2 := .int .i64 a) (u3 := .int .i64 b) (u4 := .int .i64 (c + 1)) (u5 := .slice po (l.length + 1) co)
        obtain ⟨z0, z1, z2, z3, z4, z5⟩ := Z.c6
        clear Z
        refine bodyPost_ret (v := .tuple #[.agg #[.int .i64 e, .int .i64 o, .int .i64 a, .int .i64 b, .int .i64 (c + 1), .slice po (l.length + 1) co], .bool true, .int .i64 0]) (by simp [results, Try.results32, go_sem, z0, z1, z2, z3, z4, z5]) rfl ?_
        have HBL : Below w.heap.size w _ := bel_in (bel_in (bel_in (bel_in (bel_in (bel_in X2.out.2.2.2.1 (i := 0) (u := .int .i64 e) (g := (w.heap.size + 1 + 1)) (by omega)) (i := 1) (u := .int .i64 o) (g := (w.heap.size + 1 + 1)) (by omega)) (i := 2) (u := .int .i64 a) (g := (w.heap.size + 1 + 1)) (by omega)) (i := 3) (u := .int .i64 b) (g := (w.heap.size + 1 + 1)) (by omega)) (i := 4) (u := .int .i64 (c + 1)) (g := (w.heap.size + 1 + 1)) (by omega)) (i := 5) (u := .slice po (l.length + 1) co) (g := (w.heap.size + 1 + 1)) (by omega)
        exact ⟨po, co, rfl, (((((((X2.out.2.2.2.2.1.kp Kp.set q0).kp Kp.set q0).kp Kp.set q0).kp Kp.set q0).kp Kp.set q0).kp Kp.set q0).weak (by omega)), HBL⟩
      · go_simp
        (try simp only [])
        have B1 : Hid (Box (W5.alloc (.cells #[.int .i64 2, .int .i64 (c + 1)] 31)) W5.heap.size [.int .i64 2, .int .i64 (c + 1)]) := box_mk
        have NE : Hid ((Value.slice (some ⟨gz, 0, none⟩) 0 0).ownBlock ≠ some W5.heap.size) := fun h => by have := (OV.out.own.lt _ h).2; omega
        replace OV : Hid _ := OV.out.next (bel_alloc W5 (.cells #[.int .i64 2, .int .i64 (c + 1)] 31))
        replace RP : Hid (GRow lo (W5.alloc (.cells #[.int .i64 2, .int .i64 (c + 1)] 31)) p (flatD l)) := RP.out.next (bel_alloc W5 (.cells #[.int .i64 2, .int .i64 (c + 1)] 31))
        replace X : Hid (AX w (W5.alloc (.cells #[.int .i64 2, .int .i64 (c + 1)] 31)) lv [.int .i64 e, .int .i64 o, .int .i64 a, .int .i64 b, .int .i64 (c + 1), .slice p l.length q] [.int .i64 2, .int .i64 (c + 1)] [.int .i64 0, .int .i64 0, .int .i64 0, .int .i64 0, .int .i64 0, .slice none 0 0]) := X.out.alloc
        refine wHk hK X.out.2.1.c2 ?_
        clear hK K hHeld
        intro hHeld
        generalize W5.alloc (.cells #[.int .i64 2, .int .i64 (c + 1)] 31) = W7 at *
        generalize W5.heap.size = g5 at *
        refine wRd 3 (fun K hK => ?_)
        rw [if_pos (by rfl)]
        refine wp_appG elD (.tmp 43) (.tmp 45) rfl (Value.slice (some ⟨gz, 0, none⟩) 0 0) 0 [] lv l.length rfl OV.out X.out.2.2.2.2.2 p l.length q (flatD l) rfl (flatD_len l) (flatD_one l) lo RP.out (by omega) (by omega) ?_
        intro vo vc W8 hO hg _
        (try simp only [])
        replace X : Hid (AX w W8 lv [.int .i64 e, .int .i64 o, .int .i64 a, .int .i64 b, .int .i64 (c + 1), .slice p l.length q] [.int .i64 2, .int .i64 (c + 1)] [.int .i64 0, .int .i64 0, .int .i64 0, .int .i64 0, .int .i64 0, .slice none 0 0]) := X.out.step (hg.below X.out.2.2.2.2.2 OV.out.ge)
        have NE2 : Hid ((Value.slice vo l.length vc).ownBlock ≠ some g5) := B1.out.ne hg NE.out
        replace B1 : Hid _ := B1.out.gro hg NE.out
        replace NE := NE2
        clear NE2
        replace hO : OwnG W8 31 2 (.slice vo l.length vc) l.length (flatD l) lv := by simpa using hO
        replace OV : Hid (OwnG W8 31 2 (.slice vo l.length vc) l.length (flatD l) lv) := hO
        clear hO hg RP
        refine wHk hK X.out.2.1.c2 ?_
        clear hK K hHeld
        intro hHeld
        refine wRd 6 (fun K hK => ?_)
        rw [if_pos (by rfl)]
        refine wp_appG elD (.tmp 46) (.tmp 48) rfl (Value.slice vo l.length vc) l.length (flatD l) lv (l.length + 1) rfl OV.out X.out.2.2.2.2.2 (some ⟨g5, 0, none⟩) 1 1 [.int .i64 2, .int .i64 (c + 1)] rfl (by simp) (by simp [Value.oneCell']) 0 (box_row B1.out) (by omega) rfl ?_
        intro po co W9 hO hg _
        (try simp only [])
        replace X : Hid (AX w W9 lv [.int .i64 e, .int .i64 o, .int .i64 a, .int .i64 b, .int .i64 (c + 1), .slice p l.length q] [.int .i64 2, .int .i64 (c + 1)] [.int .i64 0, .int .i64 0, .int .i64 0, .int .i64 0, .int .i64 0, .slice none 0 0]) := X.out.step (hg.below X.out.2.2.2.2.2 OV.out.ge)
        replace OV : Hid (OwnG W9 31 2 (.slice po (l.length + 1) co) (l.length + 1) (flatD l ++ [.int .i64 2, .int .i64 (c + 1)]) lv) := hO
        clear hO hg B1 NE
        refine wHk hK X.out.2.1.c2 ?_
        clear hK K hHeld
        intro hHeld
        refine wTk 7 ?_
        obtain ⟨a0, a1, a2, a3, a4, a5⟩ := X.out.1.c6
        obtain ⟨g0, g1, g2, g3, g4, g6⟩ := X.out.1.f6
        have X2 : Hid (Box (W9.setCell ⟨w.heap.size, 5, none⟩ (.slice po (l.length + 1) co)) w.heap.size [.int .i64 e, .int .i64 o, .int .i64 a, .int .i64 b, .int .i64 (c + 1), .slice po (l.length + 1) co] ∧ Box (W9.setCell ⟨w.heap.size, 5, none⟩ (.slice po (l.length + 1) co)) (w.heap.size + 1) [.int .i64 2, .int .i64 (c + 1)] ∧ Box (W9.setCell ⟨w.heap.size, 5, none⟩ (.slice po (l.length + 1) co)) (w.heap.size + 1 + 1) [.int .i64 0, .int .i64 0, .int .i64 0, .int .i64 0, .int .i64 0, .slice none 0 0] ∧ Below w.heap.size w (W9.setCell ⟨w.heap.size, 5, none⟩ (.slice po (l.length + 1) co)) ∧ OwnG (W9.setCell ⟨w.heap.size, 5, none⟩ (.slice po (l.length + 1) co)) 31 2 (.slice po (l.length + 1) co) (l.length + 1) (flatD l ++ [.int .i64 2, .int .i64 (c + 1)]) lv ∧ w.heap.size + 1 + 1 < lv) := by
          have hlt := X.out.2.2.2.2.1
          refine ⟨?_, X.out.2.1.oth (by omega), X.out.2.2.1.oth (by omega), bel_in X.out.2.2.2.1 (by omega), OV.out.kp Kp.set (fun k hk => by have := OV.out.ge k hk; omega), hlt⟩
          have := X.out.1.set (i := 5) (u := (.slice po (l.length + 1) co)) (by simp)
          simpa using this
        refine wRd 8 (fun K hK => ?_)
        go_simp
        (try simp only [])
        refine hK.out _ _ X2.out.2.1.c2 (fun hHeld' => ?_)
        clear hK K hHeld hHeld' a0 a1 a2 a3 a4 a5 g0 g1 g2 g3 g4 g6 X OV
        refine wLy ?_
        refine wpAnyH_done (by kernel_rfl) ?_ _
        generalize (W9.setCell ⟨w.heap.size, 5, none⟩ (.slice po (l.length + 1) co)) = WZ at *
        obtain ⟨a0, a1, a2, a3, a4, a5⟩ := X2.out.1.c6
        obtain ⟨b0, b1, b2, b3, b4, b5⟩ := X2.out.2.2.1.c6
        obtain ⟨f0, f1, f2, f3, f4, f5⟩ := X2.out.2.2.1.f6
        go_wp2_with fail
        clear a0 a1 a2 a3 a4 a5 b0 b1 b2 b3 b4 b5 f0 f1 f2 f3 f4 f5
        have hlt := X2.out.2.2.2.2.2
        have q0 : ∀ k, (Value.slice po (l.length + 1) co).ownBlock = some k → ¬ k = w.heap.size + 1 + 1 := fun k hk => by have := X2.out.2.2.2.2.1.ge k hk; omega
        have Z := X2.out.2.2.1.s6 (u0 := .int .i64 e) (u1 := .int .i64 o) (u2 := .int .i64 a) (u3 := .int .i64 b) (u4 := .int .i64 (c + 1)) (u5 := .slice po (l.length + 1) co)
        obtain ⟨z0, z1, z2, z3, z4, z5⟩ := Z.c6
        clear Z
        refine bodyPost_ret (v := .tuple #[.agg #[.int .i64 e, .int .i64 o, .int .i64 a, .int .i64 b, .int .i64 (c + 1), .slice po (l.length + 1) co], .bool true, .int .i64 0]) (by simp [results, Try.results32, go_sem, z0, z1, z2, z3, z4, z5]) rfl ?_
        have HBL : Below w.heap.size w _ := bel_in (bel_in (bel_in (bel_in (bel_in (bel_in X2.out.2.2.2.1 (i := 0) (u := .int .i64 e) (g := (w.heap.size + 1 + 1)) (by omega)) (i := 1) (u := .int .i64 o) (g := (w.heap.size + 1 + 1)) (by omega)) (i := 2) (u := .int .i64 a) (g := (w.heap.size + 1 + 1)) (by omega)) (i := 3) (u := .int .i64 b) (g := (w.heap.size + 1 + 1)) (by omega)) (i := 4) (u := .int .i64 (c + 1)) (g := (w.heap.size + 1 + 1)) (by omega)) (i := 5) (u := .slice po (l.length + 1) co) (g := (w.heap.size + 1 + 1)) (by omega)
        exact ⟨po, co, rfl, (((((((X2.out.2.2.2.2.1.kp Kp.set q0).kp Kp.set q0).kp Kp.set q0).kp Kp.set q0).kp Kp.set q0).kp Kp.set q0).weak (by omega)), HBL⟩
    · go_simp
      (try simp only [])
      have B1 : Hid (Box (W5.alloc (.cells #[.int .i64 2, .int .i64 (c + 1)] 31)) W5.heap.size [.int .i64 2, .int .i64 (c + 1)]) := box_mk
      have NE : Hid ((Value.slice (some ⟨gz, 0, none⟩) 0 0).ownBlock ≠ some W5.heap.size) := fun h => by have := (OV.out.own.lt _ h).2; omega
      replace OV : Hid _ := OV.out.next (bel_alloc W5 (.cells #[.int .i64 2, .int .i64 (c + 1)] 31))
      replace RP : Hid (GRow lo (W5.alloc (.cells #[.int .i64 2, .int .i64 (c + 1)] 31)) p (flatD l)) := RP.out.next (bel_alloc W5 (.cells #[.int .i64 2, .int .i64 (c + 1)] 31))
      replace X : Hid (AX w (W5.alloc (.cells #[.int .i64 2, .int .i64 (c + 1)] 31)) lv [.int .i64 e, .int .i64 o, .int .i64 a, .int .i64 b, .int .i64 (c + 1), .slice p l.length q] [.int .i64 2, .int .i64 (c + 1)] [.int .i64 0, .int .i64 0, .int .i64 0, .int .i64 0, .int .i64 0, .slice none 0 0]) := X.out.alloc
      refine wHk hK X.out.2.1.c2 ?_
      clear hK K hHeld
      intro hHeld
      generalize W5.alloc (.cells #[.int .i64 2, .int .i64 (c + 1)] 31) = W6 at *
      generalize W5.heap.size = g5 at *
      refine wRd 2 (fun K hK => ?_)
      obtain ⟨a0, a1, a2, a3, a4, a5⟩ := X.out.1.c6
      go_simp
      (try simp only [])
      clear a0 a1 a2 a3 a4 a5
      refine wHk hK X.out.2.1.c2 ?_
      clear hK K hHeld
      intro hHeld
      refine wRd 3 (fun K hK => ?_)
      rw [if_pos (by rfl)]
      refine wp_appG elD (.tmp 43) (.tmp 45) rfl (Value.slice (some ⟨gz, 0, none⟩) 0 0) 0 [] lv l.length rfl OV.out X.out.2.2.2.2.2 p l.length q (flatD l) rfl (flatD_len l) (flatD_one l) lo RP.out (by omega) (by omega) ?_
      intro vo vc W8 hO hg _
      (try simp only [])
      replace X : Hid (AX w W8 lv [.int .i64 e, .int .i64 o, .int .i64 a, .int .i64 b, .int .i64 (c + 1), .slice p l.length q] [.int .i64 2, .int .i64 (c + 1)] [.int .i64 0, .int .i64 0, .int .i64 0, .int .i64 0, .int .i64 0, .slice none 0 0]) := X.out.step (hg.below X.out.2.2.2.2.2 OV.out.ge)
      have NE2 : Hid ((Value.slice vo l.length vc).ownBlock ≠ some g5) := B1.out.ne hg NE.out
      replace B1 : Hid _ := B1.out.gro hg NE.out
      replace NE := NE2
      clear NE2
      replace hO : OwnG W8 31 2 (.slice vo l.length vc) l.length (flatD l) lv := by simpa using hO
      replace OV : Hid (OwnG W8 31 2 (.slice vo l.length vc) l.length (flatD l) lv) := hO
      clear hO hg RP
      refine wHk hK X.out.2.1.c2 ?_
      clear hK K hHeld
      intro hHeld
      refine wRd 6 (fun K hK => ?_)
      rw [if_pos (by rfl)]
      refine wp_appG elD (.tmp 46) (.tmp 48) rfl (Value.slice vo l.length vc) l.length (flatD l) lv (l.length + 1) rfl OV.out X.out.2.2.2.2.2 (some ⟨g5, 0, none⟩) 1 1 [.int .i64 2, .int .i64 (c + 1)] rfl (by simp) (by simp [Value.oneCell']) 0 (box_row B1.out) (by omega) rfl ?_
      intro po co W9 hO hg _
      (try simp only [])
      replace X : Hid (AX w W9 lv [.int .i64 e, .int .i64 o, .int .i64 a, .int .i64 b, .int .i64 (c + 1), .slice p l.length q] [.int .i64 2, .int .i64 (c + 1)] [.int .i64 0, .int .i64 0, .int .i64 0, .int .i64 0, .int .i64 0, .slice none 0 0]) := X.out.step (hg.below X.out.2.2.2.2.2 OV.out.ge)
      replace OV : Hid (OwnG W9 31 2 (.slice po (l.length + 1) co) (l.length + 1) (flatD l ++ [.int .i64 2, .int .i64 (c + 1)]) lv) := hO
      clear hO hg B1 NE
      refine wHk hK X.out.2.1.c2 ?_
      clear hK K hHeld
      intro hHeld
      refine wTk 7 ?_
      obtain ⟨a0, a1, a2, a3, a4, a5⟩ := X.out.1.c6
      obtain ⟨g0, g1, g2, g3, g4, g6⟩ := X.out.1.f6
      have X2 : Hid (Box (W9.setCell ⟨w.heap.size, 5, none⟩ (.slice po (l.length + 1) co)) w.heap.size [.int .i64 e, .int .i64 o, .int .i64 a, .int .i64 b, .int .i64 (c + 1), .slice po (l.length + 1) co] ∧ Box (W9.setCell ⟨w.heap.size, 5, none⟩ (.slice po (l.length + 1) co)) (w.heap.size + 1) [.int .i64 2, .int .i64 (c + 1)] ∧ Box (W9.setCell ⟨w.heap.size, 5, none⟩ (.slice po (l.length + 1) co)) (w.heap.size + 1 + 1) [.int .i64 0, .int .i64 0, .int .i64 0, .int .i64 0, .int .i64 0, .slice none 0 0] ∧ Below w.heap.size w (W9.setCell ⟨w.heap.size, 5, none⟩ (.slice po (l.length + 1) co)) ∧ OwnG (W9.setCell ⟨w.heap.size, 5, none⟩ (.slice po (l.length + 1) co)) 31 2 (.slice po (l.length + 1) co) (l.length + 1) (flatD l ++ [.int .i64 2, .int .i64 (c + 1)]) lv ∧ w.heap.size + 1 + 1 < lv) := by
        have hlt := X.out.2.2.2.2.1
        refine ⟨?_, X.out.2.1.oth (by omega), X.out.2.2.1.oth (by omega), bel_in X.out.2.2.2.1 (by omega), OV.out.kp Kp.set (fun k hk => by have := OV.out.ge k hk; omega), hlt⟩
        have := X.out.1.set (i := 5) (u := (.slice po (l.length + 1) co)) (by simp)
        simpa using this
      refine wRd 8 (fun K hK => ?_)
      go_simp
      (try simp only [])
      refine hK.out _ _ X2.out.2.1.c2 (fun hHeld' => ?_)
      clear hK K hHeld hHeld' a0 a1 a2 a3 a4 a5 g0 g1 g2 g3 g4 g6 X OV
      refine wLy ?_
      refine wpAnyH_done (by kernel_rfl) ?_ _
      generalize (W9.setCell ⟨w.heap.size, 5, none⟩ (.slice po (l.length + 1) co)) = WZ at *
      obtain ⟨a0, a1, a2, a3, a4, a5⟩ := X2.out.1.c6
      obtain ⟨b0, b1, b2, b3, b4, b5⟩ := X2.out.2.2.1.c6
      obtain ⟨f0, f1, f2, f3, f4, f5⟩ := X2.out.2.2.1.f6
      go_wp2_with fail
      clear a0 a1 a2 a3 a4 a5 b0 b1 b2 b3 b4 b5 f0 f1 f2 f3 f4 f5
      have hlt := X2.out.2.2.2.2.2
      have q0 : ∀ k, (Value.slice po (l.length + 1) co).ownBlock = some k → ¬ k = w.heap.size + 1 + 1 := fun k hk => by have := X2.out.2.2.2.2.1.ge k hk; omega
      have Z := X2.out.2.2.1.s6 (u0 := .int .i64 e) (u1 := .int .i64 o) (u2 := .int .i64 a) (u3 := .int .i64 b) (u4 := .int .i64 (c + 1)) (u5 := .slice po (l.length + 1) co)
      obtain ⟨z0, z1, z2, z3, z4, z5⟩ := Z.c6
      clear Z
      refine bodyPost_ret (v := .tuple #[.agg #[.int .i64 e, .int .i64 o, .int .i64 a, .int .i64 b, .int .i64 (c + 1), .slice po (l.length + 1) co], .bool true, .int .i64 0]) (by simp [results, Try.results32, go_sem, z0, z1, z2, z3, z4, z5]) rfl ?_
      have HBL : Below w.heap.size w _ := bel_in (bel_in (bel_in (bel_in (bel_in (bel_in X2.out.2.2.2.1 (i := 0) (u := .int .i64 e) (g := (w.heap.size + 1 + 1)) (by omega)) (i := 1) (u := .int .i64 o) (g := (w.heap.size + 1 + 1)) (by omega)) (i := 2) (u := .int .i64 a) (g := (w.heap.size + 1 + 1)) (by omega)) (i := 3) (u := .int .i64 b) (g := (w.heap.size + 1 + 1)) (by omega)) (i := 4) (u := .int .i64 (c + 1)) (g := (w.heap.size + 1 + 1)) (by omega)) (i := 5) (u := .slice po (l.length + 1) co) (g := (w.heap.size + 1 + 1)) (by omega)
      exact ⟨po, co, rfl, (((((((X2.out.2.2.2.2.1.kp Kp.set q0).kp Kp.set q0).kp Kp.set q0).kp Kp.set q0).kp Kp.set q0).kp Kp.set q0).weak (by omega)), HBL⟩
  · obtain ⟨a0, a1, a2, a3, a4, a5⟩ := X.out.1.c6
    go_simp
    (try simp only [])
    clear a0 a1 a2 a3 a4 a5
    refine wHk hK X.out.2.1.c2 ?_
    clear hK K hHeld
    intro hHeld
    refine wRd2 0 5 (fun K hK => ?_) (fun K hK => ?_)
    · go_simp
      (try simp only [])
      have OV : Hid (OwnG (W4.alloc (.cells #[] 31)) 31 2 (.slice (some ⟨W4.heap.size, 0, none⟩) 0 0) 0 [] lv) := OwnG.lit X.out.2.2.2.2.2
      replace X : Hid (AX w (W4.alloc (.cells #[] 31)) lv [.int .i64 e, .int .i64 o, .int .i64 a, .int .i64 b, .int .i64 (c + 1), .slice p l.length q] [.int .i64 2, .int .i64 (c + 1)] [.int .i64 0, .int .i64 0, .int .i64 0, .int .i64 0, .int .i64 0, .slice none 0 0]) := X.out.alloc
      replace RP : Hid (GRow lo (W4.alloc (.cells #[] 31)) p (flatD l)) := RP.out.next (bel_alloc W4 (.cells #[] 31))
      refine wHk hK X.out.2.1.c2 ?_
      clear hK K hHeld
      intro hHeld
      generalize W4.alloc (.cells #[] 31) = W6 at *
      generalize W4.heap.size = gz at *
      refine wRd2 3 5 (fun K hK => ?_) (fun K hK => ?_)
      · rw [if_pos (by rfl)]
        refine wp_appG elD (.tmp 43) (.tmp 45) rfl (Value.slice (some ⟨gz, 0, none⟩) 0 0) 0 [] lv l.length rfl OV.out X.out.2.2.2.2.2 p l.length q (flatD l) rfl (flatD_len l) (flatD_one l) lo RP.out (by omega) (by omega) ?_
        intro vo vc W7 hO hg _
        (try simp only [])
        replace X : Hid (AX w W7 lv [.int .i64 e, .int .i64 o, .int .i64 a, .int .i64 b, .int .i64 (c + 1), .slice p l.length q] [.int .i64 2, .int .i64 (c + 1)] [.int .i64 0, .int .i64 0, .int .i64 0, .int .i64 0, .int .i64 0, .slice none 0 0]) := X.out.step (hg.below X.out.2.2.2.2.2 OV.out.ge)
        replace hO : OwnG W7 31 2 (.slice vo l.length vc) l.length (flatD l) lv := by simpa using hO
        replace OV : Hid (OwnG W7 31 2 (.slice vo l.length vc) l.length (flatD l) lv) := hO
        clear hO hg RP
        refine wHk hK X.out.2.1.c2 ?_
        clear hK K hHeld
        intro hHeld
        refine wRd 5 (fun K hK => ?_)
        go_simp
        (try simp only [])
        have B1 : Hid (Box (W7.alloc (.cells #[.int .i64 2, .int .i64 (c + 1)] 31)) W7.heap.size [.int .i64 2, .int .i64 (c + 1)]) := box_mk
        have NE : Hid ((Value.slice vo l.length vc).ownBlock ≠ some W7.heap.size) := fun h => by have := (OV.out.own.lt _ h).2; omega
        replace OV : Hid _ := OV.out.next (bel_alloc W7 (.cells #[.int .i64 2, .int .i64 (c + 1)] 31))
        replace X : Hid (AX w (W7.alloc (.cells #[.int .i64 2, .int .i64 (c + 1)] 31)) lv [.int .i64 e, .int .i64 o, .int .i64 a, .int .i64 b, .int .i64 (c + 1), .slice p l.length q] [.int .i64 2, .int .i64 (c + 1)] [.int .i64 0, .int .i64 0, .int .i64 0, .int .i64 0, .int .i64 0, .slice none 0 0]) := X.out.alloc
        refine wHk hK X.out.2.1.c2 ?_
        clear hK K hHeld
        intro hHeld
        generalize W7.alloc (.cells #[.int .i64 2, .int .i64 (c + 1)] 31) = W8 at *
        generalize W7.heap.size = g5 at *
        refine wRd 6 (fun K hK => ?_)
        rw [if_pos (by rfl)]
        refine wp_appG elD (.tmp 46) (.tmp 48) rfl (Value.slice vo l.length vc) l.length (flatD l) lv (l.length + 1) rfl OV.out X.out.2.2.2.2.2 (some ⟨g5, 0, none⟩) 1 1 [.int .i64 2, .int .i64 (c + 1)] rfl (by simp) (by simp [Value.oneCell']) 0 (box_row B1.out) (by omega) rfl ?_
        intro po co W9 hO hg _
        (try simp only [])
        replace X : Hid (AX w W9 lv [.int .i64 e, .int .i64 o, .int .i64 a, .int .i64 b, .int .i64 (c + 1), .slice p l.length q] [.int .i64 2, .int .i64 (c + 1)] [.int .i64 0, .int .i64 0, .int .i64 0, .int .i64 0, .int .i64 0, .slice none 0 0]) := X.out.step (hg.below X.out.2.2.2.2.2 OV.out.ge)
        replace OV : Hid (OwnG W9 31 2 (.slice po (l.length + 1) co) (l.length + 1) (flatD l ++ [.int .i64 2, .int .i64 (c + 1)]) lv) := hO
        clear hO hg B1 NE
        refine wHk hK X.out.2.1.c2 ?_
        clear hK K hHeld
        intro hHeld
        refine wTk 7 ?_
        obtain ⟨a0, a1, a2, a3, a4, a5⟩ := X.out.1.c6
        obtain ⟨g0, g1, g2, g3, g4, g6⟩ := X.out.1.f6
        have X2 : Hid (Box (W9.setCell ⟨w.heap.size, 5, none⟩ (.slice po (l.length + 1) co)) w.heap.size [.int .i64 e, .int .i64 o, .int .i64 a, .int .i64 b, .int .i64 (c + 1), .slice po (l.length + 1) co] ∧ Box (W9.setCell ⟨w.heap.size, 5, none⟩ (.slice po (l.length + 1) co)) (w.heap.size + 1) [.int .i64 2, .int .i64 (c + 1)] ∧ Box (W9.setCell ⟨w.heap.size, 5, none⟩ (.slice po (l.length + 1) co)) (w.heap.size + 1 + 1) [.int .i64 0, .int .i64 0, .int .i64 0, .int .i64 0, .int .i64 0, .slice none 0 0] ∧ Below w.heap.size w (W9.setCell ⟨w.heap.size, 5, none⟩ (.slice po (l.length + 1) co)) ∧ OwnG (W9.setCell ⟨w.heap.size, 5, none⟩ (.slice po (l.length + 1) co)) 31 2 (.slice po (l.length + 1) co) (l.length + 1) (flatD l ++ [.int .i64 2, .int .i64 (c + 1)]) lv ∧ w.heap.size + 1 + 1 < lv) := by
          have hlt := X.out.2.2.2.2.1
          refine ⟨?_, X.out.2.1.oth (by omega), X.out.2.2.1.oth (by omega), bel_in X.out.2.2.2.1 (by omega), OV.out.kp Kp.set (fun k hk => by have := OV.out.ge k hk; omega), hlt⟩
          have := X.out.1.set (i := 5) (u := (.slice po (l.length + 1) co)) (by simp)
          simpa using this
        refine wRd 8 (fun K hK => ?_)
        go_simp
        (try simp only [])
        refine hK.out _ _ X2.out.2.1.c2 (fun hHeld' => ?_)
        clear hK K hHeld hHeld' a0 a1 a2 a3 a4 a5 g0 g1 g2 g3 g4 g6 X OV
        refine wLy ?_
        refine wpAnyH_done (by kernel_rfl) ?_ _
        generalize (W9.setCell ⟨w.heap.size, 5, none⟩ (.slice po (l.length + 1) co)) = WZ at *
        obtain ⟨a0, a1, a2, a3, a4, a5⟩ := X2.out.1.c6
        obtain ⟨b0, b1, b2, b3, b4, b5⟩ := X2.out.2.2.1.c6
        obtain ⟨f0, f1, f2, f3, f4, f5⟩ := X2.out.2.2.1.f6
        go_wp2_with fail
        clear a0 a1 a2 a3 a4 a5 b0 b1 b2 b3 b4 b5 f0 f1 f2 f3 f4 f5
        have hlt := X2.out.2.2.2.2.2
        have q0 : ∀ k, (Value.slice po (l.length + 1) co).ownBlock = some k → ¬ k = w.heap.size + 1 + 1 := fun k hk => by have := X2.out.2.2.2.2.1.ge k hk; omega
        have Z := X2.out.2.2.1.s6 (u0 := .int .i64 e) (u1 := .int .i64 o) (u2 := .int .i64 a) (u3 := .int .i64 b) (u4 := .int .i64 (c + 1)) (u5 := .slice po (l.length + 1) co)
        obtain ⟨z0, z1, z2, z3, z4, z5⟩ := Z.c6
        clear Z
        refine bodyPost_ret (v := .tuple #[.agg #[.int .i64 e, .int .i64 o, .int .i64 a, .int .i64 b, .int .i64 (c + 1), .slice po (l.length + 1) co], .bool true, .int .i64 0]) (by simp [results, Try.results32, go_sem, z0, z1, z2, z3, z4, z5]) rfl ?_
        have HBL : Below w.heap.size w _ := bel_in (bel_in (bel_in (bel_in (bel_in (bel_in X2.out.2.2.2.1 (i := 0) (u := .int .i64 e) (g := (w.heap.size + 1 + 1)) (by omega)) (i := 1) (u := .int .i64 o) (g := (w.heap.size + 1 + 1)) (by omega)) (i := 2) (u := .int .i64 a) (g := (w.heap.size + 1 + 1)) (by omega)) (i := 3) (u := .int .i64 b) (g := (w.heap.size + 1 + 1)) (by omega)) (i := 4) (u := .int .i64 (c + 1)) (g := (w.heap.size + 1 + 1)) (by omega)) (i := 5) (u := .slice po (l.length + 1) co) (g := (w.heap.size + 1 + 1)) (by omega)
        exact ⟨po, co, rfl, (((((((X2.out.2.2.2.2.1.kp Kp.set q0).kp Kp.set q0).kp Kp.set q0).kp Kp.set q0).kp Kp.set q0).kp Kp.set q0).weak (by omega)), HBL⟩
      · go_simp
        (try simp only [])
        have B1 : Hid (Box (W6.alloc (.cells #[.int .i64 2, .int .i64 (c + 1)] 31)) W6.heap.size [.int .i64 2, .int .i64 (c + 1)]) := box_mk
        have NE : Hid ((Value.slice (some ⟨gz, 0, none⟩) 0 0).ownBlock ≠ some W6.heap.size) := fun h => by have := (OV.out.own.lt _ h).2; omega
        replace OV : Hid _ := OV.out.next (bel_alloc W6 (.cells #[.int .i64 2, .int .i64 (c + 1)] 31))
        replace RP : Hid (GRow lo (W6.alloc (.cells #[.int .i64 2, .int .i64 (c + 1)] 31)) p (flatD l)) := RP.out.next (bel_alloc W6 (.cells #[.int .i64 2, .int .i64 (c + 1)] 31))
        replace X : Hid (AX w (W6.alloc (.cells #[.int .i64 2, .int .i64 (c + 1)] 31)) lv [.int .i64 e, .int .i64 o, .int .i64 a, .int .i64 b, .int .i64 (c + 1), .slice p l.length q] [.int .i64 2, .int .i64 (c + 1)] [.int .i64 0, .int .i64 0, .int .i64 0, .int .i64 0, .int .i64 0, .slice none 0 0]) := X.out.alloc
        refine wHk hK X.out.2.1.c2 ?_
        clear hK K hHeld
        intro hHeld
        generalize W6.alloc (.cells #[.int .i64 2, .int .i64 (c + 1)] 31) = W7 at *
        generalize W6.heap.size = g5 at *
        refine wRd 3 (fun K hK => ?_)
        rw [if_pos (by rfl)]
        refine wp_appG elD (.tmp 43) (.tmp 45) rfl (Value.slice (some ⟨gz, 0, none⟩) 0 0) 0 [] lv l.length rfl OV.out X.out.2.2.2.2.2 p l.length q (flatD l) rfl (flatD_len l) (flatD_one l) lo RP.out (by omega) (by omega) ?_
        intro vo vc W8 hO hg _
        (try simp only [])
        replace X : Hid (AX w W8 lv [.int .i64 e, .int .i64 o, .int .i64 a, .int .i64 b, .int .i64 (c + 1), .slice p l.length q] [.int .i64 2, .int .i64 (c + 1)] [.int .i64 0, .int .i64 0, .int .i64 0, .int .i64 0, .int .i64 0, .slice none 0 0]) := X.out.step (hg.below X.out.2.2.2.2.2 OV.out.ge)
        have NE2 : Hid ((Value.slice vo l.length vc).ownBlock ≠ some g5) := B1.out.ne hg NE.out
        replace B1 : Hid _ := B1.out.gro hg NE.out
        replace NE := NE2
        clear NE2
        replace hO : OwnG W8 31 2 (.slice vo l.length vc) l.length (flatD l) lv := by simpa using hO
        replace OV : Hid (OwnG W8 31 2 (.slice vo l.length vc) l.length (flatD l) lv) := hO
        clear hO hg RP
        refine wHk hK X.out.2.1.c2 ?_
        clear hK K hHeld
        intro hHeld
        refine wRd 6 (fun K hK => ?_)
        rw [if_pos (by rfl)]
        refine wp_appG elD (.tmp 46) (.tmp 48) rfl (Value.slice vo l.length vc) l.length (flatD l) lv (l.length + 1) rfl OV.out X.out.2.2.2.2.2 (some ⟨g5, 0, none⟩) 1 1 [.int .i64 2, .int .i64 (c + 1)] rfl (by simp) (by simp [Value.oneCell']) 0 (box_row B1.out) (by omega) rfl ?_
        intro po co W9 hO hg _
        (try simp only [])
        replace X : Hid (AX w W9 lv [.int .i64 e, .int .i64 o, .int .i64 a, .int .i64 b, .int .i64 (c + 1), .slice p l.length q] [.int .i64 2, .int .i64 (c + 1)] [.int .i64 0, .int .i64 0, .int .i64 0, .int .i64 0, .int .i64 0, .slice none 0 0]) := X.out.step (hg.below X.out.2.2.2.2.2 OV.out.ge)
        replace OV : Hid (OwnG W9 31 2 (.slice po (l.length + 1) co) (l.length + 1) (flatD l ++ [.int .i64 2, .int .i64 (c + 1)]) lv) := hO
        clear hO hg B1 NE
        refine wHk hK X.out.2.1.c2 ?_
        clear hK K hHeld
        intro hHeld
        refine wTk 7 ?_
        obtain ⟨a0, a1, a2, a3, a4, a5⟩ := X.out.1.c6
        obtain ⟨g0, g1, g2, g3, g4, g6⟩ := X.out.1.f6
        have X2 : Hid (Box (W9.setCell ⟨w.heap.size, 5, none⟩ (.slice po (l.length + 1) co)) w.heap.size [.int .i64 e, .int .i64 o, .int .i64 a, .int .i64 b, .int .i64 (c + 1), .slice po (l.length + 1) co] ∧ Box (W9.setCell ⟨w.heap.size, 5, none⟩ (.slice po (l.length + 1) co)) (w.heap.size + 1) [.int .i64 2, .int .i64 (c + 1)] ∧ Box (W9.setCell ⟨w.heap.size, 5, none⟩ (.slice po (l.length + 1) co)) (w.heap.size + 1 + 1) [.int .i64 0, .int .i64 0, .int .i64 0, .int .i64 0, .int .i64 0, .slice none 0 0] ∧ Below w.heap.size w (W9.setCell ⟨w.heap.size, 5, none⟩ (.slice po (l.length + 1) co)) ∧ OwnG (W9.setCell ⟨w.heap.size, 5, none⟩ (.slice po (l.length + 1) co)) 31 2 (.slice po (l.length + 1) co) (l.length + 1) (flatD l ++ [.int .i64 2, .int .i64 (c + 1)]) lv ∧ w.heap.size + 1 + 1 < lv) := by
          have hlt := X.out.2.2.2.2.1
          refine ⟨?_, X.out.2.1.oth (by omega), X.out.2.2.1.oth (by omega), bel_in X.out.2.2.2.1 (by omega), OV.out.kp Kp.set (fun k hk => by have := OV.out.ge k hk; omega), hlt⟩
          have := X.out.1.set (i := 5) (u := (.slice po (l.length + 1) co)) (by simp)
          simpa using this
        refine wRd 8 (fun K hK => ?_)
        go_simp
        (try simp only [])
        refine hK.out _ _ X2.out.2.1.c2 (fun hHeld' => ?_)
        clear hK K hHeld hHeld' a0 a1 a2 a3 a4 a5 g0 g1 g2 g3 g4 g6 X OV
        refine wLy ?_
        refine wpAnyH_done (by kernel_rfl) ?_ _
        generalize (W9.setCell ⟨w.heap.size, 5, none⟩ (.slice po (l.length + 1) co)) = WZ at *
        obtain ⟨a0, a1, a2, a3, a4, a5⟩ := X2.out.1.c6
        obtain ⟨b0, b1, b2, b3, b4, b5⟩ := X2.out.2.2.1.c6
        obtain ⟨f0, f1, f2, f3, f4, f5⟩ := X2.out.2.2.1.f6
        go_wp2_with fail
        clear a0 a1 a2 a3 a4 a5 b0 b1 b2 b3 b4 b5 f0 f1 f2 f3 f4 f5
        have hlt := X2.out.2.2.2.2.2
        have q0 : ∀ k, (Value.slice po (l.length + 1) co).ownBlock = some k → ¬ k = w.heap.size + 1 + 1 := fun k hk => by have := X2.out.2.2.2.2.1.ge k hk; omega
        have Z := X2.out.2.2.1.s6 (u0 := .int .i64 e) (u1 := .int .i64 o) (u2 := .int .i64 a) (u3 := .int .i64 b) (u4 := .int .i64 (c + 1)) (u5 := .slice po (l.length + 1) co)
        obtain ⟨z0, z1, z2, z3, z4, z5⟩ := Z.c6
        clear Z
        refine bodyPost_ret (v := .tuple #[.agg #[.int .i64 e, .int .i64 o, .int .i64 a, .int .i64 b, .int .i64 (c + 1), .slice po (l.length + 1) co], .bool true, .int .i64 0]) (by simp [results, Try.results32, go_sem, z0, z1, z2, z3, z4, z5]) rfl ?_
        have HBL : Below w.heap.size w _ := bel_in (bel_in (bel_in (bel_in (bel_in (bel_in X2.out.2.2.2.1 (i := 0) (u := .int .i64 e) (g := (w.heap.size + 1 + 1)) (by omega)) (i := 1) (u := .int .i64 o) (g := (w.heap.size + 1 + 1)) (by omega)) (i := 2) (u := .int .i64 a) (g := (w.heap.size + 1 + 1)) (by omega)) (i := 3) (u := .int .i64 b) (g := (w.heap.size + 1 + 1)) (by omega)) (i := 4) (u := .int .i64 (c + 1)) (g := (w.heap.size + 1 + 1)) (by omega)) (i := 5) (u := .slice po (l.length + 1) co) (g := (w.heap.size + 1 + 1)) (by omega)
        exact ⟨po, co, rfl, (((((((X2.out.2.2.2.2.1.kp Kp.set q0).kp Kp.set q0).kp Kp.set q0).kp Kp.set q0).kp Kp.set q0).kp Kp.set q0).weak (by omega)), HBL⟩
    · go_simp
      (try simp only [])
      have B1 : Hid (Box (W4.alloc (.cells #[.int .i64 2, .int .i64 (c + 1)] 31)) W4.heap.size [.int .i64 2, .int .i64 (c + 1)]) := box_mk
      replace RP : Hid (GRow lo (W4.alloc (.cells #[.int .i64 2, .int .i64 (c + 1)] 31)) p (flatD l)) := RP.out.next (bel_alloc W4 (.cells #[.int .i64 2, .int .i64 (c + 1)] 31))
      replace X : Hid (AX w (W4.alloc (.cells #[.int .i64 2, .int .i64 (c + 1)] 31)) lv [.int .i64 e, .int .i64 o, .int .i64 a, .int .i64 b, .int .i64 (c + 1), .slice p l.length q] [.int .i64 2, .int .i64 (c + 1)] [.int .i64 0, .int .i64 0, .int .i64 0, .int .i64 0, .int .i64 0, .slice none 0 0]) := X.out.alloc
      refine wHk hK X.out.2.1.c2 ?_
      clear hK K hHeld
      intro hHeld
      generalize W4.alloc (.cells #[.int .i64 2, .int .i64 (c + 1)] 31) = W6 at *
      generalize W4.heap.size = g5 at *
      refine wRd 0 (fun K hK => ?_)
      go_simp
      (try simp only [])
      have OV : Hid (OwnG (W6.alloc (.cells #[] 31)) 31 2 (.slice (some ⟨W6.heap.size, 0, none⟩) 0 0) 0 [] lv) := OwnG.lit X.out.2.2.2.2.2
      have NE : Hid ((Value.slice (some ⟨W6.heap.size, 0, none⟩) 0 0).ownBlock ≠ some g5) := fun h => by have := B1.out.lt; simp [Value.ownBlock] at h; omega
      replace B1 : Hid _ := B1.out.alloc (ob := (.cells #[] 31))
      replace X : Hid (AX w (W6.alloc (.cells #[] 31)) lv [.int .i64 e, .int .i64 o, .int .i64 a, .int .i64 b, .int .i64 (c + 1), .slice p l.length q] [.int .i64 2, .int .i64 (c + 1)] [.int .i64 0, .int .i64 0, .int .i64 0, .int .i64 0, .int .i64 0, .slice none 0 0]) := X.out.alloc
      replace RP : Hid (GRow lo (W6.alloc (.cells #[] 31)) p (flatD l)) := RP.out.next (bel_alloc W6 (.cells #[] 31))
      refine wHk hK X.out.2.1.c2 ?_
      clear hK K hHeld
      intro hHeld
      generalize W6.alloc (.cells #[] 31) = W7 at *
      generalize W6.heap.size = gz at *
      refine wRd 3 (fun K hK => ?_)
      rw [if_pos (by rfl)]
      refine wp_appG elD (.tmp 43) (.tmp 45) rfl (Value.slice (some ⟨gz, 0, none⟩) 0 0) 0 [] lv l.length rfl OV.out X.out.2.2.2.2.2 p l.length q (flatD l) rfl (flatD_len l) (flatD_one l) lo RP.out (by omega) (by omega) ?_
      intro vo vc W8 hO hg _
      (try simp only [])
      replace X : Hid (AX w W8 lv [.int .i64 e, .int .i64 o, .int .i64 a, .int .i64 b, .int .i64 (c + 1), .slice p l.length q] [.int .i64 2, .int .i64 (c + 1)] [.int .i64 0, .int .i64 0, .int .i64 0, .int .i64 0, .int .i64 0, .slice none 0 0]) := X.out.step (hg.below X.out.2.2.2.2.2 OV.out.ge)
      have NE2 : Hid ((Value.slice vo l.length vc).ownBlock ≠ some g5) := B1.out.ne hg NE.out
      replace B1 : Hid _ := B1.out.gro hg NE.out
      replace NE := NE2
      clear NE2
      replace hO : OwnG W8 31 2 (.slice vo l.length vc) l.length (flatD l) lv := by simpa using hO
      replace OV : Hid (OwnG W8 31 2 (.slice vo l.length vc) l.length (flatD l) lv) := hO
      clear hO hg RP
      refine wHk hK X.out.2.1.c2 ?_
      clear hK K hHeld
      intro hHeld
      refine wRd 6 (fun K hK => ?_)
      rw [if_pos (by rfl)]
      refine wp_appG elD (.tmp 46) (.tmp 48) rfl (Value.slice vo l.length vc) l.length (flatD l) lv (l.length + 1) rfl OV.out X.out.2.2.2.2.2 (some ⟨g5, 0, none⟩) 1 1 [.int .i64 2, .int .i64 (c + 1)] rfl (by simp) (by simp [Value.oneCell']) 0 (box_row B1.out) (by omega) rfl ?_
      intro po co W9 hO hg _
      (try simp only [])
      replace X : Hid (AX w W9 lv [.int .i64 e, .int .i64 o, .int .i64 a, .int .i64 b, .int .i64 (c + 1), .slice p l.length q] [.int .i64 2, .int .i64 (c + 1)] [.int .i64 0, .int .i64 0, .int .i64 0, .int .i64 0, .int .i64 0, .slice none 0 0]) := X.out.step (hg.below X.out.2.2.2.2.2 OV.out.ge)
      replace OV : Hid (OwnG W9 31 2 (.slice po (l.length + 1) co) (l.length + 1) (flatD l ++ [.int .i64 2, .int .i64 (c + 1)]) lv) := hO
      clear hO hg B1 NE
      refine wHk hK X.out.2.1.c2 ?_
      clear hK K hHeld
      intro hHeld
      refine wTk 7 ?_
      obtain ⟨a0, a1, a2, a3, a4, a5⟩ := X.out.1.c6
      obtain ⟨g0, g1, g2, g3, g4, g6⟩ := X.out.1.f6
      have X2 : Hid (Box (W9.setCell ⟨w.heap.size, 5, none⟩ (.slice po (l.length + 1) co)) w.heap.size [.int .i64 e, .int .i64 o, .int .i64 a, .int .i64 b, .int .i64 (c + 1), .slice po (l.length + 1) co] ∧ Box (W9.setCell ⟨w.heap.size, 5, none⟩ (.slice po (l.length + 1) co)) (w.heap.size + 1) [.int .i64 2, .int .i64 (c + 1)] ∧ Box (W9.setCell ⟨w.heap.size, 5, none⟩ (.slice po (l.length + 1) co)) (w.heap.size + 1 + 1) [.int .i64 0, .int .i64 0, .int .i64 0, .int .i64 0, .int .i64 0, .slice none 0 0] ∧ Below w.heap.size w (W9.setCell ⟨w.heap.size, 5, none⟩ (.slice po (l.length + 1) co)) ∧ OwnG (W9.setCell ⟨w.heap.size, 5, none⟩ (.slice po (l.length + 1) co)) 31 2 (.slice po (l.length + 1) co) (l.length + 1) (flatD l ++ [.int .i64 2, .int .i64 (c + 1)]) lv ∧ w.heap.size + 1 + 1 < lv) := by
        have hlt := X.out.2.2.2.2.1
        refine ⟨?_, X.out.2.1.oth (by omega), X.out.2.2.1.oth (by omega), bel_in X.out.2.2.2.1 (by omega), OV.out.kp Kp.set (fun k hk => by have := OV.out.ge k hk; omega), hlt⟩
        have := X.out.1.set (i := 5) (u := (.slice po (l.length + 1) co)) (by simp)
        simpa using this
      refine wRd 8 (fun K hK => ?_)
      go_simp
      (try simp only [])
      refine hK.out _ _ X2.out.2.1.c2 (fun hHeld' => ?_)
      clear hK K hHeld hHeld' a0 a1 a2 a3 a4 a5 g0 g1 g2 g3 g4 g6 X OV
      refine wLy ?_
      refine wpAnyH_done (by kernel_rfl) ?_ _
      generalize (W9.setCell ⟨w.heap.size, 5, none⟩ (.slice po (l.length + 1) co)) = WZ at *
      obtain ⟨a0, a1, a2, a3, a4, a5⟩ := X2.out.1.c6
      obtain ⟨b0, b1, b2, b3, b4, b5⟩ := X2.out.2.2.1.c6
      obtain ⟨f0, f1, f2, f3, f4, f5⟩ := X2.out.2.2.1.f6
      go_wp2_with fail
      clear a0 a1 a2 a3 a4 a5 b0 b1 b2 b3 b4 b5 f0 f1 f2 f3 f4 f5
      have hlt := X2.out.2.2.2.2.2
      have q0 : ∀ k, (Value.slice po (l.length + 1) co).ownBlock = some k → ¬ k = w.heap.size + 1 + 1 := fun k hk => by have := X2.out.2.2.2.2.1.ge k hk; omega
      have Z := X2.out.2.2.1.s6 (u0 := .int .i64 e) (u1 := .int .i64 o) (u2 := .int .i64 a) (u3 := .int .i64 b) (u4 := .int .i64 (c + 1)) (u5 := .slice po (l.length + 1) co)
      obtain ⟨z0, z1, z2, z3, z4, z5⟩ := Z.c6
      clear Z
      refine bodyPost_ret (v := .tuple #[.agg #[.int .i64 e, .int .i64 o, .int .i64 a, .int .i64 b, .int .i64 (c + 1), .slice po (l.length + 1) co], .bool true, .int .i64 0]) (by simp [results, Try.results32, go_sem, z0, z1, z2, z3, z4, z5]) rfl ?_
      have HBL : Below w.heap.size w _ := bel_in (bel_in (bel_in (bel_in (bel_in (bel_in X2.out.2.2.2.1 (i := 0) (u := .int .i64 e) (g := (w.heap.size + 1 + 1)) (by omega)) (i := 1) (u := .int .i64 o) (g := (w.heap.size + 1 + 1)) (by omega)) (i := 2) (u := .int .i64 a) (g := (w.heap.size + 1 + 1)) (by omega)) (i := 3) (u := .int .i64 b) (g := (w.heap.size + 1 + 1)) (by omega)) (i := 4) (u := .int .i64 (c + 1)) (g := (w.heap.size + 1 + 1)) (by omega)) (i := 5) (u := .slice po (l.length + 1) co) (g := (w.heap.size + 1 + 1)) (by omega)
      exact ⟨po, co, rfl, (((((((X2.out.2.2.2.2.1.kp Kp.set q0).kp Kp.set q0).kp Kp.set q0).kp Kp.set q0).kp Kp.set q0).kp Kp.set q0).weak (by omega)), HBL⟩
  · go_simp
    (try simp only [])
    have B1 : Hid (Box (W4.alloc (.cells #[.int .i64 2, .int .i64 (c + 1)] 31)) W4.heap.size [.int .i64 2, .int .i64 (c + 1)]) := box_mk
    replace RP : Hid (GRow lo (W4.alloc (.cells #[.int .i64 2, .int .i64 (c + 1)] 31)) p (flatD l)) := RP.out.next (bel_alloc W4 (.cells #[.int .i64 2, .int .i64 (c + 1)] 31))
    replace X : Hid (AX w (W4.alloc (.cells #[.int .i64 2, .int .i64 (c + 1)] 31)) lv [.int .i64 e, .int .i64 o, .int .i64 a, .int .i64 b, .int .i64 (c + 1), .slice p l.length q] [.int .i64 2, .int .i64 (c + 1)] [.int .i64 0, .int .i64 0, .int .i64 0, .int .i64 0, .int .i64 0, .slice none 0 0]) := X.out.alloc
    refine wHk hK X.out.2.1.c2 ?_
    clear hK K hHeld
    intro hHeld
    generalize W4.alloc (.cells #[.int .i64 2, .int .i64 (c + 1)] 31) = W5 at *
    generalize W4.heap.size = g5 at *
    refine wRd2 0 2 (fun K hK => ?_) (fun K hK => ?_)
    · go_simp
      (try simp only [])
      have OV : Hid (OwnG (W5.alloc (.cells #[] 31)) 31 2 (.slice (some ⟨W5.heap.size, 0, none⟩) 0 0) 0 [] lv) := OwnG.lit X.out.2.2.2.2.2
      have NE : Hid ((Value.slice (some ⟨W5.heap.size, 0, none⟩) 0 0).ownBlock ≠ some g5) := fun h => by have := B1.out.lt; simp [Value.ownBlock] at h; omega
      replace B1 : Hid _ := B1.out.alloc (ob := (.cells #[] 31))
      replace X : Hid (AX w (W5.alloc (.cells #[] 31)) lv [.int .i64 e, .int .i64 o, .int .i64 a, .int .i64 b, .int .i64 (c + 1), .slice p l.length q] [.int .i64 2, .int .i64 (c + 1)] [.int .i64 0, .int .i64 0, .int .i64 0, .int .i64 0, .int .i64 0, .slice none 0 0]) := X.out.alloc
      replace RP : Hid (GRow lo (W5.alloc (.cells #[] 31)) p (flatD l)) := RP.out.next (bel_alloc W5 (.cells #[] 31))
      refine wHk hK X.out.2.1.c2 ?_
      clear hK K hHeld
      intro hHeld
      generalize W5.alloc (.cells #[] 31) = W6 at *
      generalize W5.heap.size = gz at *
      refine wRd 2 (fun K hK => ?_)
      obtain ⟨a0, a1, a2, a3, a4, a5⟩ := X.out.1.c6
      go_simp
      (try simp only [])
      clear a0 a1 a2 a3 a4 a5
      refine wHk hK X.out.2.1.c2 ?_
      clear hK K hHeld
      intro hHeld
      refine wRd 3 (fun K hK => ?_)
      rw [if_pos (by rfl)]
      refine wp_appG elD (.tmp 43) (.tmp 45) rfl (Value.slice (some ⟨gz, 0, none⟩) 0 0) 0 [] lv l.length rfl OV.out X.out.2.2.2.2.2 p l.length q (flatD l) rfl (flatD_len l) (flatD_one l) lo RP.out (by omega) (by omega) ?_
      intro vo vc W8 hO hg _
      (try simp only [])
      replace X : Hid (AX w W8 lv [.int .i64 e, .int .i64 o, .int .i64 a, .int .i64 b, .int .i64 (c + 1), .slice p l.length q] [.int .i64 2, .int .i64 (c + 1)] [.int .i64 0, .int .i64 0, .int .i64 0, .int .i64 0, .int .i64 0, .slice none 0 0]) := X.out.step (hg.below X.out.2.2.2.2.2 OV.out.ge)
      have NE2 : Hid ((Value.slice vo l.length vc).ownBlock ≠ some g5) := B1.out.ne hg NE.out
      replace B1 : Hid _ := B1.out.gro hg NE.out
      replace NE := NE2
      clear NE2
      replace hO : OwnG W8 31 2 (.slice vo l.length vc) l.length (flatD l) lv := by simpa using hO
      replace OV : Hid (OwnG W8 31 2 (.slice vo l.length vc) l.length (flatD l) lv) := hO
      clear hO hg RP
      refine wHk hK X.out.2.1.c2 ?_
      clear hK K hHeld
      intro hHeld
      refine wRd 6 (fun K hK => ?_)
      rw [if_pos (by rfl)]
      refine wp_appG elD (.tmp 46) (.tmp 48) rfl (Value.slice vo l.length vc) l.length (flatD l) lv (l.length + 1) rfl OV.out X.out.2.2.2.2.2 (some ⟨g5, 0, none⟩) 1 1 [.int .i64 2, .int .i64 (c + 1)] rfl (by simp) (by simp [Value.oneCell']) 0 (box_row B1.out) (by omega) rfl ?_
      intro po co W9 hO hg _
      (try simp only [])
      replace X : Hid (AX w W9 lv [.int .i64 e, .int .i64 o, .int .i64 a, .int .i64 b, .int .i64 (c + 1), .slice p l.length q] [.int .i64 2, .int .i64 (c + 1)] [.int .i64 0, .int .i64 0, .int .i64 0, .int .i64 0, .int .i64 0, .slice none 0 0]) := X.out.step (hg.below X.out.2.2.2.2.2 OV.out.ge)
      replace OV : Hid (OwnG W9 31 2 (.slice po (l.length + 1) co) (l.length + 1) (flatD l ++ [.int .i64 2, .int .i64 (c + 1)]) lv) := hO
      clear hO hg B1 NE
      refine wHk hK X.out.2.1.c2 ?_
      clear hK K hHeld
      intro hHeld
      refine wTk 7 ?_
      obtain ⟨a0, a1, a2, a3, a4, a5⟩ := X.out.1.c6
      obtain ⟨g0, g1, g2, g3, g4, g6⟩ := X.out.1.f6
      have X2 : Hid (Box (W9.setCell ⟨w.heap.size, 5, none⟩ (.slice po (l.length + 1) co)) w.heap.size [.int .i64 e, .int .i64 o, .int .i64 a, .int .i64 b, .int .i64 (c + 1), .slice po (l.length + 1) co] ∧ Box (W9.setCell ⟨w.heap.size, 5, none⟩ (.slice po (l.length + 1) co)) (w.heap.size + 1) [.int .i64 2, .int .i64 (c + 1)] ∧ Box (W9.setCell ⟨w.heap.size, 5, none⟩ (.slice po (l.length + 1) co)) (w.heap.size + 1 + 1) [.int .i64 0, .int .i64 0, .int .i64 0, .int .i64 0, .int .i64 0, .slice none 0 0] ∧ Below w.heap.size w (W9.setCell ⟨w.heap.size, 5, none⟩ (.slice po (l.length + 1) co)) ∧ OwnG (W9.setCell ⟨w.heap.size, 5, none⟩ (.slice po (l.length + 1) co)) 31 2 (.slice po (l.length + 1) co) (l.length + 1) (flatD l ++ [.int .i64 2, .int .i64 (c + 1)]) lv ∧ w.heap.size + 1 + 1 < lv) := by
        have hlt := X.out.2.2.2.2.1
        refine ⟨?_, X.out.2.1.oth (by omega), X.out.2.2.1.oth (by omega), bel_in X.out.2.2.2.1 (by omega), OV.out.kp Kp.set (fun k hk => by have := OV.out.ge k hk; omega), hlt⟩
        have := X.out.1.set (i := 5) (u := (.slice po (l.length + 1) co)) (by simp)
        simpa using this
      refine wRd 8 (fun K hK => ?_)
      go_simp
      (try simp only [])
      refine hK.out _ _ X2.out.2.1.c2 (fun hHeld' => ?_)
      clear hK K hHeld hHeld' a0 a1 a2 a3 a4 a5 g0 g1 g2 g3 g4 g6 X OV
      refine wLy ?_
      refine wpAnyH_done (by kernel_rfl) ?_ _
      generalize (W9.setCell ⟨w.heap.size, 5, none⟩ (.slice po (l.length + 1) co)) = WZ at *
      obtain ⟨a0, a1, a2, a3, a4, a5⟩ := X2.out.1.c6
      obtain ⟨b0, b1, b2, b3, b4, b5⟩ := X2.out.2.2.1.c6
      obtain ⟨f0, f1, f2, f3, f4, f5⟩ := X2.out.2.2.1.f6
      go_wp2_with fail
      clear a0 a1 a2 a3 a4 a5 b0 b1 b2 b3 b4 b5 f0 f1 f2 f3 f4 f5
      have hlt := X2.out.2.2.2.2.2
      have q0 : ∀ k, (Value.slice po (l.length + 1) co).ownBlock = some k → ¬ k = w.heap.size + 1 + 1 := fun k hk => by have := X2.out.2.2.2.2.1.ge k hk; omega
      have Z := X2.out.2.2.1.s6 (u0 := .int .i64 e) (u1 := .int .i64 o) (u2 := .int .i64 a) (u3 := .int .i64 b) (u4 := .int .i64 (c + 1)) (u5 := .slice po (l.length + 1) co)
      obtain ⟨z0, z1, z2, z3, z4, z5⟩ := Z.c6
      clear Z
      refine bodyPost_ret (v := .tuple #[.agg #[.int .i64 e, .int .i64 o, .int .i64 a, .int .i64 b, .int .i64 (c + 1), .slice po (l.length + 1) co], .bool true, .int .i64 0]) (by simp [results, Try.results32, go_sem, z0, z1, z2, z3, z4, z5]) rfl ?_
      have HBL : Below w.heap.size w _ := bel_in (bel_in (bel_in (bel_in (bel_in (bel_in X2.out.2.2.2.1 (i := 0) (u := .int .i64 e) (g := (w.heap.size + 1 + 1)) (by omega)) (i := 1) (u := .int .i64 o) (g := (w.heap.size + 1 + 1)) (by omega)) (i := 2) (u := .int .i64 a) (g := (w.heap.size + 1 + 1)) (by omega)) (i := 3) (u := .int .i64 b) (g := (w.heap.size + 1 + 1)) (by omega)) (i := 4) (u := .int .i64 (c + 1)) (g := (w.heap.size + 1 + 1)) (by omega)) (i := 5) (u := .slice po (l.length + 1) co) (g := (w.heap.size + 1 + 1)) (by omega)
      exact ⟨po, co, rfl, (((((((X2.out.2.2.2.2.1.kp Kp.set q0).kp Kp.set q0).kp Kp.set q0).kp Kp.set q0).kp Kp.set q0).kp Kp.set q0).weak (by omega)), HBL⟩
    · obtain ⟨a0, a1, a2, a3, a4, a5⟩ := X.out.1.c6
      go_simp
      (try simp only [])
      clear a0 a1 a2 a3 a4 a5
      refine wHk hK X.out.2.1.c2 ?_
      clear hK K hHeld
      intro hHeld
      refine wRd 0 (fun K hK => ?_)
      go_simp
      (try simp only [])
      have OV : Hid (OwnG (W5.alloc (.cells #[] 31)) 31 2 (.slice (some ⟨W5.heap.size, 0, none⟩) 0 0) 0 [] lv) := OwnG.lit X.out.2.2.2.2.2
      have NE : Hid ((Value.slice (some ⟨W5.heap.size, 0, none⟩) 0 0).ownBlock ≠ some g5) := fun h => by have := B1.out.lt; simp [Value.ownBlock] at h; omega
      replace B1 : Hid _ := B1.out.alloc (ob := (.cells #[] 31))
      replace X : Hid (AX w (W5.alloc (.cells #[] 31)) lv [.int .i64 e, .int .i64 o, .int .i64 a, .int .i64 b, .int .i64 (c + 1), .slice p l.length q] [.int .i64 2, .int .i64 (c + 1)] [.int .i64 0, .int .i64 0, .int .i64 0, .int .i64 0, .int .i64 0, .slice none 0 0]) := X.out.alloc
      replace RP : Hid (GRow lo (W5.alloc (.cells #[] 31)) p (flatD l)) := RP.out.next (bel_alloc W5 (.cells #[] 31))
      refine wHk hK X.out.2.1.c2 ?_
      clear hK K hHeld
      intro hHeld
      generalize W5.alloc (.cells #[] 31) = W7 at *
      generalize W5.heap.size = gz at *
      refine wRd 3 (fun K hK => ?_)
      rw [if_pos (by rfl)]
      refine wp_appG elD (.tmp 43) (.tmp 45) rfl (Value.slice (some ⟨gz, 0, none⟩) 0 0) 0 [] lv l.length rfl OV.out X.out.2.2.2.2.2 p l.length q (flatD l) rfl (flatD_len l) (flatD_one l) lo RP.out (by omega) (by omega) ?_
      intro vo vc W8 hO hg _
      (try simp only [])
      replace X : Hid (AX w W8 lv [.int .i64 e, .int .i64 o, .int .i64 a, .int .i64 b, .int .i64 (c + 1), .slice p l.length q] [.int .i64 2, .int .i64 (c + 1)] [.int .i64 0, .int .i64 0, .int .i64 0, .int .i64 0, .int .i64 0, .slice none 0 0]) := X.out.step (hg.below X.out.2.2.2.2.2 OV.out.ge)
      have NE2 : Hid ((Value.slice vo l.length vc).ownBlock ≠ some g5) := B1.out.ne hg NE.out
      replace B1 : Hid _ := B1.out.gro hg NE.out
      replace NE := NE2
      clear NE2
      replace hO : OwnG W8 31 2 (.slice vo l.length vc) l.length (flatD l) lv := by simpa using hO
      replace OV : Hid (OwnG W8 31 2 (.slice vo l.length vc) l.length (flatD l) lv) := hO
      clear hO hg RP
      refine wHk hK X.out.2.1.c2 ?_
      clear hK K hHeld
      intro hHeld
      refine wRd 6 (fun K hK => ?_)
      rw [if_pos (by rfl)]
      refine wp_appG elD (.tmp 46) (.tmp 48) rfl (Value.slice vo l.length vc) l.length (flatD l) lv (l.length + 1) rfl OV.out X.out.2.2.2.2.2 (some ⟨g5, 0, none⟩) 1 1 [.int .i64 2, .int .i64 (c + 1)] rfl (by simp) (by simp [Value.oneCell']) 0 (box_row B1.out) (by omega) rfl ?_
      intro po co W9 hO hg _
      (try simp only [])
      replace X : Hid (AX w W9 lv [.int .i64 e, .int .i64 o, .int .i64 a, .int .i64 b, .int .i64 (c + 1), .slice p l.length q] [.int .i64 2, .int .i64 (c + 1)] [.int .i64 0, .int .i64 0, .int .i64 0, .int .i64 0, .int .i64 0, .slice none 0 0]) := X.out.step (hg.below X.out.2.2.2.2.2 OV.out.ge)
      replace OV : Hid (OwnG W9 31 2 (.slice po (l.length + 1) co) (l.length + 1) (flatD l ++ [.int .i64 2, .int .i64 (c + 1)]) lv) := hO
      clear hO hg B1 NE
      refine wHk hK X.out.2.1.c2 ?_
      clear hK K hHeld
      intro hHeld
      refine wTk 7 ?_
      obtain ⟨a0, a1, a2, a3, a4, a5⟩ := X.out.1.c6
      obtain ⟨g0, g1, g2, g3, g4, g6⟩ := X.out.1.f6
      have X2 : Hid (Box (W9.setCell ⟨w.heap.size, 5, none⟩ (.slice po (l.length + 1) co)) w.heap.size [.int .i64 e, .int .i64 o, .int .i64 a, .int .i64 b, .int .i64 (c + 1), .slice po (l.length + 1) co] ∧ Box (W9.setCell ⟨w.heap.size, 5, none⟩ (.slice po (l.length + 1) co)) (w.heap.size + 1) [.int .i64 2, .int .i64 (c + 1)] ∧ Box (W9.setCell ⟨w.heap.size, 5, none⟩ (.slice po (l.length + 1) co)) (w.heap.size + 1 + 1) [.int .i64 0, .int .i64 0, .int .i64 0, .int .i64 0, .int .i64 0, .slice none 0 0] ∧ Below w.heap.size w (W9.setCell ⟨w.heap.size, 5, none⟩ (.slice po (l.length + 1) co)) ∧ OwnG (W9.setCell ⟨w.heap.size, 5, none⟩ (.slice po (l.length + 1) co)) 31 2 (.slice po (l.length + 1) co) (l.length + 1) (flatD l ++ [.int .i64 2, .int .i64 (c + 1)]) lv ∧ w.heap.size + 1 + 1 < lv) := by
        have hlt := X.out.2.2.2.2.1
        refine ⟨?_, X.out.2.1.oth (by omega), X.out.2.2.1.oth (by omega), bel_in X.out.2.2.2.1 (by omega), OV.out.kp Kp.set (fun k hk => by have := OV.out.ge k hk; omega), hlt⟩
        have := X.out.1.set (i := 5) (u := (.slice po (l.length + 1) co)) (by simp)
        simpa using this
      refine wRd 8 (fun K hK => ?_)
      go_simp
      (try simp only [])
      refine hK.out _ _ X2.out.2.1.c2 (fun hHeld' => ?_)
      clear hK K hHeld hHeld' a0 a1 a2 a3 a4 a5 g0 g1 g2 g3 g4 g6 X OV
      refine wLy ?_
      refine wpAnyH_done (by kernel_rfl) ?_ _
      generalize (W9.setCell ⟨w.heap.size, 5, none⟩ (.slice po (l.length + 1) co)) = WZ at *
      obtain ⟨a0, a1, a2, a3, a4, a5⟩ := X2.out.1.c6
      obtain ⟨b0, b1, b2, b3, b4, b5⟩ := X2.out.2.2.1.c6
      obtain ⟨f0, f1, f2, f3, f4, f5⟩ := X2.out.2.2.1.f6
      go_wp2_with fail
      clear a0 a1 a2 a3 a4 a5 b0 b1 b2 b3 b4 b5 f0 f1 f2 f3 f4 f5
      have hlt := X2.out.2.2.2.2.2
      have q0 : ∀ k, (Value.slice po (l.length + 1) co).ownBlock = some k → ¬ k = w.heap.size + 1 + 1 := fun k hk => by have := X2.out.2.2.2.2.1.ge k hk; omega
      have Z := X2.out.2.2.1.s6 (u0 := .int .i64 e) (u1 := .int .i64 o) (u2 := .int .i64 a) (u3 := .int .i64 b) (u4 := .int .i64 (c + 1)) (u5 := .slice po (l.length + 1) co)
      obtain ⟨z0, z1, z2, z3, z4, z5⟩ := Z.c6
      clear Z
      refine bodyPost_ret (v := .tuple #[.agg #[.int .i64 e, .int .i64 o, .int .i64 a, .int .i64 b, .int .i64 (c + 1), .slice po (l.length + 1) co], .bool true, .int .i64 0]) (by simp [results, Try.results32, go_sem, z0, z1, z2, z3, z4, z5]) rfl ?_
      have HBL : Below w.heap.size w _ := bel_in (bel_in (bel_in (bel_in (bel_in (bel_in X2.out.2.2.2.1 (i := 0) (u := .int .i64 e) (g := (w.heap.size + 1 + 1)) (by omega)) (i := 1) (u := .int .i64 o) (g := (w.heap.size + 1 + 1)) (by omega)) (i := 2) (u := .int .i64 a) (g := (w.heap.size + 1 + 1)) (by omega)) (i := 3) (u := .int .i64 b) (g := (w.heap.size + 1 + 1)) (by omega)) (i := 4) (u := .int .i64 (c + 1)) (g := (w.heap.size + 1 + 1)) (by omega)) (i := 5) (u := .slice po (l.length + 1) co) (g := (w.heap.size + 1 + 1)) (by omega)
      exact ⟨po, co, rfl, (((((((X2.out.2.2.2.2.1.kp Kp.set q0).kp Kp.set q0).kp Kp.set q0).kp Kp.set q0).kp Kp.set q0).kp Kp.set q0).weak (by omega)), HBL⟩
end Go.Proofs.Ytklajcdlacemaaa
