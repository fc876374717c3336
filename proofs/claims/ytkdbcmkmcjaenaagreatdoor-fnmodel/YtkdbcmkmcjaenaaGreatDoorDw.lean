/- Drawing events. -/
import Derived.Test.YtkdbcmkmcjaenaaGreatDoorRows
import Derived.WalkKit
import Derived.WalkSpells
import Derived.WalkLawsBesides
import Derived.Deep.QuietTactic
import Derived.BigQuiet
import Derived.Deep.RegionHeld3
import Derived.Test.YtkdbcmkmcjaenaaGreatDoorDv
import Derived.Test.YtkdbcmkmcjaenaaGreatDoorZk
import Derived.LoopN
import Derived.OwnWalk
import Derived.Deep.Cut
import Derived.Deep.CutRange
namespace Go.Proofs.YtkdbcmkmcjaenaaGreatDoor
open Go.RowKit
set_option linter.unusedSimpArgs false
set_option linter.unusedVariables false

/-- What drawing events leaves. -/
def EvP (w : World) (gs : Nat) (e : Ending) (w' : World) : Prop := ∃ (p : Option Addr) (q : Nat) (es : List Ev), e = .returned (.slice p es.length q) ∧ eok es ∧ es.length ≤ 17 ∧ GRow w.heap.size w' p (flatE es) ∧ w.grownBy w' (some gs)
theorem Kp.st {w W : World} {g i : Nat} {u : Value} (h : Kp (· = g) w W) : Kp (· = g) w (W.setCell ⟨g, i, none⟩ u) := h.trans Kp.set (fun _ _ h => h) (fun _ _ h => h)
theorem Kp.rf (w : World) (g : Nat) : Kp (· = g) w w := Kp.of_below (Below.refl _ _)
theorem lit_rowE {W : World} {t : TypeId} {vs : List Value} : GRow 0 (W.alloc (.cells vs.toArray t)) (some ⟨W.heap.size, 0, none⟩) vs := .inr ⟨_, 0, rfl, Nat.zero_le _, fun j hj => by rw [Nat.zero_add]; exact (box_mk.is j hj).1⟩
set_option maxRecDepth 100000 in
set_option maxHeartbeats 16000000 in
theorem events_any (gs len cap : Nat) (ao : Option Addr) (zs : List Int) (s0 : Int) (w : World) (hs0 : SrcAt w gs ao len cap 0 s0) (hr0 : Gen.IsRow .u8 w ao len cap zs) (hn : ∀ x, ao = some x → 0 < cap → x.block ≠ gs) (hl : (len : Int) ≤ 1048576) :
    Calls Tryz.prog 18 #[.pointer (some ⟨gs, 0, none⟩)] w (EvP w gs) := by
  have HN : Hid (∀ x, ao = some x → 0 < cap → x.block ≠ gs) := hn
  have HRL : Hid (∀ x, ao = some x → 0 < cap → x.block < w.heap.size) := fun x hx hc => row_lt hr0 x hx hc
  have HI0 : Hid (ED w ((w.alloc (.cells #[] 42)).alloc (.cells #[.int .i64 0, .int .i64 0, .int .i64 0] 32)) gs (w.heap.size + 1) ao len cap zs 0 0 0 0 [] (some ⟨w.heap.size, 0, none⟩) 0) := by
    have s1 : (w.alloc (.cells #[] 42)).heap.size = w.heap.size + 1 := by simp
    have hv : Box ((w.alloc (.cells #[] 42)).alloc (.cells #[.int .i64 0, .int .i64 0, .int .i64 0] 32)) (w.heap.size + 1) [.int .i64 0, .int .i64 0, .int .i64 0] := by
      rw [← s1]
      exact box_mk (vs := [.int .i64 0, .int .i64 0, .int .i64 0])
    have hb : Below w.heap.size w ((w.alloc (.cells #[] 42)).alloc (.cells #[.int .i64 0, .int .i64 0, .int .i64 0] 32)) := (bel_alloc _ _).trans ((bel_alloc _ _).mono (by simp))
    exact ⟨⟨0, s0, by omega, hs0.below hb⟩, row_below hr0 hb, hv, (OwnG.lit (Nat.le_refl _)).next (bel_alloc _ _), by simp [Value.ownBlock], gb_below hb, hs0.2.2.2.2.2.1, by omega⟩
  clear hs0 hr0 hn
  go_enter Tryz.func18, Tryz.ntmps18
  go_upto_region 3 with fail
  generalize ((w.alloc (.cells #[] 42)).alloc (.cells #[.int .i64 0, .int .i64 0, .int .i64 0] 32)) = W0 at *
  obtain ⟨gv, hgv⟩ : ∃ gv, gv = w.heap.size + 1 := ⟨_, rfl⟩
  rw [← hgv]
  have X : Hid (ED w W0 gs gv ao len cap zs 0 0 0 0 [] (some ⟨w.heap.size, 0, none⟩) 0) := by
    rw [hgv]
    exact HI0.out
  clear HI0 hgv
  obtain ⟨k, s, hk, hs⟩ := X.out.src
  go_wp2_with fail
  refine (size_any gs len cap ao k s 14 (by omega) (by omega) _ hs hl).mono ?_
  rintro e W1 ⟨n, ⟨hn1, hn14⟩, rfl, hb⟩
  replace X : Hid (ED w W1 gs gv ao len cap zs 0 0 0 0 [] (some ⟨w.heap.size, 0, none⟩) 0) := X.out.next hb
  clear hb hs hk k s
  obtain ⟨k, s, hk, hs⟩ := X.out.src
  have hw4 : IntKind.i64.wrap (n + 4) = n + 4 := by rw [IntKind.wrap_i64]; omega
  go_wp2_with fail
  refine (next_any gs len cap ao zs k s (n + 4) (by omega) (by omega) _ hs X.out.row HN.out hl (by omega) (by omega)).mono ?_
  rintro e W2 ⟨n0, t, ⟨hm0, hm1⟩, rfl, hS, hG⟩
  replace X : Hid (ED w W2 gs gv ao len cap zs (0 + 1) 0 0 0 [] (some ⟨w.heap.size, 0, none⟩) 0) := X.out.by HN.out hG (by omega) hS
  clear hS hG hs hk k s
  obtain ⟨i0, rfl⟩ : ∃ i0 : Nat, n0 = (i0 : Int) := ⟨n0.toNat, by omega⟩
  have HI17 : Hid (i0 ≤ 17) := by show _ ≤ _; omega
  clear hm0 hm1 hn1 hn14 hw4
  go_wp2_with fail
  go_loopw [3, 5, 6, 7, 8] (fun s3 s5 _ _ _ wr => ∃ (j : Nat) (x y z : Int) (es : List Ev) (p : Option Addr) (q : Nat), s3 = .slice p es.length q ∧ s5 = .int .i64 (j : Int) ∧ EM es x y z ∧ j + es.length ≤ 17 ∧ ED w wr gs gv ao len cap zs (2 + 8 * (es.length : Int)) x y z es p q) (fun _ s5 _ _ _ _ => (intOf s5).toNat)
  case atStart => exact ⟨i0, 0, 0, 0, [], _, _, rfl, rfl, EM.nil, by simpa using HI17.out, X.out.more (by simp)⟩
  case round =>
    obtain ⟨j, x, y, z, es, p, q, rfl, rfl, hM0, hj0, hD0⟩ := hrel
    clear HI17 X
    have X : Hid (ED w wr gs gv ao len cap zs (2 + 8 * (es.length : Int)) x y z es p q) := hD0
    have HM : Hid (EM es x y z) := hM0
    have HJ : Hid (j + es.length ≤ 17) := hj0
    have hx0 := hM0.x0
    have hy0 := hM0.y0
    have hz0 := hM0.z0
    clear hD0 hM0
    by_cases hj : 0 < j
    · have hj' : (0 : Int) < (j : Int) := by omega
      obtain ⟨k, s, hk, hs⟩ := X.out.src
      go_wp2_with fail
      refine (next_any gs len cap ao zs k s 3 (by omega) (by omega) _ hs X.out.row HN.out hl (by omega) (by omega)).mono ?_
      rintro e W3 ⟨n3, t, ⟨hn0, hn3⟩, rfl, hS, hG⟩
      replace X : Hid (ED w W3 gs gv ao len cap zs ((2 + 8 * (es.length : Int)) + 1) x y z es p q) := X.out.by HN.out hG (by omega) hS
      clear hS hG hs hk k s
      obtain ⟨jj, rfl⟩ : ∃ jj : Nat, n3 = (jj : Int) := ⟨n3.toNat, by omega⟩
      have hjj : jj < 3 := by omega
      have hcp : 0 ≤ comp x y z (jj : Int) ∧ comp x y z (jj : Int) ≤ 17 := by unfold comp; repeat' split <;> omega
      have hwc : IntKind.i64.wrap (comp x y z (jj : Int) + 1) = comp x y z (jj : Int) + 1 := by rw [IntKind.wrap_i64]; omega
      have HC : Hid (∀ W, Box W gv [.int .i64 x, .int .i64 y, .int .i64 z] → W.cell? ⟨gv, jj, none⟩ = some (.int .i64 (comp x y z (jj : Int)))) := fun W hB => by
        have h1 := (hB.is jj (by simpa using hjj)).1
        rw [h1, ← List.getElem?_eq_getElem, comp_at x y z hjj]
      go_upto_region 7 with fail
      go_cut [7] from 16 to 61 (fun s7 wc => ∃ (ge ii : Nat) (v : Int), s7 = .pointer (some ⟨ge, 0, none⟩) ∧ (0 ≤ v ∧ v < 20) ∧ Box wc ge [.int .i64 (jj : Int), .int .i64 (comp x y z (jj : Int) + 1), .string (drawnK ii), .int .i64 v, .bool false, .int .i64 0, .int .i64 0, .int .i64 0] ∧ ED w wc gs gv ao len cap zs ((2 + 8 * (es.length : Int)) + 3) x y z es p q ∧ (ge ≠ gv ∧ w.heap.size ≤ ge ∧ (Value.slice p es.length q).ownBlock ≠ some ge))
      case first =>
        refine wp_region_held_drew (S := (fun w' => w'.cell? ⟨gv, jj, none⟩ = some (.int .i64 (comp x y z (jj : Int))))) (by kernel_rfl) ?_ (fun hHeld => ?_)
        · (try dsimp only)
          exact HC.out _ (X.out.vb.next (bel_drew _))
        replace X : Hid (ED w W3.drew gs gv ao len cap zs ((2 + 8 * (es.length : Int)) + 1) x y z es p q) := X.out.next (bel_drew _)
        generalize W3.drew = W4 at *
        refine wTk 0 ?_
        refine wTk 1 ?_
        refine wTk 2 ?_
        refine wTk 3 ?_
        refine wTk 4 ?_
        refine wTk 5 ?_
        refine wTk 6 ?_
        refine wTk 8 ?_
        refine wRd2 7 11 (fun K hK => ?_) (fun K hK => ?_)
        · obtain ⟨k, s, hk, hs⟩ := X.out.src
          go_simp
          go_at_call 50
          refine (key_any gs len cap ao zs k s _ hs X.out.row HN.out hl (by omega) (by omega)).mono ?_
          rintro r W5 ⟨ii, t2, rfl, hS, hG⟩
          (try simp only [])
          replace X : Hid (ED w W5 gs gv ao len cap zs ((2 + 8 * (es.length : Int)) + 2) x y z es p q) := by
            have h := X.out.by HN.out hG (k' := k + 1) (by omega) hS
            exact h.more (by omega)
          clear hS hG hs hk k s
          refine wHk hK (HC.out _ X.out.vb) ?_
          clear hK K hHeld
          intro hHeld
          refine wRd2 9 11 (fun K hK => ?_) (fun K hK => ?_)
          · obtain ⟨k, s, hk, hs⟩ := X.out.src
            go_simp
            go_at_call 48
            refine (next_any gs len cap ao zs k s 20 (by omega) (by omega) _ hs X.out.row HN.out hl (by omega) (by omega)).mono ?_
            rintro r W6 ⟨v, t3, hv, rfl, hS, hG⟩
            (try simp only [])
            replace X : Hid (ED w W6 gs gv ao len cap zs ((2 + 8 * (es.length : Int)) + 3) x y z es p q) := by
              have h := X.out.by HN.out hG (k' := k + 1) (by omega) hS
              exact h.more (by omega)
            clear hS hG hs hk k s
            refine wHk hK (HC.out _ X.out.vb) ?_
            clear hK K hHeld
            intro hHeld
            refine wTk 10 ?_
            refine wRd 11 (fun K hK => ?_)
            go_simp
            (try simp only [])
            have BZ : Hid (Box (W6.alloc (.cells #[.int .i64 0, .int .i64 0, .string ⟨#[]⟩, .int .i64 0, .bool false, .int .i64 0, .int .i64 0, .int .i64 0] 42)) W6.heap.size [.int .i64 0, .int .i64 0, .string ⟨#[]⟩, .int .i64 0, .bool false, .int .i64 0, .int .i64 0, .int .i64 0] ∧ (W6.heap.size ≠ gv ∧ w.heap.size ≤ W6.heap.size ∧ (Value.slice p es.length q).ownBlock ≠ some W6.heap.size) ∧ W6.heap.size ≠ gs) := by
              have h1 := X.out.vb.lt
              have h2 := X.out.g.size
              have h3 := X.out.lt
              exact ⟨box_mk, ⟨by omega, h2, fun e => by have := (X.out.own.lt _ e).2; omega⟩, by omega⟩
            replace X : Hid (ED w (W6.alloc (.cells #[.int .i64 0, .int .i64 0, .string ⟨#[]⟩, .int .i64 0, .bool false, .int .i64 0, .int .i64 0, .int .i64 0] 42)) gs gv ao len cap zs ((2 + 8 * (es.length : Int)) + 3) x y z es p q) := X.out.next (bel_alloc _ _)
            generalize W6.alloc (.cells #[.int .i64 0, .int .i64 0, .string ⟨#[]⟩, .int .i64 0, .bool false, .int .i64 0, .int .i64 0, .int .i64 0] 42) = W7 at *
            generalize W6.heap.size = ge at *
            refine wHk hK (HC.out _ X.out.vb) ?_
            clear hK K hHeld
            intro hHeld
            obtain ⟨e0, e1, e2, e3, e4, e5, e6, e7⟩ := BZ.out.1.c8
            obtain ⟨g0, g1, g2, g3, g4, g5, g6, g7⟩ := BZ.out.1.f8
            refine wRd 12 (fun K hK => ?_)
            go_simp
            (try simp only [])
            have BY : Hid (Box ((((((((W7.setCell ⟨ge, 0, none⟩ (.int .i64 (jj : Int))).setCell ⟨ge, 1, none⟩ (.int .i64 (comp x y z (jj : Int) + 1))).setCell ⟨ge, 2, none⟩ (.string (drawnK ii))).setCell ⟨ge, 3, none⟩ (.int .i64 v)).setCell ⟨ge, 4, none⟩ (.bool false)).setCell ⟨ge, 5, none⟩ (.int .i64 0)).setCell ⟨ge, 6, none⟩ (.int .i64 0)).setCell ⟨ge, 7, none⟩ (.int .i64 0)) ge [.int .i64 (jj : Int), .int .i64 (comp x y z (jj : Int) + 1), .string (drawnK ii), .int .i64 v, .bool false, .int .i64 0, .int .i64 0, .int .i64 0]) := BZ.out.1.s8
            replace X : Hid (ED w ((((((((W7.setCell ⟨ge, 0, none⟩ (.int .i64 (jj : Int))).setCell ⟨ge, 1, none⟩ (.int .i64 (comp x y z (jj : Int) + 1))).setCell ⟨ge, 2, none⟩ (.string (drawnK ii))).setCell ⟨ge, 3, none⟩ (.int .i64 v)).setCell ⟨ge, 4, none⟩ (.bool false)).setCell ⟨ge, 5, none⟩ (.int .i64 0)).setCell ⟨ge, 6, none⟩ (.int .i64 0)).setCell ⟨ge, 7, none⟩ (.int .i64 0)) gs gv ao len cap zs ((2 + 8 * (es.length : Int)) + 3) x y z es p q) := X.out.kp (ge := ge) (Kp.rf _ _).st.st.st.st.st.st.st.st BZ.out.2.1.2.1 BZ.out.2.1.1 BZ.out.2.1.2.2 HRL.out
            refine wHk hK (HC.out _ X.out.vb) ?_
            clear hK K hHeld e0 e1 e2 e3 e4 e5 e6 e7 g0 g1 g2 g3 g4 g5 g6 g7
            intro hHeld
            refine wpAnyH_done (by kernel_rfl) ?_ _
            clear hHeld
            go_wp2
            go_meet
            case rel => exact ⟨ge, ii, v, rfl, hv, BY.out, X.out, BZ.out.2.1⟩
          · go_simp
            (try simp only [])
            have BZ : Hid (Box (W5.alloc (.cells #[.int .i64 0, .int .i64 0, .string ⟨#[]⟩, .int .i64 0, .bool false, .int .i64 0, .int .i64 0, .int .i64 0] 42)) W5.heap.size [.int .i64 0, .int .i64 0, .string ⟨#[]⟩, .int .i64 0, .bool false, .int .i64 0, .int .i64 0, .int .i64 0] ∧ (W5.heap.size ≠ gv ∧ w.heap.size ≤ W5.heap.size ∧ (Value.slice p es.length q).ownBlock ≠ some W5.heap.size) ∧ W5.heap.size ≠ gs) := by
              have h1 := X.out.vb.lt
              have h2 := X.out.g.size
              have h3 := X.out.lt
              exact ⟨box_mk, ⟨by omega, h2, fun e => by have := (X.out.own.lt _ e).2; omega⟩, by omega⟩
            replace X : Hid (ED w (W5.alloc (.cells #[.int .i64 0, .int .i64 0, .string ⟨#[]⟩, .int .i64 0, .bool false, .int .i64 0, .int .i64 0, .int .i64 0] 42)) gs gv ao len cap zs ((2 + 8 * (es.length : Int)) + 2) x y z es p q) := X.out.next (bel_alloc _ _)
            generalize W5.alloc (.cells #[.int .i64 0, .int .i64 0, .string ⟨#[]⟩, .int .i64 0, .bool false, .int .i64 0, .int .i64 0, .int .i64 0] 42) = W6 at *
            generalize W5.heap.size = ge at *
            refine wHk hK (HC.out _ X.out.vb) ?_
            clear hK K hHeld
            intro hHeld
            refine wRd 9 (fun K hK => ?_)
            obtain ⟨k, s, hk, hs⟩ := X.out.src
            go_simp
            go_at_call 48
            refine (next_any gs len cap ao zs k s 20 (by omega) (by omega) _ hs X.out.row HN.out hl (by omega) (by omega)).mono ?_
            rintro r W7 ⟨v, t3, hv, rfl, hS, hG⟩
            (try simp only [])
            replace BZ : Hid (Box W7 ge [.int .i64 0, .int .i64 0, .string ⟨#[]⟩, .int .i64 0, .bool false, .int .i64 0, .int .i64 0, .int .i64 0] ∧ (ge ≠ gv ∧ w.heap.size ≤ ge ∧ (Value.slice p es.length q).ownBlock ≠ some ge) ∧ ge ≠ gs) := ⟨BZ.out.1.kp (Kp.of_grown hG) BZ.out.2.2, BZ.out.2⟩
            replace X : Hid (ED w W7 gs gv ao len cap zs ((2 + 8 * (es.length : Int)) + 3) x y z es p q) := by
              have h := X.out.by HN.out hG (k' := k + 1) (by omega) hS
              exact h.more (by omega)
            clear hS hG hs hk k s
            refine wHk hK (HC.out _ X.out.vb) ?_
            clear hK K hHeld
            intro hHeld
            refine wTk 10 ?_
            obtain ⟨e0, e1, e2, e3, e4, e5, e6, e7⟩ := BZ.out.1.c8
            obtain ⟨g0, g1, g2, g3, g4, g5, g6, g7⟩ := BZ.out.1.f8
            refine wRd 12 (fun K hK => ?_)
            go_simp
            (try simp only [])
            have BY : Hid (Box ((((((((W7.setCell ⟨ge, 0, none⟩ (.int .i64 (jj : Int))).setCell ⟨ge, 1, none⟩ (.int .i64 (comp x y z (jj : Int) + 1))).setCell ⟨ge, 2, none⟩ (.string (drawnK ii))).setCell ⟨ge, 3, none⟩ (.int .i64 v)).setCell ⟨ge, 4, none⟩ (.bool false)).setCell ⟨ge, 5, none⟩ (.int .i64 0)).setCell ⟨ge, 6, none⟩ (.int .i64 0)).setCell ⟨ge, 7, none⟩ (.int .i64 0)) ge [.int .i64 (jj : Int), .int .i64 (comp x y z (jj : Int) + 1), .string (drawnK ii), .int .i64 v, .bool false, .int .i64 0, .int .i64 0, .int .i64 0]) := BZ.out.1.s8
            replace X : Hid (ED w ((((((((W7.setCell ⟨ge, 0, none⟩ (.int .i64 (jj : Int))).setCell ⟨ge, 1, none⟩ (.int .i64 (comp x y z (jj : Int) + 1))).setCell ⟨ge, 2, none⟩ (.string (drawnK ii))).setCell ⟨ge, 3, none⟩ (.int .i64 v)).setCell ⟨ge, 4, none⟩ (.bool false)).setCell ⟨ge, 5, none⟩ (.int .i64 0)).setCell ⟨ge, 6, none⟩ (.int .i64 0)).setCell ⟨ge, 7, none⟩ (.int .i64 0)) gs gv ao len cap zs ((2 + 8 * (es.length : Int)) + 3) x y z es p q) := X.out.kp (ge := ge) (Kp.rf _ _).st.st.st.st.st.st.st.st BZ.out.2.1.2.1 BZ.out.2.1.1 BZ.out.2.1.2.2 HRL.out
            refine wHk hK (HC.out _ X.out.vb) ?_
            clear hK K hHeld e0 e1 e2 e3 e4 e5 e6 e7 g0 g1 g2 g3 g4 g5 g6 g7
            intro hHeld
            refine wpAnyH_done (by kernel_rfl) ?_ _
            clear hHeld
            go_wp2
            go_meet
            case rel => exact ⟨ge, ii, v, rfl, hv, BY.out, X.out, BZ.out.2.1⟩
        · go_simp
          (try simp only [])
          have BZ : Hid (Box (W4.alloc (.cells #[.int .i64 0, .int .i64 0, .string ⟨#[]⟩, .int .i64 0, .bool false, .int .i64 0, .int .i64 0, .int .i64 0] 42)) W4.heap.size [.int .i64 0, .int .i64 0, .string ⟨#[]⟩, .int .i64 0, .bool false, .int .i64 0, .int .i64 0, .int .i64 0] ∧ (W4.heap.size ≠ gv ∧ w.heap.size ≤ W4.heap.size ∧ (Value.slice p es.length q).ownBlock ≠ some W4.heap.size) ∧ W4.heap.size ≠ gs) := by
            have h1 := X.out.vb.lt
            have h2 := X.out.g.size
            have h3 := X.out.lt
            exact ⟨box_mk, ⟨by omega, h2, fun e => by have := (X.out.own.lt _ e).2; omega⟩, by omega⟩
          replace X : Hid (ED w (W4.alloc (.cells #[.int .i64 0, .int .i64 0, .string ⟨#[]⟩, .int .i64 0, .bool false, .int .i64 0, .int .i64 0, .int .i64 0] 42)) gs gv ao len cap zs ((2 + 8 * (es.length : Int)) + 1) x y z es p q) := X.out.next (bel_alloc _ _)
          generalize W4.alloc (.cells #[.int .i64 0, .int .i64 0, .string ⟨#[]⟩, .int .i64 0, .bool false, .int .i64 0, .int .i64 0, .int .i64 0] 42) = W5 at *
          generalize W4.heap.size = ge at *
          refine wHk hK (HC.out _ X.out.vb) ?_
          clear hK K hHeld
          intro hHeld
          refine wRd 7 (fun K hK => ?_)
          obtain ⟨k, s, hk, hs⟩ := X.out.src
          go_simp
          go_at_call 50
          refine (key_any gs len cap ao zs k s _ hs X.out.row HN.out hl (by omega) (by omega)).mono ?_
          rintro r W6 ⟨ii, t2, rfl, hS, hG⟩
          (try simp only [])
          replace BZ : Hid (Box W6 ge [.int .i64 0, .int .i64 0, .string ⟨#[]⟩, .int .i64 0, .bool false, .int .i64 0, .int .i64 0, .int .i64 0] ∧ (ge ≠ gv ∧ w.heap.size ≤ ge ∧ (Value.slice p es.length q).ownBlock ≠ some ge) ∧ ge ≠ gs) := ⟨BZ.out.1.kp (Kp.of_grown hG) BZ.out.2.2, BZ.out.2⟩
          replace X : Hid (ED w W6 gs gv ao len cap zs ((2 + 8 * (es.length : Int)) + 2) x y z es p q) := by
            have h := X.out.by HN.out hG (k' := k + 1) (by omega) hS
            exact h.more (by omega)
          clear hS hG hs hk k s
          refine wHk hK (HC.out _ X.out.vb) ?_
          clear hK K hHeld
          intro hHeld
          refine wRd 9 (fun K hK => ?_)
          obtain ⟨k, s, hk, hs⟩ := X.out.src
          go_simp
          go_at_call 48
          refine (next_any gs len cap ao zs k s 20 (by omega) (by omega) _ hs X.out.row HN.out hl (by omega) (by omega)).mono ?_
          rintro r W7 ⟨v, t3, hv, rfl, hS, hG⟩
          (try simp only [])
          replace BZ : Hid (Box W7 ge [.int .i64 0, .int .i64 0, .string ⟨#[]⟩, .int .i64 0, .bool false, .int .i64 0, .int .i64 0, .int .i64 0] ∧ (ge ≠ gv ∧ w.heap.size ≤ ge ∧ (Value.slice p es.length q).ownBlock ≠ some ge) ∧ ge ≠ gs) := ⟨BZ.out.1.kp (Kp.of_grown hG) BZ.out.2.2, BZ.out.2⟩
          replace X : Hid (ED w W7 gs gv ao len cap zs ((2 + 8 * (es.length : Int)) + 3) x y z es p q) := by
            have h := X.out.by HN.out hG (k' := k + 1) (by omega) hS
            exact h.more (by omega)
          clear hS hG hs hk k s
          refine wHk hK (HC.out _ X.out.vb) ?_
          clear hK K hHeld
          intro hHeld
          refine wTk 10 ?_
          obtain ⟨e0, e1, e2, e3, e4, e5, e6, e7⟩ := BZ.out.1.c8
          obtain ⟨g0, g1, g2, g3, g4, g5, g6, g7⟩ := BZ.out.1.f8
          refine wRd 12 (fun K hK => ?_)
          go_simp
          (try simp only [])
          have BY : Hid (Box ((((((((W7.setCell ⟨ge, 0, none⟩ (.int .i64 (jj : Int))).setCell ⟨ge, 1, none⟩ (.int .i64 (comp x y z (jj : Int) + 1))).setCell ⟨ge, 2, none⟩ (.string (drawnK ii))).setCell ⟨ge, 3, none⟩ (.int .i64 v)).setCell ⟨ge, 4, none⟩ (.bool false)).setCell ⟨ge, 5, none⟩ (.int .i64 0)).setCell ⟨ge, 6, none⟩ (.int .i64 0)).setCell ⟨ge, 7, none⟩ (.int .i64 0)) ge [.int .i64 (jj : Int), .int .i64 (comp x y z (jj : Int) + 1), .string (drawnK ii), .int .i64 v, .bool false, .int .i64 0, .int .i64 0, .int .i64 0]) := BZ.out.1.s8
          replace X : Hid (ED w ((((((((W7.setCell ⟨ge, 0, none⟩ (.int .i64 (jj : Int))).setCell ⟨ge, 1, none⟩ (.int .i64 (comp x y z (jj : Int) + 1))).setCell ⟨ge, 2, none⟩ (.string (drawnK ii))).setCell ⟨ge, 3, none⟩ (.int .i64 v)).setCell ⟨ge, 4, none⟩ (.bool false)).setCell ⟨ge, 5, none⟩ (.int .i64 0)).setCell ⟨ge, 6, none⟩ (.int .i64 0)).setCell ⟨ge, 7, none⟩ (.int .i64 0)) gs gv ao len cap zs ((2 + 8 * (es.length : Int)) + 3) x y z es p q) := X.out.kp (ge := ge) (Kp.rf _ _).st.st.st.st.st.st.st.st BZ.out.2.1.2.1 BZ.out.2.1.1 BZ.out.2.1.2.2 HRL.out
          refine wHk hK (HC.out _ X.out.vb) ?_
          clear hK K hHeld e0 e1 e2 e3 e4 e5 e6 e7 g0 g1 g2 g3 g4 g5 g6 g7
          intro hHeld
          refine wpAnyH_done (by kernel_rfl) ?_ _
          clear hHeld
          go_wp2
          go_meet
          case rel => exact ⟨ge, ii, v, rfl, hv, BY.out, X.out, BZ.out.2.1⟩
      case rest =>
        obtain ⟨ge, ii, v, rfl, hv, hB, hD, hS⟩ := hcut
        clear X
        have X : Hid (ED w wc gs gv ao len cap zs ((2 + 8 * (es.length : Int)) + 3) x y z es p q) := hD
        have hge : ge ≠ gs := by have := hD.lt; omega
        have BE : Hid (Box wc ge [.int .i64 (jj : Int), .int .i64 (comp x y z (jj : Int) + 1), .string (drawnK ii), .int .i64 v, .bool false, .int .i64 0, .int .i64 0, .int .i64 0] ∧ (ge ≠ gv ∧ w.heap.size ≤ ge ∧ (Value.slice p es.length q).ownBlock ≠ some ge) ∧ ge ≠ gs) := ⟨hB, hS, hge⟩
        clear hB hD hS hge
        go_wp2
        refine wp_loop_rounds 4 ?_
        rw [rounds_succ]
        obtain ⟨k, s, hk, hs⟩ := X.out.src
        obtain ⟨y0, y1, y2⟩ := X.out.vb.c3
        have hwn : IntKind.i64.wrap (x + 1) = x + 1 := by rw [IntKind.wrap_i64]; omega
        go_wp2_with fail
        refine (nextz_any gs len cap ao zs k s (x + 1) (by omega) (by omega) _ hs X.out.row HN.out hl (by omega) (by omega)).mono ?_
        rintro e V0 ⟨a, t0, k', ha, hk', rfl, hS, hG⟩
        replace BE : Hid (Box V0 ge [.int .i64 (jj : Int), .int .i64 (comp x y z (jj : Int) + 1), .string (drawnK ii), .int .i64 v, .bool false, .int .i64 0, .int .i64 0, .int .i64 0] ∧ (ge ≠ gv ∧ w.heap.size ≤ ge ∧ (Value.slice p es.length q).ownBlock ≠ some ge) ∧ ge ≠ gs) := ⟨BE.out.1.kp (Kp.of_grown hG) BE.out.2.2, BE.out.2⟩
        replace X : Hid (ED w V0 gs gv ao len cap zs ((2 + 8 * (es.length : Int)) + 4) x y z es p q) := by
          have h := X.out.by HN.out hG (k' := k') (by omega) hS
          exact h.more (by omega)
        clear hS hG hs hk k s y0 y1 y2 hwn hk'
        obtain ⟨e0, e1, e2, e3, e4, e5, e6, e7⟩ := BE.out.1.c8
        obtain ⟨g0, g1, g2, g3, g4, g5, g6, g7⟩ := BE.out.1.f8
        go_upto_region 10 with fail
        clear e0 e1 e2 e3 e4 e5 e6 e7 g0 g1 g2 g3 g4 g5 g6 g7
        refine wp_gen (fun W => Box W ge [.int .i64 (jj : Int), .int .i64 (comp x y z (jj : Int) + 1), .string (drawnK ii), .int .i64 v, .bool false, .int .i64 a, .int .i64 0, .int .i64 0] ∧ ED w W gs gv ao len cap zs ((2 + 8 * (es.length : Int)) + 4) x y z es p q) ⟨by
          have h := BE.out.1.set (i := 5) (u := .int .i64 a) (by simp)
          simpa using h, X.out.kp (ge := ge) (Kp.rf _ _).st BE.out.2.1.2.1 BE.out.2.1.1 BE.out.2.1.2.2 HRL.out⟩ (fun U0 hI => ?_)
        replace BE : Hid (Box U0 ge [.int .i64 (jj : Int), .int .i64 (comp x y z (jj : Int) + 1), .string (drawnK ii), .int .i64 v, .bool false, .int .i64 a, .int .i64 0, .int .i64 0] ∧ (ge ≠ gv ∧ w.heap.size ≤ ge ∧ (Value.slice p es.length q).ownBlock ≠ some ge) ∧ ge ≠ gs) := ⟨hI.1, BE.out.2⟩
        replace X : Hid (ED w U0 gs gv ao len cap zs ((2 + 8 * (es.length : Int)) + 4) x y z es p q) := hI.2
        clear hI
        go_wp2
        rw [rounds_succ]
        obtain ⟨k, s, hk, hs⟩ := X.out.src
        obtain ⟨y0, y1, y2⟩ := X.out.vb.c3
        have hwn : IntKind.i64.wrap (y + 1) = y + 1 := by rw [IntKind.wrap_i64]; omega
        go_wp2_with fail
        refine (nextz_any gs len cap ao zs k s (y + 1) (by omega) (by omega) _ hs X.out.row HN.out hl (by omega) (by omega)).mono ?_
        rintro e V1 ⟨b, t1, k', hb, hk', rfl, hS, hG⟩
        replace BE : Hid (Box V1 ge [.int .i64 (jj : Int), .int .i64 (comp x y z (jj : Int) + 1), .string (drawnK ii), .int .i64 v, .bool false, .int .i64 a, .int .i64 0, .int .i64 0] ∧ (ge ≠ gv ∧ w.heap.size ≤ ge ∧ (Value.slice p es.length q).ownBlock ≠ some ge) ∧ ge ≠ gs) := ⟨BE.out.1.kp (Kp.of_grown hG) BE.out.2.2, BE.out.2⟩
        replace X : Hid (ED w V1 gs gv ao len cap zs ((2 + 8 * (es.length : Int)) + 5) x y z es p q) := by
          have h := X.out.by HN.out hG (k' := k') (by omega) hS
          exact h.more (by omega)
        clear hS hG hs hk k s y0 y1 y2 hwn hk'
        obtain ⟨e0, e1, e2, e3, e4, e5, e6, e7⟩ := BE.out.1.c8
        obtain ⟨g0, g1, g2, g3, g4, g5, g6, g7⟩ := BE.out.1.f8
        go_upto_region 10 with fail
        clear e0 e1 e2 e3 e4 e5 e6 e7 g0 g1 g2 g3 g4 g5 g6 g7
        refine wp_gen (fun W => Box W ge [.int .i64 (jj : Int), .int .i64 (comp x y z (jj : Int) + 1), .string (drawnK ii), .int .i64 v, .bool false, .int .i64 a, .int .i64 b, .int .i64 0] ∧ ED w W gs gv ao len cap zs ((2 + 8 * (es.length : Int)) + 5) x y z es p q) ⟨by
          have h := BE.out.1.set (i := 6) (u := .int .i64 b) (by simp)
          simpa using h, X.out.kp (ge := ge) (Kp.rf _ _).st BE.out.2.1.2.1 BE.out.2.1.1 BE.out.2.1.2.2 HRL.out⟩ (fun U1 hI => ?_)
        replace BE : Hid (Box U1 ge [.int .i64 (jj : Int), .int .i64 (comp x y z (jj : Int) + 1), .string (drawnK ii), .int .i64 v, .bool false, .int .i64 a, .int .i64 b, .int .i64 0] ∧ (ge ≠ gv ∧ w.heap.size ≤ ge ∧ (Value.slice p es.length q).ownBlock ≠ some ge) ∧ ge ≠ gs) := ⟨hI.1, BE.out.2⟩
        replace X : Hid (ED w U1 gs gv ao len cap zs ((2 + 8 * (es.length : Int)) + 5) x y z es p q) := hI.2
        clear hI
        go_wp2
        rw [rounds_succ]
        obtain ⟨k, s, hk, hs⟩ := X.out.src
        obtain ⟨y0, y1, y2⟩ := X.out.vb.c3
        have hwn : IntKind.i64.wrap (z + 1) = z + 1 := by rw [IntKind.wrap_i64]; omega
        go_wp2_with fail
        refine (nextz_any gs len cap ao zs k s (z + 1) (by omega) (by omega) _ hs X.out.row HN.out hl (by omega) (by omega)).mono ?_
        rintro e V2 ⟨c, t2, k', hc, hk', rfl, hS, hG⟩
        replace BE : Hid (Box V2 ge [.int .i64 (jj : Int), .int .i64 (comp x y z (jj : Int) + 1), .string (drawnK ii), .int .i64 v, .bool false, .int .i64 a, .int .i64 b, .int .i64 0] ∧ (ge ≠ gv ∧ w.heap.size ≤ ge ∧ (Value.slice p es.length q).ownBlock ≠ some ge) ∧ ge ≠ gs) := ⟨BE.out.1.kp (Kp.of_grown hG) BE.out.2.2, BE.out.2⟩
        replace X : Hid (ED w V2 gs gv ao len cap zs ((2 + 8 * (es.length : Int)) + 6) x y z es p q) := by
          have h := X.out.by HN.out hG (k' := k') (by omega) hS
          exact h.more (by omega)
        clear hS hG hs hk k s y0 y1 y2 hwn hk'
        obtain ⟨e0, e1, e2, e3, e4, e5, e6, e7⟩ := BE.out.1.c8
        obtain ⟨g0, g1, g2, g3, g4, g5, g6, g7⟩ := BE.out.1.f8
        go_upto_region 10 with fail
        clear e0 e1 e2 e3 e4 e5 e6 e7 g0 g1 g2 g3 g4 g5 g6 g7
        refine wp_gen (fun W => Box W ge [.int .i64 (jj : Int), .int .i64 (comp x y z (jj : Int) + 1), .string (drawnK ii), .int .i64 v, .bool false, .int .i64 a, .int .i64 b, .int .i64 c] ∧ ED w W gs gv ao len cap zs ((2 + 8 * (es.length : Int)) + 6) x y z es p q) ⟨by
          have h := BE.out.1.set (i := 7) (u := .int .i64 c) (by simp)
          simpa using h, X.out.kp (ge := ge) (Kp.rf _ _).st BE.out.2.1.2.1 BE.out.2.1.1 BE.out.2.1.2.2 HRL.out⟩ (fun U2 hI => ?_)
        replace BE : Hid (Box U2 ge [.int .i64 (jj : Int), .int .i64 (comp x y z (jj : Int) + 1), .string (drawnK ii), .int .i64 v, .bool false, .int .i64 a, .int .i64 b, .int .i64 c] ∧ (ge ≠ gv ∧ w.heap.size ≤ ge ∧ (Value.slice p es.length q).ownBlock ≠ some ge) ∧ ge ≠ gs) := ⟨hI.1, BE.out.2⟩
        replace X : Hid (ED w U2 gs gv ao len cap zs ((2 + 8 * (es.length : Int)) + 6) x y z es p q) := hI.2
        clear hI
        go_wp2
        rw [rounds_succ]
        obtain ⟨k, s, hk, hs⟩ := X.out.src
        go_wp2_with fail
        refine (chance_any gs len cap ao zs k s 3 (by omega) (by omega) _ hs X.out.row HN.out hl (by omega) (by omega)).mono ?_
        rintro e V3 ⟨bb, t3, rfl, hS, hG⟩
        replace BE : Hid (Box V3 ge [.int .i64 (jj : Int), .int .i64 (comp x y z (jj : Int) + 1), .string (drawnK ii), .int .i64 v, .bool false, .int .i64 a, .int .i64 b, .int .i64 c] ∧ (ge ≠ gv ∧ w.heap.size ≤ ge ∧ (Value.slice p es.length q).ownBlock ≠ some ge) ∧ ge ≠ gs) := ⟨BE.out.1.kp (Kp.of_grown hG) BE.out.2.2, BE.out.2⟩
        replace X : Hid (ED w V3 gs gv ao len cap zs ((2 + 8 * (es.length : Int)) + 7) x y z es p q) := by
          have h := X.out.by HN.out hG (k' := k + 1) (by omega) hS
          exact h.more (by omega)
        clear hS hG hs hk k s
        cases bb
        · skip
          obtain ⟨k, s, hk, hs⟩ := X.out.src
          go_wp2_with fail
          refine (chance_any gs len cap ao zs k s 6 (by omega) (by omega) _ hs X.out.row HN.out hl (by omega) (by omega)).mono ?_
          rintro e V4 ⟨bd, t4, rfl, hS, hG⟩
          replace BE : Hid (Box V4 ge [.int .i64 (jj : Int), .int .i64 (comp x y z (jj : Int) + 1), .string (drawnK ii), .int .i64 v, .bool false, .int .i64 a, .int .i64 b, .int .i64 c] ∧ (ge ≠ gv ∧ w.heap.size ≤ ge ∧ (Value.slice p es.length q).ownBlock ≠ some ge) ∧ ge ≠ gs) := ⟨BE.out.1.kp (Kp.of_grown hG) BE.out.2.2, BE.out.2⟩
          replace X : Hid (ED w V4 gs gv ao len cap zs ((2 + 8 * (es.length : Int)) + 8) x y z es p q) := by
            have h := X.out.by HN.out hG (k' := k + 1) (by omega) hS
            exact h.more (by omega)
          clear hS hG hs hk k s
          cases bd
          · skip
            have HE : Hid (EM (es ++ [⟨(jj : Int), comp x y z (jj : Int) + 1, drawnK ii, v, false, a, b, c⟩]) (upd (jj : Int) (comp x y z (jj : Int) + 1) 0 x) (upd (jj : Int) (comp x y z (jj : Int) + 1) 1 y) (upd (jj : Int) (comp x y z (jj : Int) + 1) 2 z)) := HM.out.step (by have := HJ.out; omega) hjj ii (by unfold valP; simp; try omega) (by omega) (by omega) (by omega)
            have HQ : Hid (0 ≤ (jj : Int) ∧ (jj : Int) < 3 ∧ comp x y z (jj : Int) < comp x y z (jj : Int) + 1) := ⟨by omega, by omega, by omega⟩
            obtain ⟨e0, e1, e2, e3, e4, e5, e6, e7⟩ := BE.out.1.c8
            go_wp2_with (first
              | (at_builtin; refine wpList_appG elE rfl _ _ rfl (.slice p es.length q) es.length (flatE es) w.heap.size (es.length + 1) rfl (X.out.own.next (bel_alloc _ _)) (by have := X.out.g.size; simp; omega) (some ⟨(World.heap V4).size, 0, none⟩) 1 1 [.int .i64 (jj : Int), .int .i64 (comp x y z (jj : Int) + 1), .string (drawnK ii), .int .i64 v, .bool false, .int .i64 a, .int .i64 b, .int .i64 c] rfl rfl (by simp [Value.oneCell']) 0 lit_rowE (by have := HJ.out; omega) rfl ?_
                 intro po qo A1 hO hG hSS
                 have BE1 : Hid (Box A1 ge [.int .i64 (jj : Int), .int .i64 (comp x y z (jj : Int) + 1), .string (drawnK ii), .int .i64 v, .bool false, .int .i64 a, .int .i64 b, .int .i64 c] ∧ (ge ≠ gv ∧ w.heap.size ≤ ge ∧ (Value.slice p es.length q).ownBlock ≠ some ge) ∧ ge ≠ gs) := ⟨(BE.out.1.alloc).gro hG BE.out.2.1.2.2, BE.out.2⟩
                 have HO : Hid ((Value.slice po (es.length + 1) qo).ownBlock ≠ some ge) := hG.ne (by have := BE.out.1.lt; simp; omega) BE.out.2.1.2.2
                 have X1 : Hid (ED w A1 gs gv ao len cap zs ((2 + 8 * (es.length : Int)) + 8) x y z (es ++ [⟨(jj : Int), comp x y z (jj : Int) + 1, drawnK ii, v, false, a, b, c⟩]) po qo) := ((X.out.next (bel_alloc _ _)).app HRL.out hO hG).more (by omega)
                 clear hO hG hSS e0 e1 e2 e3 e4 e5 e6 e7
                 obtain ⟨e0, e1, e2, e3, e4, e5, e6, e7⟩ := BE1.out.1.c8
                 obtain ⟨y0, y1, y2⟩ := X1.out.vb.c3
                 go_frame)
              | (go_at_call 52; refine (add_any x y z (jj : Int) (comp x y z (jj : Int) + 1) _ HQ.out.1 HQ.out.2.1 HQ.out.2.2).mono ?_
                 rintro e A2 ⟨rfl, hb⟩
                 have X2 : Hid (ED w A2 gs gv ao len cap zs ((2 + 8 * (es.length : Int)) + 8) x y z (es ++ [⟨(jj : Int), comp x y z (jj : Int) + 1, drawnK ii, v, false, a, b, c⟩]) po qo) := X1.out.next hb
                 clear hb e0 e1 e2 e3 e4 e5 e6 e7 y0 y1 y2
                 obtain ⟨y0, y1, y2⟩ := X2.out.vb.c3
                 obtain ⟨z0, z1, z2⟩ := X2.out.vb.f3))
            go_roundw
            case rel => exact ⟨j - 1, (upd (jj : Int) (comp x y z (jj : Int) + 1) 0 x), (upd (jj : Int) (comp x y z (jj : Int) + 1) 1 y), (upd (jj : Int) (comp x y z (jj : Int) + 1) 2 z), es ++ [⟨(jj : Int), comp x y z (jj : Int) + 1, drawnK ii, v, false, a, b, c⟩], po, qo, by simp, by go_num, HE.out, by have := HJ.out; simp; omega, (X2.out.vset HRL.out (Kp.rf _ _).st.st.st X2.out.vb.s3).more (by simp; omega)⟩
            case measure => simp [intOf]; omega
          · skip
            obtain ⟨e0, e1, e2, e3, e4, e5, e6, e7⟩ := BE.out.1.c8
            obtain ⟨g0, g1, g2, g3, g4, g5, g6, g7⟩ := BE.out.1.f8
            go_upto_region 17 with fail
            clear e0 e1 e2 e3 e4 e5 e6 e7 g0 g1 g2 g3 g4 g5 g6 g7
            refine wp_gen (fun W => Box W ge [.int .i64 (jj : Int), .int .i64 (comp x y z (jj : Int) + 1), .string (drawnK ii), .int .i64 0, .bool true, .int .i64 a, .int .i64 b, .int .i64 c] ∧ ED w W gs gv ao len cap zs ((2 + 8 * (es.length : Int)) + 8) x y z es p q) ⟨by
              have h := (BE.out.1.set (i := 4) (u := .bool true) (by simp)).set (i := 3) (u := .int .i64 0) (by simp)
              simpa using h, X.out.kp (ge := ge) (Kp.rf _ _).st.st BE.out.2.1.2.1 BE.out.2.1.1 BE.out.2.1.2.2 HRL.out⟩ (fun V5 hI => ?_)
            replace BE : Hid (Box V5 ge [.int .i64 (jj : Int), .int .i64 (comp x y z (jj : Int) + 1), .string (drawnK ii), .int .i64 0, .bool true, .int .i64 a, .int .i64 b, .int .i64 c] ∧ (ge ≠ gv ∧ w.heap.size ≤ ge ∧ (Value.slice p es.length q).ownBlock ≠ some ge) ∧ ge ≠ gs) := ⟨hI.1, BE.out.2⟩
            replace X : Hid (ED w V5 gs gv ao len cap zs ((2 + 8 * (es.length : Int)) + 8) x y z es p q) := hI.2
            clear hI
            have HE : Hid (EM (es ++ [⟨(jj : Int), comp x y z (jj : Int) + 1, drawnK ii, 0, true, a, b, c⟩]) (upd (jj : Int) (comp x y z (jj : Int) + 1) 0 x) (upd (jj : Int) (comp x y z (jj : Int) + 1) 1 y) (upd (jj : Int) (comp x y z (jj : Int) + 1) 2 z)) := HM.out.step (by have := HJ.out; omega) hjj ii (by unfold valP; simp; try omega) (by omega) (by omega) (by omega)
            have HQ : Hid (0 ≤ (jj : Int) ∧ (jj : Int) < 3 ∧ comp x y z (jj : Int) < comp x y z (jj : Int) + 1) := ⟨by omega, by omega, by omega⟩
            obtain ⟨e0, e1, e2, e3, e4, e5, e6, e7⟩ := BE.out.1.c8
            go_wp2_with (first
              | (at_builtin; refine wpList_appG elE rfl _ _ rfl (.slice p es.length q) es.length (flatE es) w.heap.size (es.length + 1) rfl (X.out.own.next (bel_alloc _ _)) (by have := X.out.g.size; simp; omega) (some ⟨(World.heap V5).size, 0, none⟩) 1 1 [.int .i64 (jj : Int), .int .i64 (comp x y z (jj : Int) + 1), .string (drawnK ii), .int .i64 0, .bool true, .int .i64 a, .int .i64 b, .int .i64 c] rfl rfl (by simp [Value.oneCell']) 0 lit_rowE (by have := HJ.out; omega) rfl ?_
                 intro po qo A1 hO hG hSS
                 have BE1 : Hid (Box A1 ge [.int .i64 (jj : Int), .int .i64 (comp x y z (jj : Int) + 1), .string (drawnK ii), .int .i64 0, .bool true, .int .i64 a, .int .i64 b, .int .i64 c] ∧ (ge ≠ gv ∧ w.heap.size ≤ ge ∧ (Value.slice p es.length q).ownBlock ≠ some ge) ∧ ge ≠ gs) := ⟨(BE.out.1.alloc).gro hG BE.out.2.1.2.2, BE.out.2⟩
                 have HO : Hid ((Value.slice po (es.length + 1) qo).ownBlock ≠ some ge) := hG.ne (by have := BE.out.1.lt; simp; omega) BE.out.2.1.2.2
                 have X1 : Hid (ED w A1 gs gv ao len cap zs ((2 + 8 * (es.length : Int)) + 8) x y z (es ++ [⟨(jj : Int), comp x y z (jj : Int) + 1, drawnK ii, 0, true, a, b, c⟩]) po qo) := ((X.out.next (bel_alloc _ _)).app HRL.out hO hG).more (by omega)
                 clear hO hG hSS e0 e1 e2 e3 e4 e5 e6 e7
                 obtain ⟨e0, e1, e2, e3, e4, e5, e6, e7⟩ := BE1.out.1.c8
                 obtain ⟨y0, y1, y2⟩ := X1.out.vb.c3
                 go_frame)
              | (go_at_call 52; refine (add_any x y z (jj : Int) (comp x y z (jj : Int) + 1) _ HQ.out.1 HQ.out.2.1 HQ.out.2.2).mono ?_
                 rintro e A2 ⟨rfl, hb⟩
                 have X2 : Hid (ED w A2 gs gv ao len cap zs ((2 + 8 * (es.length : Int)) + 8) x y z (es ++ [⟨(jj : Int), comp x y z (jj : Int) + 1, drawnK ii, 0, true, a, b, c⟩]) po qo) := X1.out.next hb
                 clear hb e0 e1 e2 e3 e4 e5 e6 e7 y0 y1 y2
                 obtain ⟨y0, y1, y2⟩ := X2.out.vb.c3
                 obtain ⟨z0, z1, z2⟩ := X2.out.vb.f3))
            go_roundw
            case rel => exact ⟨j - 1, (upd (jj : Int) (comp x y z (jj : Int) + 1) 0 x), (upd (jj : Int) (comp x y z (jj : Int) + 1) 1 y), (upd (jj : Int) (comp x y z (jj : Int) + 1) 2 z), es ++ [⟨(jj : Int), comp x y z (jj : Int) + 1, drawnK ii, 0, true, a, b, c⟩], po, qo, by simp, by go_num, HE.out, by have := HJ.out; simp; omega, (X2.out.vset HRL.out (Kp.rf _ _).st.st.st X2.out.vb.s3).more (by simp; omega)⟩
            case measure => simp [intOf]; omega
        · skip
          obtain ⟨g0, g1, g2, g3, g4, g5, g6, g7⟩ := BE.out.1.f8
          obtain ⟨e0, e1, e2, e3, e4, e5, e6, e7⟩ := BE.out.1.c8
          obtain ⟨y0, y1, y2⟩ := X.out.vb.c3
          go_upto_region 14 with fail
          clear y0 y1 y2 g0 g1 g2 g3 g4 g5 g6 g7 e0 e1 e2 e3 e4 e5 e6 e7
          refine wp_gen (fun W => Box W ge [.int .i64 (jj : Int), .int .i64 (comp x y z (jj : Int) + 1), .string (drawnK ii), .int .i64 v, .bool false, .int .i64 x, .int .i64 y, .int .i64 z] ∧ ED w W gs gv ao len cap zs ((2 + 8 * (es.length : Int)) + 7) x y z es p q) ⟨by
            have h := ((BE.out.1.set (i := 5) (u := .int .i64 x) (by simp)).set (i := 6) (u := .int .i64 y) (by simp)).set (i := 7) (u := .int .i64 z) (by simp)
            simpa using h, X.out.kp (ge := ge) (Kp.rf _ _).st.st.st BE.out.2.1.2.1 BE.out.2.1.1 BE.out.2.1.2.2 HRL.out⟩ (fun V6 hI => ?_)
          replace BE : Hid (Box V6 ge [.int .i64 (jj : Int), .int .i64 (comp x y z (jj : Int) + 1), .string (drawnK ii), .int .i64 v, .bool false, .int .i64 x, .int .i64 y, .int .i64 z] ∧ (ge ≠ gv ∧ w.heap.size ≤ ge ∧ (Value.slice p es.length q).ownBlock ≠ some ge) ∧ ge ≠ gs) := ⟨hI.1, BE.out.2⟩
          replace X : Hid (ED w V6 gs gv ao len cap zs ((2 + 8 * (es.length : Int)) + 7) x y z es p q) := hI.2
          clear hI
          obtain ⟨k, s, hk, hs⟩ := X.out.src
          go_wp2_with fail
          refine (chance_any gs len cap ao zs k s 6 (by omega) (by omega) _ hs X.out.row HN.out hl (by omega) (by omega)).mono ?_
          rintro e V4 ⟨bd, t4, rfl, hS, hG⟩
          replace BE : Hid (Box V4 ge [.int .i64 (jj : Int), .int .i64 (comp x y z (jj : Int) + 1), .string (drawnK ii), .int .i64 v, .bool false, .int .i64 x, .int .i64 y, .int .i64 z] ∧ (ge ≠ gv ∧ w.heap.size ≤ ge ∧ (Value.slice p es.length q).ownBlock ≠ some ge) ∧ ge ≠ gs) := ⟨BE.out.1.kp (Kp.of_grown hG) BE.out.2.2, BE.out.2⟩
          replace X : Hid (ED w V4 gs gv ao len cap zs ((2 + 8 * (es.length : Int)) + 8) x y z es p q) := by
            have h := X.out.by HN.out hG (k' := k + 1) (by omega) hS
            exact h.more (by omega)
          clear hS hG hs hk k s
          cases bd
          · skip
            have HE : Hid (EM (es ++ [⟨(jj : Int), comp x y z (jj : Int) + 1, drawnK ii, v, false, x, y, z⟩]) (upd (jj : Int) (comp x y z (jj : Int) + 1) 0 x) (upd (jj : Int) (comp x y z (jj : Int) + 1) 1 y) (upd (jj : Int) (comp x y z (jj : Int) + 1) 2 z)) := HM.out.step (by have := HJ.out; omega) hjj ii (by unfold valP; simp; try omega) (by omega) (by omega) (by omega)
            have HQ : Hid (0 ≤ (jj : Int) ∧ (jj : Int) < 3 ∧ comp x y z (jj : Int) < comp x y z (jj : Int) + 1) := ⟨by omega, by omega, by omega⟩
            obtain ⟨e0, e1, e2, e3, e4, e5, e6, e7⟩ := BE.out.1.c8
            go_wp2_with (first
              | (at_builtin; refine wpList_appG elE rfl _ _ rfl (.slice p es.length q) es.length (flatE es) w.heap.size (es.length + 1) rfl (X.out.own.next (bel_alloc _ _)) (by have := X.out.g.size; simp; omega) (some ⟨(World.heap V4).size, 0, none⟩) 1 1 [.int .i64 (jj : Int), .int .i64 (comp x y z (jj : Int) + 1), .string (drawnK ii), .int .i64 v, .bool false, .int .i64 x, .int .i64 y, .int .i64 z] rfl rfl (by simp [Value.oneCell']) 0 lit_rowE (by have := HJ.out; omega) rfl ?_
                 intro po qo A1 hO hG hSS
                 have BE1 : Hid (Box A1 ge [.int .i64 (jj : Int), .int .i64 (comp x y z (jj : Int) + 1), .string (drawnK ii), .int .i64 v, .bool false, .int .i64 x, .int .i64 y, .int .i64 z] ∧ (ge ≠ gv ∧ w.heap.size ≤ ge ∧ (Value.slice p es.length q).ownBlock ≠ some ge) ∧ ge ≠ gs) := ⟨(BE.out.1.alloc).gro hG BE.out.2.1.2.2, BE.out.2⟩
                 have HO : Hid ((Value.slice po (es.length + 1) qo).ownBlock ≠ some ge) := hG.ne (by have := BE.out.1.lt; simp; omega) BE.out.2.1.2.2
                 have X1 : Hid (ED w A1 gs gv ao len cap zs ((2 + 8 * (es.length : Int)) + 8) x y z (es ++ [⟨(jj : Int), comp x y z (jj : Int) + 1, drawnK ii, v, false, x, y, z⟩]) po qo) := ((X.out.next (bel_alloc _ _)).app HRL.out hO hG).more (by omega)
                 clear hO hG hSS e0 e1 e2 e3 e4 e5 e6 e7
                 obtain ⟨e0, e1, e2, e3, e4, e5, e6, e7⟩ := BE1.out.1.c8
                 obtain ⟨y0, y1, y2⟩ := X1.out.vb.c3
                 go_frame)
              | (go_at_call 52; refine (add_any x y z (jj : Int) (comp x y z (jj : Int) + 1) _ HQ.out.1 HQ.out.2.1 HQ.out.2.2).mono ?_
                 rintro e A2 ⟨rfl, hb⟩
                 have X2 : Hid (ED w A2 gs gv ao len cap zs ((2 + 8 * (es.length : Int)) + 8) x y z (es ++ [⟨(jj : Int), comp x y z (jj : Int) + 1, drawnK ii, v, false, x, y, z⟩]) po qo) := X1.out.next hb
                 clear hb e0 e1 e2 e3 e4 e5 e6 e7 y0 y1 y2
                 obtain ⟨y0, y1, y2⟩ := X2.out.vb.c3
                 obtain ⟨z0, z1, z2⟩ := X2.out.vb.f3))
            go_roundw
            case rel => exact ⟨j - 1, (upd (jj : Int) (comp x y z (jj : Int) + 1) 0 x), (upd (jj : Int) (comp x y z (jj : Int) + 1) 1 y), (upd (jj : Int) (comp x y z (jj : Int) + 1) 2 z), es ++ [⟨(jj : Int), comp x y z (jj : Int) + 1, drawnK ii, v, false, x, y, z⟩], po, qo, by simp, by go_num, HE.out, by have := HJ.out; simp; omega, (X2.out.vset HRL.out (Kp.rf _ _).st.st.st X2.out.vb.s3).more (by simp; omega)⟩
            case measure => simp [intOf]; omega
          · skip
            obtain ⟨e0, e1, e2, e3, e4, e5, e6, e7⟩ := BE.out.1.c8
            obtain ⟨g0, g1, g2, g3, g4, g5, g6, g7⟩ := BE.out.1.f8
            go_upto_region 17 with fail
            clear e0 e1 e2 e3 e4 e5 e6 e7 g0 g1 g2 g3 g4 g5 g6 g7
            refine wp_gen (fun W => Box W ge [.int .i64 (jj : Int), .int .i64 (comp x y z (jj : Int) + 1), .string (drawnK ii), .int .i64 0, .bool true, .int .i64 x, .int .i64 y, .int .i64 z] ∧ ED w W gs gv ao len cap zs ((2 + 8 * (es.length : Int)) + 8) x y z es p q) ⟨by
              have h := (BE.out.1.set (i := 4) (u := .bool true) (by simp)).set (i := 3) (u := .int .i64 0) (by simp)
              simpa using h, X.out.kp (ge := ge) (Kp.rf _ _).st.st BE.out.2.1.2.1 BE.out.2.1.1 BE.out.2.1.2.2 HRL.out⟩ (fun V5 hI => ?_)
            replace BE : Hid (Box V5 ge [.int .i64 (jj : Int), .int .i64 (comp x y z (jj : Int) + 1), .string (drawnK ii), .int .i64 0, .bool true, .int .i64 x, .int .i64 y, .int .i64 z] ∧ (ge ≠ gv ∧ w.heap.size ≤ ge ∧ (Value.slice p es.length q).ownBlock ≠ some ge) ∧ ge ≠ gs) := ⟨hI.1, BE.out.2⟩
            replace X : Hid (ED w V5 gs gv ao len cap zs ((2 + 8 * (es.length : Int)) + 8) x y z es p q) := hI.2
            clear hI
            have HE : Hid (EM (es ++ [⟨(jj : Int), comp x y z (jj : Int) + 1, drawnK ii, 0, true, x, y, z⟩]) (upd (jj : Int) (comp x y z (jj : Int) + 1) 0 x) (upd (jj : Int) (comp x y z (jj : Int) + 1) 1 y) (upd (jj : Int) (comp x y z (jj : Int) + 1) 2 z)) := HM.out.step (by have := HJ.out; omega) hjj ii (by unfold valP; simp; try omega) (by omega) (by omega) (by omega)
            have HQ : Hid (0 ≤ (jj : Int) ∧ (jj : Int) < 3 ∧ comp x y z (jj : Int) < comp x y z (jj : Int) + 1) := ⟨by omega, by omega, by omega⟩
            obtain ⟨e0, e1, e2, e3, e4, e5, e6, e7⟩ := BE.out.1.c8
            go_wp2_with (first
              | (at_builtin; refine wpList_appG elE rfl _ _ rfl (.slice p es.length q) es.length (flatE es) w.heap.size (es.length + 1) rfl (X.out.own.next (bel_alloc _ _)) (by have := X.out.g.size; simp; omega) (some ⟨(World.heap V5).size, 0, none⟩) 1 1 [.int .i64 (jj : Int), .int .i64 (comp x y z (jj : Int) + 1), .string (drawnK ii), .int .i64 0, .bool true, .int .i64 x, .int .i64 y, .int .i64 z] rfl rfl (by simp [Value.oneCell']) 0 lit_rowE (by have := HJ.out; omega) rfl ?_
                 intro po qo A1 hO hG hSS
                 have BE1 : Hid (Box A1 ge [.int .i64 (jj : Int), .int .i64 (comp x y z (jj : Int) + 1), .string (drawnK ii), .int .i64 0, .bool true, .int .i64 x, .int .i64 y, .int .i64 z] ∧ (ge ≠ gv ∧ w.heap.size ≤ ge ∧ (Value.slice p es.length q).ownBlock ≠ some ge) ∧ ge ≠ gs) := ⟨(BE.out.1.alloc).gro hG BE.out.2.1.2.2, BE.out.2⟩
                 have HO : Hid ((Value.slice po (es.length + 1) qo).ownBlock ≠ some ge) := hG.ne (by have := BE.out.1.lt; simp; omega) BE.out.2.1.2.2
                 have X1 : Hid (ED w A1 gs gv ao len cap zs ((2 + 8 * (es.length : Int)) + 8) x y z (es ++ [⟨(jj : Int), comp x y z (jj : Int) + 1, drawnK ii, 0, true, x, y, z⟩]) po qo) := ((X.out.next (bel_alloc _ _)).app HRL.out hO hG).more (by omega)
                 clear hO hG hSS e0 e1 e2 e3 e4 e5 e6 e7
                 obtain ⟨e0, e1, e2, e3, e4, e5, e6, e7⟩ := BE1.out.1.c8
                 obtain ⟨y0, y1, y2⟩ := X1.out.vb.c3
                 go_frame)
              | (go_at_call 52; refine (add_any x y z (jj : Int) (comp x y z (jj : Int) + 1) _ HQ.out.1 HQ.out.2.1 HQ.out.2.2).mono ?_
                 rintro e A2 ⟨rfl, hb⟩
                 have X2 : Hid (ED w A2 gs gv ao len cap zs ((2 + 8 * (es.length : Int)) + 8) x y z (es ++ [⟨(jj : Int), comp x y z (jj : Int) + 1, drawnK ii, 0, true, x, y, z⟩]) po qo) := X1.out.next hb
                 clear hb e0 e1 e2 e3 e4 e5 e6 e7 y0 y1 y2
                 obtain ⟨y0, y1, y2⟩ := X2.out.vb.c3
                 obtain ⟨z0, z1, z2⟩ := X2.out.vb.f3))
            go_roundw
            case rel => exact ⟨j - 1, (upd (jj : Int) (comp x y z (jj : Int) + 1) 0 x), (upd (jj : Int) (comp x y z (jj : Int) + 1) 1 y), (upd (jj : Int) (comp x y z (jj : Int) + 1) 2 z), es ++ [⟨(jj : Int), comp x y z (jj : Int) + 1, drawnK ii, 0, true, x, y, z⟩], po, qo, by simp, by go_num, HE.out, by have := HJ.out; simp; omega, (X2.out.vset HRL.out (Kp.rf _ _).st.st.st X2.out.vb.s3).more (by simp; omega)⟩
            case measure => simp [intOf]; omega
    · have hj2 : j = 0 := by omega
      subst hj2
      have hw : ¬ (0 : Int) < ((0 : Nat) : Int) := by omega
      go_wp2
      go_ret
      exact ⟨p, q, es, rfl, ⟨by have := HJ.out; omega, HM.out.ok⟩, by have := HJ.out; omega, X.out.own.grow.elim fun p' h => by
        obtain ⟨c', he, _, hg⟩ := h
        simp only [Value.slice.injEq] at he
        rw [he.1]
        exact hg, X.out.g⟩
end Go.Proofs.YtkdbcmkmcjaenaaGreatDoor
