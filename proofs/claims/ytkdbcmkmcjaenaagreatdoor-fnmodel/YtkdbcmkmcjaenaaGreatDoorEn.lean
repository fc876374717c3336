/- Lists of events that are right, on the program's side. -/
import Derived.Test.YtkdbcmkmcjaenaaGreatDoorRows
import Derived.WalkKit
import Derived.WalkSpells
import Derived.WalkLawsBesides
import Derived.Deep.QuietTactic
import Derived.BigQuiet
import Derived.Deep.RegionHeld3
import Derived.Test.YtkdbcmkmcjaenaaGreatDoorEm
import Derived.LoopN
import Derived.OwnWalk
import Derived.Laws.StructEq
namespace Go.Proofs.YtkdbcmkmcjaenaaGreatDoor
open Go.RowKit
set_option linter.unusedSimpArgs false
set_option linter.unusedVariables false

set_option maxRecDepth 20000 in
set_option maxHeartbeats 8000000 in
theorem implEvents (lo q : Nat) (p : Option Addr) (l : List Ev) (w : World) (hks : ∀ x ∈ l, x.key.size < 1099511627776) (hr0 : GRow lo w p (flatE l)) :
    Calls Tryz.prog 8 #[.slice p l.length q] w (Told (eok l) w) := by
  have hr : Hid _ := hr0.e
  clear hr0
  by_cases h1 : 100 < (l.length : Int)
  case pos =>
    have HN : Hid (¬ eok l) := fun h => by have := h.1; omega
    clear hr
    go_enter Tryz.func8, Tryz.ntmps8
    go_wp2
    go_ret
    exact ⟨false, rfl, by simp [HN.out], Below.refl _ _⟩
  go_enter Tryz.func8, Tryz.ntmps8
  go_upto_region 4 with fail
  refine wp_gen (fun W => Box W w.heap.size [.int .i64 0, .int .i64 0, .int .i64 0] ∧ Below w.heap.size w W) ⟨box_mk, bel_alloc _ _⟩ (fun W0 hI => ?_)
  obtain ⟨gv, hgv⟩ : ∃ g, g = w.heap.size := ⟨_, rfl⟩
  have HV : Hid (w.heap.size ≤ gv) := by show _ ≤ _; omega
  have Y : Hid (Box W0 gv [.int .i64 0, .int .i64 0, .int .i64 0] ∧ Below w.heap.size w W0) := by rw [hgv]; exact hI
  rw [← hgv]
  clear hI hgv
  go_wp2
  go_loopw [11] (fun s11 wr => ∃ (k : Nat) (x y z : Int), k ≤ l.length ∧ s11 = .int .i64 k ∧ ((0 ≤ x ∧ x ≤ 9999) ∧ (0 ≤ y ∧ y ≤ 9999) ∧ (0 ≤ z ∧ z ≤ 9999)) ∧ Box wr gv [.int .i64 x, .int .i64 y, .int .i64 z] ∧ Below w.heap.size w wr ∧ (eokL 0 0 0 l ↔ eokL x y z (l.drop k))) (fun s11 _ => l.length - (intOf s11).toNat)
  case atStart => exact ⟨0, 0, 0, 0, by omega, rfl, by omega, Y.out.1, Y.out.2, Iff.rfl⟩
  case round =>
    clear Y
    obtain ⟨k, x, y, z, hk, rfl, hxyz, hV0, hB0, hG⟩ := hrel
    have Y0 : Hid (Box wr gv [.int .i64 x, .int .i64 y, .int .i64 z] ∧ Below w.heap.size w wr) := ⟨hV0, hB0⟩
    have HG : Hid (eokL 0 0 0 l ↔ eokL x y z (l.drop k)) := hG
    clear hV0 hB0 hG
    by_cases hkl : k < l.length
    · have hkl' : (k : Int) < (l.length : Int) := by omega
      have k0 : (0 : Int) ≤ (k : Int) := by omega
      rcases hr.out with h' | ⟨b, off, rfl, _, h2⟩
      · rw [h'] at hkl; simp at hkl
      have hc := (h2 k hkl).next Y0.out.2 (cell_lt (x := ⟨b, off + k * 8, none⟩) (h2 k hkl).1)
      have hks0 := hks _ (List.getElem_mem hkl)
      have hno : ¬ (evP l[k] ∧ stepP x y z l[k]) → ¬ eok l := eokL_no hkl HG.out
      have hye : (evP l[k] ∧ stepP x y z l[k]) → (eokL 0 0 0 l ↔ eokL (upd l[k].p l[k].n 0 x) (upd l[k].p l[k].n 1 y) (upd l[k].p l[k].n 2 z) (l.drop (k + 1))) := eokL_yes hkl HG.out
      clear h2 hr
      generalize l[k] = m at *
      obtain ⟨mp, mn, mk, mv, md, ma, mb, mc⟩ := m
      dsimp only [EAt] at hc hks0 hye
      obtain ⟨c0, c1, c2, c3, c4, c5, c6, c7⟩ := hc
      have HKS : Hid (mk.size < 1099511627776) := hks0
      have HNO : Hid (¬ (evP (Ev.mk mp mn mk mv md ma mb mc) ∧ stepP x y z (Ev.mk mp mn mk mv md ma mb mc)) → ¬ eok l) := hno
      have HYE : Hid ((evP (Ev.mk mp mn mk mv md ma mb mc) ∧ stepP x y z (Ev.mk mp mn mk mv md ma mb mc)) → (eokL 0 0 0 l ↔ eokL (upd mp mn 0 x) (upd mp mn 1 y) (upd mp mn 2 z) (l.drop (k + 1)))) := hye
      clear hks0 hno hye
      go_upto_region 7 with fail
      refine wp_gen (fun W => Box W wr.heap.size [.int .i64 mp, .int .i64 mn, .string mk, .int .i64 mv, .bool md, .int .i64 ma, .int .i64 mb, .int .i64 mc] ∧ Box W gv [.int .i64 x, .int .i64 y, .int .i64 z] ∧ Below wr.heap.size wr W) ⟨box_mk, Y0.out.1.alloc, bel_alloc _ _⟩ (fun W1 hI => ?_)
      clear c0 c1 c2 c3 c4 c5 c6 c7
      have hlt : gv < wr.heap.size := Y0.out.1.lt
      obtain ⟨ge, hge⟩ : ∃ g, g = wr.heap.size := ⟨_, rfl⟩
      have Y : Hid (Box W1 ge [.int .i64 mp, .int .i64 mn, .string mk, .int .i64 mv, .bool md, .int .i64 ma, .int .i64 mb, .int .i64 mc] ∧ Box W1 gv [.int .i64 x, .int .i64 y, .int .i64 z] ∧ Below w.heap.size w W1) := ⟨by rw [hge]; exact hI.1, hI.2.1, Y0.out.2.trans (hI.2.2.mono Y0.out.2.size)⟩
      rw [← hge] at hlt ⊢
      clear hI hge Y0
      by_cases hE : evP (Ev.mk mp mn mk mv md ma mb mc)
      case neg =>
        have HN : Hid (¬ eok l) := HNO.out (fun h => hE h.1)
        have HE : Hid (¬ evP (Ev.mk mp mn mk mv md ma mb mc)) := hE
        clear HNO HYE HG hE
        refine wp_region_held_drew (S := (fun w' => (w'.cell? ⟨ge, 0, none⟩ = some (.int .i64 mp) ∧ w'.cell? ⟨ge, 1, none⟩ = some (.int .i64 mn) ∧ w'.cell? ⟨ge, 2, none⟩ = some (.string mk) ∧ w'.cell? ⟨ge, 3, none⟩ = some (.int .i64 mv) ∧ w'.cell? ⟨ge, 4, none⟩ = some (.bool md) ∧ w'.cell? ⟨ge, 5, none⟩ = some (.int .i64 ma) ∧ w'.cell? ⟨ge, 6, none⟩ = some (.int .i64 mb) ∧ w'.cell? ⟨ge, 7, none⟩ = some (.int .i64 mc)) ∧ (w'.cell? ⟨gv, 0, none⟩ = some (.int .i64 x) ∧ w'.cell? ⟨gv, 1, none⟩ = some (.int .i64 y) ∧ w'.cell? ⟨gv, 2, none⟩ = some (.int .i64 z)))) (by kernel_rfl) ?_ (fun hHeld => ?_)
        · (try dsimp only)
          exact ⟨(Y.out.1.next (bel_drew _)).c8, (Y.out.2.1.next (bel_drew _)).c3⟩
        replace Y : Hid (Box W1.drew ge [.int .i64 mp, .int .i64 mn, .string mk, .int .i64 mv, .bool md, .int .i64 ma, .int .i64 mb, .int .i64 mc] ∧ Box W1.drew gv [.int .i64 x, .int .i64 y, .int .i64 z] ∧ Below w.heap.size w W1.drew) := ⟨Y.out.1.next (bel_drew _), Y.out.2.1.next (bel_drew _), Y.out.2.2.trans ((bel_drew _).mono Y.out.2.2.size)⟩
        generalize W1.drew = V1 at *
        refine wTk 0 ?_
        refine wRd 1 (fun K hK => ?_)
        go_simp
        go_at_call 23
        refine (eventOK_any (Ev.mk mp mn mk mv md ma mb mc) _ HKS.out).mono ?_
        rintro e V2 ⟨rr, rfl, hq, hb⟩
        (try simp only [])
        obtain rfl : rr = false := by
          cases rr; rfl; exact (HE.out (hq.1 rfl)).elim
        replace Y : Hid (Box V2 ge [.int .i64 mp, .int .i64 mn, .string mk, .int .i64 mv, .bool md, .int .i64 ma, .int .i64 mb, .int .i64 mc] ∧ Box V2 gv [.int .i64 x, .int .i64 y, .int .i64 z] ∧ Below w.heap.size w V2) := ⟨Y.out.1.next hb, Y.out.2.1.next hb, Y.out.2.2.trans (hb.mono Y.out.2.2.size)⟩
        refine wHk hK ⟨Y.out.1.c8, Y.out.2.1.c3⟩ ?_
        clear hK K hHeld hq hb
        intro hHeld
        refine wTk 2 ?_
        refine wTk 3 ?_
        refine wTn 4 ?_
        refine wTn 5 ?_
        refine wTn 6 ?_
        refine wTn 7 ?_
        refine wTn 8 ?_
        refine wTn 9 ?_
        refine wTn 10 ?_
        refine wTn 11 ?_
        refine wTn 12 ?_
        refine wTn 13 ?_
        refine wTk 14 ?_
        refine wTk 15 ?_
        refine wTn 16 ?_
        refine wTn 17 ?_
        refine wTn 18 ?_
        refine wTn 19 ?_
        refine wTn 20 ?_
        refine wTn 21 ?_
        refine wTk 22 ?_
        refine wpAnyH_done (by kernel_rfl) ?_ _
        clear hHeld
        go_wp2
        go_ret
        exact ⟨false, rfl, by simp [HN.out], Y.out.2.2⟩
      have HE : Hid (evP (Ev.mk mp mn mk mv md ma mb mc)) := hE
      have hdn : 0 ≤ mp ∧ mp < 3 ∧ 1 ≤ mn ∧ mn ≤ 9999 := of_decide_eq_true hE.1
      have HDN : Hid (0 ≤ mp ∧ mp < 3 ∧ 1 ≤ mn ∧ mn ≤ 9999) := hdn
      clear hE hdn
      obtain ⟨hp0, hp3, _, _⟩ := HDN.out
      have HP3 : Hid (mp = 0 ∨ mp = 1 ∨ mp = 2) := by show _ ∨ _; omega
      obtain ⟨q, hq⟩ : ∃ q, q = comp x y z mp := ⟨_, rfl⟩
      have HQC : Hid (q = comp x y z mp) := hq
      have HQI : Hid (∀ W, Box W gv [.int .i64 x, .int .i64 y, .int .i64 z] → W.cell? ⟨gv, mp.toNat, none⟩ = some (.int .i64 q)) := fun W hW => by
        obtain ⟨v0, v1, v2⟩ := hW.c3
        rcases HP3.out with rfl | rfl | rfl <;> simpa [hq, comp] using (by assumption)
      have hq9 : 0 ≤ q ∧ q ≤ 9999 := by
        rcases HP3.out with rfl | rfl | rfl <;> simp [hq, comp] <;> omega
      clear hq
      have hw1 : IntKind.i64.wrap (q + 1) = q + 1 := by rw [IntKind.wrap_i64]; omega
      by_cases hn : mn = q + 1
      case neg =>
        have HN : Hid (¬ eok l) := HNO.out (fun h => hn (by have := h.2.1; rw [HQC.out]; exact this))
        have hn' : (mn == q + 1) = false := beq_eq_false_iff_ne.2 hn
        have hn2 : (mn != q + 1) = true := by simp [bne, hn']
        clear HNO HYE HG hn HDN HP3 HQC hn'
        refine wp_region_held_drew (S := (fun w' => (w'.cell? ⟨ge, 0, none⟩ = some (.int .i64 mp) ∧ w'.cell? ⟨ge, 1, none⟩ = some (.int .i64 mn) ∧ w'.cell? ⟨ge, 2, none⟩ = some (.string mk) ∧ w'.cell? ⟨ge, 3, none⟩ = some (.int .i64 mv) ∧ w'.cell? ⟨ge, 4, none⟩ = some (.bool md) ∧ w'.cell? ⟨ge, 5, none⟩ = some (.int .i64 ma) ∧ w'.cell? ⟨ge, 6, none⟩ = some (.int .i64 mb) ∧ w'.cell? ⟨ge, 7, none⟩ = some (.int .i64 mc)) ∧ (w'.cell? ⟨gv, 0, none⟩ = some (.int .i64 x) ∧ w'.cell? ⟨gv, 1, none⟩ = some (.int .i64 y) ∧ w'.cell? ⟨gv, 2, none⟩ = some (.int .i64 z)) ∧ w'.cell? ⟨gv, mp.toNat, none⟩ = some (.int .i64 q))) (by kernel_rfl) ?_ (fun hHeld => ?_)
        · (try dsimp only)
          exact ⟨(Y.out.1.next (bel_drew _)).c8, (Y.out.2.1.next (bel_drew _)).c3, HQI.out _ (Y.out.2.1.next (bel_drew _))⟩
        replace Y : Hid (Box W1.drew ge [.int .i64 mp, .int .i64 mn, .string mk, .int .i64 mv, .bool md, .int .i64 ma, .int .i64 mb, .int .i64 mc] ∧ Box W1.drew gv [.int .i64 x, .int .i64 y, .int .i64 z] ∧ Below w.heap.size w W1.drew) := ⟨Y.out.1.next (bel_drew _), Y.out.2.1.next (bel_drew _), Y.out.2.2.trans ((bel_drew _).mono Y.out.2.2.size)⟩
        generalize W1.drew = V1 at *
        refine wTk 0 ?_
        refine wRd 1 (fun K hK => ?_)
        go_simp
        go_at_call 23
        refine (eventOK_any (Ev.mk mp mn mk mv md ma mb mc) _ HKS.out).mono ?_
        rintro e V2 ⟨rr, rfl, hq, hb⟩
        (try simp only [])
        obtain rfl : rr = true := by
          exact hq.2 HE.out
        replace Y : Hid (Box V2 ge [.int .i64 mp, .int .i64 mn, .string mk, .int .i64 mv, .bool md, .int .i64 ma, .int .i64 mb, .int .i64 mc] ∧ Box V2 gv [.int .i64 x, .int .i64 y, .int .i64 z] ∧ Below w.heap.size w V2) := ⟨Y.out.1.next hb, Y.out.2.1.next hb, Y.out.2.2.trans (hb.mono Y.out.2.2.size)⟩
        refine wHk hK ⟨Y.out.1.c8, Y.out.2.1.c3, HQI.out _ Y.out.2.1⟩ ?_
        clear hK K hHeld hq hb
        intro hHeld
        refine wTk 2 ?_
        refine wTk 3 ?_
        refine wTk 4 ?_
        refine wTk 5 ?_
        refine wTk 6 ?_
        refine wTk 7 ?_
        refine wTk 8 ?_
        refine wTk 9 ?_
        refine wTk 10 ?_
        refine wTk 11 ?_
        refine wTk 12 ?_
        refine wTk 13 (v := .bool true) ?_
        refine wTk 14 ?_
        refine wTk 15 ?_
        refine wTn 16 ?_
        refine wTn 17 ?_
        refine wTn 18 ?_
        refine wTn 19 ?_
        refine wTn 20 ?_
        refine wTn 21 ?_
        refine wTk 22 ?_
        refine wpAnyH_done (by kernel_rfl) ?_ _
        clear hHeld
        go_wp2
        go_ret
        exact ⟨false, rfl, by simp [HN.out], Y.out.2.2⟩
      have hn' : (mn == q + 1) = true := beq_iff_eq.2 hn
      have hn2 : (mn != q + 1) = false := by simp [bne, hn']
      have HN1 : Hid (mn = q + 1) := hn
      clear hn hn'
      by_cases hk3 : ma ≤ x ∧ mb ≤ y ∧ mc ≤ z
      case neg =>
        have HN : Hid (¬ eok l) := HNO.out (fun h => hk3 h.2.2)
        obtain ⟨x1, hx1⟩ : ∃ t, (x < ma ∧ t = ma) ∨ (ma ≤ x ∧ t = x) := ⟨max x ma, by omega⟩
        obtain ⟨y1, hy1⟩ : ∃ t, (y < mb ∧ t = mb) ∨ (mb ≤ y ∧ t = y) := ⟨max y mb, by omega⟩
        obtain ⟨z1, hz1⟩ : ∃ t, (z < mc ∧ t = mc) ∨ (mc ≤ z ∧ t = z) := ⟨max z mc, by omega⟩
        have HQ : Hid ((x1 == x && (y1 == y && z1 == z)) = false) := by
          show _ = _
          cases he : (x1 == x && (y1 == y && z1 == z)) with
          | false => rfl
          | true =>
            simp at he
            omega
        clear HNO HYE HG HDN HP3 HQC
        refine wp_region_held_drew (S := (fun w' => (w'.cell? ⟨ge, 0, none⟩ = some (.int .i64 mp) ∧ w'.cell? ⟨ge, 1, none⟩ = some (.int .i64 mn) ∧ w'.cell? ⟨ge, 2, none⟩ = some (.string mk) ∧ w'.cell? ⟨ge, 3, none⟩ = some (.int .i64 mv) ∧ w'.cell? ⟨ge, 4, none⟩ = some (.bool md) ∧ w'.cell? ⟨ge, 5, none⟩ = some (.int .i64 ma) ∧ w'.cell? ⟨ge, 6, none⟩ = some (.int .i64 mb) ∧ w'.cell? ⟨ge, 7, none⟩ = some (.int .i64 mc)) ∧ (w'.cell? ⟨gv, 0, none⟩ = some (.int .i64 x) ∧ w'.cell? ⟨gv, 1, none⟩ = some (.int .i64 y) ∧ w'.cell? ⟨gv, 2, none⟩ = some (.int .i64 z)) ∧ w'.cell? ⟨gv, mp.toNat, none⟩ = some (.int .i64 q))) (by kernel_rfl) ?_ (fun hHeld => ?_)
        · (try dsimp only)
          exact ⟨(Y.out.1.next (bel_drew _)).c8, (Y.out.2.1.next (bel_drew _)).c3, HQI.out _ (Y.out.2.1.next (bel_drew _))⟩
        replace Y : Hid (Box W1.drew ge [.int .i64 mp, .int .i64 mn, .string mk, .int .i64 mv, .bool md, .int .i64 ma, .int .i64 mb, .int .i64 mc] ∧ Box W1.drew gv [.int .i64 x, .int .i64 y, .int .i64 z] ∧ Below w.heap.size w W1.drew) := ⟨Y.out.1.next (bel_drew _), Y.out.2.1.next (bel_drew _), Y.out.2.2.trans ((bel_drew _).mono Y.out.2.2.size)⟩
        generalize W1.drew = V1 at *
        refine wTk 0 ?_
        refine wRd 1 (fun K hK => ?_)
        go_simp
        go_at_call 23
        refine (eventOK_any (Ev.mk mp mn mk mv md ma mb mc) _ HKS.out).mono ?_
        rintro e V2 ⟨rr, rfl, hq, hb⟩
        (try simp only [])
        obtain rfl : rr = true := by
          exact hq.2 HE.out
        replace Y : Hid (Box V2 ge [.int .i64 mp, .int .i64 mn, .string mk, .int .i64 mv, .bool md, .int .i64 ma, .int .i64 mb, .int .i64 mc] ∧ Box V2 gv [.int .i64 x, .int .i64 y, .int .i64 z] ∧ Below w.heap.size w V2) := ⟨Y.out.1.next hb, Y.out.2.1.next hb, Y.out.2.2.trans (hb.mono Y.out.2.2.size)⟩
        refine wHk hK ⟨Y.out.1.c8, Y.out.2.1.c3, HQI.out _ Y.out.2.1⟩ ?_
        clear hK K hHeld hq hb
        intro hHeld
        refine wTk 2 ?_
        refine wTk 3 ?_
        refine wTk 4 ?_
        refine wTk 5 ?_
        refine wTk 6 ?_
        refine wTk 7 ?_
        refine wTk 8 ?_
        refine wTk 9 ?_
        refine wTk 10 ?_
        refine wTk 11 ?_
        refine wTk 12 ?_
        refine wTk 13 (v := .bool false) ?_
        refine wTk 14 ?_
        refine wTk 15 ?_
        refine wTk 16 ?_
        refine wTk 17 ?_
        refine wTk 18 ?_
        refine wTk 20 ?_
        refine wRd 19 (fun K hK => ?_)
        go_simp
        go_at_call 24
        refine (greater_any x y z ma mb mc x1 y1 z1 _ hx1 hy1 hz1).mono ?_
        rintro e V3 ⟨rfl, hb⟩
        (try simp only [])
        replace Y : Hid (Box V3 ge [.int .i64 mp, .int .i64 mn, .string mk, .int .i64 mv, .bool md, .int .i64 ma, .int .i64 mb, .int .i64 mc] ∧ Box V3 gv [.int .i64 x, .int .i64 y, .int .i64 z] ∧ Below w.heap.size w V3) := ⟨Y.out.1.next hb, Y.out.2.1.next hb, Y.out.2.2.trans (hb.mono Y.out.2.2.size)⟩
        refine wHk hK ⟨Y.out.1.c8, Y.out.2.1.c3, HQI.out _ Y.out.2.1⟩ ?_
        clear hK K hHeld hb
        intro hHeld
        have ev := eqv x1 y1 z1 x y z
        have hev : (x1 == x && (y1 == y && z1 == z)) = false := HQ.out
        rw [hev] at ev
        refine wTk 21 (v := .bool true) ?_
        refine wTk 22 ?_
        refine wpAnyH_done (by kernel_rfl) ?_ _
        clear hHeld
        clear ev hev
        go_wp2
        go_ret
        exact ⟨false, rfl, by simp [HN.out], Y.out.2.2⟩
      have HT : Hid (eokL 0 0 0 l ↔ eokL (upd mp mn 0 x) (upd mp mn 1 y) (upd mp mn 2 z) (l.drop (k + 1))) := HYE.out ⟨HE.out, by show mn = _; rw [← HQC.out]; exact HN1.out, hk3⟩
      clear HNO HYE HG
      refine wp_region_held_drew (S := (fun w' => (w'.cell? ⟨ge, 0, none⟩ = some (.int .i64 mp) ∧ w'.cell? ⟨ge, 1, none⟩ = some (.int .i64 mn) ∧ w'.cell? ⟨ge, 2, none⟩ = some (.string mk) ∧ w'.cell? ⟨ge, 3, none⟩ = some (.int .i64 mv) ∧ w'.cell? ⟨ge, 4, none⟩ = some (.bool md) ∧ w'.cell? ⟨ge, 5, none⟩ = some (.int .i64 ma) ∧ w'.cell? ⟨ge, 6, none⟩ = some (.int .i64 mb) ∧ w'.cell? ⟨ge, 7, none⟩ = some (.int .i64 mc)) ∧ (w'.cell? ⟨gv, 0, none⟩ = some (.int .i64 x) ∧ w'.cell? ⟨gv, 1, none⟩ = some (.int .i64 y) ∧ w'.cell? ⟨gv, 2, none⟩ = some (.int .i64 z)) ∧ w'.cell? ⟨gv, mp.toNat, none⟩ = some (.int .i64 q))) (by kernel_rfl) ?_ (fun hHeld => ?_)
      · (try dsimp only)
        exact ⟨(Y.out.1.next (bel_drew _)).c8, (Y.out.2.1.next (bel_drew _)).c3, HQI.out _ (Y.out.2.1.next (bel_drew _))⟩
      replace Y : Hid (Box W1.drew ge [.int .i64 mp, .int .i64 mn, .string mk, .int .i64 mv, .bool md, .int .i64 ma, .int .i64 mb, .int .i64 mc] ∧ Box W1.drew gv [.int .i64 x, .int .i64 y, .int .i64 z] ∧ Below w.heap.size w W1.drew) := ⟨Y.out.1.next (bel_drew _), Y.out.2.1.next (bel_drew _), Y.out.2.2.trans ((bel_drew _).mono Y.out.2.2.size)⟩
      generalize W1.drew = V1 at *
      refine wTk 0 ?_
      refine wRd 1 (fun K hK => ?_)
      go_simp
      go_at_call 23
      refine (eventOK_any (Ev.mk mp mn mk mv md ma mb mc) _ HKS.out).mono ?_
      rintro e V2 ⟨rr, rfl, hq, hb⟩
      (try simp only [])
      obtain rfl : rr = true := by
        exact hq.2 HE.out
      replace Y : Hid (Box V2 ge [.int .i64 mp, .int .i64 mn, .string mk, .int .i64 mv, .bool md, .int .i64 ma, .int .i64 mb, .int .i64 mc] ∧ Box V2 gv [.int .i64 x, .int .i64 y, .int .i64 z] ∧ Below w.heap.size w V2) := ⟨Y.out.1.next hb, Y.out.2.1.next hb, Y.out.2.2.trans (hb.mono Y.out.2.2.size)⟩
      refine wHk hK ⟨Y.out.1.c8, Y.out.2.1.c3, HQI.out _ Y.out.2.1⟩ ?_
      clear hK K hHeld hq hb
      intro hHeld
      refine wTk 2 ?_
      refine wTk 3 ?_
      refine wTk 4 ?_
      refine wTk 5 ?_
      refine wTk 6 ?_
      refine wTk 7 ?_
      refine wTk 8 ?_
      refine wTk 9 ?_
      refine wTk 10 ?_
      refine wTk 11 ?_
      refine wTk 12 ?_
      refine wTk 13 (v := .bool false) ?_
      refine wTk 14 ?_
      refine wTk 15 ?_
      refine wTk 16 ?_
      refine wTk 17 ?_
      refine wTk 18 ?_
      refine wTk 20 ?_
      refine wRd 19 (fun K hK => ?_)
      go_simp
      go_at_call 24
      refine (greater_any x y z ma mb mc x y z _ (.inr ⟨hk3.1, rfl⟩) (.inr ⟨hk3.2.1, rfl⟩) (.inr ⟨hk3.2.2, rfl⟩)).mono ?_
      rintro e V3 ⟨rfl, hb⟩
      (try simp only [])
      replace Y : Hid (Box V3 ge [.int .i64 mp, .int .i64 mn, .string mk, .int .i64 mv, .bool md, .int .i64 ma, .int .i64 mb, .int .i64 mc] ∧ Box V3 gv [.int .i64 x, .int .i64 y, .int .i64 z] ∧ Below w.heap.size w V3) := ⟨Y.out.1.next hb, Y.out.2.1.next hb, Y.out.2.2.trans (hb.mono Y.out.2.2.size)⟩
      refine wHk hK ⟨Y.out.1.c8, Y.out.2.1.c3, HQI.out _ Y.out.2.1⟩ ?_
      clear hK K hHeld hb
      intro hHeld
      have ev := eqv x y z x y z
      have hev : (x == x && (y == y && z == z)) = true := by simp
      rw [hev] at ev
      refine wTk 21 (v := .bool false) ?_
      refine wTk 22 ?_
      refine wpAnyH_done (by kernel_rfl) ?_ _
      clear hHeld
      clear ev hev hn2 hw1
      rcases HP3.out with rfl | rfl | rfl
      · obtain ⟨e0, e1, e2, e3, e4, e5, e6, e7⟩ := Y.out.1.c8
        obtain ⟨v0, v1, v2⟩ := Y.out.2.1.c3
        obtain ⟨u0, u1, u2⟩ := Y.out.2.1.f3
        go_wp2
        go_roundw
        case rel =>
          refine ⟨k + 1, mn, y, z, by omega, by go_num, by have := HDN.out; omega, ?_, bel_in Y.out.2.2 (by have := HV.out; omega), by simpa [upd] using HT.out⟩
          have := Y.out.2.1.set (i := 0) (u := .int .i64 mn) (by simp)
          simpa using this
        case measure => simp [intOf]; omega
      · obtain ⟨e0, e1, e2, e3, e4, e5, e6, e7⟩ := Y.out.1.c8
        obtain ⟨v0, v1, v2⟩ := Y.out.2.1.c3
        obtain ⟨u0, u1, u2⟩ := Y.out.2.1.f3
        go_wp2
        go_roundw
        case rel =>
          refine ⟨k + 1, x, mn, z, by omega, by go_num, by have := HDN.out; omega, ?_, bel_in Y.out.2.2 (by have := HV.out; omega), by simpa [upd] using HT.out⟩
          have := Y.out.2.1.set (i := 1) (u := .int .i64 mn) (by simp)
          simpa using this
        case measure => simp [intOf]; omega
      · obtain ⟨e0, e1, e2, e3, e4, e5, e6, e7⟩ := Y.out.1.c8
        obtain ⟨v0, v1, v2⟩ := Y.out.2.1.c3
        obtain ⟨u0, u1, u2⟩ := Y.out.2.1.f3
        go_wp2
        go_roundw
        case rel =>
          refine ⟨k + 1, x, y, mn, by omega, by go_num, by have := HDN.out; omega, ?_, bel_in Y.out.2.2 (by have := HV.out; omega), by simpa [upd] using HT.out⟩
          have := Y.out.2.1.set (i := 2) (u := .int .i64 mn) (by simp)
          simpa using this
        case measure => simp [intOf]; omega
    · have hkl' : ¬ (k : Int) < (l.length : Int) := by omega
      have HN : Hid (eok l) := ⟨by omega, eokL_end (by omega) HG.out⟩
      clear HG
      go_wp2
      go_ret
      exact ⟨true, rfl, by simp [HN.out], Y0.out.2⟩
end Go.Proofs.YtkdbcmkmcjaenaaGreatDoor
