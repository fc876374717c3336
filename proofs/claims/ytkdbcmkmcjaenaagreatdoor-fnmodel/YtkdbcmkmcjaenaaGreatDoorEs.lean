/- Lists of events that are right, on the specification's side. -/
import Derived.Test.YtkdbcmkmcjaenaaGreatDoorRows
import Derived.WalkKit
import Derived.WalkSpells
import Derived.WalkLawsBesides
import Derived.Deep.QuietTactic
import Derived.BigQuiet
import Derived.Deep.RegionHeld3
import Derived.Test.YtkdbcmkmcjaenaaGreatDoorEl
import Derived.LoopN
import Derived.OwnWalk
import Derived.Laws.StructEq
namespace Go.Proofs.YtkdbcmkmcjaenaaGreatDoor
open Go.RowKit
set_option linter.unusedSimpArgs false
set_option linter.unusedVariables false

set_option maxRecDepth 20000 in
set_option maxHeartbeats 16000000 in
theorem specEvents (lo q : Nat) (p : Option Addr) (l : List Ev) (w : World) (hl : (l.length : Int) ≤ 1048576) (hks : ∀ x ∈ l, x.key.size < 1099511627776) (hr0 : GRow lo w p (flatE l)) :
    Calls Tryz.prog 21 #[.slice p l.length q] w (Told (eok l) w) := by
  have hr : Hid _ := hr0.e
  clear hr0
  by_cases h1 : 4096 < (l.length : Int)
  case pos =>
    have HN : Hid (¬ eok l) := fun h => by have := h.1; omega
    clear hr
    go_enter Tryz.func21, Tryz.ntmps21
    go_wp2
    go_ret
    exact ⟨false, rfl, by simp [HN.out], Below.refl _ _⟩
  go_enter Tryz.func21, Tryz.ntmps21
  go_upto_region 4 with fail
  refine wp_gen (fun W => Box W w.heap.size [.int .i64 0, .int .i64 0, .int .i64 0] ∧ Below w.heap.size w W) ⟨box_mk, bel_alloc _ _⟩ (fun W0 hI => ?_)
  obtain ⟨gv, hgv⟩ : ∃ g, g = w.heap.size := ⟨_, rfl⟩
  have HV : Hid (w.heap.size ≤ gv) := by show _ ≤ _; omega
  have Y : Hid (Box W0 gv [.int .i64 0, .int .i64 0, .int .i64 0] ∧ Below w.heap.size w W0) := by rw [hgv]; exact hI
  rw [← hgv]
  clear hI hgv
  go_wp2
  go_loopw [4] (fun s4 wr => ∃ (k : Nat) (x y z : Int), k ≤ l.length ∧ s4 = .int .i64 k ∧ ((0 ≤ x ∧ x ≤ 9999) ∧ (0 ≤ y ∧ y ≤ 9999) ∧ (0 ≤ z ∧ z ≤ 9999)) ∧ Box wr gv [.int .i64 x, .int .i64 y, .int .i64 z] ∧ Below w.heap.size w wr ∧ (eokL 0 0 0 l ↔ eokL x y z (l.drop k))) (fun s4 _ => l.length - (intOf s4).toNat)
  case atStart => exact ⟨0, 0, 0, 0, by omega, rfl, by omega, Y.out.1, Y.out.2, Iff.rfl⟩
  case round =>
    clear Y
    obtain ⟨k, x, y, z, hk, rfl, hxyz, hV0, hB0, hG⟩ := hrel
    have Y0 : Hid (Box wr gv [.int .i64 x, .int .i64 y, .int .i64 z] ∧ Below w.heap.size w wr) := ⟨hV0, hB0⟩
    have HG : Hid (eokL 0 0 0 l ↔ eokL x y z (l.drop k)) := hG
    clear hV0 hB0 hG
    by_cases hkl : k < l.length
    · have hkl' : (k : Int) < (l.length : Int) := by omega
      have k0 : (0 : Int) ≤ (k : Int) := by omega
      rcases hr.out with h' | ⟨b, off, rfl, _, h2⟩
      · rw [h'] at hkl; simp at hkl
      have hc := (h2 k hkl).next Y0.out.2 (cell_lt (x := ⟨b, off + k * 8, none⟩) (h2 k hkl).1)
      have hks0 := hks _ (List.getElem_mem hkl)
      have hno : ¬ (evP l[k] ∧ stepP x y z l[k]) → ¬ eok l := eokL_no hkl HG.out
      have hye : (evP l[k] ∧ stepP x y z l[k]) → (eokL 0 0 0 l ↔ eokL (upd l[k].p l[k].n 0 x) (upd l[k].p l[k].n 1 y) (upd l[k].p l[k].n 2 z) (l.drop (k + 1))) := eokL_yes hkl HG.out
      clear h2 hr
      generalize l[k] = m at *
      obtain ⟨mp, mn, mk, mv, md, ma, mb, mc⟩ := m
      dsimp only [EAt] at hc hks0 hye
      obtain ⟨c0, c1, c2, c3, c4, c5, c6, c7⟩ := hc
      have HKS : Hid (mk.size < 1099511627776) := hks0
      have HNO : Hid (¬ (evP (Ev.mk mp mn mk mv md ma mb mc) ∧ stepP x y z (Ev.mk mp mn mk mv md ma mb mc)) → ¬ eok l) := hno
      have HYE : Hid ((evP (Ev.mk mp mn mk mv md ma mb mc) ∧ stepP x y z (Ev.mk mp mn mk mv md ma mb mc)) → (eokL 0 0 0 l ↔ eokL (upd mp mn 0 x) (upd mp mn 1 y) (upd mp mn 2 z) (l.drop (k + 1)))) := hye
      clear hks0 hno hye
      go_upto_region 8 with fail
      refine wp_gen (fun W => Box W wr.heap.size [.int .i64 mp, .int .i64 mn, .string mk, .int .i64 mv, .bool md, .int .i64 ma, .int .i64 mb, .int .i64 mc] ∧ Box W gv [.int .i64 x, .int .i64 y, .int .i64 z] ∧ Below wr.heap.size wr W) ⟨?_, ?_, ?_⟩ (fun W1 hI => ?_)
      · exact box_mk
      · exact Y0.out.1.alloc
      · exact bel_alloc _ _
      clear c0 c1 c2 c3 c4 c5 c6 c7
      have hlt : gv < wr.heap.size := Y0.out.1.lt
      obtain ⟨ge, hge⟩ : ∃ g, g = wr.heap.size := ⟨_, rfl⟩
      have Y : Hid (Box W1 ge [.int .i64 mp, .int .i64 mn, .string mk, .int .i64 mv, .bool md, .int .i64 ma, .int .i64 mb, .int .i64 mc] ∧ Box W1 gv [.int .i64 x, .int .i64 y, .int .i64 z] ∧ Below w.heap.size w W1) := ⟨by rw [hge]; exact hI.1, hI.2.1, Y0.out.2.trans (hI.2.2.mono Y0.out.2.size)⟩
      rw [← hge] at hlt ⊢
      clear hI hge Y0
      by_cases hd0 : dotB mp mn = true
      case neg =>
        have HN : Hid (¬ eok l) := HNO.out (fun h => hd0 h.1.1)
        have HD : Hid (dotB mp mn = false) := by show _ = _; cases hz : dotB mp mn with | false => rfl | true => exact (hd0 hz).elim
        clear HNO HYE HG hd0
        refine wp_region_held_drew (S := (fun w' => (w'.cell? ⟨ge, 0, none⟩ = some (.int .i64 mp) ∧ w'.cell? ⟨ge, 1, none⟩ = some (.int .i64 mn) ∧ w'.cell? ⟨ge, 2, none⟩ = some (.string mk) ∧ w'.cell? ⟨ge, 3, none⟩ = some (.int .i64 mv) ∧ w'.cell? ⟨ge, 4, none⟩ = some (.bool md) ∧ w'.cell? ⟨ge, 5, none⟩ = some (.int .i64 ma) ∧ w'.cell? ⟨ge, 6, none⟩ = some (.int .i64 mb) ∧ w'.cell? ⟨ge, 7, none⟩ = some (.int .i64 mc)) ∧ (w'.cell? ⟨gv, 0, none⟩ = some (.int .i64 x) ∧ w'.cell? ⟨gv, 1, none⟩ = some (.int .i64 y) ∧ w'.cell? ⟨gv, 2, none⟩ = some (.int .i64 z)))) (by kernel_rfl) ?_ (fun hHeld => ?_)
        · (try dsimp only)
          exact ⟨(Y.out.1.next (bel_drew _)).c8, (Y.out.2.1.next (bel_drew _)).c3⟩
        replace Y : Hid (Box W1.drew ge [.int .i64 mp, .int .i64 mn, .string mk, .int .i64 mv, .bool md, .int .i64 ma, .int .i64 mb, .int .i64 mc] ∧ Box W1.drew gv [.int .i64 x, .int .i64 y, .int .i64 z] ∧ Below w.heap.size w W1.drew) := ⟨Y.out.1.next (bel_drew _), Y.out.2.1.next (bel_drew _), Y.out.2.2.trans ((bel_drew _).mono Y.out.2.2.size)⟩
        generalize W1.drew = V1 at *
        refine wTk 0 ?_
        refine wTk 1 ?_
        refine wRd 2 (fun K hK => ?_)
        go_simp
        go_at_call 44
        refine (spec_dot mp mn _).mono ?_
        rintro e X5 ⟨rfl, hb⟩
        (try simp only [])
        replace Y : Hid (Box X5 ge [.int .i64 mp, .int .i64 mn, .string mk, .int .i64 mv, .bool md, .int .i64 ma, .int .i64 mb, .int .i64 mc] ∧ Box X5 gv [.int .i64 x, .int .i64 y, .int .i64 z] ∧ Below w.heap.size w X5) := ⟨Y.out.1.next hb, Y.out.2.1.next hb, Y.out.2.2.trans (hb.mono Y.out.2.2.size)⟩
        refine wHk hK ⟨Y.out.1.c8, Y.out.2.1.c3⟩ ?_
        clear hK K hHeld hb
        intro hHeld
        have hd : dotB mp mn = false := HD.out
        rw [hd]
        refine wTk 3 ?_
        refine wTk 4 ?_
        refine wTn 5 ?_
        refine wTn 6 ?_
        refine wTn 7 ?_
        refine wTn 8 ?_
        refine wTn 9 ?_
        refine wTn 10 ?_
        refine wTn 11 ?_
        refine wTn 12 ?_
        refine wTn 13 ?_
        refine wTn 14 ?_
        refine wTk 15 ?_
        refine wTk 16 ?_
        refine wTn 17 ?_
        refine wTn 18 ?_
        refine wTn 19 ?_
        refine wTn 20 ?_
        refine wTk 21 ?_
        refine wTk 22 ?_
        refine wTn 23 ?_
        refine wTn 24 ?_
        refine wTn 25 ?_
        refine wTn 26 ?_
        refine wTk 27 ?_
        refine wTk 28 ?_
        refine wTn 29 ?_
        refine wTn 30 ?_
        refine wTn 31 ?_
        refine wTn 32 ?_
        refine wTn 33 ?_
        refine wTn 34 ?_
        refine wTn 35 ?_
        refine wTk 36 ?_
        refine wTk 37 ?_
        refine wTn 38 ?_
        refine wTn 39 ?_
        refine wTn 40 ?_
        refine wTn 41 ?_
        refine wTk 42 ?_
        refine wTk 43 ?_
        refine wTn 44 ?_
        refine wTn 45 ?_
        refine wTn 46 ?_
        refine wTn 47 ?_
        refine wTn 48 ?_
        refine wTn 49 ?_
        refine wTk 50 ?_
        refine wpAnyH_done (by kernel_rfl) ?_ _
        clear hHeld
        go_wp2
        go_ret
        exact ⟨false, rfl, by simp [HN.out], Y.out.2.2⟩
      have HD : Hid (dotB mp mn = true) := hd0
      have hdn : 0 ≤ mp ∧ mp < 3 ∧ 1 ≤ mn ∧ mn ≤ 9999 := of_decide_eq_true hd0
      have HDN : Hid (0 ≤ mp ∧ mp < 3 ∧ 1 ≤ mn ∧ mn ≤ 9999) := hdn
      clear hd0 hdn
      obtain ⟨hp0, hp3, _, _⟩ := HDN.out
      have HP3 : Hid (mp = 0 ∨ mp = 1 ∨ mp = 2) := by show _ ∨ _; omega
      obtain ⟨q, hq⟩ : ∃ q, q = comp x y z mp := ⟨_, rfl⟩
      have HQC : Hid (q = comp x y z mp) := hq
      have HQI : Hid (∀ W, Box W gv [.int .i64 x, .int .i64 y, .int .i64 z] → W.cell? ⟨gv, mp.toNat, none⟩ = some (.int .i64 q)) := fun W hW => by
        obtain ⟨v0, v1, v2⟩ := hW.c3
        rcases HP3.out with rfl | rfl | rfl <;> simpa [hq, comp] using (by assumption)
      have hq9 : 0 ≤ q ∧ q ≤ 9999 := by
        rcases HP3.out with rfl | rfl | rfl <;> simp [hq, comp] <;> omega
      clear hq
      have hw1 : IntKind.i64.wrap (q + 1) = q + 1 := by rw [IntKind.wrap_i64]; omega
      by_cases hn : mn = q + 1
      case neg =>
        have HN : Hid (¬ eok l) := HNO.out (fun h => hn (by have := h.2.1; rw [HQC.out]; exact this))
        have hn' : (mn == q + 1) = false := beq_eq_false_iff_ne.2 hn
        have hn2 : (mn != q + 1) = true := by simp [bne, hn']
        clear HNO HYE HG hn HDN HP3 HQC hn'
        refine wp_region_held_drew (S := (fun w' => (w'.cell? ⟨ge, 0, none⟩ = some (.int .i64 mp) ∧ w'.cell? ⟨ge, 1, none⟩ = some (.int .i64 mn) ∧ w'.cell? ⟨ge, 2, none⟩ = some (.string mk) ∧ w'.cell? ⟨ge, 3, none⟩ = some (.int .i64 mv) ∧ w'.cell? ⟨ge, 4, none⟩ = some (.bool md) ∧ w'.cell? ⟨ge, 5, none⟩ = some (.int .i64 ma) ∧ w'.cell? ⟨ge, 6, none⟩ = some (.int .i64 mb) ∧ w'.cell? ⟨ge, 7, none⟩ = some (.int .i64 mc)) ∧ (w'.cell? ⟨gv, 0, none⟩ = some (.int .i64 x) ∧ w'.cell? ⟨gv, 1, none⟩ = some (.int .i64 y) ∧ w'.cell? ⟨gv, 2, none⟩ = some (.int .i64 z)) ∧ w'.cell? ⟨gv, mp.toNat, none⟩ = some (.int .i64 q))) (by kernel_rfl) ?_ (fun hHeld => ?_)
        · (try dsimp only)
          exact ⟨(Y.out.1.next (bel_drew _)).c8, (Y.out.2.1.next (bel_drew _)).c3, HQI.out _ (Y.out.2.1.next (bel_drew _))⟩
        replace Y : Hid (Box W1.drew ge [.int .i64 mp, .int .i64 mn, .string mk, .int .i64 mv, .bool md, .int .i64 ma, .int .i64 mb, .int .i64 mc] ∧ Box W1.drew gv [.int .i64 x, .int .i64 y, .int .i64 z] ∧ Below w.heap.size w W1.drew) := ⟨Y.out.1.next (bel_drew _), Y.out.2.1.next (bel_drew _), Y.out.2.2.trans ((bel_drew _).mono Y.out.2.2.size)⟩
        generalize W1.drew = V1 at *
        refine wTk 0 ?_
        refine wTk 1 ?_
        refine wRd 2 (fun K hK => ?_)
        go_simp
        go_at_call 44
        refine (spec_dot mp mn _).mono ?_
        rintro e X6 ⟨rfl, hb⟩
        (try simp only [])
        replace Y : Hid (Box X6 ge [.int .i64 mp, .int .i64 mn, .string mk, .int .i64 mv, .bool md, .int .i64 ma, .int .i64 mb, .int .i64 mc] ∧ Box X6 gv [.int .i64 x, .int .i64 y, .int .i64 z] ∧ Below w.heap.size w X6) := ⟨Y.out.1.next hb, Y.out.2.1.next hb, Y.out.2.2.trans (hb.mono Y.out.2.2.size)⟩
        refine wHk hK ⟨Y.out.1.c8, Y.out.2.1.c3, HQI.out _ Y.out.2.1⟩ ?_
        clear hK K hHeld hb
        intro hHeld
        have hd : dotB mp mn = true := HD.out
        rw [hd]
        refine wTk 3 ?_
        refine wTk 4 ?_
        refine wTk 5 ?_
        refine wTk 6 ?_
        refine wTk 7 ?_
        refine wTk 8 ?_
        refine wTk 9 ?_
        refine wTk 10 ?_
        refine wTk 11 ?_
        refine wTk 12 ?_
        refine wTk 13 ?_
        refine wTk 14 (v := .bool true) ?_
        refine wTk 15 ?_
        refine wTk 16 ?_
        refine wTn 17 ?_
        refine wTn 18 ?_
        refine wTn 19 ?_
        refine wTn 20 ?_
        refine wTk 21 ?_
        refine wTk 22 ?_
        refine wTn 23 ?_
        refine wTn 24 ?_
        refine wTn 25 ?_
        refine wTn 26 ?_
        refine wTk 27 ?_
        refine wTk 28 ?_
        refine wTn 29 ?_
        refine wTn 30 ?_
        refine wTn 31 ?_
        refine wTn 32 ?_
        refine wTn 33 ?_
        refine wTn 34 ?_
        refine wTn 35 ?_
        refine wTk 36 ?_
        refine wTk 37 ?_
        refine wTn 38 ?_
        refine wTn 39 ?_
        refine wTn 40 ?_
        refine wTn 41 ?_
        refine wTk 42 ?_
        refine wTk 43 ?_
        refine wTn 44 ?_
        refine wTn 45 ?_
        refine wTn 46 ?_
        refine wTn 47 ?_
        refine wTn 48 ?_
        refine wTn 49 ?_
        refine wTk 50 ?_
        refine wpAnyH_done (by kernel_rfl) ?_ _
        clear hHeld
        go_wp2
        go_ret
        exact ⟨false, rfl, by simp [HN.out], Y.out.2.2⟩
      have hn' : (mn == q + 1) = true := beq_iff_eq.2 hn
      have hn2 : (mn != q + 1) = false := by simp [bne, hn']
      have HN1 : Hid (mn = q + 1) := hn
      clear hn hn'
      by_cases hK : keyP mk
      case neg =>
        have HN : Hid (¬ eok l) := HNO.out (fun h => hK h.1.2.1)
        have HKf : Hid (¬ keyP mk) := hK
        clear HNO HYE HG hK
        refine wp_region_held_drew (S := (fun w' => (w'.cell? ⟨ge, 0, none⟩ = some (.int .i64 mp) ∧ w'.cell? ⟨ge, 1, none⟩ = some (.int .i64 mn) ∧ w'.cell? ⟨ge, 2, none⟩ = some (.string mk) ∧ w'.cell? ⟨ge, 3, none⟩ = some (.int .i64 mv) ∧ w'.cell? ⟨ge, 4, none⟩ = some (.bool md) ∧ w'.cell? ⟨ge, 5, none⟩ = some (.int .i64 ma) ∧ w'.cell? ⟨ge, 6, none⟩ = some (.int .i64 mb) ∧ w'.cell? ⟨ge, 7, none⟩ = some (.int .i64 mc)) ∧ (w'.cell? ⟨gv, 0, none⟩ = some (.int .i64 x) ∧ w'.cell? ⟨gv, 1, none⟩ = some (.int .i64 y) ∧ w'.cell? ⟨gv, 2, none⟩ = some (.int .i64 z)) ∧ w'.cell? ⟨gv, mp.toNat, none⟩ = some (.int .i64 q))) (by kernel_rfl) ?_ (fun hHeld => ?_)
        · (try dsimp only)
          exact ⟨(Y.out.1.next (bel_drew _)).c8, (Y.out.2.1.next (bel_drew _)).c3, HQI.out _ (Y.out.2.1.next (bel_drew _))⟩
        replace Y : Hid (Box W1.drew ge [.int .i64 mp, .int .i64 mn, .string mk, .int .i64 mv, .bool md, .int .i64 ma, .int .i64 mb, .int .i64 mc] ∧ Box W1.drew gv [.int .i64 x, .int .i64 y, .int .i64 z] ∧ Below w.heap.size w W1.drew) := ⟨Y.out.1.next (bel_drew _), Y.out.2.1.next (bel_drew _), Y.out.2.2.trans ((bel_drew _).mono Y.out.2.2.size)⟩
        generalize W1.drew = V1 at *
        refine wTk 0 ?_
        refine wTk 1 ?_
        refine wRd 2 (fun K hK => ?_)
        go_simp
        go_at_call 44
        refine (spec_dot mp mn _).mono ?_
        rintro e X6 ⟨rfl, hb⟩
        (try simp only [])
        replace Y : Hid (Box X6 ge [.int .i64 mp, .int .i64 mn, .string mk, .int .i64 mv, .bool md, .int .i64 ma, .int .i64 mb, .int .i64 mc] ∧ Box X6 gv [.int .i64 x, .int .i64 y, .int .i64 z] ∧ Below w.heap.size w X6) := ⟨Y.out.1.next hb, Y.out.2.1.next hb, Y.out.2.2.trans (hb.mono Y.out.2.2.size)⟩
        refine wHk hK ⟨Y.out.1.c8, Y.out.2.1.c3, HQI.out _ Y.out.2.1⟩ ?_
        clear hK K hHeld hb
        intro hHeld
        have hd : dotB mp mn = true := HD.out
        rw [hd]
        refine wTk 3 ?_
        refine wTk 4 ?_
        refine wTk 5 ?_
        refine wTk 6 ?_
        refine wTk 7 ?_
        refine wTk 8 ?_
        refine wTk 9 ?_
        refine wTk 10 ?_
        refine wTk 11 ?_
        refine wTk 12 ?_
        refine wTk 13 ?_
        refine wTk 14 (v := .bool false) ?_
        refine wTk 15 ?_
        refine wTk 16 ?_
        refine wTk 17 ?_
        refine wTk 18 ?_
        refine wRd 19 (fun K hK => ?_)
        go_simp
        go_at_call 29
        refine (specKey_any mk false (by simp [HKf.out]) _ HKS.out).mono ?_
        rintro e V2 ⟨rfl, rfl⟩
        (try simp only [])
        refine wHk hK ⟨Y.out.1.c8, Y.out.2.1.c3, HQI.out _ Y.out.2.1⟩ ?_
        clear hK K hHeld
        intro hHeld
        refine wTk 20 ?_
        refine wTk 21 ?_
        refine wTk 22 ?_
        refine wTn 23 ?_
        refine wTn 24 ?_
        refine wTn 25 ?_
        refine wTn 26 ?_
        refine wTk 27 ?_
        refine wTk 28 ?_
        refine wTn 29 ?_
        refine wTn 30 ?_
        refine wTn 31 ?_
        refine wTn 32 ?_
        refine wTn 33 ?_
        refine wTn 34 ?_
        refine wTn 35 ?_
        refine wTk 36 ?_
        refine wTk 37 ?_
        refine wTn 38 ?_
        refine wTn 39 ?_
        refine wTn 40 ?_
        refine wTn 41 ?_
        refine wTk 42 ?_
        refine wTk 43 ?_
        refine wTn 44 ?_
        refine wTn 45 ?_
        refine wTn 46 ?_
        refine wTn 47 ?_
        refine wTn 48 ?_
        refine wTn 49 ?_
        refine wTk 50 ?_
        refine wpAnyH_done (by kernel_rfl) ?_ _
        clear hHeld
        go_wp2
        go_ret
        exact ⟨false, rfl, by simp [HN.out], Y.out.2.2⟩
      have HKt : Hid (keyP mk) := hK
      clear hK
      by_cases hvr : 0 ≤ mv ∧ mv ≤ 999
      case neg =>
        have HN : Hid (¬ eok l) := HNO.out (fun h => hvr h.1.2.2.1.1)
        have HVf : Hid (¬ (0 ≤ mv ∧ mv ≤ 999)) := hvr
        clear HNO HYE HG hvr
        refine wp_region_held_drew (S := (fun w' => (w'.cell? ⟨ge, 0, none⟩ = some (.int .i64 mp) ∧ w'.cell? ⟨ge, 1, none⟩ = some (.int .i64 mn) ∧ w'.cell? ⟨ge, 2, none⟩ = some (.string mk) ∧ w'.cell? ⟨ge, 3, none⟩ = some (.int .i64 mv) ∧ w'.cell? ⟨ge, 4, none⟩ = some (.bool md) ∧ w'.cell? ⟨ge, 5, none⟩ = some (.int .i64 ma) ∧ w'.cell? ⟨ge, 6, none⟩ = some (.int .i64 mb) ∧ w'.cell? ⟨ge, 7, none⟩ = some (.int .i64 mc)) ∧ (w'.cell? ⟨gv, 0, none⟩ = some (.int .i64 x) ∧ w'.cell? ⟨gv, 1, none⟩ = some (.int .i64 y) ∧ w'.cell? ⟨gv, 2, none⟩ = some (.int .i64 z)) ∧ w'.cell? ⟨gv, mp.toNat, none⟩ = some (.int .i64 q))) (by kernel_rfl) ?_ (fun hHeld => ?_)
        · (try dsimp only)
          exact ⟨(Y.out.1.next (bel_drew _)).c8, (Y.out.2.1.next (bel_drew _)).c3, HQI.out _ (Y.out.2.1.next (bel_drew _))⟩
        replace Y : Hid (Box W1.drew ge [.int .i64 mp, .int .i64 mn, .string mk, .int .i64 mv, .bool md, .int .i64 ma, .int .i64 mb, .int .i64 mc] ∧ Box W1.drew gv [.int .i64 x, .int .i64 y, .int .i64 z] ∧ Below w.heap.size w W1.drew) := ⟨Y.out.1.next (bel_drew _), Y.out.2.1.next (bel_drew _), Y.out.2.2.trans ((bel_drew _).mono Y.out.2.2.size)⟩
        generalize W1.drew = V1 at *
        refine wTk 0 ?_
        refine wTk 1 ?_
        refine wRd 2 (fun K hK => ?_)
        go_simp
        go_at_call 44
        refine (spec_dot mp mn _).mono ?_
        rintro e X6 ⟨rfl, hb⟩
        (try simp only [])
        replace Y : Hid (Box X6 ge [.int .i64 mp, .int .i64 mn, .string mk, .int .i64 mv, .bool md, .int .i64 ma, .int .i64 mb, .int .i64 mc] ∧ Box X6 gv [.int .i64 x, .int .i64 y, .int .i64 z] ∧ Below w.heap.size w X6) := ⟨Y.out.1.next hb, Y.out.2.1.next hb, Y.out.2.2.trans (hb.mono Y.out.2.2.size)⟩
        refine wHk hK ⟨Y.out.1.c8, Y.out.2.1.c3, HQI.out _ Y.out.2.1⟩ ?_
        clear hK K hHeld hb
        intro hHeld
        have hd : dotB mp mn = true := HD.out
        rw [hd]
        refine wTk 3 ?_
        refine wTk 4 ?_
        refine wTk 5 ?_
        refine wTk 6 ?_
        refine wTk 7 ?_
        refine wTk 8 ?_
        refine wTk 9 ?_
        refine wTk 10 ?_
        refine wTk 11 ?_
        refine wTk 12 ?_
        refine wTk 13 ?_
        refine wTk 14 (v := .bool false) ?_
        refine wTk 15 ?_
        refine wTk 16 ?_
        refine wTk 17 ?_
        refine wTk 18 ?_
        refine wRd 19 (fun K hK => ?_)
        go_simp
        go_at_call 29
        refine (specKey_any mk true (by simp [HKt.out]) _ HKS.out).mono ?_
        rintro e V2 ⟨rfl, rfl⟩
        (try simp only [])
        refine wHk hK ⟨Y.out.1.c8, Y.out.2.1.c3, HQI.out _ Y.out.2.1⟩ ?_
        clear hK K hHeld
        intro hHeld
        refine wTk 20 ?_
        refine wTk 21 ?_
        refine wTk 22 ?_
        refine wTk 23 ?_
        refine wTk 24 ?_
        refine wRd 25 (fun K hK => ?_)
        go_simp
        go_at_call 45
        refine (in_no _ _ _ _ HVf.out).mono ?_
        rintro e V2 ⟨rfl, rfl⟩
        (try simp only [])
        refine wHk hK ⟨Y.out.1.c8, Y.out.2.1.c3, HQI.out _ Y.out.2.1⟩ ?_
        clear hK K hHeld
        intro hHeld
        refine wTk 26 ?_
        refine wTk 27 ?_
        refine wTk 28 ?_
        refine wTn 29 ?_
        refine wTn 30 ?_
        refine wTn 31 ?_
        refine wTn 32 ?_
        refine wTn 33 ?_
        refine wTn 34 ?_
        refine wTn 35 ?_
        refine wTk 36 ?_
        refine wTk 37 ?_
        refine wTn 38 ?_
        refine wTn 39 ?_
        refine wTn 40 ?_
        refine wTn 41 ?_
        refine wTk 42 ?_
        refine wTk 43 ?_
        refine wTn 44 ?_
        refine wTn 45 ?_
        refine wTn 46 ?_
        refine wTn 47 ?_
        refine wTn 48 ?_
        refine wTn 49 ?_
        refine wTk 50 ?_
        refine wpAnyH_done (by kernel_rfl) ?_ _
        clear hHeld
        go_wp2
        go_ret
        exact ⟨false, rfl, by simp [HN.out], Y.out.2.2⟩
      have HVr : Hid (0 ≤ mv ∧ mv ≤ 999) := hvr
      clear hvr
      cases md
      case false =>
        by_cases hvv : vvB ma mb mc = true
        case neg =>
          have HN : Hid (¬ eok l) := HNO.out (fun h => hvv h.1.2.2.2)
          have HVV : Hid (vvB ma mb mc = false) := by show _ = _; cases hz : vvB ma mb mc with | false => rfl | true => exact (hvv hz).elim
          clear HNO HYE HG hvv
          refine wp_region_held_drew (S := (fun w' => (w'.cell? ⟨ge, 0, none⟩ = some (.int .i64 mp) ∧ w'.cell? ⟨ge, 1, none⟩ = some (.int .i64 mn) ∧ w'.cell? ⟨ge, 2, none⟩ = some (.string mk) ∧ w'.cell? ⟨ge, 3, none⟩ = some (.int .i64 mv) ∧ w'.cell? ⟨ge, 4, none⟩ = some (.bool false) ∧ w'.cell? ⟨ge, 5, none⟩ = some (.int .i64 ma) ∧ w'.cell? ⟨ge, 6, none⟩ = some (.int .i64 mb) ∧ w'.cell? ⟨ge, 7, none⟩ = some (.int .i64 mc)) ∧ (w'.cell? ⟨gv, 0, none⟩ = some (.int .i64 x) ∧ w'.cell? ⟨gv, 1, none⟩ = some (.int .i64 y) ∧ w'.cell? ⟨gv, 2, none⟩ = some (.int .i64 z)) ∧ w'.cell? ⟨gv, mp.toNat, none⟩ = some (.int .i64 q))) (by kernel_rfl) ?_ (fun hHeld => ?_)
          · (try dsimp only)
            exact ⟨(Y.out.1.next (bel_drew _)).c8, (Y.out.2.1.next (bel_drew _)).c3, HQI.out _ (Y.out.2.1.next (bel_drew _))⟩
          replace Y : Hid (Box W1.drew ge [.int .i64 mp, .int .i64 mn, .string mk, .int .i64 mv, .bool false, .int .i64 ma, .int .i64 mb, .int .i64 mc] ∧ Box W1.drew gv [.int .i64 x, .int .i64 y, .int .i64 z] ∧ Below w.heap.size w W1.drew) := ⟨Y.out.1.next (bel_drew _), Y.out.2.1.next (bel_drew _), Y.out.2.2.trans ((bel_drew _).mono Y.out.2.2.size)⟩
          generalize W1.drew = V1 at *
          refine wTk 0 ?_
          refine wTk 1 ?_
          refine wRd 2 (fun K hK => ?_)
          go_simp
          go_at_call 44
          refine (spec_dot mp mn _).mono ?_
          rintro e X6 ⟨rfl, hb⟩
          (try simp only [])
          replace Y : Hid (Box X6 ge [.int .i64 mp, .int .i64 mn, .string mk, .int .i64 mv, .bool false, .int .i64 ma, .int .i64 mb, .int .i64 mc] ∧ Box X6 gv [.int .i64 x, .int .i64 y, .int .i64 z] ∧ Below w.heap.size w X6) := ⟨Y.out.1.next hb, Y.out.2.1.next hb, Y.out.2.2.trans (hb.mono Y.out.2.2.size)⟩
          refine wHk hK ⟨Y.out.1.c8, Y.out.2.1.c3, HQI.out _ Y.out.2.1⟩ ?_
          clear hK K hHeld hb
          intro hHeld
          have hd : dotB mp mn = true := HD.out
          rw [hd]
          refine wTk 3 ?_
          refine wTk 4 ?_
          refine wTk 5 ?_
          refine wTk 6 ?_
          refine wTk 7 ?_
          refine wTk 8 ?_
          refine wTk 9 ?_
          refine wTk 10 ?_
          refine wTk 11 ?_
          refine wTk 12 ?_
          refine wTk 13 ?_
          refine wTk 14 (v := .bool false) ?_
          refine wTk 15 ?_
          refine wTk 16 ?_
          refine wTk 17 ?_
          refine wTk 18 ?_
          refine wRd 19 (fun K hK => ?_)
          go_simp
          go_at_call 29
          refine (specKey_any mk true (by simp [HKt.out]) _ HKS.out).mono ?_
          rintro e V2 ⟨rfl, rfl⟩
          (try simp only [])
          refine wHk hK ⟨Y.out.1.c8, Y.out.2.1.c3, HQI.out _ Y.out.2.1⟩ ?_
          clear hK K hHeld
          intro hHeld
          refine wTk 20 ?_
          refine wTk 21 ?_
          refine wTk 22 ?_
          refine wTk 23 ?_
          refine wTk 24 ?_
          refine wRd 25 (fun K hK => ?_)
          go_simp
          go_at_call 45
          refine (in_yes _ _ _ _ HVr.out.1 HVr.out.2).mono ?_
          rintro e V2 ⟨rfl, rfl⟩
          (try simp only [])
          refine wHk hK ⟨Y.out.1.c8, Y.out.2.1.c3, HQI.out _ Y.out.2.1⟩ ?_
          clear hK K hHeld
          intro hHeld
          refine wTk 26 ?_
          refine wTk 27 ?_
          refine wTk 28 ?_
          refine wTk 29 ?_
          refine wTk 30 ?_
          refine wTk 31 ?_
          refine wTn 32 ?_
          refine wTn 33 ?_
          refine wTn 34 ?_
          refine wTk 35 ?_
          refine wTk 36 ?_
          refine wTk 37 ?_
          refine wTk 38 ?_
          refine wTk 39 ?_
          refine wRd 40 (fun K hK => ?_)
          go_simp
          go_at_call 46
          refine (spec_vv ma mb mc _).mono ?_
          rintro e X7 ⟨rfl, hb⟩
          (try simp only [])
          replace Y : Hid (Box X7 ge [.int .i64 mp, .int .i64 mn, .string mk, .int .i64 mv, .bool false, .int .i64 ma, .int .i64 mb, .int .i64 mc] ∧ Box X7 gv [.int .i64 x, .int .i64 y, .int .i64 z] ∧ Below w.heap.size w X7) := ⟨Y.out.1.next hb, Y.out.2.1.next hb, Y.out.2.2.trans (hb.mono Y.out.2.2.size)⟩
          refine wHk hK ⟨Y.out.1.c8, Y.out.2.1.c3, HQI.out _ Y.out.2.1⟩ ?_
          clear hK K hHeld hb
          intro hHeld
          have hd : vvB ma mb mc = false := HVV.out
          rw [hd]
          refine wTk 41 ?_
          refine wTk 42 ?_
          refine wTk 43 ?_
          refine wTn 44 ?_
          refine wTn 45 ?_
          refine wTn 46 ?_
          refine wTn 47 ?_
          refine wTn 48 ?_
          refine wTn 49 ?_
          refine wTk 50 ?_
          refine wpAnyH_done (by kernel_rfl) ?_ _
          clear hHeld
          go_wp2
          go_ret
          exact ⟨false, rfl, by simp [HN.out], Y.out.2.2⟩
        have HVV : Hid (vvB ma mb mc = true) := hvv
        clear hvv
        by_cases hk3 : knowP ma mb mc x y z
        case neg =>
          have HN : Hid (¬ eok l) := HNO.out (fun h => hk3 h.2.2)
          have HKN : Hid (¬ knowP ma mb mc x y z) := hk3
          clear HNO HYE HG hk3
          refine wp_region_held_drew (S := (fun w' => (w'.cell? ⟨ge, 0, none⟩ = some (.int .i64 mp) ∧ w'.cell? ⟨ge, 1, none⟩ = some (.int .i64 mn) ∧ w'.cell? ⟨ge, 2, none⟩ = some (.string mk) ∧ w'.cell? ⟨ge, 3, none⟩ = some (.int .i64 mv) ∧ w'.cell? ⟨ge, 4, none⟩ = some (.bool false) ∧ w'.cell? ⟨ge, 5, none⟩ = some (.int .i64 ma) ∧ w'.cell? ⟨ge, 6, none⟩ = some (.int .i64 mb) ∧ w'.cell? ⟨ge, 7, none⟩ = some (.int .i64 mc)) ∧ (w'.cell? ⟨gv, 0, none⟩ = some (.int .i64 x) ∧ w'.cell? ⟨gv, 1, none⟩ = some (.int .i64 y) ∧ w'.cell? ⟨gv, 2, none⟩ = some (.int .i64 z)) ∧ w'.cell? ⟨gv, mp.toNat, none⟩ = some (.int .i64 q))) (by kernel_rfl) ?_ (fun hHeld => ?_)
          · (try dsimp only)
            exact ⟨(Y.out.1.next (bel_drew _)).c8, (Y.out.2.1.next (bel_drew _)).c3, HQI.out _ (Y.out.2.1.next (bel_drew _))⟩
          replace Y : Hid (Box W1.drew ge [.int .i64 mp, .int .i64 mn, .string mk, .int .i64 mv, .bool false, .int .i64 ma, .int .i64 mb, .int .i64 mc] ∧ Box W1.drew gv [.int .i64 x, .int .i64 y, .int .i64 z] ∧ Below w.heap.size w W1.drew) := ⟨Y.out.1.next (bel_drew _), Y.out.2.1.next (bel_drew _), Y.out.2.2.trans ((bel_drew _).mono Y.out.2.2.size)⟩
          generalize W1.drew = V1 at *
          refine wTk 0 ?_
          refine wTk 1 ?_
          refine wRd 2 (fun K hK => ?_)
          go_simp
          go_at_call 44
          refine (spec_dot mp mn _).mono ?_
          rintro e X6 ⟨rfl, hb⟩
          (try simp only [])
          replace Y : Hid (Box X6 ge [.int .i64 mp, .int .i64 mn, .string mk, .int .i64 mv, .bool false, .int .i64 ma, .int .i64 mb, .int .i64 mc] ∧ Box X6 gv [.int .i64 x, .int .i64 y, .int .i64 z] ∧ Below w.heap.size w X6) := ⟨Y.out.1.next hb, Y.out.2.1.next hb, Y.out.2.2.trans (hb.mono Y.out.2.2.size)⟩
          refine wHk hK ⟨Y.out.1.c8, Y.out.2.1.c3, HQI.out _ Y.out.2.1⟩ ?_
          clear hK K hHeld hb
          intro hHeld
          have hd : dotB mp mn = true := HD.out
          rw [hd]
          refine wTk 3 ?_
          refine wTk 4 ?_
          refine wTk 5 ?_
          refine wTk 6 ?_
          refine wTk 7 ?_
          refine wTk 8 ?_
          refine wTk 9 ?_
          refine wTk 10 ?_
          refine wTk 11 ?_
          refine wTk 12 ?_
          refine wTk 13 ?_
          refine wTk 14 (v := .bool false) ?_
          refine wTk 15 ?_
          refine wTk 16 ?_
          refine wTk 17 ?_
          refine wTk 18 ?_
          refine wRd 19 (fun K hK => ?_)
          go_simp
          go_at_call 29
          refine (specKey_any mk true (by simp [HKt.out]) _ HKS.out).mono ?_
          rintro e V2 ⟨rfl, rfl⟩
          (try simp only [])
          refine wHk hK ⟨Y.out.1.c8, Y.out.2.1.c3, HQI.out _ Y.out.2.1⟩ ?_
          clear hK K hHeld
          intro hHeld
          refine wTk 20 ?_
          refine wTk 21 ?_
          refine wTk 22 ?_
          refine wTk 23 ?_
          refine wTk 24 ?_
          refine wRd 25 (fun K hK => ?_)
          go_simp
          go_at_call 45
          refine (in_yes _ _ _ _ HVr.out.1 HVr.out.2).mono ?_
          rintro e V2 ⟨rfl, rfl⟩
          (try simp only [])
          refine wHk hK ⟨Y.out.1.c8, Y.out.2.1.c3, HQI.out _ Y.out.2.1⟩ ?_
          clear hK K hHeld
          intro hHeld
          refine wTk 26 ?_
          refine wTk 27 ?_
          refine wTk 28 ?_
          refine wTk 29 ?_
          refine wTk 30 ?_
          refine wTk 31 ?_
          refine wTn 32 ?_
          refine wTn 33 ?_
          refine wTn 34 ?_
          refine wTk 35 ?_
          refine wTk 36 ?_
          refine wTk 37 ?_
          refine wTk 38 ?_
          refine wTk 39 ?_
          refine wRd 40 (fun K hK => ?_)
          go_simp
          go_at_call 46
          refine (spec_vv ma mb mc _).mono ?_
          rintro e X8 ⟨rfl, hb⟩
          (try simp only [])
          replace Y : Hid (Box X8 ge [.int .i64 mp, .int .i64 mn, .string mk, .int .i64 mv, .bool false, .int .i64 ma, .int .i64 mb, .int .i64 mc] ∧ Box X8 gv [.int .i64 x, .int .i64 y, .int .i64 z] ∧ Below w.heap.size w X8) := ⟨Y.out.1.next hb, Y.out.2.1.next hb, Y.out.2.2.trans (hb.mono Y.out.2.2.size)⟩
          refine wHk hK ⟨Y.out.1.c8, Y.out.2.1.c3, HQI.out _ Y.out.2.1⟩ ?_
          clear hK K hHeld hb
          intro hHeld
          have hd : vvB ma mb mc = true := HVV.out
          rw [hd]
          refine wTk 41 ?_
          refine wTk 42 ?_
          refine wTk 43 ?_
          refine wTk 44 ?_
          refine wTk 45 ?_
          refine wTk 46 ?_
          refine wTk 47 ?_
          refine wRd 48 (fun K hK => ?_)
          go_simp
          go_at_call 55
          refine (known_any ma mb mc x y z _).mono ?_
          rintro e X9 ⟨rr, rfl, hq, hb⟩
          (try simp only [])
          obtain rfl : rr = false := by
            cases rr; rfl; exact (HKN.out (hq.1 rfl)).elim
          replace Y : Hid (Box X9 ge [.int .i64 mp, .int .i64 mn, .string mk, .int .i64 mv, .bool false, .int .i64 ma, .int .i64 mb, .int .i64 mc] ∧ Box X9 gv [.int .i64 x, .int .i64 y, .int .i64 z] ∧ Below w.heap.size w X9) := ⟨Y.out.1.next hb, Y.out.2.1.next hb, Y.out.2.2.trans (hb.mono Y.out.2.2.size)⟩
          refine wHk hK ⟨Y.out.1.c8, Y.out.2.1.c3, HQI.out _ Y.out.2.1⟩ ?_
          clear hK K hHeld hb hq
          intro hHeld
          refine wTk 49 ?_
          refine wTk 50 ?_
          refine wpAnyH_done (by kernel_rfl) ?_ _
          clear hHeld
          go_wp2
          go_ret
          exact ⟨false, rfl, by simp [HN.out], Y.out.2.2⟩
        have HKN : Hid (knowP ma mb mc x y z) := hk3
        have HT : Hid (eokL 0 0 0 l ↔ eokL (upd mp mn 0 x) (upd mp mn 1 y) (upd mp mn 2 z) (l.drop (k + 1))) := HYE.out ⟨⟨HD.out, HKt.out, ⟨HVr.out, fun h => by cases h⟩, HVV.out⟩, by show mn = _; rw [← HQC.out]; exact HN1.out, hk3⟩
        clear hk3 HNO HYE HG
        refine wp_region_held_drew (S := (fun w' => (w'.cell? ⟨ge, 0, none⟩ = some (.int .i64 mp) ∧ w'.cell? ⟨ge, 1, none⟩ = some (.int .i64 mn) ∧ w'.cell? ⟨ge, 2, none⟩ = some (.string mk) ∧ w'.cell? ⟨ge, 3, none⟩ = some (.int .i64 mv) ∧ w'.cell? ⟨ge, 4, none⟩ = some (.bool false) ∧ w'.cell? ⟨ge, 5, none⟩ = some (.int .i64 ma) ∧ w'.cell? ⟨ge, 6, none⟩ = some (.int .i64 mb) ∧ w'.cell? ⟨ge, 7, none⟩ = some (.int .i64 mc)) ∧ (w'.cell? ⟨gv, 0, none⟩ = some (.int .i64 x) ∧ w'.cell? ⟨gv, 1, none⟩ = some (.int .i64 y) ∧ w'.cell? ⟨gv, 2, none⟩ = some (.int .i64 z)) ∧ w'.cell? ⟨gv, mp.toNat, none⟩ = some (.int .i64 q))) (by kernel_rfl) ?_ (fun hHeld => ?_)
        · (try dsimp only)
          exact ⟨(Y.out.1.next (bel_drew _)).c8, (Y.out.2.1.next (bel_drew _)).c3, HQI.out _ (Y.out.2.1.next (bel_drew _))⟩
        replace Y : Hid (Box W1.drew ge [.int .i64 mp, .int .i64 mn, .string mk, .int .i64 mv, .bool false, .int .i64 ma, .int .i64 mb, .int .i64 mc] ∧ Box W1.drew gv [.int .i64 x, .int .i64 y, .int .i64 z] ∧ Below w.heap.size w W1.drew) := ⟨Y.out.1.next (bel_drew _), Y.out.2.1.next (bel_drew _), Y.out.2.2.trans ((bel_drew _).mono Y.out.2.2.size)⟩
        generalize W1.drew = V1 at *
        refine wTk 0 ?_
        refine wTk 1 ?_
        refine wRd 2 (fun K hK => ?_)
        go_simp
        go_at_call 44
        refine (spec_dot mp mn _).mono ?_
        rintro e X6 ⟨rfl, hb⟩
        (try simp only [])
        replace Y : Hid (Box X6 ge [.int .i64 mp, .int .i64 mn, .string mk, .int .i64 mv, .bool false, .int .i64 ma, .int .i64 mb, .int .i64 mc] ∧ Box X6 gv [.int .i64 x, .int .i64 y, .int .i64 z] ∧ Below w.heap.size w X6) := ⟨Y.out.1.next hb, Y.out.2.1.next hb, Y.out.2.2.trans (hb.mono Y.out.2.2.size)⟩
        refine wHk hK ⟨Y.out.1.c8, Y.out.2.1.c3, HQI.out _ Y.out.2.1⟩ ?_
        clear hK K hHeld hb
        intro hHeld
        have hd : dotB mp mn = true := HD.out
        rw [hd]
        refine wTk 3 ?_
        refine wTk 4 ?_
        refine wTk 5 ?_
        refine wTk 6 ?_
        refine wTk 7 ?_
        refine wTk 8 ?_
        refine wTk 9 ?_
        refine wTk 10 ?_
        refine wTk 11 ?_
        refine wTk 12 ?_
        refine wTk 13 ?_
        refine wTk 14 (v := .bool false) ?_
        refine wTk 15 ?_
        refine wTk 16 ?_
        refine wTk 17 ?_
        refine wTk 18 ?_
        refine wRd 19 (fun K hK => ?_)
        go_simp
        go_at_call 29
        refine (specKey_any mk true (by simp [HKt.out]) _ HKS.out).mono ?_
        rintro e V2 ⟨rfl, rfl⟩
        (try simp only [])
        refine wHk hK ⟨Y.out.1.c8, Y.out.2.1.c3, HQI.out _ Y.out.2.1⟩ ?_
        clear hK K hHeld
        intro hHeld
        refine wTk 20 ?_
        refine wTk 21 ?_
        refine wTk 22 ?_
        refine wTk 23 ?_
        refine wTk 24 ?_
        refine wRd 25 (fun K hK => ?_)
        go_simp
        go_at_call 45
        refine (in_yes _ _ _ _ HVr.out.1 HVr.out.2).mono ?_
        rintro e V2 ⟨rfl, rfl⟩
        (try simp only [])
        refine wHk hK ⟨Y.out.1.c8, Y.out.2.1.c3, HQI.out _ Y.out.2.1⟩ ?_
        clear hK K hHeld
        intro hHeld
        refine wTk 26 ?_
        refine wTk 27 ?_
        refine wTk 28 ?_
        refine wTk 29 ?_
        refine wTk 30 ?_
        refine wTk 31 ?_
        refine wTn 32 ?_
        refine wTn 33 ?_
        refine wTn 34 ?_
        refine wTk 35 ?_
        refine wTk 36 ?_
        refine wTk 37 ?_
        refine wTk 38 ?_
        refine wTk 39 ?_
        refine wRd 40 (fun K hK => ?_)
        go_simp
        go_at_call 46
        refine (spec_vv ma mb mc _).mono ?_
        rintro e X10 ⟨rfl, hb⟩
        (try simp only [])
        replace Y : Hid (Box X10 ge [.int .i64 mp, .int .i64 mn, .string mk, .int .i64 mv, .bool false, .int .i64 ma, .int .i64 mb, .int .i64 mc] ∧ Box X10 gv [.int .i64 x, .int .i64 y, .int .i64 z] ∧ Below w.heap.size w X10) := ⟨Y.out.1.next hb, Y.out.2.1.next hb, Y.out.2.2.trans (hb.mono Y.out.2.2.size)⟩
        refine wHk hK ⟨Y.out.1.c8, Y.out.2.1.c3, HQI.out _ Y.out.2.1⟩ ?_
        clear hK K hHeld hb
        intro hHeld
        have hd : vvB ma mb mc = true := HVV.out
        rw [hd]
        refine wTk 41 ?_
        refine wTk 42 ?_
        refine wTk 43 ?_
        refine wTk 44 ?_
        refine wTk 45 ?_
        refine wTk 46 ?_
        refine wTk 47 ?_
        refine wRd 48 (fun K hK => ?_)
        go_simp
        go_at_call 55
        refine (known_any ma mb mc x y z _).mono ?_
        rintro e X11 ⟨rr, rfl, hq, hb⟩
        (try simp only [])
        obtain rfl : rr = true := by
          exact hq.2 HKN.out
        replace Y : Hid (Box X11 ge [.int .i64 mp, .int .i64 mn, .string mk, .int .i64 mv, .bool false, .int .i64 ma, .int .i64 mb, .int .i64 mc] ∧ Box X11 gv [.int .i64 x, .int .i64 y, .int .i64 z] ∧ Below w.heap.size w X11) := ⟨Y.out.1.next hb, Y.out.2.1.next hb, Y.out.2.2.trans (hb.mono Y.out.2.2.size)⟩
        refine wHk hK ⟨Y.out.1.c8, Y.out.2.1.c3, HQI.out _ Y.out.2.1⟩ ?_
        clear hK K hHeld hb hq
        intro hHeld
        refine wTk 49 ?_
        refine wTk 50 ?_
        refine wpAnyH_done (by kernel_rfl) ?_ _
        clear hHeld
        obtain ⟨e0, e1, e2, e3, e4, e5, e6, e7⟩ := Y.out.1.c8
        obtain ⟨v0, v1, v2⟩ := Y.out.2.1.c3
        clear hn2 hw1
        go_wp2_with fail
        refine (add_any x y z mp mn _ hp0 hp3 (by rw [← HQC.out, HN1.out]; omega)).mono ?_
        rintro e1 W5 ⟨rfl, hb⟩
        replace Y : Hid (Box W5 ge [.int .i64 mp, .int .i64 mn, .string mk, .int .i64 mv, .bool false, .int .i64 ma, .int .i64 mb, .int .i64 mc] ∧ Box W5 gv [.int .i64 x, .int .i64 y, .int .i64 z] ∧ Below w.heap.size w W5) := ⟨Y.out.1.next hb, Y.out.2.1.next hb, Y.out.2.2.trans (hb.mono Y.out.2.2.size)⟩
        clear hb e0 e1 e2 e3 e4 e5 e6 e7 v0 v1 v2
        have hbd : (0 ≤ upd mp mn 0 x ∧ upd mp mn 0 x ≤ 9999) ∧ (0 ≤ upd mp mn 1 y ∧ upd mp mn 1 y ≤ 9999) ∧ (0 ≤ upd mp mn 2 z ∧ upd mp mn 2 z ≤ 9999) := by
          have := HDN.out
          unfold upd
          (repeat' split) <;> omega
        have HX : Hid _ := hbd
        clear hbd
        obtain ⟨v0, v1, v2⟩ := Y.out.2.1.c3
        obtain ⟨u0, u1, u2⟩ := Y.out.2.1.f3
        go_wp2_with fail
        go_roundw
        case rel =>
          refine ⟨k + 1, upd mp mn 0 x, upd mp mn 1 y, upd mp mn 2 z, by omega, by go_num, HX.out, Y.out.2.1.s3, ?_, HT.out⟩
          exact bel_in (bel_in (bel_in Y.out.2.2 (by have := HV.out; omega)) (by have := HV.out; omega)) (by have := HV.out; omega)
        case measure => simp [intOf]; omega
      case true =>
        by_cases hv0 : mv = 0
        case neg =>
          have HN : Hid (¬ eok l) := HNO.out (fun h => hv0 (h.1.2.2.1.2 rfl))
          have hn4 : (mv == 0) = false := beq_eq_false_iff_ne.2 hv0
          have hn3 : (mv != 0) = true := by simp [bne, hn4]
          clear HNO HYE HG hv0 hn4
          refine wp_region_held_drew (S := (fun w' => (w'.cell? ⟨ge, 0, none⟩ = some (.int .i64 mp) ∧ w'.cell? ⟨ge, 1, none⟩ = some (.int .i64 mn) ∧ w'.cell? ⟨ge, 2, none⟩ = some (.string mk) ∧ w'.cell? ⟨ge, 3, none⟩ = some (.int .i64 mv) ∧ w'.cell? ⟨ge, 4, none⟩ = some (.bool true) ∧ w'.cell? ⟨ge, 5, none⟩ = some (.int .i64 ma) ∧ w'.cell? ⟨ge, 6, none⟩ = some (.int .i64 mb) ∧ w'.cell? ⟨ge, 7, none⟩ = some (.int .i64 mc)) ∧ (w'.cell? ⟨gv, 0, none⟩ = some (.int .i64 x) ∧ w'.cell? ⟨gv, 1, none⟩ = some (.int .i64 y) ∧ w'.cell? ⟨gv, 2, none⟩ = some (.int .i64 z)) ∧ w'.cell? ⟨gv, mp.toNat, none⟩ = some (.int .i64 q))) (by kernel_rfl) ?_ (fun hHeld => ?_)
          · (try dsimp only)
            exact ⟨(Y.out.1.next (bel_drew _)).c8, (Y.out.2.1.next (bel_drew _)).c3, HQI.out _ (Y.out.2.1.next (bel_drew _))⟩
          replace Y : Hid (Box W1.drew ge [.int .i64 mp, .int .i64 mn, .string mk, .int .i64 mv, .bool true, .int .i64 ma, .int .i64 mb, .int .i64 mc] ∧ Box W1.drew gv [.int .i64 x, .int .i64 y, .int .i64 z] ∧ Below w.heap.size w W1.drew) := ⟨Y.out.1.next (bel_drew _), Y.out.2.1.next (bel_drew _), Y.out.2.2.trans ((bel_drew _).mono Y.out.2.2.size)⟩
          generalize W1.drew = V1 at *
          refine wTk 0 ?_
          refine wTk 1 ?_
          refine wRd 2 (fun K hK => ?_)
          go_simp
          go_at_call 44
          refine (spec_dot mp mn _).mono ?_
          rintro e X6 ⟨rfl, hb⟩
          (try simp only [])
          replace Y : Hid (Box X6 ge [.int .i64 mp, .int .i64 mn, .string mk, .int .i64 mv, .bool true, .int .i64 ma, .int .i64 mb, .int .i64 mc] ∧ Box X6 gv [.int .i64 x, .int .i64 y, .int .i64 z] ∧ Below w.heap.size w X6) := ⟨Y.out.1.next hb, Y.out.2.1.next hb, Y.out.2.2.trans (hb.mono Y.out.2.2.size)⟩
          refine wHk hK ⟨Y.out.1.c8, Y.out.2.1.c3, HQI.out _ Y.out.2.1⟩ ?_
          clear hK K hHeld hb
          intro hHeld
          have hd : dotB mp mn = true := HD.out
          rw [hd]
          refine wTk 3 ?_
          refine wTk 4 ?_
          refine wTk 5 ?_
          refine wTk 6 ?_
          refine wTk 7 ?_
          refine wTk 8 ?_
          refine wTk 9 ?_
          refine wTk 10 ?_
          refine wTk 11 ?_
          refine wTk 12 ?_
          refine wTk 13 ?_
          refine wTk 14 (v := .bool false) ?_
          refine wTk 15 ?_
          refine wTk 16 ?_
          refine wTk 17 ?_
          refine wTk 18 ?_
          refine wRd 19 (fun K hK => ?_)
          go_simp
          go_at_call 29
          refine (specKey_any mk true (by simp [HKt.out]) _ HKS.out).mono ?_
          rintro e V2 ⟨rfl, rfl⟩
          (try simp only [])
          refine wHk hK ⟨Y.out.1.c8, Y.out.2.1.c3, HQI.out _ Y.out.2.1⟩ ?_
          clear hK K hHeld
          intro hHeld
          refine wTk 20 ?_
          refine wTk 21 ?_
          refine wTk 22 ?_
          refine wTk 23 ?_
          refine wTk 24 ?_
          refine wRd 25 (fun K hK => ?_)
          go_simp
          go_at_call 45
          refine (in_yes _ _ _ _ HVr.out.1 HVr.out.2).mono ?_
          rintro e V2 ⟨rfl, rfl⟩
          (try simp only [])
          refine wHk hK ⟨Y.out.1.c8, Y.out.2.1.c3, HQI.out _ Y.out.2.1⟩ ?_
          clear hK K hHeld
          intro hHeld
          refine wTk 26 ?_
          refine wTk 27 ?_
          refine wTk 28 ?_
          refine wTk 29 ?_
          refine wTk 30 ?_
          refine wTk 31 ?_
          refine wTk 32 ?_
          refine wTk 33 ?_
          refine wTk 34 (v := .bool true) ?_
          refine wTk 35 ?_
          refine wTk 36 ?_
          refine wTk 37 ?_
          refine wTn 38 ?_
          refine wTn 39 ?_
          refine wTn 40 ?_
          refine wTn 41 ?_
          refine wTk 42 ?_
          refine wTk 43 ?_
          refine wTn 44 ?_
          refine wTn 45 ?_
          refine wTn 46 ?_
          refine wTn 47 ?_
          refine wTn 48 ?_
          refine wTn 49 ?_
          refine wTk 50 ?_
          refine wpAnyH_done (by kernel_rfl) ?_ _
          clear hHeld
          go_wp2
          go_ret
          exact ⟨false, rfl, by simp [HN.out], Y.out.2.2⟩
        have hn3 : (mv != 0) = false := by rw [hv0]; rfl
        by_cases hvv : vvB ma mb mc = true
        case neg =>
          have HN : Hid (¬ eok l) := HNO.out (fun h => hvv h.1.2.2.2)
          have HVV : Hid (vvB ma mb mc = false) := by show _ = _; cases hz : vvB ma mb mc with | false => rfl | true => exact (hvv hz).elim
          clear HNO HYE HG hvv hv0
          refine wp_region_held_drew (S := (fun w' => (w'.cell? ⟨ge, 0, none⟩ = some (.int .i64 mp) ∧ w'.cell? ⟨ge, 1, none⟩ = some (.int .i64 mn) ∧ w'.cell? ⟨ge, 2, none⟩ = some (.string mk) ∧ w'.cell? ⟨ge, 3, none⟩ = some (.int .i64 mv) ∧ w'.cell? ⟨ge, 4, none⟩ = some (.bool true) ∧ w'.cell? ⟨ge, 5, none⟩ = some (.int .i64 ma) ∧ w'.cell? ⟨ge, 6, none⟩ = some (.int .i64 mb) ∧ w'.cell? ⟨ge, 7, none⟩ = some (.int .i64 mc)) ∧ (w'.cell? ⟨gv, 0, none⟩ = some (.int .i64 x) ∧ w'.cell? ⟨gv, 1, none⟩ = some (.int .i64 y) ∧ w'.cell? ⟨gv, 2, none⟩ = some (.int .i64 z)) ∧ w'.cell? ⟨gv, mp.toNat, none⟩ = some (.int .i64 q))) (by kernel_rfl) ?_ (fun hHeld => ?_)
          · (try dsimp only)
            exact ⟨(Y.out.1.next (bel_drew _)).c8, (Y.out.2.1.next (bel_drew _)).c3, HQI.out _ (Y.out.2.1.next (bel_drew _))⟩
          replace Y : Hid (Box W1.drew ge [.int .i64 mp, .int .i64 mn, .string mk, .int .i64 mv, .bool true, .int .i64 ma, .int .i64 mb, .int .i64 mc] ∧ Box W1.drew gv [.int .i64 x, .int .i64 y, .int .i64 z] ∧ Below w.heap.size w W1.drew) := ⟨Y.out.1.next (bel_drew _), Y.out.2.1.next (bel_drew _), Y.out.2.2.trans ((bel_drew _).mono Y.out.2.2.size)⟩
          generalize W1.drew = V1 at *
          refine wTk 0 ?_
          refine wTk 1 ?_
          refine wRd 2 (fun K hK => ?_)
          go_simp
          go_at_call 44
          refine (spec_dot mp mn _).mono ?_
          rintro e X6 ⟨rfl, hb⟩
          (try simp only [])
          replace Y : Hid (Box X6 ge [.int .i64 mp, .int .i64 mn, .string mk, .int .i64 mv, .bool true, .int .i64 ma, .int .i64 mb, .int .i64 mc] ∧ Box X6 gv [.int .i64 x, .int .i64 y, .int .i64 z] ∧ Below w.heap.size w X6) := ⟨Y.out.1.next hb, Y.out.2.1.next hb, Y.out.2.2.trans (hb.mono Y.out.2.2.size)⟩
          refine wHk hK ⟨Y.out.1.c8, Y.out.2.1.c3, HQI.out _ Y.out.2.1⟩ ?_
          clear hK K hHeld hb
          intro hHeld
          have hd : dotB mp mn = true := HD.out
          rw [hd]
          refine wTk 3 ?_
          refine wTk 4 ?_
          refine wTk 5 ?_
          refine wTk 6 ?_
          refine wTk 7 ?_
          refine wTk 8 ?_
          refine wTk 9 ?_
          refine wTk 10 ?_
          refine wTk 11 ?_
          refine wTk 12 ?_
          refine wTk 13 ?_
          refine wTk 14 (v := .bool false) ?_
          refine wTk 15 ?_
          refine wTk 16 ?_
          refine wTk 17 ?_
          refine wTk 18 ?_
          refine wRd 19 (fun K hK => ?_)
          go_simp
          go_at_call 29
          refine (specKey_any mk true (by simp [HKt.out]) _ HKS.out).mono ?_
          rintro e V2 ⟨rfl, rfl⟩
          (try simp only [])
          refine wHk hK ⟨Y.out.1.c8, Y.out.2.1.c3, HQI.out _ Y.out.2.1⟩ ?_
          clear hK K hHeld
          intro hHeld
          refine wTk 20 ?_
          refine wTk 21 ?_
          refine wTk 22 ?_
          refine wTk 23 ?_
          refine wTk 24 ?_
          refine wRd 25 (fun K hK => ?_)
          go_simp
          go_at_call 45
          refine (in_yes _ _ _ _ HVr.out.1 HVr.out.2).mono ?_
          rintro e V2 ⟨rfl, rfl⟩
          (try simp only [])
          refine wHk hK ⟨Y.out.1.c8, Y.out.2.1.c3, HQI.out _ Y.out.2.1⟩ ?_
          clear hK K hHeld
          intro hHeld
          refine wTk 26 ?_
          refine wTk 27 ?_
          refine wTk 28 ?_
          refine wTk 29 ?_
          refine wTk 30 ?_
          refine wTk 31 ?_
          refine wTk 32 ?_
          refine wTk 33 ?_
          refine wTk 34 (v := .bool false) ?_
          refine wTk 35 ?_
          refine wTk 36 ?_
          refine wTk 37 ?_
          refine wTk 38 ?_
          refine wTk 39 ?_
          refine wRd 40 (fun K hK => ?_)
          go_simp
          go_at_call 46
          refine (spec_vv ma mb mc _).mono ?_
          rintro e X12 ⟨rfl, hb⟩
          (try simp only [])
          replace Y : Hid (Box X12 ge [.int .i64 mp, .int .i64 mn, .string mk, .int .i64 mv, .bool true, .int .i64 ma, .int .i64 mb, .int .i64 mc] ∧ Box X12 gv [.int .i64 x, .int .i64 y, .int .i64 z] ∧ Below w.heap.size w X12) := ⟨Y.out.1.next hb, Y.out.2.1.next hb, Y.out.2.2.trans (hb.mono Y.out.2.2.size)⟩
          refine wHk hK ⟨Y.out.1.c8, Y.out.2.1.c3, HQI.out _ Y.out.2.1⟩ ?_
          clear hK K hHeld hb
          intro hHeld
          have hd : vvB ma mb mc = false := HVV.out
          rw [hd]
          refine wTk 41 ?_
          refine wTk 42 ?_
          refine wTk 43 ?_
          refine wTn 44 ?_
          refine wTn 45 ?_
          refine wTn 46 ?_
          refine wTn 47 ?_
          refine wTn 48 ?_
          refine wTn 49 ?_
          refine wTk 50 ?_
          refine wpAnyH_done (by kernel_rfl) ?_ _
          clear hHeld
          go_wp2
          go_ret
          exact ⟨false, rfl, by simp [HN.out], Y.out.2.2⟩
        have HVV : Hid (vvB ma mb mc = true) := hvv
        clear hvv
        by_cases hk3 : knowP ma mb mc x y z
        case neg =>
          have HN : Hid (¬ eok l) := HNO.out (fun h => hk3 h.2.2)
          have HKN : Hid (¬ knowP ma mb mc x y z) := hk3
          clear HNO HYE HG hk3 hv0
          refine wp_region_held_drew (S := (fun w' => (w'.cell? ⟨ge, 0, none⟩ = some (.int .i64 mp) ∧ w'.cell? ⟨ge, 1, none⟩ = some (.int .i64 mn) ∧ w'.cell? ⟨ge, 2, none⟩ = some (.string mk) ∧ w'.cell? ⟨ge, 3, none⟩ = some (.int .i64 mv) ∧ w'.cell? ⟨ge, 4, none⟩ = some (.bool true) ∧ w'.cell? ⟨ge, 5, none⟩ = some (.int .i64 ma) ∧ w'.cell? ⟨ge, 6, none⟩ = some (.int .i64 mb) ∧ w'.cell? ⟨ge, 7, none⟩ = some (.int .i64 mc)) ∧ (w'.cell? ⟨gv, 0, none⟩ = some (.int .i64 x) ∧ w'.cell? ⟨gv, 1, none⟩ = some (.int .i64 y) ∧ w'.cell? ⟨gv, 2, none⟩ = some (.int .i64 z)) ∧ w'.cell? ⟨gv, mp.toNat, none⟩ = some (.int .i64 q))) (by kernel_rfl) ?_ (fun hHeld => ?_)
          · (try dsimp only)
            exact ⟨(Y.out.1.next (bel_drew _)).c8, (Y.out.2.1.next (bel_drew _)).c3, HQI.out _ (Y.out.2.1.next (bel_drew _))⟩
          replace Y : Hid (Box W1.drew ge [.int .i64 mp, .int .i64 mn, .string mk, .int .i64 mv, .bool true, .int .i64 ma, .int .i64 mb, .int .i64 mc] ∧ Box W1.drew gv [.int .i64 x, .int .i64 y, .int .i64 z] ∧ Below w.heap.size w W1.drew) := ⟨Y.out.1.next (bel_drew _), Y.out.2.1.next (bel_drew _), Y.out.2.2.trans ((bel_drew _).mono Y.out.2.2.size)⟩
          generalize W1.drew = V1 at *
          refine wTk 0 ?_
          refine wTk 1 ?_
          refine wRd 2 (fun K hK => ?_)
          go_simp
          go_at_call 44
          refine (spec_dot mp mn _).mono ?_
          rintro e X6 ⟨rfl, hb⟩
          (try simp only [])
          replace Y : Hid (Box X6 ge [.int .i64 mp, .int .i64 mn, .string mk, .int .i64 mv, .bool true, .int .i64 ma, .int .i64 mb, .int .i64 mc] ∧ Box X6 gv [.int .i64 x, .int .i64 y, .int .i64 z] ∧ Below w.heap.size w X6) := ⟨Y.out.1.next hb, Y.out.2.1.next hb, Y.out.2.2.trans (hb.mono Y.out.2.2.size)⟩
          refine wHk hK ⟨Y.out.1.c8, Y.out.2.1.c3, HQI.out _ Y.out.2.1⟩ ?_
          clear hK K hHeld hb
          intro hHeld
          have hd : dotB mp mn = true := HD.out
          rw [hd]
          refine wTk 3 ?_
          refine wTk 4 ?_
          refine wTk 5 ?_
          refine wTk 6 ?_
          refine wTk 7 ?_
          refine wTk 8 ?_
          refine wTk 9 ?_
          refine wTk 10 ?_
          refine wTk 11 ?_
          refine wTk 12 ?_
          refine wTk 13 ?_
          refine wTk 14 (v := .bool false) ?_
          refine wTk 15 ?_
          refine wTk 16 ?_
          refine wTk 17 ?_
          refine wTk 18 ?_
          refine wRd 19 (fun K hK => ?_)
          go_simp
          go_at_call 29
          refine (specKey_any mk true (by simp [HKt.out]) _ HKS.out).mono ?_
          rintro e V2 ⟨rfl, rfl⟩
          (try simp only [])
          refine wHk hK ⟨Y.out.1.c8, Y.out.2.1.c3, HQI.out _ Y.out.2.1⟩ ?_
          clear hK K hHeld
          intro hHeld
          refine wTk 20 ?_
          refine wTk 21 ?_
          refine wTk 22 ?_
          refine wTk 23 ?_
          refine wTk 24 ?_
          refine wRd 25 (fun K hK => ?_)
          go_simp
          go_at_call 45
          refine (in_yes _ _ _ _ HVr.out.1 HVr.out.2).mono ?_
          rintro e V2 ⟨rfl, rfl⟩
          (try simp only [])
          refine wHk hK ⟨Y.out.1.c8, Y.out.2.1.c3, HQI.out _ Y.out.2.1⟩ ?_
          clear hK K hHeld
          intro hHeld
          refine wTk 26 ?_
          refine wTk 27 ?_
          refine wTk 28 ?_
          refine wTk 29 ?_
          refine wTk 30 ?_
          refine wTk 31 ?_
          refine wTk 32 ?_
          refine wTk 33 ?_
          refine wTk 34 (v := .bool false) ?_
          refine wTk 35 ?_
          refine wTk 36 ?_
          refine wTk 37 ?_
          refine wTk 38 ?_
          refine wTk 39 ?_
          refine wRd 40 (fun K hK => ?_)
          go_simp
          go_at_call 46
          refine (spec_vv ma mb mc _).mono ?_
          rintro e X13 ⟨rfl, hb⟩
          (try simp only [])
          replace Y : Hid (Box X13 ge [.int .i64 mp, .int .i64 mn, .string mk, .int .i64 mv, .bool true, .int .i64 ma, .int .i64 mb, .int .i64 mc] ∧ Box X13 gv [.int .i64 x, .int .i64 y, .int .i64 z] ∧ Below w.heap.size w X13) := ⟨Y.out.1.next hb, Y.out.2.1.next hb, Y.out.2.2.trans (hb.mono Y.out.2.2.size)⟩
          refine wHk hK ⟨Y.out.1.c8, Y.out.2.1.c3, HQI.out _ Y.out.2.1⟩ ?_
          clear hK K hHeld hb
          intro hHeld
          have hd : vvB ma mb mc = true := HVV.out
          rw [hd]
          refine wTk 41 ?_
          refine wTk 42 ?_
          refine wTk 43 ?_
          refine wTk 44 ?_
          refine wTk 45 ?_
          refine wTk 46 ?_
          refine wTk 47 ?_
          refine wRd 48 (fun K hK => ?_)
          go_simp
          go_at_call 55
          refine (known_any ma mb mc x y z _).mono ?_
          rintro e X14 ⟨rr, rfl, hq, hb⟩
          (try simp only [])
          obtain rfl : rr = false := by
            cases rr; rfl; exact (HKN.out (hq.1 rfl)).elim
          replace Y : Hid (Box X14 ge [.int .i64 mp, .int .i64 mn, .string mk, .int .i64 mv, .bool true, .int .i64 ma, .int .i64 mb, .int .i64 mc] ∧ Box X14 gv [.int .i64 x, .int .i64 y, .int .i64 z] ∧ Below w.heap.size w X14) := ⟨Y.out.1.next hb, Y.out.2.1.next hb, Y.out.2.2.trans (hb.mono Y.out.2.2.size)⟩
          refine wHk hK ⟨Y.out.1.c8, Y.out.2.1.c3, HQI.out _ Y.out.2.1⟩ ?_
          clear hK K hHeld hb hq
          intro hHeld
          refine wTk 49 ?_
          refine wTk 50 ?_
          refine wpAnyH_done (by kernel_rfl) ?_ _
          clear hHeld
          go_wp2
          go_ret
          exact ⟨false, rfl, by simp [HN.out], Y.out.2.2⟩
        have HKN : Hid (knowP ma mb mc x y z) := hk3
        have HT : Hid (eokL 0 0 0 l ↔ eokL (upd mp mn 0 x) (upd mp mn 1 y) (upd mp mn 2 z) (l.drop (k + 1))) := HYE.out ⟨⟨HD.out, HKt.out, ⟨HVr.out, fun _ => hv0⟩, HVV.out⟩, by show mn = _; rw [← HQC.out]; exact HN1.out, hk3⟩
        clear hk3 HNO HYE HG hv0
        refine wp_region_held_drew (S := (fun w' => (w'.cell? ⟨ge, 0, none⟩ = some (.int .i64 mp) ∧ w'.cell? ⟨ge, 1, none⟩ = some (.int .i64 mn) ∧ w'.cell? ⟨ge, 2, none⟩ = some (.string mk) ∧ w'.cell? ⟨ge, 3, none⟩ = some (.int .i64 mv) ∧ w'.cell? ⟨ge, 4, none⟩ = some (.bool true) ∧ w'.cell? ⟨ge, 5, none⟩ = some (.int .i64 ma) ∧ w'.cell? ⟨ge, 6, none⟩ = some (.int .i64 mb) ∧ w'.cell? ⟨ge, 7, none⟩ = some (.int .i64 mc)) ∧ (w'.cell? ⟨gv, 0, none⟩ = some (.int .i64 x) ∧ w'.cell? ⟨gv, 1, none⟩ = some (.int .i64 y) ∧ w'.cell? ⟨gv, 2, none⟩ = some (.int .i64 z)) ∧ w'.cell? ⟨gv, mp.toNat, none⟩ = some (.int .i64 q))) (by kernel_rfl) ?_ (fun hHeld => ?_)
        · (try dsimp only)
          exact ⟨(Y.out.1.next (bel_drew _)).c8, (Y.out.2.1.next (bel_drew _)).c3, HQI.out _ (Y.out.2.1.next (bel_drew _))⟩
        replace Y : Hid (Box W1.drew ge [.int .i64 mp, .int .i64 mn, .string mk, .int .i64 mv, .bool true, .int .i64 ma, .int .i64 mb, .int .i64 mc] ∧ Box W1.drew gv [.int .i64 x, .int .i64 y, .int .i64 z] ∧ Below w.heap.size w W1.drew) := ⟨Y.out.1.next (bel_drew _), Y.out.2.1.next (bel_drew _), Y.out.2.2.trans ((bel_drew _).mono Y.out.2.2.size)⟩
        generalize W1.drew = V1 at *
        refine wTk 0 ?_
        refine wTk 1 ?_
        refine wRd 2 (fun K hK => ?_)
        go_simp
        go_at_call 44
        refine (spec_dot mp mn _).mono ?_
        rintro e X6 ⟨rfl, hb⟩
        (try simp only [])
        replace Y : Hid (Box X6 ge [.int .i64 mp, .int .i64 mn, .string mk, .int .i64 mv, .bool true, .int .i64 ma, .int .i64 mb, .int .i64 mc] ∧ Box X6 gv [.int .i64 x, .int .i64 y, .int .i64 z] ∧ Below w.heap.size w X6) := ⟨Y.out.1.next hb, Y.out.2.1.next hb, Y.out.2.2.trans (hb.mono Y.out.2.2.size)⟩
        refine wHk hK ⟨Y.out.1.c8, Y.out.2.1.c3, HQI.out _ Y.out.2.1⟩ ?_
        clear hK K hHeld hb
        intro hHeld
        have hd : dotB mp mn = true := HD.out
        rw [hd]
        refine wTk 3 ?_
        refine wTk 4 ?_
        refine wTk 5 ?_
        refine wTk 6 ?_
        refine wTk 7 ?_
        refine wTk 8 ?_
        refine wTk 9 ?_
        refine wTk 10 ?_
        refine wTk 11 ?_
        refine wTk 12 ?_
        refine wTk 13 ?_
        refine wTk 14 (v := .bool false) ?_
        refine wTk 15 ?_
        refine wTk 16 ?_
        refine wTk 17 ?_
        refine wTk 18 ?_
        refine wRd 19 (fun K hK => ?_)
        go_simp
        go_at_call 29
        refine (specKey_any mk true (by simp [HKt.out]) _ HKS.out).mono ?_
        rintro e V2 ⟨rfl, rfl⟩
        (try simp only [])
        refine wHk hK ⟨Y.out.1.c8, Y.out.2.1.c3, HQI.out _ Y.out.2.1⟩ ?_
        clear hK K hHeld
        intro hHeld
        refine wTk 20 ?_
        refine wTk 21 ?_
        refine wTk 22 ?_
        refine wTk 23 ?_
        refine wTk 24 ?_
        refine wRd 25 (fun K hK => ?_)
        go_simp
        go_at_call 45
        refine (in_yes _ _ _ _ HVr.out.1 HVr.out.2).mono ?_
        rintro e V2 ⟨rfl, rfl⟩
        (try simp only [])
        refine wHk hK ⟨Y.out.1.c8, Y.out.2.1.c3, HQI.out _ Y.out.2.1⟩ ?_
        clear hK K hHeld
        intro hHeld
        refine wTk 26 ?_
        refine wTk 27 ?_
        refine wTk 28 ?_
        refine wTk 29 ?_
        refine wTk 30 ?_
        refine wTk 31 ?_
        refine wTk 32 ?_
        refine wTk 33 ?_
        refine wTk 34 (v := .bool false) ?_
        refine wTk 35 ?_
        refine wTk 36 ?_
        refine wTk 37 ?_
        refine wTk 38 ?_
        refine wTk 39 ?_
        refine wRd 40 (fun K hK => ?_)
        go_simp
        go_at_call 46
        refine (spec_vv ma mb mc _).mono ?_
        rintro e X15 ⟨rfl, hb⟩
        (try simp only [])
        replace Y : Hid (Box X15 ge [.int .i64 mp, .int .i64 mn, .string mk, .int .i64 mv, .bool true, .int .i64 ma, .int .i64 mb, .int .i64 mc] ∧ Box X15 gv [.int .i64 x, .int .i64 y, .int .i64 z] ∧ Below w.heap.size w X15) := ⟨Y.out.1.next hb, Y.out.2.1.next hb, Y.out.2.2.trans (hb.mono Y.out.2.2.size)⟩
        refine wHk hK ⟨Y.out.1.c8, Y.out.2.1.c3, HQI.out _ Y.out.2.1⟩ ?_
        clear hK K hHeld hb
        intro hHeld
        have hd : vvB ma mb mc = true := HVV.out
        rw [hd]
        refine wTk 41 ?_
        refine wTk 42 ?_
        refine wTk 43 ?_
        refine wTk 44 ?_
        refine wTk 45 ?_
        refine wTk 46 ?_
        refine wTk 47 ?_
        refine wRd 48 (fun K hK => ?_)
        go_simp
        go_at_call 55
        refine (known_any ma mb mc x y z _).mono ?_
        rintro e X16 ⟨rr, rfl, hq, hb⟩
        (try simp only [])
        obtain rfl : rr = true := by
          exact hq.2 HKN.out
        replace Y : Hid (Box X16 ge [.int .i64 mp, .int .i64 mn, .string mk, .int .i64 mv, .bool true, .int .i64 ma, .int .i64 mb, .int .i64 mc] ∧ Box X16 gv [.int .i64 x, .int .i64 y, .int .i64 z] ∧ Below w.heap.size w X16) := ⟨Y.out.1.next hb, Y.out.2.1.next hb, Y.out.2.2.trans (hb.mono Y.out.2.2.size)⟩
        refine wHk hK ⟨Y.out.1.c8, Y.out.2.1.c3, HQI.out _ Y.out.2.1⟩ ?_
        clear hK K hHeld hb hq
        intro hHeld
        refine wTk 49 ?_
        refine wTk 50 ?_
        refine wpAnyH_done (by kernel_rfl) ?_ _
        clear hHeld
        obtain ⟨e0, e1, e2, e3, e4, e5, e6, e7⟩ := Y.out.1.c8
        obtain ⟨v0, v1, v2⟩ := Y.out.2.1.c3
        clear hn2 hw1
        go_wp2_with fail
        refine (add_any x y z mp mn _ hp0 hp3 (by rw [← HQC.out, HN1.out]; omega)).mono ?_
        rintro e1 W5 ⟨rfl, hb⟩
        replace Y : Hid (Box W5 ge [.int .i64 mp, .int .i64 mn, .string mk, .int .i64 mv, .bool true, .int .i64 ma, .int .i64 mb, .int .i64 mc] ∧ Box W5 gv [.int .i64 x, .int .i64 y, .int .i64 z] ∧ Below w.heap.size w W5) := ⟨Y.out.1.next hb, Y.out.2.1.next hb, Y.out.2.2.trans (hb.mono Y.out.2.2.size)⟩
        clear hb e0 e1 e2 e3 e4 e5 e6 e7 v0 v1 v2
        have hbd : (0 ≤ upd mp mn 0 x ∧ upd mp mn 0 x ≤ 9999) ∧ (0 ≤ upd mp mn 1 y ∧ upd mp mn 1 y ≤ 9999) ∧ (0 ≤ upd mp mn 2 z ∧ upd mp mn 2 z ≤ 9999) := by
          have := HDN.out
          unfold upd
          (repeat' split) <;> omega
        have HX : Hid _ := hbd
        clear hbd
        obtain ⟨v0, v1, v2⟩ := Y.out.2.1.c3
        obtain ⟨u0, u1, u2⟩ := Y.out.2.1.f3
        go_wp2_with fail
        go_roundw
        case rel =>
          refine ⟨k + 1, upd mp mn 0 x, upd mp mn 1 y, upd mp mn 2 z, by omega, by go_num, HX.out, Y.out.2.1.s3, ?_, HT.out⟩
          exact bel_in (bel_in (bel_in Y.out.2.2 (by have := HV.out; omega)) (by have := HV.out; omega)) (by have := HV.out; omega)
        case measure => simp [intOf]; omega
    · have hkl' : ¬ (k : Int) < (l.length : Int) := by omega
      have HE : Hid (eokL 0 0 0 l) := eokL_end (by omega) HG.out
      clear HG
      by_cases h4 : (l.length : Int) ≤ 100
      · have HN : Hid (eok l) := ⟨by omega, HE.out⟩
        clear HE
        go_wp2
        go_ret
        exact ⟨true, rfl, by simp [HN.out], Y0.out.2⟩
      · have HN : Hid (¬ eok l) := fun h => by have := h.1; omega
        clear HE
        go_wp2
        go_ret
        exact ⟨false, rfl, by simp [HN.out], Y0.out.2⟩
end Go.Proofs.YtkdbcmkmcjaenaaGreatDoor
