/- What of a list of events was overwritten, on the program's side. -/
import Derived.Test.YtkdbcmkmcjaenaaGreatDoorRows
import Derived.WalkKit
import Derived.WalkSpells
import Derived.WalkLawsBesides
import Derived.Deep.QuietTactic
import Derived.BigQuiet
import Derived.Deep.RegionHeld3
import Derived.Test.YtkdbcmkmcjaenaaGreatDoorOv
import Derived.Test.YtkdbcmkmcjaenaaGreatDoorEn
import Derived.LoopN
import Derived.OwnWalk
import Derived.Laws.StructEq
namespace Go.Proofs.YtkdbcmkmcjaenaaGreatDoor
open Go.RowKit
set_option linter.unusedSimpArgs false
set_option linter.unusedVariables false

set_option maxRecDepth 20000 in
set_option maxHeartbeats 8000000 in
theorem implOver (lo q : Nat) (po : Option Addr) (l : List Ev) (p n : Int) (w : World) (hks : ∀ x ∈ l, x.key.size < 1099511627776) (hr0 : GRow lo w po (flatE l)) :
    Calls Tryz.prog 13 #[.slice po l.length q, .agg #[.int .i64 p, .int .i64 n]] w (Tov l p n w) := by
  have hr : Hid (GRow lo w po (flatE l)) := hr0
  clear hr0
  go_enter Tryz.func13, Tryz.ntmps13
  go_upto_region 1 with fail
  refine wp_gen (fun W => Box W w.heap.size [.int .i64 p, .int .i64 n] ∧ Below w.heap.size w W) ⟨box_mk, bel_alloc _ _⟩ (fun W0 hI => ?_)
  obtain ⟨gd, hgd⟩ : ∃ g, g = w.heap.size := ⟨_, rfl⟩
  have HD : Hid (w.heap.size ≤ gd) := by show _ ≤ _; omega
  have Y : Hid (Box W0 gd [.int .i64 p, .int .i64 n] ∧ Below w.heap.size w W0) := by rw [hgd]; exact hI
  rw [← hgd]
  clear hI hgd
  by_cases hl : 4096 < (l.length : Int)
  case pos =>
    have HF : Hid (ovP l p n false 2) := .inl ⟨by omega, rfl, rfl⟩
    clear hr
    go_wp2
    go_ret2
    exact ⟨false, 2, rfl, HF.out, Y.out.2⟩
  have HLE : Hid (l.length ≤ 4096) := by show _ ≤ _; omega
  go_wp2_with fail
  refine (implEvents lo q po l _ hks (hr.out.next Y.out.2)).mono ?_
  rintro e1 W1 ⟨r1, rfl, hq, hb⟩
  replace Y : Hid (Box W1 gd [.int .i64 p, .int .i64 n] ∧ Below w.heap.size w W1) := ⟨Y.out.1.next hb, Y.out.2.trans (hb.mono Y.out.2.size)⟩
  have HQ : Hid (r1 = true ↔ eok l) := hq
  clear hb hq
  cases r1
  case false =>
    have HF : Hid (ovP l p n false 1) := .inr (.inl ⟨HLE.out, fun h => (by have := HQ.out.2 h.1; cases this), rfl, rfl⟩)
    clear HQ hr
    go_wp2
    go_ret2
    exact ⟨false, 1, rfl, HF.out, Y.out.2⟩
  have HE : Hid (eok l) := HQ.out.1 rfl
  clear HQ
  obtain ⟨d0, d1⟩ := Y.out.1.c2
  go_wp2_with fail
  refine (impl_dot p n _).mono ?_
  rintro e1 W2 ⟨rfl, hb⟩
  replace Y : Hid (Box W2 gd [.int .i64 p, .int .i64 n] ∧ Below w.heap.size w W2) := ⟨Y.out.1.next hb, Y.out.2.trans (hb.mono Y.out.2.size)⟩
  clear hb d0 d1
  cases hd : dotB p n
  case false =>
    have HF : Hid (ovP l p n false 1) := .inr (.inl ⟨HLE.out, fun h => (by rw [h.2] at hd; cases hd), rfl, rfl⟩)
    clear hd HE hr
    go_wp2
    go_ret2
    exact ⟨false, 1, rfl, HF.out, Y.out.2⟩
  have HDT : Hid (dotB p n = true) := hd
  have hdn : 0 ≤ p ∧ p < 3 ∧ 1 ≤ n ∧ n ≤ 9999 := of_decide_eq_true hd
  have HW : Hid ((0 ≤ p ∧ p < 3) ∧ wfI p ∧ wfI n) := ⟨⟨hdn.1, hdn.2.1⟩, wfI_of (by omega), wfI_of (by omega)⟩
  clear hd hdn
  go_wp2_with fail
  refine (pastOf_any lo q po l W2 HE.out.1 (eok_wf HE.out) (eok_apart HE.out) (hr.out.next Y.out.2)).mono ?_
  rintro e1 W3 ⟨rfl, hb, hM⟩
  replace Y : Hid (Box W3 gd [.int .i64 p, .int .i64 n] ∧ PMap W3 W2.heap.size l.length (· ∈ l) ∧ Below w.heap.size w W3) := ⟨Y.out.1.next hb, hM, Y.out.2.trans (hb.mono Y.out.2.size)⟩
  have HL : Hid (l.length ≤ 100) := HE.out.1
  clear hb hM hr
  generalize W2.heap.size = gm at *
  obtain ⟨d0, d1⟩ := Y.out.1.c2
  by_cases hm : ∃ m ∈ l, m.p = p ∧ m.n = n
  case neg =>
    have HF : Hid (ovP l p n false 5) := .inr (.inr (.inl ⟨HLE.out, ⟨HE.out, HDT.out⟩, fun e he hc => hm ⟨e, he, hc⟩, rfl, rfl⟩))
    have hrun := Y.out.2.1.miss p n HW.out.2.1 HW.out.2.2 (fun e he hc => hm ⟨e, he, hc⟩)
    clear hm HE HDT
    go_upto_region 7 with fail
    refine wp_gen (fun W => Below W3.heap.size W3 W) ?_ (fun W4 hI => ?_)
    · exact bel_alloc _ _
    have hB : Hid (Below w.heap.size w W4) := Y.out.2.2.trans (hI.mono Y.out.2.2.size)
    clear hI hrun d0 d1 Y
    go_wp2
    go_ret2
    exact ⟨false, 5, rfl, HF.out, hB.out⟩
  obtain ⟨m, hml, hmp, hmn⟩ := hm
  have hrun := (Y.out.2.1.look m hml).1
  have HM : Hid (m ∈ l ∧ m.p = p ∧ m.n = n) := ⟨hml, hmp, hmn⟩
  rw [hmp, hmn] at hrun
  clear hml
  go_upto_region 7 with fail
  refine wp_gen (fun W => Box W W3.heap.size [.int .i64 p, .int .i64 n, .int .i64 m.v, .bool m.dead, .string m.key, .int .i64 m.a, .int .i64 m.b, .int .i64 m.c] ∧ Below W3.heap.size W3 W) ⟨?_, ?_⟩ (fun W4 hI => ?_)
  · exact box_mk
  · exact bel_alloc _ _
  replace Y : Hid (Box W4 W3.heap.size [.int .i64 p, .int .i64 n, .int .i64 m.v, .bool m.dead, .string m.key, .int .i64 m.a, .int .i64 m.b, .int .i64 m.c] ∧ Box W4 gd [.int .i64 p, .int .i64 n] ∧ PMap W4 gm l.length (· ∈ l) ∧ Below w.heap.size w W4) := ⟨hI.1, Y.out.1.next hI.2, Y.out.2.1.next hI.2, Y.out.2.2.trans (hI.2.mono Y.out.2.2.size)⟩
  clear hI hrun d0 d1 hmp hmn
  generalize W3.heap.size = ge at *
  go_upto_region 9 with fail
  refine wp_region_held_drew (S := (fun w' => (w'.cell? ⟨ge, 0, none⟩ = some (.int .i64 p) ∧ w'.cell? ⟨ge, 1, none⟩ = some (.int .i64 n) ∧ w'.cell? ⟨ge, 2, none⟩ = some (.int .i64 m.v) ∧ w'.cell? ⟨ge, 3, none⟩ = some (.bool m.dead) ∧ w'.cell? ⟨ge, 4, none⟩ = some (.string m.key) ∧ w'.cell? ⟨ge, 5, none⟩ = some (.int .i64 m.a) ∧ w'.cell? ⟨ge, 6, none⟩ = some (.int .i64 m.b) ∧ w'.cell? ⟨ge, 7, none⟩ = some (.int .i64 m.c)) ∧ w'.cell? ⟨gd, 0, none⟩ = some (.int .i64 p) ∧ w'.cell? ⟨gd, 1, none⟩ = some (.int .i64 n))) (by kernel_rfl) ?_ (fun hHeld => ?_)
  · (try dsimp only)
    exact ⟨(Y.out.1.next (bel_drew _)).c8, (Y.out.2.1.next (bel_drew _)).c2⟩
  replace Y : Hid (Box W4.drew ge [.int .i64 p, .int .i64 n, .int .i64 m.v, .bool m.dead, .string m.key, .int .i64 m.a, .int .i64 m.b, .int .i64 m.c] ∧ Box W4.drew gd [.int .i64 p, .int .i64 n] ∧ PMap W4.drew gm l.length (· ∈ l) ∧ Below w.heap.size w W4.drew) := ⟨Y.out.1.next (bel_drew _), Y.out.2.1.next (bel_drew _), Y.out.2.2.1.next (bel_drew _), Y.out.2.2.2.drew⟩
  generalize W4.drew = V1 at *
  refine wTk 0 ?_
  refine wTk 1 ?_
  refine wTk 2 ?_
  refine wTk 4 ?_
  refine wRd 3 (fun K hK => ?_)
  go_simp
  go_at_call 27
  refine (of_any gm l.length (· ∈ l) m.key _ HL.out Y.out.2.2.1).mono ?_
  rintro e V2 ⟨g2, rfl, hb, hM2⟩
  (try simp only [])
  replace Y : Hid (Box V2 ge [.int .i64 p, .int .i64 n, .int .i64 m.v, .bool m.dead, .string m.key, .int .i64 m.a, .int .i64 m.b, .int .i64 m.c] ∧ Box V2 gd [.int .i64 p, .int .i64 n] ∧ PMap V2 g2 l.length (fun e => e ∈ l ∧ e.key = m.key) ∧ Below w.heap.size w V2) := ⟨Y.out.1.next hb, Y.out.2.1.next hb, hM2, Y.out.2.2.2.trans (hb.mono Y.out.2.2.2.size)⟩
  refine wHk hK ⟨Y.out.1.c8, Y.out.2.1.c2⟩ ?_
  clear hK K hHeld hb hM2
  intro hHeld
  refine wRd 5 (fun K hK => ?_)
  go_simp
  go_at_call 36
  refine (overwrote_any g2 l.length (fun e => e ∈ l ∧ e.key = m.key) p n _ HW.out.1.1 HW.out.1.2 Y.out.2.2.1).mono ?_
  rintro e V3 ⟨rr, rfl, hq, hb⟩
  (try simp only [])
  have HF : Hid (ovP l p n rr 0) := .inr (.inr (.inr ⟨HLE.out, ⟨HE.out, HDT.out⟩, m, HM.out.1, HM.out.2, hq.trans ⟨fun ⟨e, h1, h2⟩ => ⟨e, h1.1, h1.2, h2⟩, fun ⟨e, h1, h2, h3⟩ => ⟨e, ⟨h1, h2⟩, h3⟩⟩, rfl⟩))
  replace Y : Hid (Box V3 ge [.int .i64 p, .int .i64 n, .int .i64 m.v, .bool m.dead, .string m.key, .int .i64 m.a, .int .i64 m.b, .int .i64 m.c] ∧ Box V3 gd [.int .i64 p, .int .i64 n] ∧ Below w.heap.size w V3) := ⟨Y.out.1.next hb, Y.out.2.1.next hb, Y.out.2.2.2.trans (hb.mono Y.out.2.2.2.size)⟩
  refine wHk hK ⟨Y.out.1.c8, Y.out.2.1.c2⟩ ?_
  clear hK K hHeld hb hq
  intro hHeld
  refine wTk 6 ?_
  refine wTk 7 ?_
  refine wpAnyH_done (by kernel_rfl) ?_ _
  clear hHeld
  go_wp2
  go_ret2
  exact ⟨rr, 0, rfl, HF.out, Y.out.2.2⟩
end Go.Proofs.YtkdbcmkmcjaenaaGreatDoor
