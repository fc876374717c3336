/- The program's objects: right ones, writes, sameness (texts of the seat of objects). -/
import Derived.WalkKit
import Derived.WalkSpells
import Derived.WalkLawsBesides
import Derived.Deep.QuietTactic
import Derived.BigQuiet
import Derived.Deep.RegionHeld3
import Derived.LoopN
import Derived.OwnWalk
import Derived.Laws.StructEq
import Derived.Laws.OwnMore
import Derived.RegionTactic
import Derived.BigRegion
import Derived.Deep.RegionWith
import Derived.WalkMore
import Derived.Deep.LoopGhost
import Derived.Deep.Upon
import Derived.Deep.Cut
import Derived.Shelf.RegionOpenPlain
import Derived.Shelf.Spec.SlicesInsertGrow
import Derived.Maps.AppendAt
import Derived.Deep.AppendLies
import Derived.OpenShut
import Derived.Test.YtkdbcmkmcjaenaaGreatDoorRows
import Derived.Test.YtkdbcmkmcjaenaaGreatDoorWb
namespace Go.Proofs.YtkdbcmkmcjaenaaGreatDoor
namespace W
open Go.RowKit
set_option linter.unusedSimpArgs false
set_option linter.unusedVariables false
set_option maxRecDepth 100000
theorem cell_s4 {W : World} {g b o : Nat} {v v0 v1 v2 v3 : Value} (h : W.cell? ⟨b, o, none⟩ = some v) (hne : b ≠ g) : ((((W.setCell ⟨g, 0, none⟩ v0).setCell ⟨g, 1, none⟩ v1).setCell ⟨g, 2, none⟩ v2).setCell ⟨g, 3, none⟩ v3).cell? ⟨b, o, none⟩ = some v := cell_set (cell_set (cell_set (cell_set h hne) hne) hne) hne
set_option maxRecDepth 100000 in
set_option maxHeartbeats 8000000 in
theorem implWrite_any (cap : Nat) (ao : Option Addr) (l : List Sib) (a b c x y z sp sn sv : Int) (sd : Bool) (J : List Sib) (p q r code : Int) (hW : Hid (WRel l a b c x y z (⟨sp, sn, sv, sd⟩ : Sib) J p q r code)) (w : World) (hm : (l.length : Int) ≤ 1048576) (hr0 : SibRow w ao l) :
    Calls Tryz.prog 14 #[.agg #[.slice ao l.length cap, .int .i64 a, .int .i64 b, .int .i64 c], .agg #[.int .i64 x, .int .i64 y, .int .i64 z], .agg #[.int .i64 sp, .int .i64 sn], .int .i64 sv, .bool sd] w fun e w' => ∃ v, e = .returned (.tuple #[.agg #[v, .int .i64 p, .int .i64 q, .int .i64 r], .int .i64 code]) ∧ Gro w w' (.slice none 0 0) v ∧ w'.ownsRow 0 46 4 v J.length (flat J) := by
  have RA : Hid (SibRow (((((w.alloc (.cells #[.slice ao l.length cap, .int .i64 a, .int .i64 b, .int .i64 c] 34)).alloc (.cells #[.int .i64 x, .int .i64 y, .int .i64 z] 32)).alloc (.cells #[.int .i64 sp, .int .i64 sn] 40)).alloc (.cells #[.slice none 0 0, .int .i64 0, .int .i64 0, .int .i64 0] 34)).alloc (.cells #[.int .i64 sp, .int .i64 sn, .int .i64 sv, .bool sd] 46)) ao l) := row_next (row_next (row_next (row_next (row_next hr0 (bel_alloc _ _)) (bel_alloc _ _)) (bel_alloc _ _)) (bel_alloc _ _)) (bel_alloc _ _)
  have JB1 : Hid (BX w.heap.size (((((w.alloc (.cells #[.slice ao l.length cap, .int .i64 a, .int .i64 b, .int .i64 c] 34)).alloc (.cells #[.int .i64 x, .int .i64 y, .int .i64 z] 32)).alloc (.cells #[.int .i64 sp, .int .i64 sn] 40)).alloc (.cells #[.slice none 0 0, .int .i64 0, .int .i64 0, .int .i64 0] 34)).alloc (.cells #[.int .i64 sp, .int .i64 sn, .int .i64 sv, .bool sd] 46)) (.slice ao l.length cap) a b c x y z sp sn sv sd) := BX.new
  have GW : Hid (Gro w (((((w.alloc (.cells #[.slice ao l.length cap, .int .i64 a, .int .i64 b, .int .i64 c] 34)).alloc (.cells #[.int .i64 x, .int .i64 y, .int .i64 z] 32)).alloc (.cells #[.int .i64 sp, .int .i64 sn] 40)).alloc (.cells #[.slice none 0 0, .int .i64 0, .int .i64 0, .int .i64 0] 34)).alloc (.cells #[.int .i64 sp, .int .i64 sn, .int .i64 sv, .bool sd] 46)) (.slice none 0 0) (.slice none 0 0)) := (Gro.of_below (bel_alloc _ _)).trans ((Gro.of_below (bel_alloc _ _)).trans ((Gro.of_below (bel_alloc _ _)).trans ((Gro.of_below (bel_alloc _ _)).trans (Gro.of_below (bel_alloc _ _)))))
  have HM : Hid (l.length ≤ 1048576) := by show _ ≤ _; omega
  have HM' : Hid ((l.length : Int) ≤ 1048576) := hm
  clear hr0 hm
  obtain ⟨k0, hO⟩ := bool_of (OkP l a b c)
  obtain ⟨kv, hkv⟩ : ∃ k, k = vvB x y z := ⟨_, rfl⟩
  obtain ⟨ks, hks⟩ : ∃ k, k = sibOK sp sn sv sd := ⟨_, rfl⟩
  have CV : Hid (∀ W, Calls Tryz.prog 31 #[.agg #[.int .i64 x, .int .i64 y, .int .i64 z]] W fun e w' => e = .returned (.bool kv) ∧ Below W.heap.size W w') := fun W => by rw [hkv]; exact impl_vv x y z W
  have CS : Hid (∀ W, Calls Tryz.prog 32 #[.agg #[.int .i64 sp, .int .i64 sn, .int .i64 sv, .bool sd]] W fun e w' => e = .returned (.bool ks) ∧ Below W.heap.size W w') := fun W => by rw [hks]; exact implSib_any sp sn sv sd W
  have HV : Hid (kv = vvB x y z) := hkv
  have HS : Hid (ks = sibOK sp sn sv sd) := hks
  clear hkv hks
  go_enter Tryz.func14, Tryz.ntmps14
  go_wp2_with fail
  generalize (((((w.alloc (.cells #[.slice ao l.length cap, .int .i64 a, .int .i64 b, .int .i64 c] 34)).alloc (.cells #[.int .i64 x, .int .i64 y, .int .i64 z] 32)).alloc (.cells #[.int .i64 sp, .int .i64 sn] 40)).alloc (.cells #[.slice none 0 0, .int .i64 0, .int .i64 0, .int .i64 0] 34)).alloc (.cells #[.int .i64 sp, .int .i64 sn, .int .i64 sv, .bool sd] 46)) = W0 at *
  refine (implOK_any cap ao l a b c k0 hO _ HM'.out RA.out).mono ?_
  rintro e w1 ⟨rfl, hb⟩
  have HB : Hid (Below W0.heap.size W0 w1) := hb
  clear hb
  cases k0
  · obtain ⟨rfl, rfl, rfl, rfl, rfl⟩ := hW.out.bad (fun h => by have := hO.out.2 h.1; cases this)
    obtain ⟨⟨a0, a1, a2, a3⟩, ⟨b0, b1, b2⟩, ⟨d0, d1⟩, hTr, ⟨s0, s1, s2, s3⟩, hz⟩ := (JB1.out.next HB.out)
    obtain ⟨t0, T0⟩ := Option.isSome_iff_exists.1 (hTr 0 (by omega)).1
    have Z0 := (hTr 0 (by omega)).2
    obtain ⟨t1, T1⟩ := Option.isSome_iff_exists.1 (hTr 1 (by omega)).1
    have Z1 := (hTr 1 (by omega)).2
    obtain ⟨t2, T2⟩ := Option.isSome_iff_exists.1 (hTr 2 (by omega)).1
    have Z2 := (hTr 2 (by omega)).2
    obtain ⟨t3, T3⟩ := Option.isSome_iff_exists.1 (hTr 3 (by omega)).1
    have Z3 := (hTr 3 (by omega)).2
    clear hTr
    go_wp2
    refine bodyPost_ret (v := .tuple #[.agg #[.slice none 0 0, .int .i64 0, .int .i64 0, .int .i64 0], .int .i64 1]) (by simp [results, Tryz.results14, go_sem, T0, T1, T2, T3, Z0, Z1, Z2, Z3]) rfl ⟨_, rfl, ?_, World.ownsRow_nil _ _ _ _⟩
    exact Gro.set4 (GW.out.trans (Gro.of_below HB.out)) (by omega)
  have HOK : Hid (OkP l a b c) := hO.out.1 rfl
  clear hO
  obtain ⟨⟨a0, a1, a2, a3⟩, ⟨b0, b1, b2⟩, ⟨d0, d1⟩, hTr, ⟨s0, s1, s2, s3⟩, hz⟩ := (JB1.out.next HB.out)
  go_wp2_with fail
  clear a0 a1 a2 a3 b0 b1 b2 d0 d1 hTr s0 s1 s2 s3 hz
  refine Calls.mono (CV.out _) ?_
  rintro e w2 ⟨rfl, hb⟩
  replace HB : Hid (Below W0.heap.size W0 _) := bel_next' HB hb
  clear hb
  cases kv
  · obtain ⟨rfl, rfl, rfl, rfl, rfl⟩ := hW.out.bad (fun h => by have := HV.out; rw [h.2.1] at this; cases this)
    obtain ⟨⟨a0, a1, a2, a3⟩, ⟨b0, b1, b2⟩, ⟨d0, d1⟩, hTr, ⟨s0, s1, s2, s3⟩, hz⟩ := (JB1.out.next HB.out)
    obtain ⟨t0, T0⟩ := Option.isSome_iff_exists.1 (hTr 0 (by omega)).1
    have Z0 := (hTr 0 (by omega)).2
    obtain ⟨t1, T1⟩ := Option.isSome_iff_exists.1 (hTr 1 (by omega)).1
    have Z1 := (hTr 1 (by omega)).2
    obtain ⟨t2, T2⟩ := Option.isSome_iff_exists.1 (hTr 2 (by omega)).1
    have Z2 := (hTr 2 (by omega)).2
    obtain ⟨t3, T3⟩ := Option.isSome_iff_exists.1 (hTr 3 (by omega)).1
    have Z3 := (hTr 3 (by omega)).2
    clear hTr
    go_wp2
    refine bodyPost_ret (v := .tuple #[.agg #[.slice none 0 0, .int .i64 0, .int .i64 0, .int .i64 0], .int .i64 1]) (by simp [results, Tryz.results14, go_sem, T0, T1, T2, T3, Z0, Z1, Z2, Z3]) rfl ⟨_, rfl, ?_, World.ownsRow_nil _ _ _ _⟩
    exact Gro.set4 (GW.out.trans (Gro.of_below HB.out)) (by omega)
  obtain ⟨⟨a0, a1, a2, a3⟩, ⟨b0, b1, b2⟩, ⟨d0, d1⟩, hTr, ⟨s0, s1, s2, s3⟩, hz⟩ := (JB1.out.next HB.out)
  go_wp2_with fail
  clear a0 a1 a2 a3 b0 b1 b2 d0 d1 hTr s0 s1 s2 s3 hz
  refine Calls.mono (CS.out _) ?_
  rintro e w3 ⟨rfl, hb⟩
  replace HB : Hid (Below W0.heap.size W0 _) := bel_next' HB hb
  clear hb
  cases ks
  · obtain ⟨rfl, rfl, rfl, rfl, rfl⟩ := hW.out.bad (fun h => by have := HS.out; have h2 := h.2.2; simp only [] at h2; rw [h2] at this; cases this)
    obtain ⟨⟨a0, a1, a2, a3⟩, ⟨b0, b1, b2⟩, ⟨d0, d1⟩, hTr, ⟨s0, s1, s2, s3⟩, hz⟩ := (JB1.out.next HB.out)
    obtain ⟨t0, T0⟩ := Option.isSome_iff_exists.1 (hTr 0 (by omega)).1
    have Z0 := (hTr 0 (by omega)).2
    obtain ⟨t1, T1⟩ := Option.isSome_iff_exists.1 (hTr 1 (by omega)).1
    have Z1 := (hTr 1 (by omega)).2
    obtain ⟨t2, T2⟩ := Option.isSome_iff_exists.1 (hTr 2 (by omega)).1
    have Z2 := (hTr 2 (by omega)).2
    obtain ⟨t3, T3⟩ := Option.isSome_iff_exists.1 (hTr 3 (by omega)).1
    have Z3 := (hTr 3 (by omega)).2
    clear hTr
    go_wp2
    refine bodyPost_ret (v := .tuple #[.agg #[.slice none 0 0, .int .i64 0, .int .i64 0, .int .i64 0], .int .i64 1]) (by simp [results, Tryz.results14, go_sem, T0, T1, T2, T3, Z0, Z1, Z2, Z3]) rfl ⟨_, rfl, ?_, World.ownsRow_nil _ _ _ _⟩
    exact Gro.set4 (GW.out.trans (Gro.of_below HB.out)) (by omega)
  have HG : Hid (WGood l a b c x y z (⟨sp, sn, sv, sd⟩ : Sib)) := ⟨HOK.out, HV.out.symm, HS.out.symm⟩
  have hnode : 0 ≤ sp ∧ sp < 3 := sib_node (x := (⟨sp, sn, sv, sd⟩ : Sib)) HS.out.symm
  obtain ⟨nd0, nd3⟩ := hnode
  clear CV CS HV HS
  obtain ⟨⟨a0, a1, a2, a3⟩, ⟨b0, b1, b2⟩, ⟨d0, d1⟩, hTr, ⟨s0, s1, s2, s3⟩, hz⟩ := (JB1.out.next HB.out)
  go_wp2_with fail
  clear a0 a1 a2 a3 b0 b1 b2 d0 d1 hTr s0 s1 s2 s3 hz
  refine (knows_any a b c sp sn _ nd0 nd3).mono ?_
  rintro e w4 ⟨rfl, hb⟩
  replace HB : Hid (Below W0.heap.size W0 _) := bel_next' HB hb
  clear hb
  by_cases h1 : sn ≤ comp a b c sp
  · have d1 : decide (sn ≤ comp a b c sp) = true := decide_eq_true h1
    obtain ⟨e1, e2, e3, e4, e5⟩ := hW.out.known HG.out (.inl h1)
    obtain rfl := e1.symm
    obtain rfl := e2.symm
    obtain rfl := e3.symm
    obtain rfl := e4.symm
    subst e5
    clear e1 e2 e3 e4
    rw [d1]
    clear h1 d1
    obtain ⟨⟨a0, a1, a2, a3⟩, ⟨b0, b1, b2⟩, ⟨d0, d1⟩, hTr, ⟨s0, s1, s2, s3⟩, hz⟩ := (JB1.out.next HB.out)
    go_wp2_with fail
    clear a0 a1 a2 a3 b0 b1 b2 d0 d1 hTr s0 s1 s2 s3 hz
    refine (copyObj_any cap ao l a b c _ HM.out (RA.out.next HB.out)).mono ?_
    rintro e w9 ⟨v, rfl, hg, ho⟩
    obtain ⟨vo, vn, vc, rfl⟩ := own_slc ho
    have G9 : Hid (Gro W0 w9 (.slice none 0 0) (.slice vo vn vc)) := (Gro.of_below HB.out).trans hg
    have O9 : Hid (w9.ownsRow 0 46 4 (.slice vo vn vc) l.length (flat l)) := ho
    have hTr := th_gro JB1.out.2.2.2.1 G9.out (Nat.lt_trans (by omega) JB1.out.2.2.2.2.2) Gro.none_ne
    clear ho hg
    obtain ⟨t0, T0⟩ := Option.isSome_iff_exists.1 (hTr 0 (by omega)).1
    have Z0 := (hTr 0 (by omega)).2
    obtain ⟨t1, T1⟩ := Option.isSome_iff_exists.1 (hTr 1 (by omega)).1
    have Z1 := (hTr 1 (by omega)).2
    obtain ⟨t2, T2⟩ := Option.isSome_iff_exists.1 (hTr 2 (by omega)).1
    have Z2 := (hTr 2 (by omega)).2
    obtain ⟨t3, T3⟩ := Option.isSome_iff_exists.1 (hTr 3 (by omega)).1
    have Z3 := (hTr 3 (by omega)).2
    clear hTr
    go_wp2
    refine bodyPost_ret (v := .tuple #[.agg #[.slice vo vn vc, .int .i64 a, .int .i64 b, .int .i64 c], .int .i64 17]) (by simp [results, Tryz.results14, go_sem, T0, T1, T2, T3, Z0, Z1, Z2, Z3]) rfl ⟨_, rfl, ?_, ?_⟩
    · exact Gro.set4 (GW.out.trans G9.out) (by omega)
    · exact own_set4 O9.out (nb G9.out (Nat.lt_trans (by omega) JB1.out.2.2.2.2.2))
  have d1 : decide (sn ≤ comp a b c sp) = false := decide_eq_false h1
  rw [d1]
  have H1 : Hid (comp a b c sp < sn) := Int.not_le.1 h1
  clear d1 h1
  obtain ⟨⟨a0, a1, a2, a3⟩, ⟨b0, b1, b2⟩, ⟨d0, d1⟩, hTr, ⟨s0, s1, s2, s3⟩, hz⟩ := (JB1.out.next HB.out)
  go_wp2_with fail
  clear a0 a1 a2 a3 b0 b1 b2 d0 d1 hTr s0 s1 s2 s3 hz
  refine (knows_any x y z sp sn _ nd0 nd3).mono ?_
  rintro e w5 ⟨rfl, hb⟩
  replace HB : Hid (Below W0.heap.size W0 _) := bel_next' HB hb
  clear hb
  by_cases h2 : sn ≤ comp x y z sp
  · have d1 : decide (sn ≤ comp x y z sp) = true := decide_eq_true h2
    obtain ⟨e1, e2, e3, e4, e5⟩ := hW.out.known HG.out (.inr h2)
    obtain rfl := e1.symm
    obtain rfl := e2.symm
    obtain rfl := e3.symm
    obtain rfl := e4.symm
    subst e5
    clear e1 e2 e3 e4
    rw [d1]
    clear h2 d1
    obtain ⟨⟨a0, a1, a2, a3⟩, ⟨b0, b1, b2⟩, ⟨d0, d1⟩, hTr, ⟨s0, s1, s2, s3⟩, hz⟩ := (JB1.out.next HB.out)
    go_wp2_with fail
    clear a0 a1 a2 a3 b0 b1 b2 d0 d1 hTr s0 s1 s2 s3 hz
    refine (copyObj_any cap ao l a b c _ HM.out (RA.out.next HB.out)).mono ?_
    rintro e w9 ⟨v, rfl, hg, ho⟩
    obtain ⟨vo, vn, vc, rfl⟩ := own_slc ho
    have G9 : Hid (Gro W0 w9 (.slice none 0 0) (.slice vo vn vc)) := (Gro.of_below HB.out).trans hg
    have O9 : Hid (w9.ownsRow 0 46 4 (.slice vo vn vc) l.length (flat l)) := ho
    have hTr := th_gro JB1.out.2.2.2.1 G9.out (Nat.lt_trans (by omega) JB1.out.2.2.2.2.2) Gro.none_ne
    clear ho hg
    obtain ⟨t0, T0⟩ := Option.isSome_iff_exists.1 (hTr 0 (by omega)).1
    have Z0 := (hTr 0 (by omega)).2
    obtain ⟨t1, T1⟩ := Option.isSome_iff_exists.1 (hTr 1 (by omega)).1
    have Z1 := (hTr 1 (by omega)).2
    obtain ⟨t2, T2⟩ := Option.isSome_iff_exists.1 (hTr 2 (by omega)).1
    have Z2 := (hTr 2 (by omega)).2
    obtain ⟨t3, T3⟩ := Option.isSome_iff_exists.1 (hTr 3 (by omega)).1
    have Z3 := (hTr 3 (by omega)).2
    clear hTr
    go_wp2
    refine bodyPost_ret (v := .tuple #[.agg #[.slice vo vn vc, .int .i64 a, .int .i64 b, .int .i64 c], .int .i64 17]) (by simp [results, Tryz.results14, go_sem, T0, T1, T2, T3, Z0, Z1, Z2, Z3]) rfl ⟨_, rfl, ?_, ?_⟩
    · exact Gro.set4 (GW.out.trans G9.out) (by omega)
    · exact own_set4 O9.out (nb G9.out (Nat.lt_trans (by omega) JB1.out.2.2.2.2.2))
  have d1 : decide (sn ≤ comp x y z sp) = false := decide_eq_false h2
  rw [d1]
  clear d1
  have HNK : Hid (¬ WKnown a b c x y z (⟨sp, sn, sv, sd⟩ : Sib)) := fun h => h.elim (fun h' => absurd h' (Int.not_le.2 H1.out)) h2
  have HH : Hid (comp a b c sp < sn ∧ comp x y z sp < sn) := ⟨H1.out, Int.not_le.1 h2⟩
  have hle := HOK.out.1
  clear H1 h2
  by_cases h100 : l.length = 100
  · obtain ⟨e1, e2, e3, e4, e5⟩ := hW.out.full HG.out HNK.out h100
    obtain rfl := e1.symm
    obtain rfl := e2.symm
    obtain rfl := e3.symm
    obtain rfl := e4.symm
    subst e5
    clear e1 e2 e3 e4
    have hd1 : (((l.length : Int)) == 100) = true := by rw [h100]; rfl
    have hd2 : (100 : Int) ≤ (l.length : Int) := by omega
    have hd3 : (l.length : Int) = 100 := by omega
    clear h100 hle
    obtain ⟨⟨a0, a1, a2, a3⟩, ⟨b0, b1, b2⟩, ⟨d0, d1⟩, hTr, ⟨s0, s1, s2, s3⟩, hz⟩ := (JB1.out.next HB.out)
    go_wp2_with fail
    clear a0 a1 a2 a3 b0 b1 b2 d0 d1 hTr s0 s1 s2 s3 hz
    refine (copyObj_any cap ao l a b c _ HM.out (RA.out.next HB.out)).mono ?_
    rintro e w9 ⟨v, rfl, hg, ho⟩
    obtain ⟨vo, vn, vc, rfl⟩ := own_slc ho
    have G9 : Hid (Gro W0 w9 (.slice none 0 0) (.slice vo vn vc)) := (Gro.of_below HB.out).trans hg
    have O9 : Hid (w9.ownsRow 0 46 4 (.slice vo vn vc) l.length (flat l)) := ho
    have hTr := th_gro JB1.out.2.2.2.1 G9.out (Nat.lt_trans (by omega) JB1.out.2.2.2.2.2) Gro.none_ne
    clear ho hg
    obtain ⟨t0, T0⟩ := Option.isSome_iff_exists.1 (hTr 0 (by omega)).1
    have Z0 := (hTr 0 (by omega)).2
    obtain ⟨t1, T1⟩ := Option.isSome_iff_exists.1 (hTr 1 (by omega)).1
    have Z1 := (hTr 1 (by omega)).2
    obtain ⟨t2, T2⟩ := Option.isSome_iff_exists.1 (hTr 2 (by omega)).1
    have Z2 := (hTr 2 (by omega)).2
    obtain ⟨t3, T3⟩ := Option.isSome_iff_exists.1 (hTr 3 (by omega)).1
    have Z3 := (hTr 3 (by omega)).2
    clear hTr
    go_wp2
    refine bodyPost_ret (v := .tuple #[.agg #[.slice vo vn vc, .int .i64 a, .int .i64 b, .int .i64 c], .int .i64 6]) (by simp [results, Tryz.results14, go_sem, T0, T1, T2, T3, Z0, Z1, Z2, Z3]) rfl ⟨_, rfl, ?_, ?_⟩
    · exact Gro.set4 (GW.out.trans G9.out) (by omega)
    · exact own_set4 O9.out (nb G9.out (Nat.lt_trans (by omega) JB1.out.2.2.2.2.2))
  obtain ⟨e1, e2, e3, e4, e5⟩ := hW.out.done HG.out HNK.out h100
  subst e1
  subst e5
  have EP : Hid (p = if sp = 0 then sn else max a x) := e2
  have EQ : Hid (q = if sp = 1 then sn else max b y) := e3
  have ER : Hid (r = if sp = 2 then sn else max c z) := e4
  clear e2 e3 e4
  have hd1 : (((l.length : Int)) == 100) = false := beq_eq_false_iff_ne.2 (by omega)
  have hd2 : ¬ (100 : Int) ≤ (l.length : Int) := by omega
  have hd3 : ¬ (l.length : Int) = 100 := by omega
  clear h100 hle
  obtain ⟨⟨a0, a1, a2, a3⟩, ⟨b0, b1, b2⟩, ⟨d0, d1⟩, hTr, ⟨s0, s1, s2, s3⟩, hz⟩ := (JB1.out.next HB.out)
  go_wp2_with fail
  clear a0 a1 a2 a3 b0 b1 b2 d0 d1 hTr s0 s1 s2 s3 hz
  refine (greater_any a b c x y z (max a x) (max b y) (max c z) _ (by omega) (by omega) (by omega)).mono ?_
  rintro e w6 ⟨rfl, hb⟩
  replace HB : Hid (Below W0.heap.size W0 _) := bel_next' HB hb
  clear hb HG HNK HH hW
  have hsp : sp = 0 ∨ sp = 1 ∨ sp = 2 := by omega
  clear nd0 nd3
  rcases hsp with rfl | rfl | rfl
  · obtain rfl : sn = p := by simpa using EP.out.symm
    obtain rfl : q = max b y := by simpa using EQ.out
    obtain rfl : r = max c z := by simpa using ER.out
    clear EP EQ ER
    obtain ⟨⟨a0, a1, a2, a3⟩, ⟨b0, b1, b2⟩, ⟨d0, d1⟩, hTr, ⟨s0, s1, s2, s3⟩, hz⟩ := (JB1.out.next HB.out)
    have D0 : ∀ o, (w6.alloc o).cell? ⟨w.heap.size + 1 + 1, 0, none⟩ = _ := fun o => box_alloc d0 (by omega)
    have D1 : ∀ o, (w6.alloc o).cell? ⟨w.heap.size + 1 + 1, 1, none⟩ = _ := fun o => box_alloc d1 (by omega)
    go_upto_region 10 with fail
    clear D0 D1
    clear a0 a1 a2 a3 b0 b1 b2 d0 d1 hTr s0 s1 s2 s3 hz
    have HBS : Hid (Below W0.heap.size W0 (w6.alloc (.cells #[.int .i64 (sn), .int .i64 (max b y), .int .i64 (max c z)] 32))) := HB.out.trans ((bel_alloc _ _).mono HB.out.size)
    have e0 : (w6.alloc (.cells #[.int .i64 (sn), .int .i64 (max b y), .int .i64 (max c z)] 32)).cell? ⟨w6.heap.size, 0, none⟩ = some (.int .i64 (sn)) := by go_simp
    have e1 : (w6.alloc (.cells #[.int .i64 (sn), .int .i64 (max b y), .int .i64 (max c z)] 32)).cell? ⟨w6.heap.size, 1, none⟩ = some (.int .i64 (max b y)) := by go_simp
    have e2 : (w6.alloc (.cells #[.int .i64 (sn), .int .i64 (max b y), .int .i64 (max c z)] 32)).cell? ⟨w6.heap.size, 2, none⟩ = some (.int .i64 (max c z)) := by go_simp
    have GS : Hid (W0.heap.size ≤ w6.heap.size) := HB.out.size
    generalize (w6.alloc (.cells #[.int .i64 (sn), .int .i64 (max b y), .int .i64 (max c z)] 32)) = wS at *
    generalize w6.heap.size = gS at *
    obtain ⟨⟨a0, a1, a2, a3⟩, ⟨b0, b1, b2⟩, ⟨d0, d1⟩, hTr, ⟨s0, s1, s2, s3⟩, hz⟩ := (JB1.out.next HBS.out)
    clear a1 a2 a3 d0 d1
    have RS : Hid (SibRow wS ao l) := RA.out.next HBS.out
    have BW : Hid (Below w.heap.size w wS) := (GW.out.below (Nat.le_refl _) (fun k hk => absurd hk Gro.none_ne)).trans (HBS.out.mono (GW.out.below (base := w.heap.size) (Nat.le_refl _) (fun k hk => absurd hk Gro.none_ne)).size)
    have TS : Hid (There wS (w.heap.size + 1 + 1 + 1) 4) := hTr
    have ZS : Hid (w.heap.size + 1 + 1 + 1 + 1 < wS.heap.size) := hz
    have ZG : Hid (w.heap.size + 1 + 1 + 1 + 1 < gS) := Nat.lt_of_lt_of_le JB1.out.2.2.2.2.2 GS.out
    clear hTr hz
    refine wp_region_held_drew (S := (fun w' => w'.cell? ⟨w.heap.size + 1, 0, none⟩ = some (.int .i64 x) ∧ w'.cell? ⟨w.heap.size + 1, 1, none⟩ = some (.int .i64 y) ∧ w'.cell? ⟨w.heap.size + 1, 2, none⟩ = some (.int .i64 z) ∧ w'.cell? ⟨w.heap.size, 0, none⟩ = some (.slice ao l.length cap) ∧ w'.cell? ⟨w.heap.size + 1 + 1 + 1 + 1, 0, none⟩ = some (.int .i64 0) ∧ w'.cell? ⟨w.heap.size + 1 + 1 + 1 + 1, 1, none⟩ = some (.int .i64 sn) ∧ w'.cell? ⟨w.heap.size + 1 + 1 + 1 + 1, 2, none⟩ = some (.int .i64 sv) ∧ w'.cell? ⟨w.heap.size + 1 + 1 + 1 + 1, 3, none⟩ = some (.bool sd) ∧ w'.cell? ⟨gS, 0, none⟩ = some (.int .i64 (sn)) ∧ w'.cell? ⟨gS, 1, none⟩ = some (.int .i64 (max b y)) ∧ w'.cell? ⟨gS, 2, none⟩ = some (.int .i64 (max c z)) ∧ Below w.heap.size w w')) (by kernel_rfl) ?_ (fun hHeld => ?_)
    · (try dsimp only)
      exact ⟨b0, b1, b2, a0, s0, s1, s2, s3, e0, e1, e2, (bel_next BW (bel_drew _)).out⟩
    clear b0 b1 b2 a0 s0 s1 s2 s3 e0 e1 e2
    refine wpAnyH_take (i := 0) (v := ?_) rfl (by kernel_rfl) (by kernel_rfl) (by kernel_rfl) (fun _ _ _ h => h) (Or.inl ⟨by rfl, ?_⟩) (by assumption) ?_
    rotate_left
    · intro w' hSw
      (try dsimp only at hSw)
      go_simp
      all_goals (try with_reducible rfl)
    (try simp only [Act.put, List.getElem_toArray, List.getElem_cons_zero, List.getElem_cons_succ, List.setIfInBounds_toArray, List.set_cons_zero, List.set_cons_succ])
    refine wpAnyH_take (i := 1) (v := ?_) rfl (by kernel_rfl) (by kernel_rfl) (by kernel_rfl) (fun _ _ _ h => h) (Or.inl ⟨by rfl, ?_⟩) (by assumption) ?_
    rotate_left
    · intro w' hSw
      (try dsimp only at hSw)
      go_simp
      all_goals (try with_reducible rfl)
    (try simp only [Act.put, List.getElem_toArray, List.getElem_cons_zero, List.getElem_cons_succ, List.setIfInBounds_toArray, List.set_cons_zero, List.set_cons_succ])
    refine wpAnyH_take (i := 2) (v := ?_) rfl (by kernel_rfl) (by kernel_rfl) (by kernel_rfl) (fun _ _ _ h => h) (Or.inl ⟨by rfl, ?_⟩) (by assumption) ?_
    rotate_left
    · intro w' hSw
      (try dsimp only at hSw)
      go_simp
      all_goals (try with_reducible rfl)
    (try simp only [Act.put, List.getElem_toArray, List.getElem_cons_zero, List.getElem_cons_succ, List.setIfInBounds_toArray, List.set_cons_zero, List.set_cons_succ])
    refine wpAnyH_take (i := 4) (v := ?_) rfl (by kernel_rfl) (by kernel_rfl) (by kernel_rfl) (fun _ _ _ h => h) (Or.inl ⟨by rfl, ?_⟩) (by assumption) ?_
    rotate_left
    · intro w' hSw
      (try dsimp only at hSw)
      go_simp
      all_goals (try with_reducible rfl)
    (try simp only [Act.put, List.getElem_toArray, List.getElem_cons_zero, List.getElem_cons_succ, List.setIfInBounds_toArray, List.set_cons_zero, List.set_cons_succ])
    refine wpAnyH_take (i := 6) (v := ?_) rfl (by kernel_rfl) (by kernel_rfl) (by kernel_rfl) (fun _ _ _ h => h) (Or.inl ⟨by rfl, ?_⟩) (by assumption) ?_
    rotate_left
    · intro w' hSw
      (try dsimp only at hSw)
      go_simp
      all_goals (try with_reducible rfl)
    (try simp only [Act.put, List.getElem_toArray, List.getElem_cons_zero, List.getElem_cons_succ, List.setIfInBounds_toArray, List.set_cons_zero, List.set_cons_succ])
    replace RS : Hid _ := RS.out.next (bel_drew _)
    replace TS : Hid (There wS.drew (w.heap.size + 1 + 1 + 1) 4) := TS.out.next (bel_drew _) (Nat.lt_trans (by omega) ZS.out)
    replace ZS : Hid (w.heap.size + 1 + 1 + 1 + 1 < wS.drew.heap.size) := ZS.out
    have GWS : Hid (Gro W0 wS.drew (.slice none 0 0) (.slice none 0 0)) := (Gro.of_below HBS.out).trans (Gro.of_below (bel_drew _))
    clear BW HBS
    generalize wS.drew = wd at *
    refine wpAnyH_ready (rs := [3]) (by kernel_rfl) (by simp) ?_
    refine AllReadyH.cons rfl (fun K hK => ?_) AllReadyH.nil
    (try simp only [Act.put, List.getElem_toArray, List.getElem_cons_zero, List.getElem_cons_succ, List.setIfInBounds_toArray, List.set_cons_zero, List.set_cons_succ])
    go_simp
    refine (au_any cap ao l [] x y z (.slice none 0 0) _ (by have := HM.out; simp; omega) (okp_nodes HOK.out) RS.out (fun _ _ _ => Gro.none_ne) (World.ownsRow_nil _ 0 _ 4)).mono ?_
    rintro e w7 ⟨v7, rfl, ho, hg⟩
    obtain ⟨vo7, vn7, vc7, rfl⟩ := own_slc ho
    have O7 : Hid (w7.ownsRow 0 46 4 (.slice vo7 vn7 vc7) (fil x y z l).length (flat (fil x y z l))) := own_cast ho (by simp) (by simp)
    have hb7 := hg.below (Nat.le_refl _) (fun k hk => absurd hk Gro.none_ne)
    have F7 : Hid (∀ k, k < wd.heap.size → (Value.slice vo7 vn7 vc7).ownBlock ≠ some k) := fun k hk => nb hg hk
    have G7 : Hid (Gro W0 w7 (.slice none 0 0) (.slice vo7 vn7 vc7)) := GWS.out.trans hg
    have T7 : Hid (There w7 (w.heap.size + 1 + 1 + 1) 4) := th_gro TS.out hg (Nat.lt_trans (by omega) ZS.out) Gro.none_ne
    have L7 := hb7.size
    refine hK.out _ _ ?_ (fun hHeld' => ?_)
    · (try dsimp only)
      exact ⟨cell_next hb7 hHeld.1 (cell_lt hHeld.1), cell_next hb7 hHeld.2.1 (cell_lt hHeld.2.1), cell_next hb7 hHeld.2.2.1 (cell_lt hHeld.2.2.1), cell_next hb7 hHeld.2.2.2.1 (cell_lt hHeld.2.2.2.1), cell_next hb7 hHeld.2.2.2.2.1 (cell_lt hHeld.2.2.2.2.1), cell_next hb7 hHeld.2.2.2.2.2.1 (cell_lt hHeld.2.2.2.2.2.1), cell_next hb7 hHeld.2.2.2.2.2.2.1 (cell_lt hHeld.2.2.2.2.2.2.1), cell_next hb7 hHeld.2.2.2.2.2.2.2.1 (cell_lt hHeld.2.2.2.2.2.2.2.1), cell_next hb7 hHeld.2.2.2.2.2.2.2.2.1 (cell_lt hHeld.2.2.2.2.2.2.2.2.1), cell_next hb7 hHeld.2.2.2.2.2.2.2.2.2.1 (cell_lt hHeld.2.2.2.2.2.2.2.2.2.1), cell_next hb7 hHeld.2.2.2.2.2.2.2.2.2.2.1 (cell_lt hHeld.2.2.2.2.2.2.2.2.2.2.1), hHeld.2.2.2.2.2.2.2.2.2.2.2.trans (hb7.mono hHeld.2.2.2.2.2.2.2.2.2.2.2.size)⟩
    have CL : Hid (gS < wd.heap.size) := cell_lt hHeld.2.2.2.2.2.2.2.2.1
    clear hK K hHeld ho hg hb7
    have hHeld := hHeld'
    clear hHeld'
    (try simp only [Act.put, List.getElem_toArray, List.getElem_cons_zero, List.getElem_cons_succ, List.setIfInBounds_toArray, List.set_cons_zero, List.set_cons_succ])
    refine wpAnyH_ready (rs := [5]) (by kernel_rfl) (by simp) ?_
    refine AllReadyH.cons rfl (fun K hK => ?_) AllReadyH.nil
    (try simp only [Act.put, List.getElem_toArray, List.getElem_cons_zero, List.getElem_cons_succ, List.setIfInBounds_toArray, List.set_cons_zero, List.set_cons_succ])
    go_simp
    refine (place_any (.slice vo7 vn7 vc7) (fil x y z l) (⟨0, sn, sv, sd⟩ : Sib) _ (by have h1 := fil_le x y z l l.length; rw [List.take_length] at h1; have := HM.out; omega) O7.out (Rise.filter (ok_rise HOK.out) _)).mono ?_
    rintro e w8 ⟨v8, rfl, ho, hg⟩
    obtain ⟨vo, vn, vc, rfl⟩ := own_slc ho
    have O8 : Hid (w8.ownsRow 0 46 4 (.slice vo vn vc) _ _) := ho
    have G8 : Hid (Gro W0 w8 (.slice none 0 0) (.slice vo vn vc)) := G7.out.trans hg
    have hTr := th_gro T7.out hg (Nat.lt_of_lt_of_le (Nat.lt_trans (by omega) ZS.out) L7) (F7.out _ (Nat.lt_trans (by omega) ZS.out))
    have FB : Hid (∀ k, (Value.slice vo7 vn7 vc7).ownBlock = some k → w.heap.size ≤ k) := fun k hk => by
      rcases Nat.lt_or_ge k wd.heap.size with h | h
      · exact absurd hk (F7.out k h)
      · have := ZS.out; omega
    refine hK.out _ _ ?_ (fun hHeld' => ?_)
    · (try dsimp only)
      exact ⟨hg.cell hHeld.1 (F7.out _ (Nat.lt_of_le_of_lt (by omega) ZS.out)), hg.cell hHeld.2.1 (F7.out _ (Nat.lt_of_le_of_lt (by omega) ZS.out)), hg.cell hHeld.2.2.1 (F7.out _ (Nat.lt_of_le_of_lt (by omega) ZS.out)), hg.cell hHeld.2.2.2.1 (F7.out _ (Nat.lt_of_le_of_lt (by omega) ZS.out)), hg.cell hHeld.2.2.2.2.1 (F7.out _ (Nat.lt_of_le_of_lt (by omega) ZS.out)), hg.cell hHeld.2.2.2.2.2.1 (F7.out _ (Nat.lt_of_le_of_lt (by omega) ZS.out)), hg.cell hHeld.2.2.2.2.2.2.1 (F7.out _ (Nat.lt_of_le_of_lt (by omega) ZS.out)), hg.cell hHeld.2.2.2.2.2.2.2.1 (F7.out _ (Nat.lt_of_le_of_lt (by omega) ZS.out)), hg.cell hHeld.2.2.2.2.2.2.2.2.1 (F7.out _ CL.out), hg.cell hHeld.2.2.2.2.2.2.2.2.2.1 (F7.out _ CL.out), hg.cell hHeld.2.2.2.2.2.2.2.2.2.2.1 (F7.out _ CL.out), hHeld.2.2.2.2.2.2.2.2.2.2.2.trans (hg.below hHeld.2.2.2.2.2.2.2.2.2.2.2.size FB.out)⟩
    clear hK K hHeld ho hg
    have hHeld := hHeld'
    clear hHeld'
    (try simp only [Act.put, List.getElem_toArray, List.getElem_cons_zero, List.getElem_cons_succ, List.setIfInBounds_toArray, List.set_cons_zero, List.set_cons_succ])
    refine wpAnyH_take (i := 7) (v := ?_) rfl (by kernel_rfl) (by kernel_rfl) (by kernel_rfl) (fun _ _ _ h => h) (Or.inl ⟨by rfl, ?_⟩) (by assumption) ?_
    rotate_left
    · intro w' hSw
      (try dsimp only at hSw)
      go_simp
      all_goals (try with_reducible rfl)
    (try simp only [Act.put, List.getElem_toArray, List.getElem_cons_zero, List.getElem_cons_succ, List.setIfInBounds_toArray, List.set_cons_zero, List.set_cons_succ])
    obtain ⟨t0, T0⟩ := Option.isSome_iff_exists.1 (hTr 0 (by omega)).1
    have Z0 := (hTr 0 (by omega)).2
    obtain ⟨t1, T1⟩ := Option.isSome_iff_exists.1 (hTr 1 (by omega)).1
    have Z1 := (hTr 1 (by omega)).2
    obtain ⟨t2, T2⟩ := Option.isSome_iff_exists.1 (hTr 2 (by omega)).1
    have Z2 := (hTr 2 (by omega)).2
    obtain ⟨t3, T3⟩ := Option.isSome_iff_exists.1 (hTr 3 (by omega)).1
    have Z3 := (hTr 3 (by omega)).2
    refine wpAnyH_ready (rs := [8]) (by kernel_rfl) (by simp) ?_
    refine AllReadyH.cons rfl (fun K hK => ?_) AllReadyH.nil
    (try simp only [Act.put, List.getElem_toArray, List.getElem_cons_zero, List.getElem_cons_succ, List.setIfInBounds_toArray, List.set_cons_zero, List.set_cons_succ])
    go_simp
    (try simp only [])
    refine hK.out _ _ ?_ (fun hHeld' => ?_)
    · (try dsimp only)
      exact ⟨cell_s4 hHeld.1 (by omega), cell_s4 hHeld.2.1 (by omega), cell_s4 hHeld.2.2.1 (by omega), cell_s4 hHeld.2.2.2.1 (by omega), cell_s4 hHeld.2.2.2.2.1 (by omega), cell_s4 hHeld.2.2.2.2.2.1 (by omega), cell_s4 hHeld.2.2.2.2.2.2.1 (by omega), cell_s4 hHeld.2.2.2.2.2.2.2.1 (by omega), cell_s4 hHeld.2.2.2.2.2.2.2.2.1 (by have := ZG.out; omega), cell_s4 hHeld.2.2.2.2.2.2.2.2.2.1 (by have := ZG.out; omega), cell_s4 hHeld.2.2.2.2.2.2.2.2.2.2.1 (by have := ZG.out; omega), below_set4 hHeld.2.2.2.2.2.2.2.2.2.2.2 (by omega)⟩
    clear hK K hHeld
    have hHeld := hHeld'
    clear hHeld'
    (try simp only [Act.put, List.getElem_toArray, List.getElem_cons_zero, List.getElem_cons_succ, List.setIfInBounds_toArray, List.set_cons_zero, List.set_cons_succ])
    refine wpAnyH_take (i := 9) (v := ?_) rfl (by kernel_rfl) (by kernel_rfl) (by kernel_rfl) (fun _ _ _ h => h) (Or.inl ⟨by rfl, ?_⟩) (by assumption) ?_
    rotate_left
    · intro w' hSw
      (try dsimp only at hSw)
      go_simp
      all_goals (try with_reducible rfl)
    (try simp only [Act.put, List.getElem_toArray, List.getElem_cons_zero, List.getElem_cons_succ, List.setIfInBounds_toArray, List.set_cons_zero, List.set_cons_succ])
    refine wpAnyH_done (by kernel_rfl) ?_ _
    clear hHeld
    go_wp2
    refine bodyPost_ret (v := .tuple #[.agg #[.slice vo vn vc, .int .i64 (sn), .int .i64 (max b y), .int .i64 (max c z)], .int .i64 0]) (by simp [results, Tryz.results14, go_sem, T0, T1, T2, T3, Z0, Z1, Z2, Z3]) rfl ⟨_, rfl, ?_, ?_⟩
    · exact Gro.set4 (GW.out.trans G8.out) (by omega)
    · exact own_set4 O8.out (nb G8.out (Nat.lt_trans (by omega) JB1.out.2.2.2.2.2))
  · obtain rfl : p = max a x := by simpa using EP.out
    obtain rfl : sn = q := by simpa using EQ.out.symm
    obtain rfl : r = max c z := by simpa using ER.out
    clear EP EQ ER
    obtain ⟨⟨a0, a1, a2, a3⟩, ⟨b0, b1, b2⟩, ⟨d0, d1⟩, hTr, ⟨s0, s1, s2, s3⟩, hz⟩ := (JB1.out.next HB.out)
    have D0 : ∀ o, (w6.alloc o).cell? ⟨w.heap.size + 1 + 1, 0, none⟩ = _ := fun o => box_alloc d0 (by omega)
    have D1 : ∀ o, (w6.alloc o).cell? ⟨w.heap.size + 1 + 1, 1, none⟩ = _ := fun o => box_alloc d1 (by omega)
    go_upto_region 10 with fail
    clear D0 D1
    clear a0 a1 a2 a3 b0 b1 b2 d0 d1 hTr s0 s1 s2 s3 hz
    have HBS : Hid (Below W0.heap.size W0 (w6.alloc (.cells #[.int .i64 (max a x), .int .i64 (sn), .int .i64 (max c z)] 32))) := HB.out.trans ((bel_alloc _ _).mono HB.out.size)
    have e0 : (w6.alloc (.cells #[.int .i64 (max a x), .int .i64 (sn), .int .i64 (max c z)] 32)).cell? ⟨w6.heap.size, 0, none⟩ = some (.int .i64 (max a x)) := by go_simp
    have e1 : (w6.alloc (.cells #[.int .i64 (max a x), .int .i64 (sn), .int .i64 (max c z)] 32)).cell? ⟨w6.heap.size, 1, none⟩ = some (.int .i64 (sn)) := by go_simp
    have e2 : (w6.alloc (.cells #[.int .i64 (max a x), .int .i64 (sn), .int .i64 (max c z)] 32)).cell? ⟨w6.heap.size, 2, none⟩ = some (.int .i64 (max c z)) := by go_simp
    have GS : Hid (W0.heap.size ≤ w6.heap.size) := HB.out.size
    generalize (w6.alloc (.cells #[.int .i64 (max a x), .int .i64 (sn), .int .i64 (max c z)] 32)) = wS at *
    generalize w6.heap.size = gS at *
    obtain ⟨⟨a0, a1, a2, a3⟩, ⟨b0, b1, b2⟩, ⟨d0, d1⟩, hTr, ⟨s0, s1, s2, s3⟩, hz⟩ := (JB1.out.next HBS.out)
    clear a1 a2 a3 d0 d1
    have RS : Hid (SibRow wS ao l) := RA.out.next HBS.out
    have BW : Hid (Below w.heap.size w wS) := (GW.out.below (Nat.le_refl _) (fun k hk => absurd hk Gro.none_ne)).trans (HBS.out.mono (GW.out.below (base := w.heap.size) (Nat.le_refl _) (fun k hk => absurd hk Gro.none_ne)).size)
    have TS : Hid (There wS (w.heap.size + 1 + 1 + 1) 4) := hTr
    have ZS : Hid (w.heap.size + 1 + 1 + 1 + 1 < wS.heap.size) := hz
    have ZG : Hid (w.heap.size + 1 + 1 + 1 + 1 < gS) := Nat.lt_of_lt_of_le JB1.out.2.2.2.2.2 GS.out
    clear hTr hz
    refine wp_region_held_drew (S := (fun w' => w'.cell? ⟨w.heap.size + 1, 0, none⟩ = some (.int .i64 x) ∧ w'.cell? ⟨w.heap.size + 1, 1, none⟩ = some (.int .i64 y) ∧ w'.cell? ⟨w.heap.size + 1, 2, none⟩ = some (.int .i64 z) ∧ w'.cell? ⟨w.heap.size, 0, none⟩ = some (.slice ao l.length cap) ∧ w'.cell? ⟨w.heap.size + 1 + 1 + 1 + 1, 0, none⟩ = some (.int .i64 1) ∧ w'.cell? ⟨w.heap.size + 1 + 1 + 1 + 1, 1, none⟩ = some (.int .i64 sn) ∧ w'.cell? ⟨w.heap.size + 1 + 1 + 1 + 1, 2, none⟩ = some (.int .i64 sv) ∧ w'.cell? ⟨w.heap.size + 1 + 1 + 1 + 1, 3, none⟩ = some (.bool sd) ∧ w'.cell? ⟨gS, 0, none⟩ = some (.int .i64 (max a x)) ∧ w'.cell? ⟨gS, 1, none⟩ = some (.int .i64 (sn)) ∧ w'.cell? ⟨gS, 2, none⟩ = some (.int .i64 (max c z)) ∧ Below w.heap.size w w')) (by kernel_rfl) ?_ (fun hHeld => ?_)
    · (try dsimp only)
      exact ⟨b0, b1, b2, a0, s0, s1, s2, s3, e0, e1, e2, (bel_next BW (bel_drew _)).out⟩
    clear b0 b1 b2 a0 s0 s1 s2 s3 e0 e1 e2
    refine wpAnyH_take (i := 0) (v := ?_) rfl (by kernel_rfl) (by kernel_rfl) (by kernel_rfl) (fun _ _ _ h => h) (Or.inl ⟨by rfl, ?_⟩) (by assumption) ?_
    rotate_left
    · intro w' hSw
      (try dsimp only at hSw)
      go_simp
      all_goals (try with_reducible rfl)
    (try simp only [Act.put, List.getElem_toArray, List.getElem_cons_zero, List.getElem_cons_succ, List.setIfInBounds_toArray, List.set_cons_zero, List.set_cons_succ])
    refine wpAnyH_take (i := 1) (v := ?_) rfl (by kernel_rfl) (by kernel_rfl) (by kernel_rfl) (fun _ _ _ h => h) (Or.inl ⟨by rfl, ?_⟩) (by assumption) ?_
    rotate_left
    · intro w' hSw
      (try dsimp only at hSw)
      go_simp
      all_goals (try with_reducible rfl)
    (try simp only [Act.put, List.getElem_toArray, List.getElem_cons_zero, List.getElem_cons_succ, List.setIfInBounds_toArray, List.set_cons_zero, List.set_cons_succ])
    refine wpAnyH_take (i := 2) (v := ?_) rfl (by kernel_rfl) (by kernel_rfl) (by kernel_rfl) (fun _ _ _ h => h) (Or.inl ⟨by rfl, ?_⟩) (by assumption) ?_
    rotate_left
    · intro w' hSw
      (try dsimp only at hSw)
      go_simp
      all_goals (try with_reducible rfl)
    (try simp only [Act.put, List.getElem_toArray, List.getElem_cons_zero, List.getElem_cons_succ, List.setIfInBounds_toArray, List.set_cons_zero, List.set_cons_succ])
    refine wpAnyH_take (i := 4) (v := ?_) rfl (by kernel_rfl) (by kernel_rfl) (by kernel_rfl) (fun _ _ _ h => h) (Or.inl ⟨by rfl, ?_⟩) (by assumption) ?_
    rotate_left
    · intro w' hSw
      (try dsimp only at hSw)
      go_simp
      all_goals (try with_reducible rfl)
    (try simp only [Act.put, List.getElem_toArray, List.getElem_cons_zero, List.getElem_cons_succ, List.setIfInBounds_toArray, List.set_cons_zero, List.set_cons_succ])
    refine wpAnyH_take (i := 6) (v := ?_) rfl (by kernel_rfl) (by kernel_rfl) (by kernel_rfl) (fun _ _ _ h => h) (Or.inl ⟨by rfl, ?_⟩) (by assumption) ?_
    rotate_left
    · intro w' hSw
      (try dsimp only at hSw)
      go_simp
      all_goals (try with_reducible rfl)
    (try simp only [Act.put, List.getElem_toArray, List.getElem_cons_zero, List.getElem_cons_succ, List.setIfInBounds_toArray, List.set_cons_zero, List.set_cons_succ])
    replace RS : Hid _ := RS.out.next (bel_drew _)
    replace TS : Hid (There wS.drew (w.heap.size + 1 + 1 + 1) 4) := TS.out.next (bel_drew _) (Nat.lt_trans (by omega) ZS.out)
    replace ZS : Hid (w.heap.size + 1 + 1 + 1 + 1 < wS.drew.heap.size) := ZS.out
    have GWS : Hid (Gro W0 wS.drew (.slice none 0 0) (.slice none 0 0)) := (Gro.of_below HBS.out).trans (Gro.of_below (bel_drew _))
    clear BW HBS
    generalize wS.drew = wd at *
    refine wpAnyH_ready (rs := [3]) (by kernel_rfl) (by simp) ?_
    refine AllReadyH.cons rfl (fun K hK => ?_) AllReadyH.nil
    (try simp only [Act.put, List.getElem_toArray, List.getElem_cons_zero, List.getElem_cons_succ, List.setIfInBounds_toArray, List.set_cons_zero, List.set_cons_succ])
    go_simp
    refine (au_any cap ao l [] x y z (.slice none 0 0) _ (by have := HM.out; simp; omega) (okp_nodes HOK.out) RS.out (fun _ _ _ => Gro.none_ne) (World.ownsRow_nil _ 0 _ 4)).mono ?_
    rintro e w7 ⟨v7, rfl, ho, hg⟩
    obtain ⟨vo7, vn7, vc7, rfl⟩ := own_slc ho
    have O7 : Hid (w7.ownsRow 0 46 4 (.slice vo7 vn7 vc7) (fil x y z l).length (flat (fil x y z l))) := own_cast ho (by simp) (by simp)
    have hb7 := hg.below (Nat.le_refl _) (fun k hk => absurd hk Gro.none_ne)
    have F7 : Hid (∀ k, k < wd.heap.size → (Value.slice vo7 vn7 vc7).ownBlock ≠ some k) := fun k hk => nb hg hk
    have G7 : Hid (Gro W0 w7 (.slice none 0 0) (.slice vo7 vn7 vc7)) := GWS.out.trans hg
    have T7 : Hid (There w7 (w.heap.size + 1 + 1 + 1) 4) := th_gro TS.out hg (Nat.lt_trans (by omega) ZS.out) Gro.none_ne
    have L7 := hb7.size
    refine hK.out _ _ ?_ (fun hHeld' => ?_)
    · (try dsimp only)
      exact ⟨cell_next hb7 hHeld.1 (cell_lt hHeld.1), cell_next hb7 hHeld.2.1 (cell_lt hHeld.2.1), cell_next hb7 hHeld.2.2.1 (cell_lt hHeld.2.2.1), cell_next hb7 hHeld.2.2.2.1 (cell_lt hHeld.2.2.2.1), cell_next hb7 hHeld.2.2.2.2.1 (cell_lt hHeld.2.2.2.2.1), cell_next hb7 hHeld.2.2.2.2.2.1 (cell_lt hHeld.2.2.2.2.2.1), cell_next hb7 hHeld.2.2.2.2.2.2.1 (cell_lt hHeld.2.2.2.2.2.2.1), cell_next hb7 hHeld.2.2.2.2.2.2.2.1 (cell_lt hHeld.2.2.2.2.2.2.2.1), cell_next hb7 hHeld.2.2.2.2.2.2.2.2.1 (cell_lt hHeld.2.2.2.2.2.2.2.2.1), cell_next hb7 hHeld.2.2.2.2.2.2.2.2.2.1 (cell_lt hHeld.2.2.2.2.2.2.2.2.2.1), cell_next hb7 hHeld.2.2.2.2.2.2.2.2.2.2.1 (cell_lt hHeld.2.2.2.2.2.2.2.2.2.2.1), hHeld.2.2.2.2.2.2.2.2.2.2.2.trans (hb7.mono hHeld.2.2.2.2.2.2.2.2.2.2.2.size)⟩
    have CL : Hid (gS < wd.heap.size) := cell_lt hHeld.2.2.2.2.2.2.2.2.1
    clear hK K hHeld ho hg hb7
    have hHeld := hHeld'
    clear hHeld'
    (try simp only [Act.put, List.getElem_toArray, List.getElem_cons_zero, List.getElem_cons_succ, List.setIfInBounds_toArray, List.set_cons_zero, List.set_cons_succ])
    refine wpAnyH_ready (rs := [5]) (by kernel_rfl) (by simp) ?_
    refine AllReadyH.cons rfl (fun K hK => ?_) AllReadyH.nil
    (try simp only [Act.put, List.getElem_toArray, List.getElem_cons_zero, List.getElem_cons_succ, List.setIfInBounds_toArray, List.set_cons_zero, List.set_cons_succ])
    go_simp
    refine (place_any (.slice vo7 vn7 vc7) (fil x y z l) (⟨1, sn, sv, sd⟩ : Sib) _ (by have h1 := fil_le x y z l l.length; rw [List.take_length] at h1; have := HM.out; omega) O7.out (Rise.filter (ok_rise HOK.out) _)).mono ?_
    rintro e w8 ⟨v8, rfl, ho, hg⟩
    obtain ⟨vo, vn, vc, rfl⟩ := own_slc ho
    have O8 : Hid (w8.ownsRow 0 46 4 (.slice vo vn vc) _ _) := ho
    have G8 : Hid (Gro W0 w8 (.slice none 0 0) (.slice vo vn vc)) := G7.out.trans hg
    have hTr := th_gro T7.out hg (Nat.lt_of_lt_of_le (Nat.lt_trans (by omega) ZS.out) L7) (F7.out _ (Nat.lt_trans (by omega) ZS.out))
    have FB : Hid (∀ k, (Value.slice vo7 vn7 vc7).ownBlock = some k → w.heap.size ≤ k) := fun k hk => by
      rcases Nat.lt_or_ge k wd.heap.size with h | h
      · exact absurd hk (F7.out k h)
      · have := ZS.out; omega
    refine hK.out _ _ ?_ (fun hHeld' => ?_)
    · (try dsimp only)
      exact ⟨hg.cell hHeld.1 (F7.out _ (Nat.lt_of_le_of_lt (by omega) ZS.out)), hg.cell hHeld.2.1 (F7.out _ (Nat.lt_of_le_of_lt (by omega) ZS.out)), hg.cell hHeld.2.2.1 (F7.out _ (Nat.lt_of_le_of_lt (by omega) ZS.out)), hg.cell hHeld.2.2.2.1 (F7.out _ (Nat.lt_of_le_of_lt (by omega) ZS.out)), hg.cell hHeld.2.2.2.2.1 (F7.out _ (Nat.lt_of_le_of_lt (by omega) ZS.out)), hg.cell hHeld.2.2.2.2.2.1 (F7.out _ (Nat.lt_of_le_of_lt (by omega) ZS.out)), hg.cell hHeld.2.2.2.2.2.2.1 (F7.out _ (Nat.lt_of_le_of_lt (by omega) ZS.out)), hg.cell hHeld.2.2.2.2.2.2.2.1 (F7.out _ (Nat.lt_of_le_of_lt (by omega) ZS.out)), hg.cell hHeld.2.2.2.2.2.2.2.2.1 (F7.out _ CL.out), hg.cell hHeld.2.2.2.2.2.2.2.2.2.1 (F7.out _ CL.out), hg.cell hHeld.2.2.2.2.2.2.2.2.2.2.1 (F7.out _ CL.out), hHeld.2.2.2.2.2.2.2.2.2.2.2.trans (hg.below hHeld.2.2.2.2.2.2.2.2.2.2.2.size FB.out)⟩
    clear hK K hHeld ho hg
    have hHeld := hHeld'
    clear hHeld'
    (try simp only [Act.put, List.getElem_toArray, List.getElem_cons_zero, List.getElem_cons_succ, List.setIfInBounds_toArray, List.set_cons_zero, List.set_cons_succ])
    refine wpAnyH_take (i := 7) (v := ?_) rfl (by kernel_rfl) (by kernel_rfl) (by kernel_rfl) (fun _ _ _ h => h) (Or.inl ⟨by rfl, ?_⟩) (by assumption) ?_
    rotate_left
    · intro w' hSw
      (try dsimp only at hSw)
      go_simp
      all_goals (try with_reducible rfl)
    (try simp only [Act.put, List.getElem_toArray, List.getElem_cons_zero, List.getElem_cons_succ, List.setIfInBounds_toArray, List.set_cons_zero, List.set_cons_succ])
    obtain ⟨t0, T0⟩ := Option.isSome_iff_exists.1 (hTr 0 (by omega)).1
    have Z0 := (hTr 0 (by omega)).2
    obtain ⟨t1, T1⟩ := Option.isSome_iff_exists.1 (hTr 1 (by omega)).1
    have Z1 := (hTr 1 (by omega)).2
    obtain ⟨t2, T2⟩ := Option.isSome_iff_exists.1 (hTr 2 (by omega)).1
    have Z2 := (hTr 2 (by omega)).2
    obtain ⟨t3, T3⟩ := Option.isSome_iff_exists.1 (hTr 3 (by omega)).1
    have Z3 := (hTr 3 (by omega)).2
    refine wpAnyH_ready (rs := [8]) (by kernel_rfl) (by simp) ?_
    refine AllReadyH.cons rfl (fun K hK => ?_) AllReadyH.nil
    (try simp only [Act.put, List.getElem_toArray, List.getElem_cons_zero, List.getElem_cons_succ, List.setIfInBounds_toArray, List.set_cons_zero, List.set_cons_succ])
    go_simp
    (try simp only [])
    refine hK.out _ _ ?_ (fun hHeld' => ?_)
    · (try dsimp only)
      exact ⟨cell_s4 hHeld.1 (by omega), cell_s4 hHeld.2.1 (by omega), cell_s4 hHeld.2.2.1 (by omega), cell_s4 hHeld.2.2.2.1 (by omega), cell_s4 hHeld.2.2.2.2.1 (by omega), cell_s4 hHeld.2.2.2.2.2.1 (by omega), cell_s4 hHeld.2.2.2.2.2.2.1 (by omega), cell_s4 hHeld.2.2.2.2.2.2.2.1 (by omega), cell_s4 hHeld.2.2.2.2.2.2.2.2.1 (by have := ZG.out; omega), cell_s4 hHeld.2.2.2.2.2.2.2.2.2.1 (by have := ZG.out; omega), cell_s4 hHeld.2.2.2.2.2.2.2.2.2.2.1 (by have := ZG.out; omega), below_set4 hHeld.2.2.2.2.2.2.2.2.2.2.2 (by omega)⟩
    clear hK K hHeld
    have hHeld := hHeld'
    clear hHeld'
    (try simp only [Act.put, List.getElem_toArray, List.getElem_cons_zero, List.getElem_cons_succ, List.setIfInBounds_toArray, List.set_cons_zero, List.set_cons_succ])
    refine wpAnyH_take (i := 9) (v := ?_) rfl (by kernel_rfl) (by kernel_rfl) (by kernel_rfl) (fun _ _ _ h => h) (Or.inl ⟨by rfl, ?_⟩) (by assumption) ?_
    rotate_left
    · intro w' hSw
      (try dsimp only at hSw)
      go_simp
      all_goals (try with_reducible rfl)
    (try simp only [Act.put, List.getElem_toArray, List.getElem_cons_zero, List.getElem_cons_succ, List.setIfInBounds_toArray, List.set_cons_zero, List.set_cons_succ])
    refine wpAnyH_done (by kernel_rfl) ?_ _
    clear hHeld
    go_wp2
    refine bodyPost_ret (v := .tuple #[.agg #[.slice vo vn vc, .int .i64 (max a x), .int .i64 (sn), .int .i64 (max c z)], .int .i64 0]) (by simp [results, Tryz.results14, go_sem, T0, T1, T2, T3, Z0, Z1, Z2, Z3]) rfl ⟨_, rfl, ?_, ?_⟩
    · exact Gro.set4 (GW.out.trans G8.out) (by omega)
    · exact own_set4 O8.out (nb G8.out (Nat.lt_trans (by omega) JB1.out.2.2.2.2.2))
  · obtain rfl : p = max a x := by simpa using EP.out
    obtain rfl : q = max b y := by simpa using EQ.out
    obtain rfl : sn = r := by simpa using ER.out.symm
    clear EP EQ ER
    obtain ⟨⟨a0, a1, a2, a3⟩, ⟨b0, b1, b2⟩, ⟨d0, d1⟩, hTr, ⟨s0, s1, s2, s3⟩, hz⟩ := (JB1.out.next HB.out)
    have D0 : ∀ o, (w6.alloc o).cell? ⟨w.heap.size + 1 + 1, 0, none⟩ = _ := fun o => box_alloc d0 (by omega)
    have D1 : ∀ o, (w6.alloc o).cell? ⟨w.heap.size + 1 + 1, 1, none⟩ = _ := fun o => box_alloc d1 (by omega)
    go_upto_region 10 with fail
    clear D0 D1
    clear a0 a1 a2 a3 b0 b1 b2 d0 d1 hTr s0 s1 s2 s3 hz
    have HBS : Hid (Below W0.heap.size W0 (w6.alloc (.cells #[.int .i64 (max a x), .int .i64 (max b y), .int .i64 (sn)] 32))) := HB.out.trans ((bel_alloc _ _).mono HB.out.size)
    have e0 : (w6.alloc (.cells #[.int .i64 (max a x), .int .i64 (max b y), .int .i64 (sn)] 32)).cell? ⟨w6.heap.size, 0, none⟩ = some (.int .i64 (max a x)) := by go_simp
    have e1 : (w6.alloc (.cells #[.int .i64 (max a x), .int .i64 (max b y), .int .i64 (sn)] 32)).cell? ⟨w6.heap.size, 1, none⟩ = some (.int .i64 (max b y)) := by go_simp
    have e2 : (w6.alloc (.cells #[.int .i64 (max a x), .int .i64 (max b y), .int .i64 (sn)] 32)).cell? ⟨w6.heap.size, 2, none⟩ = some (.int .i64 (sn)) := by go_simp
    have GS : Hid (W0.heap.size ≤ w6.heap.size) := HB.out.size
    generalize (w6.alloc (.cells #[.int .i64 (max a x), .int .i64 (max b y), .int .i64 (sn)] 32)) = wS at *
    generalize w6.heap.size = gS at *
    obtain ⟨⟨a0, a1, a2, a3⟩, ⟨b0, b1, b2⟩, ⟨d0, d1⟩, hTr, ⟨s0, s1, s2, s3⟩, hz⟩ := (JB1.out.next HBS.out)
    clear a1 a2 a3 d0 d1
    have RS : Hid (SibRow wS ao l) := RA.out.next HBS.out
    have BW : Hid (Below w.heap.size w wS) := (GW.out.below (Nat.le_refl _) (fun k hk => absurd hk Gro.none_ne)).trans (HBS.out.mono (GW.out.below (base := w.heap.size) (Nat.le_refl _) (fun k hk => absurd hk Gro.none_ne)).size)
    have TS : Hid (There wS (w.heap.size + 1 + 1 + 1) 4) := hTr
    have ZS : Hid (w.heap.size + 1 + 1 + 1 + 1 < wS.heap.size) := hz
    have ZG : Hid (w.heap.size + 1 + 1 + 1 + 1 < gS) := Nat.lt_of_lt_of_le JB1.out.2.2.2.2.2 GS.out
    clear hTr hz
    refine wp_region_held_drew (S := (fun w' => w'.cell? ⟨w.heap.size + 1, 0, none⟩ = some (.int .i64 x) ∧ w'.cell? ⟨w.heap.size + 1, 1, none⟩ = some (.int .i64 y) ∧ w'.cell? ⟨w.heap.size + 1, 2, none⟩ = some (.int .i64 z) ∧ w'.cell? ⟨w.heap.size, 0, none⟩ = some (.slice ao l.length cap) ∧ w'.cell? ⟨w.heap.size + 1 + 1 + 1 + 1, 0, none⟩ = some (.int .i64 2) ∧ w'.cell? ⟨w.heap.size + 1 + 1 + 1 + 1, 1, none⟩ = some (.int .i64 sn) ∧ w'.cell? ⟨w.heap.size + 1 + 1 + 1 + 1, 2, none⟩ = some (.int .i64 sv) ∧ w'.cell? ⟨w.heap.size + 1 + 1 + 1 + 1, 3, none⟩ = some (.bool sd) ∧ w'.cell? ⟨gS, 0, none⟩ = some (.int .i64 (max a x)) ∧ w'.cell? ⟨gS, 1, none⟩ = some (.int .i64 (max b y)) ∧ w'.cell? ⟨gS, 2, none⟩ = some (.int .i64 (sn)) ∧ Below w.heap.size w w')) (by kernel_rfl) ?_ (fun hHeld => ?_)
    · (try dsimp only)
      exact ⟨b0, b1, b2, a0, s0, s1, s2, s3, e0, e1, e2, (bel_next BW (bel_drew _)).out⟩
    clear b0 b1 b2 a0 s0 s1 s2 s3 e0 e1 e2
    refine wpAnyH_take (i := 0) (v := ?_) rfl (by kernel_rfl) (by kernel_rfl) (by kernel_rfl) (fun _ _ _ h => h) (Or.inl ⟨by rfl, ?_⟩) (by assumption) ?_
    rotate_left
    · intro w' hSw
      (try dsimp only at hSw)
      go_simp
      all_goals (try with_reducible rfl)
    (try simp only [Act.put, List.getElem_toArray, List.getElem_cons_zero, List.getElem_cons_succ, List.setIfInBounds_toArray, List.set_cons_zero, List.set_cons_succ])
    refine wpAnyH_take (i := 1) (v := ?_) rfl (by kernel_rfl) (by kernel_rfl) (by kernel_rfl) (fun _ _ _ h => h) (Or.inl ⟨by rfl, ?_⟩) (by assumption) ?_
    rotate_left
    · intro w' hSw
      (try dsimp only at hSw)
      go_simp
      all_goals (try with_reducible rfl)
    (try simp only [Act.put, List.getElem_toArray, List.getElem_cons_zero, List.getElem_cons_succ, List.setIfInBounds_toArray, List.set_cons_zero, List.set_cons_succ])
    refine wpAnyH_take (i := 2) (v := ?_) rfl (by kernel_rfl) (by kernel_rfl) (by kernel_rfl) (fun _ _ _ h => h) (Or.inl ⟨by rfl, ?_⟩) (by assumption) ?_
    rotate_left
    · intro w' hSw
      (try dsimp only at hSw)
      go_simp
      all_goals (try with_reducible rfl)
    (try simp only [Act.put, List.getElem_toArray, List.getElem_cons_zero, List.getElem_cons_succ, List.setIfInBounds_toArray, List.set_cons_zero, List.set_cons_succ])
    refine wpAnyH_take (i := 4) (v := ?_) rfl (by kernel_rfl) (by kernel_rfl) (by kernel_rfl) (fun _ _ _ h => h) (Or.inl ⟨by rfl, ?_⟩) (by assumption) ?_
    rotate_left
    · intro w' hSw
      (try dsimp only at hSw)
      go_simp
      all_goals (try with_reducible rfl)
    (try simp only [Act.put, List.getElem_toArray, List.getElem_cons_zero, List.getElem_cons_succ, List.setIfInBounds_toArray, List.set_cons_zero, List.set_cons_succ])
    refine wpAnyH_take (i := 6) (v := ?_) rfl (by kernel_rfl) (by kernel_rfl) (by kernel_rfl) (fun _ _ _ h => h) (Or.inl ⟨by rfl, ?_⟩) (by assumption) ?_
    rotate_left
    · intro w' hSw
      (try dsimp only at hSw)
      go_simp
      all_goals (try with_reducible rfl)
    (try simp only [Act.put, List.getElem_toArray, List.getElem_cons_zero, List.getElem_cons_succ, List.setIfInBounds_toArray, List.set_cons_zero, List.set_cons_succ])
    replace RS : Hid _ := RS.out.next (bel_drew _)
    replace TS : Hid (There wS.drew (w.heap.size + 1 + 1 + 1) 4) := TS.out.next (bel_drew _) (Nat.lt_trans (by omega) ZS.out)
    replace ZS : Hid (w.heap.size + 1 + 1 + 1 + 1 < wS.drew.heap.size) := ZS.out
    have GWS : Hid (Gro W0 wS.drew (.slice none 0 0) (.slice none 0 0)) := (Gro.of_below HBS.out).trans (Gro.of_below (bel_drew _))
    clear BW HBS
    generalize wS.drew = wd at *
    refine wpAnyH_ready (rs := [3]) (by kernel_rfl) (by simp) ?_
    refine AllReadyH.cons rfl (fun K hK => ?_) AllReadyH.nil
    (try simp only [Act.put, List.getElem_toArray, List.getElem_cons_zero, List.getElem_cons_succ, List.setIfInBounds_toArray, List.set_cons_zero, List.set_cons_succ])
    go_simp
    refine (au_any cap ao l [] x y z (.slice none 0 0) _ (by have := HM.out; simp; omega) (okp_nodes HOK.out) RS.out (fun _ _ _ => Gro.none_ne) (World.ownsRow_nil _ 0 _ 4)).mono ?_
    rintro e w7 ⟨v7, rfl, ho, hg⟩
    obtain ⟨vo7, vn7, vc7, rfl⟩ := own_slc ho
    have O7 : Hid (w7.ownsRow 0 46 4 (.slice vo7 vn7 vc7) (fil x y z l).length (flat (fil x y z l))) := own_cast ho (by simp) (by simp)
    have hb7 := hg.below (Nat.le_refl _) (fun k hk => absurd hk Gro.none_ne)
    have F7 : Hid (∀ k, k < wd.heap.size → (Value.slice vo7 vn7 vc7).ownBlock ≠ some k) := fun k hk => nb hg hk
    have G7 : Hid (Gro W0 w7 (.slice none 0 0) (.slice vo7 vn7 vc7)) := GWS.out.trans hg
    have T7 : Hid (There w7 (w.heap.size + 1 + 1 + 1) 4) := th_gro TS.out hg (Nat.lt_trans (by omega) ZS.out) Gro.none_ne
    have L7 := hb7.size
    refine hK.out _ _ ?_ (fun hHeld' => ?_)
    · (try dsimp only)
      exact ⟨cell_next hb7 hHeld.1 (cell_lt hHeld.1), cell_next hb7 hHeld.2.1 (cell_lt hHeld.2.1), cell_next hb7 hHeld.2.2.1 (cell_lt hHeld.2.2.1), cell_next hb7 hHeld.2.2.2.1 (cell_lt hHeld.2.2.2.1), cell_next hb7 hHeld.2.2.2.2.1 (cell_lt hHeld.2.2.2.2.1), cell_next hb7 hHeld.2.2.2.2.2.1 (cell_lt hHeld.2.2.2.2.2.1), cell_next hb7 hHeld.2.2.2.2.2.2.1 (cell_lt hHeld.2.2.2.2.2.2.1), cell_next hb7 hHeld.2.2.2.2.2.2.2.1 (cell_lt hHeld.2.2.2.2.2.2.2.1), cell_next hb7 hHeld.2.2.2.2.2.2.2.2.1 (cell_lt hHeld.2.2.2.2.2.2.2.2.1), cell_next hb7 hHeld.2.2.2.2.2.2.2.2.2.1 (cell_lt hHeld.2.2.2.2.2.2.2.2.2.1), cell_next hb7 hHeld.2.2.2.2.2.2.2.2.2.2.1 (cell_lt hHeld.2.2.2.2.2.2.2.2.2.2.1), hHeld.2.2.2.2.2.2.2.2.2.2.2.trans (hb7.mono hHeld.2.2.2.2.2.2.2.2.2.2.2.size)⟩
    have CL : Hid (gS < wd.heap.size) := cell_lt hHeld.2.2.2.2.2.2.2.2.1
    clear hK K hHeld ho hg hb7
    have hHeld := hHeld'
    clear hHeld'
    (try simp only [Act.put, List.getElem_toArray, List.getElem_cons_zero, List.getElem_cons_succ, List.setIfInBounds_toArray, List.set_cons_zero, List.set_cons_succ])
    refine wpAnyH_ready (rs := [5]) (by kernel_rfl) (by simp) ?_
    refine AllReadyH.cons rfl (fun K hK => ?_) AllReadyH.nil
    (try simp only [Act.put, List.getElem_toArray, List.getElem_cons_zero, List.getElem_cons_succ, List.setIfInBounds_toArray, List.set_cons_zero, List.set_cons_succ])
    go_simp
    refine (place_any (.slice vo7 vn7 vc7) (fil x y z l) (⟨2, sn, sv, sd⟩ : Sib) _ (by have h1 := fil_le x y z l l.length; rw [List.take_length] at h1; have := HM.out; omega) O7.out (Rise.filter (ok_rise HOK.out) _)).mono ?_
    rintro e w8 ⟨v8, rfl, ho, hg⟩
    obtain ⟨vo, vn, vc, rfl⟩ := own_slc ho
    have O8 : Hid (w8.ownsRow 0 46 4 (.slice vo vn vc) _ _) := ho
    have G8 : Hid (Gro W0 w8 (.slice none 0 0) (.slice vo vn vc)) := G7.out.trans hg
    have hTr := th_gro T7.out hg (Nat.lt_of_lt_of_le (Nat.lt_trans (by omega) ZS.out) L7) (F7.out _ (Nat.lt_trans (by omega) ZS.out))
    have FB : Hid (∀ k, (Value.slice vo7 vn7 vc7).ownBlock = some k → w.heap.size ≤ k) := fun k hk => by
      rcases Nat.lt_or_ge k wd.heap.size with h | h
      · exact absurd hk (F7.out k h)
      · have := ZS.out; omega
    refine hK.out _ _ ?_ (fun hHeld' => ?_)
    · (try dsimp only)
      exact ⟨hg.cell hHeld.1 (F7.out _ (Nat.lt_of_le_of_lt (by omega) ZS.out)), hg.cell hHeld.2.1 (F7.out _ (Nat.lt_of_le_of_lt (by omega) ZS.out)), hg.cell hHeld.2.2.1 (F7.out _ (Nat.lt_of_le_of_lt (by omega) ZS.out)), hg.cell hHeld.2.2.2.1 (F7.out _ (Nat.lt_of_le_of_lt (by omega) ZS.out)), hg.cell hHeld.2.2.2.2.1 (F7.out _ (Nat.lt_of_le_of_lt (by omega) ZS.out)), hg.cell hHeld.2.2.2.2.2.1 (F7.out _ (Nat.lt_of_le_of_lt (by omega) ZS.out)), hg.cell hHeld.2.2.2.2.2.2.1 (F7.out _ (Nat.lt_of_le_of_lt (by omega) ZS.out)), hg.cell hHeld.2.2.2.2.2.2.2.1 (F7.out _ (Nat.lt_of_le_of_lt (by omega) ZS.out)), hg.cell hHeld.2.2.2.2.2.2.2.2.1 (F7.out _ CL.out), hg.cell hHeld.2.2.2.2.2.2.2.2.2.1 (F7.out _ CL.out), hg.cell hHeld.2.2.2.2.2.2.2.2.2.2.1 (F7.out _ CL.out), hHeld.2.2.2.2.2.2.2.2.2.2.2.trans (hg.below hHeld.2.2.2.2.2.2.2.2.2.2.2.size FB.out)⟩
    clear hK K hHeld ho hg
    have hHeld := hHeld'
    clear hHeld'
    (try simp only [Act.put, List.getElem_toArray, List.getElem_cons_zero, List.getElem_cons_succ, List.setIfInBounds_toArray, List.set_cons_zero, List.set_cons_succ])
    refine wpAnyH_take (i := 7) (v := ?_) rfl (by kernel_rfl) (by kernel_rfl) (by kernel_rfl) (fun _ _ _ h => h) (Or.inl ⟨by rfl, ?_⟩) (by assumption) ?_
    rotate_left
    · intro w' hSw
      (try dsimp only at hSw)
      go_simp
      all_goals (try with_reducible rfl)
    (try simp only [Act.put, List.getElem_toArray, List.getElem_cons_zero, List.getElem_cons_succ, List.setIfInBounds_toArray, List.set_cons_zero, List.set_cons_succ])
    obtain ⟨t0, T0⟩ := Option.isSome_iff_exists.1 (hTr 0 (by omega)).1
    have Z0 := (hTr 0 (by omega)).2
    obtain ⟨t1, T1⟩ := Option.isSome_iff_exists.1 (hTr 1 (by omega)).1
    have Z1 := (hTr 1 (by omega)).2
    obtain ⟨t2, T2⟩ := Option.isSome_iff_exists.1 (hTr 2 (by omega)).1
    have Z2 := (hTr 2 (by omega)).2
    obtain ⟨t3, T3⟩ := Option.isSome_iff_exists.1 (hTr 3 (by omega)).1
    have Z3 := (hTr 3 (by omega)).2
    refine wpAnyH_ready (rs := [8]) (by kernel_rfl) (by simp) ?_
    refine AllReadyH.cons rfl (fun K hK => ?_) AllReadyH.nil
    (try simp only [Act.put, List.getElem_toArray, List.getElem_cons_zero, List.getElem_cons_succ, List.setIfInBounds_toArray, List.set_cons_zero, List.set_cons_succ])
    go_simp
    (try simp only [])
    refine hK.out _ _ ?_ (fun hHeld' => ?_)
    · (try dsimp only)
      exact ⟨cell_s4 hHeld.1 (by omega), cell_s4 hHeld.2.1 (by omega), cell_s4 hHeld.2.2.1 (by omega), cell_s4 hHeld.2.2.2.1 (by omega), cell_s4 hHeld.2.2.2.2.1 (by omega), cell_s4 hHeld.2.2.2.2.2.1 (by omega), cell_s4 hHeld.2.2.2.2.2.2.1 (by omega), cell_s4 hHeld.2.2.2.2.2.2.2.1 (by omega), cell_s4 hHeld.2.2.2.2.2.2.2.2.1 (by have := ZG.out; omega), cell_s4 hHeld.2.2.2.2.2.2.2.2.2.1 (by have := ZG.out; omega), cell_s4 hHeld.2.2.2.2.2.2.2.2.2.2.1 (by have := ZG.out; omega), below_set4 hHeld.2.2.2.2.2.2.2.2.2.2.2 (by omega)⟩
    clear hK K hHeld
    have hHeld := hHeld'
    clear hHeld'
    (try simp only [Act.put, List.getElem_toArray, List.getElem_cons_zero, List.getElem_cons_succ, List.setIfInBounds_toArray, List.set_cons_zero, List.set_cons_succ])
    refine wpAnyH_take (i := 9) (v := ?_) rfl (by kernel_rfl) (by kernel_rfl) (by kernel_rfl) (fun _ _ _ h => h) (Or.inl ⟨by rfl, ?_⟩) (by assumption) ?_
    rotate_left
    · intro w' hSw
      (try dsimp only at hSw)
      go_simp
      all_goals (try with_reducible rfl)
    (try simp only [Act.put, List.getElem_toArray, List.getElem_cons_zero, List.getElem_cons_succ, List.setIfInBounds_toArray, List.set_cons_zero, List.set_cons_succ])
    refine wpAnyH_done (by kernel_rfl) ?_ _
    clear hHeld
    go_wp2
    refine bodyPost_ret (v := .tuple #[.agg #[.slice vo vn vc, .int .i64 (max a x), .int .i64 (max b y), .int .i64 (sn)], .int .i64 0]) (by simp [results, Tryz.results14, go_sem, T0, T1, T2, T3, Z0, Z1, Z2, Z3]) rfl ⟨_, rfl, ?_, ?_⟩
    · exact Gro.set4 (GW.out.trans G8.out) (by omega)
    · exact own_set4 O8.out (nb G8.out (Nat.lt_trans (by omega) JB1.out.2.2.2.2.2))
end W
end Go.Proofs.YtkdbcmkmcjaenaaGreatDoor
