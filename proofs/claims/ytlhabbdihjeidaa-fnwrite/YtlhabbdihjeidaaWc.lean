/- Write of the specification. -/
import Derived.Test.YtlhabbdihjeidaaRows
import Derived.Test.YtlhabbdihjeidaaOb
import Derived.WalkKit
import Derived.WalkSpells
import Derived.WalkLawsBesides
import Derived.Deep.QuietTactic
import Derived.BigQuiet
import Derived.Deep.RegionHeld3
import Derived.Test.YtlhabbdihjeidaaWb
import Derived.LoopN
import Derived.Deep.Cut
namespace Go.Proofs.Ytlhabbdihjeidaa
open Go.RowKit
set_option linter.unusedSimpArgs false
set_option linter.unusedVariables false

/-- The boxes of a write: the object's, the context's, the event's, the result's, the sibling's. -/
def BX (g : Nat) (W : World) (v : Value) (a b c x y z sp sn sv : Int) (sd : Bool) : Prop := Cells4 W g v a b c ∧ Cells3 W (g + 1) x y z ∧ Cells2 W (g + 1 + 1) sp sn ∧ There W (g + 1 + 1 + 1) 4 ∧ (W.cell? ⟨g + 1 + 1 + 1 + 1, 0, none⟩ = some (.int .i64 sp) ∧ W.cell? ⟨g + 1 + 1 + 1 + 1, 1, none⟩ = some (.int .i64 sn) ∧ W.cell? ⟨g + 1 + 1 + 1 + 1, 2, none⟩ = some (.int .i64 sv) ∧ W.cell? ⟨g + 1 + 1 + 1 + 1, 3, none⟩ = some (.bool sd)) ∧ g + 1 + 1 + 1 + 1 < W.heap.size
theorem BX.next {W W' : World} {g : Nat} {v : Value} {a b c x y z sp sn sv : Int} {sd : Bool} (h : BX g W v a b c x y z sp sn sv sd) (hb : Below W.heap.size W W') : BX g W' v a b c x y z sp sn sv sd := by
  obtain ⟨h1, h2, h3, h4, ⟨h5, h6, h7, h8⟩, hz⟩ := h
  exact ⟨c4_next h1 hb (Nat.lt_trans (by omega) hz), c3_next h2 hb (Nat.lt_trans (by omega) hz), c2_next h3 hb (Nat.lt_trans (by omega) hz), h4.next hb (Nat.lt_trans (by omega) hz), ⟨cell_next hb h5 hz, cell_next hb h6 hz, cell_next hb h7 hz, cell_next hb h8 hz⟩, Nat.lt_of_lt_of_le hz hb.size⟩
theorem BX.new {w : World} {v : Value} {a b c x y z sp sn sv : Int} {sd : Bool} {t t1 t2 t3 : TypeId} : BX w.heap.size (((((w.alloc (.cells #[v, .int .i64 a, .int .i64 b, .int .i64 c] t)).alloc (.cells #[.int .i64 x, .int .i64 y, .int .i64 z] t1)).alloc (.cells #[.int .i64 sp, .int .i64 sn] t2)).alloc (.cells #[.slice none 0 0, .int .i64 0, .int .i64 0, .int .i64 0] t)).alloc (.cells #[.int .i64 sp, .int .i64 sn, .int .i64 sv, .bool sd] t3)) v a b c x y z sp sn sv sd := by
  refine ⟨⟨by go_simp, by go_simp, by go_simp, by go_simp⟩, ⟨by go_simp, by go_simp, by go_simp⟩, ⟨by go_simp, by go_simp⟩, fun j hj => ?_, ⟨by go_simp, by go_simp, by go_simp, by go_simp⟩, by simp⟩
  have hj' : j = 0 ∨ j = 1 ∨ j = 2 ∨ j = 3 := by omega
  rcases hj' with rfl | rfl | rfl | rfl <;> exact ⟨by go_simp, by go_simp⟩
/-- What a write may be asked for. -/
def WGood (l : List Sib) (a b c x y z : Int) (s : Sib) : Prop := OkP l a b c ∧ vvB x y z = true ∧ sibOK s.p s.n s.v s.d = true
def WKnown (a b c x y z : Int) (s : Sib) : Prop := s.n ≤ comp a b c s.p ∨ s.n ≤ comp x y z s.p
/-- What a write answers. -/
structure WRel (l : List Sib) (a b c x y z : Int) (s : Sib) (J : List Sib) (p q r code : Int) : Prop where
  bad : ¬ WGood l a b c x y z s → J = [] ∧ p = 0 ∧ q = 0 ∧ r = 0 ∧ code = 1
  known : WGood l a b c x y z s → WKnown a b c x y z s → J = l ∧ p = a ∧ q = b ∧ r = c ∧ code = 17
  full : WGood l a b c x y z s → ¬ WKnown a b c x y z s → l.length = 100 → J = l ∧ p = a ∧ q = b ∧ r = c ∧ code = 6
  done : WGood l a b c x y z s → ¬ WKnown a b c x y z s → ¬ l.length = 100 → J = pt s (fil x y z l) ∧ p = (if s.p = 0 then s.n else max a x) ∧ q = (if s.p = 1 then s.n else max b y) ∧ r = (if s.p = 2 then s.n else max c z) ∧ code = 0
theorem wrel (l : List Sib) (a b c x y z : Int) (s : Sib) : ∃ J p q r code, WRel l a b c x y z s J p q r code ∧ (J.length ≤ l.length ∨ J.length ≤ 101) := by
  by_cases h : WGood l a b c x y z s
  · by_cases k : WKnown a b c x y z s
    · exact ⟨l, a, b, c, 17, ⟨fun h' => (h' h).elim, fun _ _ => ⟨rfl, rfl, rfl, rfl, rfl⟩, fun _ h' => (h' k).elim, fun _ h' => (h' k).elim⟩, by omega⟩
    · by_cases f : l.length = 100
      · exact ⟨l, a, b, c, 6, ⟨fun h' => (h' h).elim, fun _ h' => (k h').elim, fun _ _ _ => ⟨rfl, rfl, rfl, rfl, rfl⟩, fun _ _ h' => (h' f).elim⟩, by omega⟩
      · refine ⟨_, _, _, _, 0, ⟨fun h' => (h' h).elim, fun _ h' => (k h').elim, fun _ _ h' => (f h').elim, fun _ _ _ => ⟨rfl, rfl, rfl, rfl, rfl⟩⟩, ?_⟩
        have h1 := pts_len [s] (fil x y z l)
        have h2 := fil_le x y z l l.length
        rw [List.take_length] at h2
        simp [pts] at h1
        have h3 := h.1.1
        omega
  · exact ⟨[], 0, 0, 0, 1, ⟨fun _ => ⟨rfl, rfl, rfl, rfl, rfl⟩, fun h' => (h h').elim, fun h' => (h h').elim, fun h' => (h h').elim⟩, by simp⟩
theorem okp_nodes {l : List Sib} {a b c : Int} (h : OkP l a b c) : ∀ i (h : i < l.length), 0 ≤ l[i].p ∧ l[i].p < 3 := fun i hi => sib_node (h.2.2 i hi).1
set_option maxRecDepth 100000 in
set_option maxHeartbeats 8000000 in
theorem specWrite_any (cap : Nat) (ao : Option Addr) (l : List Sib) (a b c x y z sp sn sv : Int) (sd : Bool) (J : List Sib) (p q r code : Int) (hW : Hid (WRel l a b c x y z (⟨sp, sn, sv, sd⟩ : Sib) J p q r code)) (w : World) (hm : (l.length : Int) ≤ 1048576) (hr0 : SibRow w ao l) :
    Calls Try.prog 19 #[.agg #[.slice ao l.length cap, .int .i64 a, .int .i64 b, .int .i64 c], .agg #[.int .i64 x, .int .i64 y, .int .i64 z], .agg #[.int .i64 sp, .int .i64 sn], .int .i64 sv, .bool sd] w fun e w' => ∃ v, e = .returned (.tuple #[.agg #[v, .int .i64 p, .int .i64 q, .int .i64 r], .int .i64 code]) ∧ Gro w w' (.slice none 0 0) v ∧ w'.ownsRow 0 47 4 v J.length (flat J) := by
  have RA : Hid (SibRow (((((w.alloc (.cells #[.slice ao l.length cap, .int .i64 a, .int .i64 b, .int .i64 c] 29)).alloc (.cells #[.int .i64 x, .int .i64 y, .int .i64 z] 27)).alloc (.cells #[.int .i64 sp, .int .i64 sn] 43)).alloc (.cells #[.slice none 0 0, .int .i64 0, .int .i64 0, .int .i64 0] 29)).alloc (.cells #[.int .i64 sp, .int .i64 sn, .int .i64 sv, .bool sd] 47)) ao l) := row_next (row_next (row_next (row_next (row_next hr0 (bel_alloc _ _)) (bel_alloc _ _)) (bel_alloc _ _)) (bel_alloc _ _)) (bel_alloc _ _)
  have JB1 : Hid (BX w.heap.size (((((w.alloc (.cells #[.slice ao l.length cap, .int .i64 a, .int .i64 b, .int .i64 c] 29)).alloc (.cells #[.int .i64 x, .int .i64 y, .int .i64 z] 27)).alloc (.cells #[.int .i64 sp, .int .i64 sn] 43)).alloc (.cells #[.slice none 0 0, .int .i64 0, .int .i64 0, .int .i64 0] 29)).alloc (.cells #[.int .i64 sp, .int .i64 sn, .int .i64 sv, .bool sd] 47)) (.slice ao l.length cap) a b c x y z sp sn sv sd) := BX.new
  have GW : Hid (Gro w (((((w.alloc (.cells #[.slice ao l.length cap, .int .i64 a, .int .i64 b, .int .i64 c] 29)).alloc (.cells #[.int .i64 x, .int .i64 y, .int .i64 z] 27)).alloc (.cells #[.int .i64 sp, .int .i64 sn] 43)).alloc (.cells #[.slice none 0 0, .int .i64 0, .int .i64 0, .int .i64 0] 29)).alloc (.cells #[.int .i64 sp, .int .i64 sn, .int .i64 sv, .bool sd] 47)) (.slice none 0 0) (.slice none 0 0)) := (Gro.of_below (bel_alloc _ _)).trans ((Gro.of_below (bel_alloc _ _)).trans ((Gro.of_below (bel_alloc _ _)).trans ((Gro.of_below (bel_alloc _ _)).trans (Gro.of_below (bel_alloc _ _)))))
  have HM : Hid (l.length ≤ 1048576) := by show _ ≤ _; omega
  have HM' : Hid ((l.length : Int) ≤ 1048576) := hm
  clear hr0 hm
  obtain ⟨k0, hO⟩ := bool_of (OkP l a b c)
  obtain ⟨kv, hkv⟩ : ∃ k, k = vvB x y z := ⟨_, rfl⟩
  obtain ⟨ks, hks⟩ : ∃ k, k = sibOK sp sn sv sd := ⟨_, rfl⟩
  have CV : Hid (∀ W, Calls Try.prog 37 #[.agg #[.int .i64 x, .int .i64 y, .int .i64 z]] W fun e w' => e = .returned (.bool kv) ∧ Below W.heap.size W w') := fun W => by rw [hkv]; exact spec_vv x y z W
  have CS : Hid (∀ W, Calls Try.prog 38 #[.agg #[.int .i64 sp, .int .i64 sn, .int .i64 sv, .bool sd]] W fun e w' => e = .returned (.bool ks) ∧ Below W.heap.size W w') := fun W => by rw [hks]; exact l02sib_any sp sn sv sd W
  have HV : Hid (kv = vvB x y z) := hkv
  have HS : Hid (ks = sibOK sp sn sv sd) := hks
  clear hkv hks
  go_enter Try.func19, Try.ntmps19
  go_wp2_with fail
  generalize (((((w.alloc (.cells #[.slice ao l.length cap, .int .i64 a, .int .i64 b, .int .i64 c] 29)).alloc (.cells #[.int .i64 x, .int .i64 y, .int .i64 z] 27)).alloc (.cells #[.int .i64 sp, .int .i64 sn] 43)).alloc (.cells #[.slice none 0 0, .int .i64 0, .int .i64 0, .int .i64 0] 29)).alloc (.cells #[.int .i64 sp, .int .i64 sn, .int .i64 sv, .bool sd] 47)) = W0 at *
  refine (specOK_any cap ao l a b c k0 hO _ HM'.out RA.out).mono ?_
  rintro e w1 ⟨rfl, hb⟩
  have HB : Hid (Below W0.heap.size W0 w1) := hb
  clear hb
  cases k0
  · obtain ⟨rfl, rfl, rfl, rfl, rfl⟩ := hW.out.bad (fun h => by have := hO.out.2 h.1; cases this)
    obtain ⟨⟨a0, a1, a2, a3⟩, ⟨b0, b1, b2⟩, ⟨d0, d1⟩, hTr, ⟨s0, s1, s2, s3⟩, hz⟩ := (JB1.out.next HB.out)
    obtain ⟨t0, T0⟩ := Option.isSome_iff_exists.1 (hTr 0 (by omega)).1
    have Z0 := (hTr 0 (by omega)).2
    obtain ⟨t1, T1⟩ := Option.isSome_iff_exists.1 (hTr 1 (by omega)).1
    have Z1 := (hTr 1 (by omega)).2
    obtain ⟨t2, T2⟩ := Option.isSome_iff_exists.1 (hTr 2 (by omega)).1
    have Z2 := (hTr 2 (by omega)).2
    obtain ⟨t3, T3⟩ := Option.isSome_iff_exists.1 (hTr 3 (by omega)).1
    have Z3 := (hTr 3 (by omega)).2
    clear hTr
    go_wp2
    refine bodyPost_ret (v := .tuple #[.agg #[.slice none 0 0, .int .i64 0, .int .i64 0, .int .i64 0], .int .i64 1]) (by simp [results, Try.results19, go_sem, T0, T1, T2, T3, Z0, Z1, Z2, Z3]) rfl ⟨_, rfl, ?_, World.ownsRow_nil _ _ _ _⟩
    exact Gro.set4 (GW.out.trans (Gro.of_below HB.out)) (by omega)
  have HOK : Hid (OkP l a b c) := hO.out.1 rfl
  clear hO
  obtain ⟨⟨a0, a1, a2, a3⟩, ⟨b0, b1, b2⟩, ⟨d0, d1⟩, hTr, ⟨s0, s1, s2, s3⟩, hz⟩ := (JB1.out.next HB.out)
  go_wp2_with fail
  clear a0 a1 a2 a3 b0 b1 b2 d0 d1 hTr s0 s1 s2 s3 hz
  refine Calls.mono (CV.out _) ?_
  rintro e w2 ⟨rfl, hb⟩
  replace HB : Hid (Below W0.heap.size W0 _) := bel_next' HB hb
  clear hb
  cases kv
  · obtain ⟨rfl, rfl, rfl, rfl, rfl⟩ := hW.out.bad (fun h => by have := HV.out; rw [h.2.1] at this; cases this)
    obtain ⟨⟨a0, a1, a2, a3⟩, ⟨b0, b1, b2⟩, ⟨d0, d1⟩, hTr, ⟨s0, s1, s2, s3⟩, hz⟩ := (JB1.out.next HB.out)
    obtain ⟨t0, T0⟩ := Option.isSome_iff_exists.1 (hTr 0 (by omega)).1
    have Z0 := (hTr 0 (by omega)).2
    obtain ⟨t1, T1⟩ := Option.isSome_iff_exists.1 (hTr 1 (by omega)).1
    have Z1 := (hTr 1 (by omega)).2
    obtain ⟨t2, T2⟩ := Option.isSome_iff_exists.1 (hTr 2 (by omega)).1
    have Z2 := (hTr 2 (by omega)).2
    obtain ⟨t3, T3⟩ := Option.isSome_iff_exists.1 (hTr 3 (by omega)).1
    have Z3 := (hTr 3 (by omega)).2
    clear hTr
    go_wp2
    refine bodyPost_ret (v := .tuple #[.agg #[.slice none 0 0, .int .i64 0, .int .i64 0, .int .i64 0], .int .i64 1]) (by simp [results, Try.results19, go_sem, T0, T1, T2, T3, Z0, Z1, Z2, Z3]) rfl ⟨_, rfl, ?_, World.ownsRow_nil _ _ _ _⟩
    exact Gro.set4 (GW.out.trans (Gro.of_below HB.out)) (by omega)
  obtain ⟨⟨a0, a1, a2, a3⟩, ⟨b0, b1, b2⟩, ⟨d0, d1⟩, hTr, ⟨s0, s1, s2, s3⟩, hz⟩ := (JB1.out.next HB.out)
  go_wp2_with fail
  clear a0 a1 a2 a3 b0 b1 b2 d0 d1 hTr s0 s1 s2 s3 hz
  refine Calls.mono (CS.out _) ?_
  rintro e w3 ⟨rfl, hb⟩
  replace HB : Hid (Below W0.heap.size W0 _) := bel_next' HB hb
  clear hb
  cases ks
  · obtain ⟨rfl, rfl, rfl, rfl, rfl⟩ := hW.out.bad (fun h => by have := HS.out; have h2 := h.2.2; simp only [] at h2; rw [h2] at this; cases this)
    obtain ⟨⟨a0, a1, a2, a3⟩, ⟨b0, b1, b2⟩, ⟨d0, d1⟩, hTr, ⟨s0, s1, s2, s3⟩, hz⟩ := (JB1.out.next HB.out)
    obtain ⟨t0, T0⟩ := Option.isSome_iff_exists.1 (hTr 0 (by omega)).1
    have Z0 := (hTr 0 (by omega)).2
    obtain ⟨t1, T1⟩ := Option.isSome_iff_exists.1 (hTr 1 (by omega)).1
    have Z1 := (hTr 1 (by omega)).2
    obtain ⟨t2, T2⟩ := Option.isSome_iff_exists.1 (hTr 2 (by omega)).1
    have Z2 := (hTr 2 (by omega)).2
    obtain ⟨t3, T3⟩ := Option.isSome_iff_exists.1 (hTr 3 (by omega)).1
    have Z3 := (hTr 3 (by omega)).2
    clear hTr
    go_wp2
    refine bodyPost_ret (v := .tuple #[.agg #[.slice none 0 0, .int .i64 0, .int .i64 0, .int .i64 0], .int .i64 1]) (by simp [results, Try.results19, go_sem, T0, T1, T2, T3, Z0, Z1, Z2, Z3]) rfl ⟨_, rfl, ?_, World.ownsRow_nil _ _ _ _⟩
    exact Gro.set4 (GW.out.trans (Gro.of_below HB.out)) (by omega)
  have HG : Hid (WGood l a b c x y z (⟨sp, sn, sv, sd⟩ : Sib)) := ⟨HOK.out, HV.out.symm, HS.out.symm⟩
  have hnode : 0 ≤ sp ∧ sp < 3 := sib_node (x := (⟨sp, sn, sv, sd⟩ : Sib)) HS.out.symm
  obtain ⟨nd0, nd3⟩ := hnode
  clear CV CS HV HS
  obtain ⟨⟨a0, a1, a2, a3⟩, ⟨b0, b1, b2⟩, ⟨d0, d1⟩, hTr, ⟨s0, s1, s2, s3⟩, hz⟩ := (JB1.out.next HB.out)
  go_wp2_with fail
  clear a0 a1 a2 a3 b0 b1 b2 d0 d1 hTr s0 s1 s2 s3 hz
  refine (l01has_any a b c sp sn _ nd0 nd3).mono ?_
  rintro e w4 ⟨rfl, hb⟩
  replace HB : Hid (Below W0.heap.size W0 _) := bel_next' HB hb
  clear hb
  by_cases h1 : sn ≤ comp a b c sp
  · have d1 : decide (sn ≤ comp a b c sp) = true := decide_eq_true h1
    obtain ⟨e1, e2, e3, e4, e5⟩ := hW.out.known HG.out (.inl h1)
    obtain rfl := e1.symm
    obtain rfl := e2.symm
    obtain rfl := e3.symm
    obtain rfl := e4.symm
    subst e5
    clear e1 e2 e3 e4
    rw [d1]
    clear h1 d1
    obtain ⟨⟨a0, a1, a2, a3⟩, ⟨b0, b1, b2⟩, ⟨d0, d1⟩, hTr, ⟨s0, s1, s2, s3⟩, hz⟩ := (JB1.out.next HB.out)
    go_wp2_with fail
    clear a0 a1 a2 a3 b0 b1 b2 d0 d1 hTr s0 s1 s2 s3 hz
    refine (l02own_any cap ao l a b c _ HM.out (RA.out.next HB.out)).mono ?_
    rintro e w9 ⟨v, rfl, hg, ho⟩
    obtain ⟨vo, vn, vc, rfl⟩ := own_slc ho
    have G9 : Hid (Gro W0 w9 (.slice none 0 0) (.slice vo vn vc)) := (Gro.of_below HB.out).trans hg
    have O9 : Hid (w9.ownsRow 0 47 4 (.slice vo vn vc) l.length (flat l)) := ho
    have hTr := th_gro JB1.out.2.2.2.1 G9.out (Nat.lt_trans (by omega) JB1.out.2.2.2.2.2) Gro.none_ne
    clear ho hg
    obtain ⟨t0, T0⟩ := Option.isSome_iff_exists.1 (hTr 0 (by omega)).1
    have Z0 := (hTr 0 (by omega)).2
    obtain ⟨t1, T1⟩ := Option.isSome_iff_exists.1 (hTr 1 (by omega)).1
    have Z1 := (hTr 1 (by omega)).2
    obtain ⟨t2, T2⟩ := Option.isSome_iff_exists.1 (hTr 2 (by omega)).1
    have Z2 := (hTr 2 (by omega)).2
    obtain ⟨t3, T3⟩ := Option.isSome_iff_exists.1 (hTr 3 (by omega)).1
    have Z3 := (hTr 3 (by omega)).2
    clear hTr
    go_wp2
    refine bodyPost_ret (v := .tuple #[.agg #[.slice vo vn vc, .int .i64 a, .int .i64 b, .int .i64 c], .int .i64 17]) (by simp [results, Try.results19, go_sem, T0, T1, T2, T3, Z0, Z1, Z2, Z3]) rfl ⟨_, rfl, ?_, ?_⟩
    · exact Gro.set4 (GW.out.trans G9.out) (by omega)
    · exact own_set4 O9.out (nb G9.out (Nat.lt_trans (by omega) JB1.out.2.2.2.2.2))
  have d1 : decide (sn ≤ comp a b c sp) = false := decide_eq_false h1
  rw [d1]
  have H1 : Hid (comp a b c sp < sn) := Int.not_le.1 h1
  clear d1 h1
  obtain ⟨⟨a0, a1, a2, a3⟩, ⟨b0, b1, b2⟩, ⟨d0, d1⟩, hTr, ⟨s0, s1, s2, s3⟩, hz⟩ := (JB1.out.next HB.out)
  go_wp2_with fail
  clear a0 a1 a2 a3 b0 b1 b2 d0 d1 hTr s0 s1 s2 s3 hz
  refine (l01has_any x y z sp sn _ nd0 nd3).mono ?_
  rintro e w5 ⟨rfl, hb⟩
  replace HB : Hid (Below W0.heap.size W0 _) := bel_next' HB hb
  clear hb
  by_cases h2 : sn ≤ comp x y z sp
  · have d1 : decide (sn ≤ comp x y z sp) = true := decide_eq_true h2
    obtain ⟨e1, e2, e3, e4, e5⟩ := hW.out.known HG.out (.inr h2)
    obtain rfl := e1.symm
    obtain rfl := e2.symm
    obtain rfl := e3.symm
    obtain rfl := e4.symm
    subst e5
    clear e1 e2 e3 e4
    rw [d1]
    clear h2 d1
    obtain ⟨⟨a0, a1, a2, a3⟩, ⟨b0, b1, b2⟩, ⟨d0, d1⟩, hTr, ⟨s0, s1, s2, s3⟩, hz⟩ := (JB1.out.next HB.out)
    go_wp2_with fail
    clear a0 a1 a2 a3 b0 b1 b2 d0 d1 hTr s0 s1 s2 s3 hz
    refine (l02own_any cap ao l a b c _ HM.out (RA.out.next HB.out)).mono ?_
    rintro e w9 ⟨v, rfl, hg, ho⟩
    obtain ⟨vo, vn, vc, rfl⟩ := own_slc ho
    have G9 : Hid (Gro W0 w9 (.slice none 0 0) (.slice vo vn vc)) := (Gro.of_below HB.out).trans hg
    have O9 : Hid (w9.ownsRow 0 47 4 (.slice vo vn vc) l.length (flat l)) := ho
    have hTr := th_gro JB1.out.2.2.2.1 G9.out (Nat.lt_trans (by omega) JB1.out.2.2.2.2.2) Gro.none_ne
    clear ho hg
    obtain ⟨t0, T0⟩ := Option.isSome_iff_exists.1 (hTr 0 (by omega)).1
    have Z0 := (hTr 0 (by omega)).2
    obtain ⟨t1, T1⟩ := Option.isSome_iff_exists.1 (hTr 1 (by omega)).1
    have Z1 := (hTr 1 (by omega)).2
    obtain ⟨t2, T2⟩ := Option.isSome_iff_exists.1 (hTr 2 (by omega)).1
    have Z2 := (hTr 2 (by omega)).2
    obtain ⟨t3, T3⟩ := Option.isSome_iff_exists.1 (hTr 3 (by omega)).1
    have Z3 := (hTr 3 (by omega)).2
    clear hTr
    go_wp2
    refine bodyPost_ret (v := .tuple #[.agg #[.slice vo vn vc, .int .i64 a, .int .i64 b, .int .i64 c], .int .i64 17]) (by simp [results, Try.results19, go_sem, T0, T1, T2, T3, Z0, Z1, Z2, Z3]) rfl ⟨_, rfl, ?_, ?_⟩
    · exact Gro.set4 (GW.out.trans G9.out) (by omega)
    · exact own_set4 O9.out (nb G9.out (Nat.lt_trans (by omega) JB1.out.2.2.2.2.2))
  have d1 : decide (sn ≤ comp x y z sp) = false := decide_eq_false h2
  rw [d1]
  clear d1
  have HNK : Hid (¬ WKnown a b c x y z (⟨sp, sn, sv, sd⟩ : Sib)) := fun h => h.elim (fun h' => absurd h' (Int.not_le.2 H1.out)) h2
  have HH : Hid (comp a b c sp < sn ∧ comp x y z sp < sn) := ⟨H1.out, Int.not_le.1 h2⟩
  have hle := HOK.out.1
  clear H1 h2
  by_cases h100 : l.length = 100
  · obtain ⟨e1, e2, e3, e4, e5⟩ := hW.out.full HG.out HNK.out h100
    obtain rfl := e1.symm
    obtain rfl := e2.symm
    obtain rfl := e3.symm
    obtain rfl := e4.symm
    subst e5
    clear e1 e2 e3 e4
    have hd1 : (((l.length : Int)) == 100) = true := by rw [h100]; rfl
    have hd2 : (100 : Int) ≤ (l.length : Int) := by omega
    have hd3 : (l.length : Int) = 100 := by omega
    clear h100 hle
    obtain ⟨⟨a0, a1, a2, a3⟩, ⟨b0, b1, b2⟩, ⟨d0, d1⟩, hTr, ⟨s0, s1, s2, s3⟩, hz⟩ := (JB1.out.next HB.out)
    go_wp2_with fail
    clear a0 a1 a2 a3 b0 b1 b2 d0 d1 hTr s0 s1 s2 s3 hz
    refine (l02own_any cap ao l a b c _ HM.out (RA.out.next HB.out)).mono ?_
    rintro e w9 ⟨v, rfl, hg, ho⟩
    obtain ⟨vo, vn, vc, rfl⟩ := own_slc ho
    have G9 : Hid (Gro W0 w9 (.slice none 0 0) (.slice vo vn vc)) := (Gro.of_below HB.out).trans hg
    have O9 : Hid (w9.ownsRow 0 47 4 (.slice vo vn vc) l.length (flat l)) := ho
    have hTr := th_gro JB1.out.2.2.2.1 G9.out (Nat.lt_trans (by omega) JB1.out.2.2.2.2.2) Gro.none_ne
    clear ho hg
    obtain ⟨t0, T0⟩ := Option.isSome_iff_exists.1 (hTr 0 (by omega)).1
    have Z0 := (hTr 0 (by omega)).2
    obtain ⟨t1, T1⟩ := Option.isSome_iff_exists.1 (hTr 1 (by omega)).1
    have Z1 := (hTr 1 (by omega)).2
    obtain ⟨t2, T2⟩ := Option.isSome_iff_exists.1 (hTr 2 (by omega)).1
    have Z2 := (hTr 2 (by omega)).2
    obtain ⟨t3, T3⟩ := Option.isSome_iff_exists.1 (hTr 3 (by omega)).1
    have Z3 := (hTr 3 (by omega)).2
    clear hTr
    go_wp2
    refine bodyPost_ret (v := .tuple #[.agg #[.slice vo vn vc, .int .i64 a, .int .i64 b, .int .i64 c], .int .i64 6]) (by simp [results, Try.results19, go_sem, T0, T1, T2, T3, Z0, Z1, Z2, Z3]) rfl ⟨_, rfl, ?_, ?_⟩
    · exact Gro.set4 (GW.out.trans G9.out) (by omega)
    · exact own_set4 O9.out (nb G9.out (Nat.lt_trans (by omega) JB1.out.2.2.2.2.2))
  obtain ⟨e1, e2, e3, e4, e5⟩ := hW.out.done HG.out HNK.out h100
  subst e1
  subst e5
  have EP : Hid (p = if sp = 0 then sn else max a x) := e2
  have EQ : Hid (q = if sp = 1 then sn else max b y) := e3
  have ER : Hid (r = if sp = 2 then sn else max c z) := e4
  clear e2 e3 e4
  have hd1 : (((l.length : Int)) == 100) = false := beq_eq_false_iff_ne.2 (by omega)
  have hd2 : ¬ (100 : Int) ≤ (l.length : Int) := by omega
  have hd3 : ¬ (l.length : Int) = 100 := by omega
  clear h100 hle
  have CA := fun W => add_any (max a x) (max b y) (max c z) sp sn p q r (by omega) (max_lt HH.out (by omega)) EP.out EQ.out ER.out W
  obtain ⟨⟨a0, a1, a2, a3⟩, ⟨b0, b1, b2⟩, ⟨d0, d1⟩, hTr, ⟨s0, s1, s2, s3⟩, hz⟩ := (JB1.out.next HB.out)
  go_wp2_with fail
  clear a0 a1 a2 a3 b0 b1 b2 d0 d1 hTr s0 s1 s2 s3 hz
  refine (l02write_any cap ao l a b c x y z p q r (⟨sp, sn, sv, sd⟩ : Sib) _ (by have := HM.out; have := HOK.out.1; omega) (okp_nodes HOK.out) (RA.out.next HB.out) CA).mono ?_
  rintro e w9 ⟨v, rfl, hg, ho⟩
  obtain ⟨vo, vn, vc, rfl⟩ := own_slc ho
  have G9 : Hid (Gro W0 w9 (.slice none 0 0) (.slice vo vn vc)) := (Gro.of_below HB.out).trans hg
  have O9 : Hid (w9.ownsRow 0 47 4 (.slice vo vn vc) _ _) := ho
  have hTr := th_gro JB1.out.2.2.2.1 G9.out (Nat.lt_trans (by omega) JB1.out.2.2.2.2.2) Gro.none_ne
  clear ho hg
  obtain ⟨t0, T0⟩ := Option.isSome_iff_exists.1 (hTr 0 (by omega)).1
  have Z0 := (hTr 0 (by omega)).2
  obtain ⟨t1, T1⟩ := Option.isSome_iff_exists.1 (hTr 1 (by omega)).1
  have Z1 := (hTr 1 (by omega)).2
  obtain ⟨t2, T2⟩ := Option.isSome_iff_exists.1 (hTr 2 (by omega)).1
  have Z2 := (hTr 2 (by omega)).2
  obtain ⟨t3, T3⟩ := Option.isSome_iff_exists.1 (hTr 3 (by omega)).1
  have Z3 := (hTr 3 (by omega)).2
  clear hTr
  go_wp2
  refine bodyPost_ret (v := .tuple #[.agg #[.slice vo vn vc, .int .i64 p, .int .i64 q, .int .i64 r], .int .i64 0]) (by simp [results, Try.results19, go_sem, T0, T1, T2, T3, Z0, Z1, Z2, Z3]) rfl ⟨_, rfl, ?_, ?_⟩
  · exact Gro.set4 (GW.out.trans G9.out) (by omega)
  · exact own_set4 O9.out (nb G9.out (Nat.lt_trans (by omega) JB1.out.2.2.2.2.2))
end Go.Proofs.Ytlhabbdihjeidaa
