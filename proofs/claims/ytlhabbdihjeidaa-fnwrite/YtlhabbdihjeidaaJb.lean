/- Join, of both sides. -/
import Derived.Test.YtlhabbdihjeidaaRows
import Derived.WalkKit
import Derived.WalkSpells
import Derived.WalkLawsBesides
import Derived.Deep.QuietTactic
import Derived.BigQuiet
import Derived.Deep.RegionHeld3
import Derived.Test.YtlhabbdihjeidaaLj
import Derived.Test.YtlhabbdihjeidaaJo
import Derived.Test.YtlhabbdihjeidaaJm
import Derived.LoopN
namespace Go.Proofs.Ytlhabbdihjeidaa
open Go.RowKit
set_option linter.unusedSimpArgs false
set_option linter.unusedVariables false

theorem own_len {w : World} {base e size n k c : Nat} {o : Option Addr} {xs : List Value} (h : w.ownsRow base e size (.slice o k c) n xs) : k = n := by
  rcases h.2 with ⟨h1, h2⟩ | ⟨g, cap, cur, h1, _⟩
  · cases h1; exact h2.symm
  · cases h1; rfl
theorem gro_nil {w W : World} {v : Value} (h : Gro w W (.slice none 0 0) v) : Gro w W (.slice none 0 0) (.slice none 0 0) := ⟨h.grown, fun k hk => .inl hk⟩
theorem rise_of : ∀ {l : List Sib}, (∀ i (h : i + 1 < l.length), Bef l[i] l[i + 1]) → Rise l
  | [], _ => by simp [Rise]
  | [s], _ => by simp [Rise]
  | s :: t :: l, h => by
    have h1 : Rise (t :: l) := rise_of (fun i hi => by have := h (i + 1) (by simpa using hi); simpa using this)
    have h0 := h 0 (by simp)
    refine List.pairwise_cons.2 ⟨fun u hu => ?_, h1⟩
    rcases List.mem_cons.1 hu with e | e
    · subst e; simpa using h0
    · exact Bef.trans (by simpa using h0) (h1.head u e)
theorem ok_known {l : List Sib} {a b c : Int} (h : OkP l a b c) : ∀ s ∈ l, s.n ≤ comp a b c s.p := fun s hs => by
  obtain ⟨i, hi, rfl⟩ := List.mem_iff_getElem.1 hs
  exact of_decide_eq_true (h.2.2 i hi).2.1
theorem ok_rise {l : List Sib} {a b c : Int} (h : OkP l a b c) : Rise l := rise_of (fun i hi => dots_neg.1 (by have := (h.2.2 (i + 1) hi).2.2 (by omega); simpa using this))
theorem ok_nodes {l : List Sib} {a b c : Int} (h : OkP l a b c) : ∀ i (hi : i < l.length), 0 ≤ l[i].p ∧ l[i].p < 3 := fun i hi => sib_node (h.2.2 i hi).1
theorem joined_sj (cap cp : Nat) (ao bo : Option Addr) (l l2 : List Sib) (a b c x y z : Int) (w : World) (hO : OkP l a b c) (hP : OkP l2 x y z) (hc2 : l2.length ≤ cp) (hr0 : SibRow w ao l) (hs0 : SibRow w bo l2) :
    Calls Try.prog 24 #[.agg #[.slice ao l.length cap, .int .i64 a, .int .i64 b, .int .i64 c], .agg #[.slice bo l2.length cp, .int .i64 x, .int .i64 y, .int .i64 z]] w fun e w' => ∃ v, e = .returned (.agg #[v, .int .i64 (max a x), .int .i64 (max b y), .int .i64 (max c z)]) ∧ Gro w w' (.slice none 0 0) v ∧ w'.ownsRow 0 47 4 v (sj a b c x y z l l2).length (flat (sj a b c x y z l l2)) := by
  have e := jn_sj (a := a) (b := b) (c := c) (x := x) (y := y) (z := z) (ok_rise hO) (ok_rise hP) (ok_known hO)
  have := joined_any cap cp ao bo l l2 a b c x y z w (by have := hO.1; omega) (by have := hP.1; omega) hc2 (ok_nodes hO) (ok_nodes hP) hr0 hs0
  rw [e] at this
  exact this
theorem l02join_sj (cap cp : Nat) (ao bo : Option Addr) (l l2 : List Sib) (a b c x y z : Int) (w : World) (hO : OkP l a b c) (hP : OkP l2 x y z) (hc2 : l2.length ≤ cp) (hr0 : SibRow w ao l) (hs0 : SibRow w bo l2) :
    Calls Try.prog 26 #[.agg #[.slice ao l.length cap, .int .i64 a, .int .i64 b, .int .i64 c], .agg #[.slice bo l2.length cp, .int .i64 x, .int .i64 y, .int .i64 z]] w fun e w' => ∃ v, e = .returned (.agg #[v, .int .i64 (max a x), .int .i64 (max b y), .int .i64 (max c z)]) ∧ Gro w w' (.slice none 0 0) v ∧ w'.ownsRow 0 47 4 v (sj a b c x y z l l2).length (flat (sj a b c x y z l l2)) := l02join_any cap cp ao bo l l2 a b c x y z w (by have := hO.1; omega) (by have := hP.1; omega) (ok_nodes hO) (ok_nodes hP) hr0 hs0
/-- What a join answers. -/
def JR (k0 k1 : Bool) (l l2 : List Sib) (a b c x y z : Int) (J : List Sib) (p q r code : Int) : Prop :=
  (¬ (k0 = true ∧ k1 = true) → J = [] ∧ p = 0 ∧ q = 0 ∧ r = 0 ∧ code = 1) ∧ (k0 = true → k1 = true → 100 < (sj a b c x y z l l2).length → J = [] ∧ p = 0 ∧ q = 0 ∧ r = 0 ∧ code = 6) ∧ (k0 = true → k1 = true → ¬ 100 < (sj a b c x y z l l2).length → J = sj a b c x y z l l2 ∧ p = max a x ∧ q = max b y ∧ r = max c z ∧ code = 0)
theorem jr_of (k0 k1 : Bool) (l l2 : List Sib) (a b c x y z : Int) : ∃ J p q r code, Hid (JR k0 k1 l l2 a b c x y z J p q r code) ∧ J.length ≤ 100 := by
  by_cases h : k0 = true ∧ k1 = true
  · by_cases h1 : 100 < (sj a b c x y z l l2).length
    · exact ⟨[], 0, 0, 0, 6, ⟨fun h' => (h' h).elim, fun _ _ _ => ⟨rfl, rfl, rfl, rfl, rfl⟩, fun _ _ h' => (h' h1).elim⟩, by simp⟩
    · exact ⟨sj a b c x y z l l2, max a x, max b y, max c z, 0, ⟨fun h' => (h' h).elim, fun _ _ h' => (h1 h').elim, fun _ _ _ => ⟨rfl, rfl, rfl, rfl, rfl⟩⟩, by omega⟩
  · exact ⟨[], 0, 0, 0, 1, ⟨fun _ => ⟨rfl, rfl, rfl, rfl, rfl⟩, fun h1 h2 _ => (h ⟨h1, h2⟩).elim, fun h1 h2 _ => (h ⟨h1, h2⟩).elim⟩, by simp⟩

set_option maxHeartbeats 4000000 in
theorem specJoin_any (cap cp : Nat) (ao bo : Option Addr) (l l2 : List Sib) (a b c x y z : Int) (k0 k1 : Bool) (hO : Hid (k0 = true ↔ OkP l a b c)) (hP : Hid (k1 = true ↔ OkP l2 x y z)) (J : List Sib) (p q r code : Int) (hJ : Hid (JR k0 k1 l l2 a b c x y z J p q r code)) (w : World) (hm : (l.length : Int) ≤ 1048576) (hm2 : (l2.length : Int) ≤ 1048576) (hc2 : l2.length ≤ cp) (hr0 : SibRow w ao l) (hs0 : SibRow w bo l2) :
    Calls Try.prog 8 #[.agg #[.slice ao l.length cap, .int .i64 a, .int .i64 b, .int .i64 c], .agg #[.slice bo l2.length cp, .int .i64 x, .int .i64 y, .int .i64 z]] w fun e w' => ∃ v, e = .returned (.tuple #[.agg #[v, .int .i64 p, .int .i64 q, .int .i64 r], .int .i64 code]) ∧ Gro w w' (.slice none 0 0) v ∧ w'.ownsRow 0 47 4 v J.length (flat J) := by
  have RA : Hid (SibRow (((w.alloc (.cells #[.slice ao l.length cap, .int .i64 a, .int .i64 b, .int .i64 c] 29)).alloc (.cells #[.slice bo l2.length cp, .int .i64 x, .int .i64 y, .int .i64 z] 29)).alloc (.cells #[.slice none 0 0, .int .i64 0, .int .i64 0, .int .i64 0] 29)) ao l) := row_next (row_next (row_next hr0 (bel_alloc _ _)) (bel_alloc _ _)) (bel_alloc _ _)
  have RB : Hid (SibRow (((w.alloc (.cells #[.slice ao l.length cap, .int .i64 a, .int .i64 b, .int .i64 c] 29)).alloc (.cells #[.slice bo l2.length cp, .int .i64 x, .int .i64 y, .int .i64 z] 29)).alloc (.cells #[.slice none 0 0, .int .i64 0, .int .i64 0, .int .i64 0] 29)) bo l2) := row_next (row_next (row_next hs0 (bel_alloc _ _)) (bel_alloc _ _)) (bel_alloc _ _)
  have JB1 : Hid (JB4 w.heap.size (((w.alloc (.cells #[.slice ao l.length cap, .int .i64 a, .int .i64 b, .int .i64 c] 29)).alloc (.cells #[.slice bo l2.length cp, .int .i64 x, .int .i64 y, .int .i64 z] 29)).alloc (.cells #[.slice none 0 0, .int .i64 0, .int .i64 0, .int .i64 0] 29)) (.slice ao l.length cap) (.slice bo l2.length cp) a b c x y z) := JB4.new
  have GW : Hid (Gro w (((w.alloc (.cells #[.slice ao l.length cap, .int .i64 a, .int .i64 b, .int .i64 c] 29)).alloc (.cells #[.slice bo l2.length cp, .int .i64 x, .int .i64 y, .int .i64 z] 29)).alloc (.cells #[.slice none 0 0, .int .i64 0, .int .i64 0, .int .i64 0] 29)) (.slice none 0 0) (.slice none 0 0)) := (Gro.of_below (bel_alloc _ _)).trans ((Gro.of_below (bel_alloc _ _)).trans (Gro.of_below (bel_alloc _ _)))
  clear hr0 hs0
  go_enter Try.func8, Try.ntmps8
  go_wp2_with fail
  generalize (((w.alloc (.cells #[.slice ao l.length cap, .int .i64 a, .int .i64 b, .int .i64 c] 29)).alloc (.cells #[.slice bo l2.length cp, .int .i64 x, .int .i64 y, .int .i64 z] 29)).alloc (.cells #[.slice none 0 0, .int .i64 0, .int .i64 0, .int .i64 0] 29)) = W0 at *
  refine (specOK_any cap ao l a b c k0 hO _ hm RA.out).mono ?_
  rintro e w1 ⟨rfl, hb⟩
  have HB1 : Hid (Below W0.heap.size W0 w1) := hb
  obtain ⟨⟨ca0, ca1, ca2, ca3⟩, ⟨cb0, cb1, cb2, cb3⟩, hTr, hz⟩ := JB1.out.next hb
  clear hb
  cases k0
  · obtain ⟨rfl, rfl, rfl, rfl, rfl⟩ := hJ.out.1 (fun h => by cases h.1)
    obtain ⟨t0, T0⟩ := Option.isSome_iff_exists.1 (hTr 0 (by omega)).1
    have Z0 := (hTr 0 (by omega)).2
    obtain ⟨t1, T1⟩ := Option.isSome_iff_exists.1 (hTr 1 (by omega)).1
    have Z1 := (hTr 1 (by omega)).2
    obtain ⟨t2, T2⟩ := Option.isSome_iff_exists.1 (hTr 2 (by omega)).1
    have Z2 := (hTr 2 (by omega)).2
    obtain ⟨t3, T3⟩ := Option.isSome_iff_exists.1 (hTr 3 (by omega)).1
    have Z3 := (hTr 3 (by omega)).2
    clear hTr
    go_wp2
    refine bodyPost_ret (v := .tuple #[.agg #[.slice none 0 0, .int .i64 0, .int .i64 0, .int .i64 0], .int .i64 1]) (by simp [results, Try.results8, go_sem, T0, T1, T2, T3, Z0, Z1, Z2, Z3]) rfl ⟨_, rfl, ?_, World.ownsRow_nil _ _ _ _⟩
    exact Gro.set4 (GW.out.trans (Gro.of_below HB1.out)) (by omega)
  have HOK : Hid (OkP l a b c) := hO.out.1 rfl
  clear hO hTr ca0 ca1 ca2 ca3
  go_wp2_with fail
  refine (specOK_any cp bo l2 x y z k1 hP _ hm2 (row_next RB HB1.out).out).mono ?_
  rintro e w2 ⟨rfl, hb⟩
  have HB2 : Hid (Below W0.heap.size W0 w2) := bel_next HB1 hb
  obtain ⟨⟨ca0, ca1, ca2, ca3⟩, ⟨cc0, cc1, cc2, cc3⟩, hTr, hz2⟩ := JB1.out.next HB2.out
  clear hb cb0 cb1 cb2 cb3 hz
  cases k1
  · obtain ⟨rfl, rfl, rfl, rfl, rfl⟩ := hJ.out.1 (fun h => by cases h.2)
    obtain ⟨t0, T0⟩ := Option.isSome_iff_exists.1 (hTr 0 (by omega)).1
    have Z0 := (hTr 0 (by omega)).2
    obtain ⟨t1, T1⟩ := Option.isSome_iff_exists.1 (hTr 1 (by omega)).1
    have Z1 := (hTr 1 (by omega)).2
    obtain ⟨t2, T2⟩ := Option.isSome_iff_exists.1 (hTr 2 (by omega)).1
    have Z2 := (hTr 2 (by omega)).2
    obtain ⟨t3, T3⟩ := Option.isSome_iff_exists.1 (hTr 3 (by omega)).1
    have Z3 := (hTr 3 (by omega)).2
    clear hTr
    go_wp2
    refine bodyPost_ret (v := .tuple #[.agg #[.slice none 0 0, .int .i64 0, .int .i64 0, .int .i64 0], .int .i64 1]) (by simp [results, Try.results8, go_sem, T0, T1, T2, T3, Z0, Z1, Z2, Z3]) rfl ⟨_, rfl, ?_, World.ownsRow_nil _ _ _ _⟩
    exact Gro.set4 (GW.out.trans (Gro.of_below HB2.out)) (by omega)
  have HPK : Hid (OkP l2 x y z) := hP.out.1 rfl
  clear hP hTr
  go_wp2_with fail
  refine (l02join_sj cap cp ao bo l l2 a b c x y z w2 HOK.out HPK.out hc2 (row_next RA HB2.out).out (row_next RB HB2.out).out).mono ?_
  rintro e w3 ⟨v, rfl, hg, ho⟩
  obtain ⟨vo, n, vc, rfl⟩ := own_slice ho
  have hn : Hid (n = (sj a b c x y z l l2).length) := own_len ho
  have G3 : Hid (Gro W0 w3 (.slice none 0 0) (.slice vo n vc)) := (Gro.of_below HB2.out).trans hg
  have O3 : Hid (w3.ownsRow 0 47 4 (.slice vo n vc) (sj a b c x y z l l2).length (flat (sj a b c x y z l l2))) := ho
  have hTr := th_gro JB1.out.2.2.1 G3.out JB1.out.2.2.2 Gro.none_ne
  have hz3 : w.heap.size + 1 + 1 < w3.heap.size := Nat.lt_of_lt_of_le JB1.out.2.2.2 G3.out.size
  clear ho hg ca0 ca1 ca2 ca3 cc0 cc1 cc2 cc3 hz2
  by_cases h100 : 100 < n
  · obtain ⟨rfl, rfl, rfl, rfl, rfl⟩ := hJ.out.2.1 rfl rfl (by have := hn.out; omega)
    have h100' : (100 : Int) < (n : Int) := by omega
    obtain ⟨t0, T0⟩ := Option.isSome_iff_exists.1 (hTr 0 (by omega)).1
    have Z0 := (hTr 0 (by omega)).2
    obtain ⟨t1, T1⟩ := Option.isSome_iff_exists.1 (hTr 1 (by omega)).1
    have Z1 := (hTr 1 (by omega)).2
    obtain ⟨t2, T2⟩ := Option.isSome_iff_exists.1 (hTr 2 (by omega)).1
    have Z2 := (hTr 2 (by omega)).2
    obtain ⟨t3, T3⟩ := Option.isSome_iff_exists.1 (hTr 3 (by omega)).1
    have Z3 := (hTr 3 (by omega)).2
    clear hTr
    go_wp2
    refine bodyPost_ret (v := .tuple #[.agg #[.slice none 0 0, .int .i64 0, .int .i64 0, .int .i64 0], .int .i64 6]) (by simp [results, Try.results8, go_sem, T0, T1, T2, T3, Z0, Z1, Z2, Z3, hz3]) rfl ⟨_, rfl, ?_, World.ownsRow_nil _ _ _ _⟩
    exact gro_nil (Gro.trans (Gro.set4 (GW.out.trans G3.out) (by omega)) (Gro.of_below (bel_alloc _ _)))
  · obtain ⟨rfl, rfl, rfl, rfl, rfl⟩ := hJ.out.2.2 rfl rfl (by have := hn.out; omega)
    have h100' : ¬ (100 : Int) < (n : Int) := by omega
    obtain ⟨t0, T0⟩ := Option.isSome_iff_exists.1 (hTr 0 (by omega)).1
    have Z0 := (hTr 0 (by omega)).2
    obtain ⟨t1, T1⟩ := Option.isSome_iff_exists.1 (hTr 1 (by omega)).1
    have Z1 := (hTr 1 (by omega)).2
    obtain ⟨t2, T2⟩ := Option.isSome_iff_exists.1 (hTr 2 (by omega)).1
    have Z2 := (hTr 2 (by omega)).2
    obtain ⟨t3, T3⟩ := Option.isSome_iff_exists.1 (hTr 3 (by omega)).1
    have Z3 := (hTr 3 (by omega)).2
    clear hTr
    go_wp2
    refine bodyPost_ret (v := .tuple #[.agg #[.slice vo n vc, .int .i64 (max a x), .int .i64 (max b y), .int .i64 (max c z)], .int .i64 0]) (by simp [results, Try.results8, go_sem, T0, T1, T2, T3, Z0, Z1, Z2, Z3, hz3]) rfl ⟨_, rfl, ?_, ?_⟩
    · exact Gro.trans (Gro.set4 (GW.out.trans G3.out) (by omega)) (Gro.of_below (bel_alloc _ _))
    · have hne : (Value.slice vo n vc).ownBlock ≠ some (w.heap.size + 1 + 1) := nb G3.out JB1.out.2.2.2
      exact (ownsRow_setCell_other (ownsRow_setCell_other (ownsRow_setCell_other (ownsRow_setCell_other O3.out hne _) hne _) hne _) hne _).alloc _

set_option maxHeartbeats 4000000 in
theorem implJoin_any (cap cp : Nat) (ao bo : Option Addr) (l l2 : List Sib) (a b c x y z : Int) (k0 k1 : Bool) (hO : Hid (k0 = true ↔ OkP l a b c)) (hP : Hid (k1 = true ↔ OkP l2 x y z)) (J : List Sib) (p q r code : Int) (hJ : Hid (JR k0 k1 l l2 a b c x y z J p q r code)) (w : World) (hm : (l.length : Int) ≤ 1048576) (hm2 : (l2.length : Int) ≤ 1048576) (hc2 : l2.length ≤ cp) (hr0 : SibRow w ao l) (hs0 : SibRow w bo l2) :
    Calls Try.prog 7 #[.agg #[.slice ao l.length cap, .int .i64 a, .int .i64 b, .int .i64 c], .agg #[.slice bo l2.length cp, .int .i64 x, .int .i64 y, .int .i64 z]] w fun e w' => ∃ v, e = .returned (.tuple #[.agg #[v, .int .i64 p, .int .i64 q, .int .i64 r], .int .i64 code]) ∧ Gro w w' (.slice none 0 0) v ∧ w'.ownsRow 0 47 4 v J.length (flat J) := by
  have RA : Hid (SibRow (((w.alloc (.cells #[.slice ao l.length cap, .int .i64 a, .int .i64 b, .int .i64 c] 29)).alloc (.cells #[.slice bo l2.length cp, .int .i64 x, .int .i64 y, .int .i64 z] 29)).alloc (.cells #[.slice none 0 0, .int .i64 0, .int .i64 0, .int .i64 0] 29)) ao l) := row_next (row_next (row_next hr0 (bel_alloc _ _)) (bel_alloc _ _)) (bel_alloc _ _)
  have RB : Hid (SibRow (((w.alloc (.cells #[.slice ao l.length cap, .int .i64 a, .int .i64 b, .int .i64 c] 29)).alloc (.cells #[.slice bo l2.length cp, .int .i64 x, .int .i64 y, .int .i64 z] 29)).alloc (.cells #[.slice none 0 0, .int .i64 0, .int .i64 0, .int .i64 0] 29)) bo l2) := row_next (row_next (row_next hs0 (bel_alloc _ _)) (bel_alloc _ _)) (bel_alloc _ _)
  have JB1 : Hid (JB4 w.heap.size (((w.alloc (.cells #[.slice ao l.length cap, .int .i64 a, .int .i64 b, .int .i64 c] 29)).alloc (.cells #[.slice bo l2.length cp, .int .i64 x, .int .i64 y, .int .i64 z] 29)).alloc (.cells #[.slice none 0 0, .int .i64 0, .int .i64 0, .int .i64 0] 29)) (.slice ao l.length cap) (.slice bo l2.length cp) a b c x y z) := JB4.new
  have GW : Hid (Gro w (((w.alloc (.cells #[.slice ao l.length cap, .int .i64 a, .int .i64 b, .int .i64 c] 29)).alloc (.cells #[.slice bo l2.length cp, .int .i64 x, .int .i64 y, .int .i64 z] 29)).alloc (.cells #[.slice none 0 0, .int .i64 0, .int .i64 0, .int .i64 0] 29)) (.slice none 0 0) (.slice none 0 0)) := (Gro.of_below (bel_alloc _ _)).trans ((Gro.of_below (bel_alloc _ _)).trans (Gro.of_below (bel_alloc _ _)))
  clear hr0 hs0
  go_enter Try.func7, Try.ntmps7
  go_wp2_with fail
  generalize (((w.alloc (.cells #[.slice ao l.length cap, .int .i64 a, .int .i64 b, .int .i64 c] 29)).alloc (.cells #[.slice bo l2.length cp, .int .i64 x, .int .i64 y, .int .i64 z] 29)).alloc (.cells #[.slice none 0 0, .int .i64 0, .int .i64 0, .int .i64 0] 29)) = W0 at *
  refine (implOK_any cap ao l a b c k0 hO _ hm RA.out).mono ?_
  rintro e w1 ⟨rfl, hb⟩
  have HB1 : Hid (Below W0.heap.size W0 w1) := hb
  obtain ⟨⟨ca0, ca1, ca2, ca3⟩, ⟨cb0, cb1, cb2, cb3⟩, hTr, hz⟩ := JB1.out.next hb
  clear hb
  cases k0
  · obtain ⟨rfl, rfl, rfl, rfl, rfl⟩ := hJ.out.1 (fun h => by cases h.1)
    obtain ⟨t0, T0⟩ := Option.isSome_iff_exists.1 (hTr 0 (by omega)).1
    have Z0 := (hTr 0 (by omega)).2
    obtain ⟨t1, T1⟩ := Option.isSome_iff_exists.1 (hTr 1 (by omega)).1
    have Z1 := (hTr 1 (by omega)).2
    obtain ⟨t2, T2⟩ := Option.isSome_iff_exists.1 (hTr 2 (by omega)).1
    have Z2 := (hTr 2 (by omega)).2
    obtain ⟨t3, T3⟩ := Option.isSome_iff_exists.1 (hTr 3 (by omega)).1
    have Z3 := (hTr 3 (by omega)).2
    clear hTr
    go_wp2
    refine bodyPost_ret (v := .tuple #[.agg #[.slice none 0 0, .int .i64 0, .int .i64 0, .int .i64 0], .int .i64 1]) (by simp [results, Try.results7, go_sem, T0, T1, T2, T3, Z0, Z1, Z2, Z3]) rfl ⟨_, rfl, ?_, World.ownsRow_nil _ _ _ _⟩
    exact Gro.set4 (GW.out.trans (Gro.of_below HB1.out)) (by omega)
  have HOK : Hid (OkP l a b c) := hO.out.1 rfl
  clear hO hTr ca0 ca1 ca2 ca3
  go_wp2_with fail
  refine (implOK_any cp bo l2 x y z k1 hP _ hm2 (row_next RB HB1.out).out).mono ?_
  rintro e w2 ⟨rfl, hb⟩
  have HB2 : Hid (Below W0.heap.size W0 w2) := bel_next HB1 hb
  obtain ⟨⟨ca0, ca1, ca2, ca3⟩, ⟨cc0, cc1, cc2, cc3⟩, hTr, hz2⟩ := JB1.out.next HB2.out
  clear hb cb0 cb1 cb2 cb3 hz
  cases k1
  · obtain ⟨rfl, rfl, rfl, rfl, rfl⟩ := hJ.out.1 (fun h => by cases h.2)
    obtain ⟨t0, T0⟩ := Option.isSome_iff_exists.1 (hTr 0 (by omega)).1
    have Z0 := (hTr 0 (by omega)).2
    obtain ⟨t1, T1⟩ := Option.isSome_iff_exists.1 (hTr 1 (by omega)).1
    have Z1 := (hTr 1 (by omega)).2
    obtain ⟨t2, T2⟩ := Option.isSome_iff_exists.1 (hTr 2 (by omega)).1
    have Z2 := (hTr 2 (by omega)).2
    obtain ⟨t3, T3⟩ := Option.isSome_iff_exists.1 (hTr 3 (by omega)).1
    have Z3 := (hTr 3 (by omega)).2
    clear hTr
    go_wp2
    refine bodyPost_ret (v := .tuple #[.agg #[.slice none 0 0, .int .i64 0, .int .i64 0, .int .i64 0], .int .i64 1]) (by simp [results, Try.results7, go_sem, T0, T1, T2, T3, Z0, Z1, Z2, Z3]) rfl ⟨_, rfl, ?_, World.ownsRow_nil _ _ _ _⟩
    exact Gro.set4 (GW.out.trans (Gro.of_below HB2.out)) (by omega)
  have HPK : Hid (OkP l2 x y z) := hP.out.1 rfl
  clear hP hTr
  go_wp2_with fail
  refine (joined_sj cap cp ao bo l l2 a b c x y z w2 HOK.out HPK.out hc2 (row_next RA HB2.out).out (row_next RB HB2.out).out).mono ?_
  rintro e w3 ⟨v, rfl, hg, ho⟩
  obtain ⟨vo, n, vc, rfl⟩ := own_slice ho
  have hn : Hid (n = (sj a b c x y z l l2).length) := own_len ho
  have G3 : Hid (Gro W0 w3 (.slice none 0 0) (.slice vo n vc)) := (Gro.of_below HB2.out).trans hg
  have O3 : Hid (w3.ownsRow 0 47 4 (.slice vo n vc) (sj a b c x y z l l2).length (flat (sj a b c x y z l l2))) := ho
  have hTr := th_gro JB1.out.2.2.1 G3.out JB1.out.2.2.2 Gro.none_ne
  have hz3 : w.heap.size + 1 + 1 < w3.heap.size := Nat.lt_of_lt_of_le JB1.out.2.2.2 G3.out.size
  clear ho hg ca0 ca1 ca2 ca3 cc0 cc1 cc2 cc3 hz2
  by_cases h100 : 100 < n
  · obtain ⟨rfl, rfl, rfl, rfl, rfl⟩ := hJ.out.2.1 rfl rfl (by have := hn.out; omega)
    have h100' : (100 : Int) < (n : Int) := by omega
    obtain ⟨t0, T0⟩ := Option.isSome_iff_exists.1 (hTr 0 (by omega)).1
    have Z0 := (hTr 0 (by omega)).2
    obtain ⟨t1, T1⟩ := Option.isSome_iff_exists.1 (hTr 1 (by omega)).1
    have Z1 := (hTr 1 (by omega)).2
    obtain ⟨t2, T2⟩ := Option.isSome_iff_exists.1 (hTr 2 (by omega)).1
    have Z2 := (hTr 2 (by omega)).2
    obtain ⟨t3, T3⟩ := Option.isSome_iff_exists.1 (hTr 3 (by omega)).1
    have Z3 := (hTr 3 (by omega)).2
    clear hTr
    go_wp2
    refine bodyPost_ret (v := .tuple #[.agg #[.slice none 0 0, .int .i64 0, .int .i64 0, .int .i64 0], .int .i64 6]) (by simp [results, Try.results7, go_sem, T0, T1, T2, T3, Z0, Z1, Z2, Z3, hz3]) rfl ⟨_, rfl, ?_, World.ownsRow_nil _ _ _ _⟩
    exact gro_nil (Gro.trans (Gro.set4 (GW.out.trans G3.out) (by omega)) (Gro.of_below (bel_alloc _ _)))
  · obtain ⟨rfl, rfl, rfl, rfl, rfl⟩ := hJ.out.2.2 rfl rfl (by have := hn.out; omega)
    have h100' : ¬ (100 : Int) < (n : Int) := by omega
    obtain ⟨t0, T0⟩ := Option.isSome_iff_exists.1 (hTr 0 (by omega)).1
    have Z0 := (hTr 0 (by omega)).2
    obtain ⟨t1, T1⟩ := Option.isSome_iff_exists.1 (hTr 1 (by omega)).1
    have Z1 := (hTr 1 (by omega)).2
    obtain ⟨t2, T2⟩ := Option.isSome_iff_exists.1 (hTr 2 (by omega)).1
    have Z2 := (hTr 2 (by omega)).2
    obtain ⟨t3, T3⟩ := Option.isSome_iff_exists.1 (hTr 3 (by omega)).1
    have Z3 := (hTr 3 (by omega)).2
    clear hTr
    go_wp2
    refine bodyPost_ret (v := .tuple #[.agg #[.slice vo n vc, .int .i64 (max a x), .int .i64 (max b y), .int .i64 (max c z)], .int .i64 0]) (by simp [results, Try.results7, go_sem, T0, T1, T2, T3, Z0, Z1, Z2, Z3, hz3]) rfl ⟨_, rfl, ?_, ?_⟩
    · exact Gro.trans (Gro.set4 (GW.out.trans G3.out) (by omega)) (Gro.of_below (bel_alloc _ _))
    · have hne : (Value.slice vo n vc).ownBlock ≠ some (w.heap.size + 1 + 1) := nb G3.out JB1.out.2.2.2
      exact (ownsRow_setCell_other (ownsRow_setCell_other (ownsRow_setCell_other (ownsRow_setCell_other O3.out hne _) hne _) hne _) hne _).alloc _
end Go.Proofs.Ytlhabbdihjeidaa
