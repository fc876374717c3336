/- Texts that are read back: the mathematics. -/
import Derived.Test.YtgnacdhceiapkaaDoorRows
import Derived.WalkKit
import Derived.WalkSpells
import Derived.WalkLawsBesides
import Derived.Deep.QuietTactic
import Derived.BigQuiet
import Derived.Deep.RegionHeld3
import Derived.Test.YtgnacdhceiapkaaDoorWo
import Derived.Test.YtgnacdhceiapkaaDoorVw
import Derived.Test.YtgnacdhceiapkaaDoorOl
namespace Go.Proofs.YtgnacdhceiapkaaDoor
open Go.RowKit
set_option linter.unusedSimpArgs false
set_option linter.unusedVariables false

theorem dsN_head : ∀ n : Nat, 1 ≤ n → (dsN n).head? ≠ some 48 := by
  intro n
  induction n using Nat.strongRecOn with
  | _ n ih =>
    intro h1
    rw [dsN]
    by_cases h : n < 10
    · rw [dif_pos h]
      intro e
      simp only [List.head?_cons, Option.some.injEq] at e
      have e2 := congrArg UInt8.toNat e
      rw [u8_small _ (by omega)] at e2
      simp at e2
      omega
    · rw [dif_neg h]
      have hne : dsN (n / 10) ≠ [] := by
        rw [dsN]
        split <;> simp
      obtain ⟨c, r, hcr⟩ := List.exists_cons_of_ne_nil hne
      have ih' := ih (n / 10) (by omega) (by omega)
      rw [hcr] at ih' ⊢
      exact ih'
theorem dsN_digs : ∀ n : Nat, dsN n ≠ [] ∧ (∀ c ∈ dsN n, dg c = true) ∧ nv (dsN n) = (n : Int) := by
  intro n
  induction n using Nat.strongRecOn with
  | _ n ih =>
    rw [dsN]
    by_cases h : n < 10
    · rw [dif_pos h]
      refine ⟨by simp, fun c hc => ?_, ?_⟩
      · simp only [List.mem_singleton] at hc
        rw [hc, dg_iff, u8_small _ (by omega)]
        omega
      · unfold nv
        simp only [List.foldl_cons, List.foldl_nil]
        rw [u8_small _ (by omega)]
        omega
    · rw [dif_neg h]
      obtain ⟨h1, h2, h3⟩ := ih (n / 10) (by omega)
      refine ⟨by simp, fun c hc => ?_, ?_⟩
      · rw [List.mem_append, List.mem_singleton] at hc
        rcases hc with hc | hc
        · exact h2 c hc
        · rw [hc, dg_iff, u8_small _ (by omega)]
          omega
      · rw [nv_snoc, h3, u8_small _ (by omega)]
        omega
theorem dsN_one (n : Nat) (h : 1 < (dsN n).length) : 1 ≤ n := by
  by_cases e : n = 0
  · rw [e, dsN] at h
    simp at h
  · omega
theorem dsN_is (n : Nat) : Num (dsN n) := ⟨(dsN_digs n).1, (dsN_digs n).2.1, fun h => dsN_head n (dsN_one n h)⟩
theorem dsN_val (a : Int) (h : 0 ≤ a) : nv (dsN a.toNat) = a := by
  rw [(dsN_digs a.toNat).2.2]
  omega
theorem dsN_short (a : Int) (h : 0 ≤ a) (h1 : a ≤ 9999) : (dsN a.toNat).length ≤ 18 := num_short (dsN_is _) (by rw [dsN_val a h]; exact h1)
theorem nl_nat (p : Int) (h : 0 ≤ p ∧ p < 3) : ((nl p).toNat : Int) = 97 + p := by
  have : p = 0 ∨ p = 1 ∨ p = 2 := by omega
  rcases this with rfl | rfl | rfl <;> rfl
theorem td_dot {p n : Int} (h : dotB p n = true) : tdR (dotT p n) ∧ tdV (dotT p n) = (p, n) := by
  have hd := of_decide_eq_true (show decide _ = true from h)
  have e1 := nl_nat p (by omega)
  have e2 := dsN_val n (by omega)
  unfold dotT tdR tdV
  refine ⟨⟨by omega, ⟨dsN_is _, dsN_short n (by omega) (by omega)⟩, ?_⟩, ?_⟩
  · rw [e1, e2, show (97 : Int) + p - 97 = p by omega]
    exact h
  · show (((nl p).toNat : Int) - 97, nv (dsN n.toNat)) = (p, n)
    rw [e1, e2, show (97 : Int) + p - 97 = p by omega]
theorem sibS_text {s : Sib} (h : sibOK s.p s.n s.v s.d = true) : SibS (sibT s) s := by
  obtain ⟨p, n, v, d⟩ := s
  unfold sibOK at h
  simp only [Bool.and_eq_true, decide_eq_true_eq, Bool.or_eq_true, Bool.not_eq_true', beq_iff_eq] at h
  obtain ⟨⟨hd, hv0, hv1⟩, hz⟩ := h
  obtain ⟨t1, t2⟩ := td_dot hd
  unfold sibT
  cases d with
  | true =>
    have hv : v = 0 := by
      rcases hz with hz | hz
      · cases hz
      · exact hz
    refine .inl ⟨dotT p n, by simp, t1, ?_⟩
    rw [t2, hv]
  | false =>
    refine .inr ⟨dotT p n, dsN v.toNat, by simp, t1, ⟨dsN_is _, dsN_short v hv0 (by omega)⟩, ?_⟩
    rw [t2, dsN_val v hv0]
theorem sibs_text : ∀ (l : List Sib), (∀ s ∈ l, sibOK s.p s.n s.v s.d = true) → SibsS (l.map sibT) l
  | [], _ => .nil
  | s :: l, h => .cons (sibS_text (h s (List.mem_cons_self ..))) (sibs_text l fun t ht => h t (List.mem_cons_of_mem _ ht))
theorem tl_text : ∀ (l : List Sib), tl (l.map sibT) = l.flatMap fun s => 124 :: sibT s
  | [] => rfl
  | s :: l => by
    rw [List.map_cons, tl, List.flatMap_cons, tl_text l]
    rfl
theorem vvT_is {a b c : Int} (h : vvB a b c = true) : VvT (vvT a b c) (dsN a.toNat) (dsN b.toNat) (dsN c.toNat) := by
  have h0 := of_decide_eq_true (show decide _ = true from h)
  refine ⟨by unfold vvT vj; simp, ⟨dsN_is _, ?_⟩, ⟨dsN_is _, ?_⟩, ⟨dsN_is _, ?_⟩⟩
  · rw [dsN_val a (by omega)]; omega
  · rw [dsN_val b (by omega)]; omega
  · rw [dsN_val c (by omega)]; omega
theorem objT_tl (X : List UInt8) (l : List Sib) : objT X l = X ++ tl (l.map sibT) := by rw [tl_text]; rfl
theorem val_le {l : List Sib} (h : ∀ s ∈ l, sibOK s.p s.n s.v s.d = true) : ∀ s ∈ l, s.v ≤ 999 := fun s hs => (sib_bounds (h s hs)).2.2.2.2
theorem rvS_text {a b c : Int} (h : vvB a b c = true) {t : List UInt8} (ht : NoD t) : rvS (vvT a b c ++ t) 3 = some ((a, b, c), t) := by
  have h0 := of_decide_eq_true (show decide _ = true from h)
  have := rvS_pre (vvT_is h) ht
  rw [dsN_val a (by omega), dsN_val b (by omega), dsN_val c (by omega)] at this
  exact this
theorem good_text {l : List Sib} {a b c : Int} (h : OkP l a b c) : GoodR (objT (vvT a b c) l) a b c l := by
  refine ⟨⟨tl (l.map sibT), ?_, sbsR_of (sibs_text l (ok_sibs h)) (val_le (ok_sibs h))⟩, h⟩
  rw [objT_tl]
  exact rvS_text h.2.1 (nod_tl _)
theorem nod_bars (ps : List (List UInt8)) : NoD (tl ps ++ [124]) := by
  cases ps with
  | nil => exact nod_bar []
  | cons p ps =>
    rw [tl, List.cons_append]
    exact nod_bar _
theorem sbs_bar : ∀ (l : List Sib), (∀ s ∈ l, sibOK s.p s.n s.v s.d = true) → SbsR (tl (l.map sibT) ++ [124]) none
  | [], _ => .no (by simp [tl]) (by
      show sibR [124] = none
      rw [sibR_bar]
      rfl)
  | s :: l, h => by
    have ih := sbs_bar l fun t ht => h t (List.mem_cons_of_mem _ ht)
    have hs := h s (List.mem_cons_self ..)
    have e := sibR_pre (t := tl (l.map sibT) ++ [124]) (sibS_text hs) ((sib_bounds hs).2.2.2.2) (nod_bars _)
    rw [List.map_cons, tl, List.cons_append, List.append_assoc]
    exact SbsR.yes e ih
theorem bad_text {l : List Sib} {a b c : Int} (h : OkP l a b c) : NoObj (objT (vvT a b c) l ++ [124]) := by
  rintro x y z m ⟨⟨rest, h1, h2⟩, _⟩
  rw [objT_tl, List.append_assoc, rvS_text h.2.1 (nod_bars _)] at h1
  simp only [Option.some.injEq, Prod.mk.injEq] at h1
  rw [← h1.2] at h2
  have := h2.det (sbs_bar l (ok_sibs h))
  cases this
theorem dot_short {p n : Int} (h : dotB p n = true) : (dotT p n).length ≤ 19 := by
  have hd := of_decide_eq_true (show decide _ = true from h)
  have := dsN_short n (by omega) (by omega)
  unfold dotT
  simp only [List.length_cons]
  omega
theorem sib_short {s : Sib} (h : sibOK s.p s.n s.v s.d = true) : (sibT s).length ≤ 38 := by
  have hb := sib_bounds h
  have h1 := dot_short (p := s.p) (n := s.n) (by
    unfold sibOK at h
    simp only [Bool.and_eq_true] at h
    exact h.1.1)
  have h2 := dsN_short s.v (by omega) (by omega)
  unfold sibT
  rw [List.length_append]
  split <;> simp <;> omega
theorem tl_short : ∀ (l : List Sib), (∀ s ∈ l, sibOK s.p s.n s.v s.d = true) → (tl (l.map sibT)).length ≤ 39 * l.length
  | [], _ => by simp [tl]
  | s :: l, h => by
    have ih := tl_short l fun t ht => h t (List.mem_cons_of_mem _ ht)
    have hs := sib_short (h s (List.mem_cons_self ..))
    rw [List.map_cons, tl, List.length_cons, List.length_append, List.length_cons]
    omega
theorem vv_short {a b c : Int} (h : vvB a b c = true) : (vvT a b c).length ≤ 56 := by
  have h0 := of_decide_eq_true (show decide _ = true from h)
  have h1 := dsN_short a (by omega) (by omega)
  have h2 := dsN_short b (by omega) (by omega)
  have h3 := dsN_short c (by omega) (by omega)
  unfold vvT vj
  simp
  omega
theorem obj_short {l : List Sib} {a b c : Int} (h : OkP l a b c) : (objT (vvT a b c) l).length ≤ 4000 := by
  have h1 := vv_short h.2.1
  have h2 := tl_short l (ok_sibs h)
  have h3 := h.1
  rw [objT_tl, List.length_append]
  omega
theorem bl_of (l : List UInt8) : bl ⟨l.toArray⟩ = l := by simp [bl]
theorem size_of (l : List UInt8) : (⟨l.toArray⟩ : ByteArray).size = l.length := by rw [← bl_len, bl_of]
theorem rda_text {p n : Int} (h : dotB p n = true) : RdA ⟨(dotT p n).toArray⟩ p n 0 := by
  have h1 := dot_short h
  obtain ⟨t1, t2⟩ := td_dot h
  have hz := size_of (dotT p n)
  refine ⟨fun h' => by omega, fun _ _ => ?_, fun _ h' => (h' (by rw [bl_of]; exact t1)).elim⟩
  rw [bl_of, t2]
  exact ⟨rfl, rfl, rfl⟩
theorem rda_none : RdA ⟨#[100, 49]⟩ 0 0 3 := by
  refine ⟨fun h' => absurd h' (by decide), fun _ h' => ?_, fun _ _ => ⟨rfl, rfl, rfl⟩⟩
  exact absurd h'.1.2 (by decide)
theorem rva_text {a b c : Int} (h : vvB a b c = true) : RvA ⟨(vvT a b c).toArray⟩ a b c 0 := by
  have h0 := of_decide_eq_true (show decide _ = true from h)
  have h1 := vv_short h
  have hz := size_of (vvT a b c)
  refine ⟨fun h' => by omega, fun _ x y z hV => ?_, fun _ h' => (h' ⟨_, _, _, by rw [bl_of]; exact vvT_is h⟩).elim⟩
  rw [bl_of] at hV
  obtain ⟨rfl, rfl, rfl⟩ := vvT_one hV (vvT_is h)
  exact ⟨(dsN_val a (by omega)).symm, (dsN_val b (by omega)).symm, (dsN_val c (by omega)).symm, rfl⟩
theorem roa_text {l : List Sib} {a b c : Int} (h : OkP l a b c) : RoA ⟨(objT (vvT a b c) l).toArray⟩ l a b c 0 := by
  have h1 := obj_short h
  have hz := size_of (objT (vvT a b c) l)
  refine ⟨fun h' => by omega, fun _ x y z m hG => ?_, fun _ h' => (h' a b c l (by rw [bl_of]; exact good_text h)).elim⟩
  rw [bl_of] at hG
  obtain ⟨e1, e2, e3, e4⟩ := goodR_one hG (good_text h)
  exact ⟨e1.symm, e2.symm, e3.symm, e4.symm, rfl⟩
theorem roa_bad {l : List Sib} {a b c : Int} (h : OkP l a b c) : RoA ⟨(objT (vvT a b c) l ++ [124]).toArray⟩ [] 0 0 0 3 := by
  have h1 := obj_short h
  have hz := size_of (objT (vvT a b c) l ++ [124])
  rw [List.length_append, List.length_singleton] at hz
  refine ⟨fun h' => by omega, fun _ x y z m hG => ?_, fun _ _ => ⟨rfl, rfl, rfl, rfl, rfl⟩⟩
  rw [bl_of] at hG
  exact (bad_text h _ _ _ _ hG).elim
end Go.Proofs.YtgnacdhceiapkaaDoor
