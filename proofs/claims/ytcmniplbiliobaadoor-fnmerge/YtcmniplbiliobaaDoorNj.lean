/- Replicas of one object: joins do not ask who comes first, how often, or in what order. -/
import Derived.Test.YtcmniplbiliobaaDoorRows
import Derived.WalkKit
import Derived.WalkSpells
import Derived.WalkLawsBesides
import Derived.Deep.QuietTactic
import Derived.BigQuiet
import Derived.Deep.RegionHeld3
import Derived.Test.YtcmniplbiliobaaDoorJm
namespace Go.Proofs.YtcmniplbiliobaaDoor
open Go.RowKit
set_option linter.unusedSimpArgs false
set_option linter.unusedVariables false

/-- A replica: its siblings rise, are right and known, and have the values that their events bear; it knows no event that was not. -/
structure Rp (V : Int → Int → Int × Bool) (k0 k1 k2 : Int) (l : List Sib) (a b c : Int) : Prop where
  rise : Rise l
  ok : ∀ s ∈ l, sibOK s.p s.n s.v s.d = true ∧ s.n ≤ comp a b c s.p
  pos : 0 ≤ a ∧ 0 ≤ b ∧ 0 ≤ c
  le : a ≤ k0 ∧ b ≤ k1 ∧ c ≤ k2
  val : ∀ s ∈ l, (s.v, s.d) = V s.p s.n
theorem comp_max (a b c x y z p : Int) : comp (max a x) (max b y) (max c z) p = max (comp a b c p) (comp x y z p) := by
  unfold comp
  split
  · rfl
  · split <;> rfl
theorem le_comp_max {a b c x y z p n : Int} : n ≤ comp (max a x) (max b y) (max c z) p ↔ n ≤ comp a b c p ∨ n ≤ comp x y z p := by
  rw [comp_max]; omega
theorem sib_ok {p n v : Int} {d : Bool} (h : sibOK p n v d = true) : 0 ≤ p ∧ p < 3 ∧ 1 ≤ n ∧ n ≤ 9999 := by
  unfold sibOK dotB at h
  simp at h
  omega
theorem rise_len17 : ∀ (l : List Sib) (m : Int), Rise l → (∀ s ∈ l, 0 ≤ s.p ∧ s.p < 3 ∧ 1 ≤ s.n ∧ s.n ≤ 17) → (∀ s ∈ l, m ≤ 17 * s.p + s.n) → m ≤ 52 → (l.length : Int) ≤ 52 - m
  | [], m, _, _, _, hm => by simp; omega
  | s :: l, m, hr, hb, hg, hm => by
    have h1 := hb s (List.mem_cons_self ..)
    have h2 := hg s (List.mem_cons_self ..)
    have ih := rise_len17 l (17 * s.p + s.n + 1) hr.tail (fun t ht => hb t (List.mem_cons_of_mem _ ht)) (fun t ht => by
      have h3 := hr.head t ht
      have h4 := hb t (List.mem_cons_of_mem _ ht)
      unfold Bef at h3
      rcases h3 with h3 | ⟨h3, h5⟩ <;> omega) (by omega)
    simp only [List.length_cons]
    omega
theorem comp_le {a b c k0 k1 k2 m p : Int} (h : a ≤ k0 ∧ b ≤ k1 ∧ c ≤ k2) (h0 : k0 ≤ m) (h1 : k1 ≤ m) (h2 : k2 ≤ m) : comp a b c p ≤ m := by
  unfold comp
  split
  · omega
  · split <;> omega
theorem comp_mono {a b c k0 k1 k2 p : Int} (h : a ≤ k0 ∧ b ≤ k1 ∧ c ≤ k2) : comp a b c p ≤ comp k0 k1 k2 p := by
  unfold comp
  split
  · omega
  · split <;> omega
section
variable {V : Int → Int → Int × Bool} {k0 k1 k2 : Int} {l l2 l3 : List Sib} {a b c x y z u v t : Int}
theorem Rp.len (h : Rp V k0 k1 k2 l a b c) (h0 : k0 ≤ 17) (h1 : k1 ≤ 17) (h2 : k2 ≤ 17) : l.length ≤ 51 := by
  have := rise_len17 l 1 h.rise (fun s hs => by
    have e := sib_ok (h.ok s hs).1
    have f := (h.ok s hs).2
    have g := comp_le (p := s.p) h.le h0 h1 h2
    omega) (fun s hs => by
    have e := sib_ok (h.ok s hs).1
    omega) (by omega)
  omega
theorem Rp.okP (h : Rp V k0 k1 k2 l a b c) (h0 : k0 ≤ 17) (h1 : k1 ≤ 17) (h2 : k2 ≤ 17) : OkP l a b c := by
  have hl := h.len h0 h1 h2
  have h3 := h.pos
  have h4 := h.le
  refine ⟨by omega, decide_eq_true (by omega), fun i hi => ⟨(h.ok _ (List.getElem_mem hi)).1, decide_eq_true (h.ok _ (List.getElem_mem hi)).2, fun hi0 => dots_neg.2 ?_⟩⟩
  exact List.pairwise_iff_getElem.1 h.rise (i - 1) i (by omega) hi (by omega)
/-- Of two replicas siblings of one event are one. -/
theorem Rp.one {a' b' c' : Int} (h : Rp V k0 k1 k2 l a b c) (h2 : Rp V k0 k1 k2 l2 a' b' c') {s o : Sib} (hs : s ∈ l) (ho : o ∈ l2) (hp : o.p = s.p) (hn : o.n = s.n) : o = s := by
  have e1 := h.val s hs
  have e2 := h2.val o ho
  rw [hp, hn, ← e1] at e2
  obtain ⟨p1, n1, v1, d1⟩ := s
  obtain ⟨p2, n2, v2, d2⟩ := o
  simp only [Prod.mk.injEq] at e2 hp hn
  obtain ⟨e3, e4⟩ := e2
  subst hp hn e3 e4
  rfl
theorem Rp.mem (h : Rp V k0 k1 k2 l a b c) (h2 : Rp V k0 k1 k2 l2 x y z) {s : Sib} : s ∈ sj a b c x y z l l2 ↔ (s ∈ l ∧ (s ∈ l2 ∨ ¬ s.n ≤ comp x y z s.p)) ∨ (s ∈ l2 ∧ ¬ s.n ≤ comp a b c s.p) := by
  rw [mem_sj]
  constructor
  · rintro (⟨hs, ⟨o, ho, hp, hn⟩ | hk⟩ | hs)
    · exact .inl ⟨hs, .inl (by rw [← h.one h2 hs ho hp hn]; exact ho)⟩
    · exact .inl ⟨hs, .inr hk⟩
    · exact .inr hs
  · rintro (⟨hs, ho | hk⟩ | hs)
    · exact .inl ⟨hs, .inl ⟨s, ho, rfl, rfl⟩⟩
    · exact .inl ⟨hs, .inr hk⟩
    · exact .inr hs
theorem Rp.known (h : Rp V k0 k1 k2 l a b c) : ∀ s ∈ l, s.n ≤ comp a b c s.p := fun s hs => (h.ok s hs).2
theorem Rp.join (h : Rp V k0 k1 k2 l a b c) (h2 : Rp V k0 k1 k2 l2 x y z) : Rp V k0 k1 k2 (sj a b c x y z l l2) (max a x) (max b y) (max c z) := by
  have p1 := h.pos
  have p2 := h2.pos
  have q1 := h.le
  have q2 := h2.le
  refine ⟨rise_sj h.rise h2.rise h.known, fun s hs => ?_, by omega, by omega, fun s hs => ?_⟩
  · rw [le_comp_max]
    rcases mem_sj.1 hs with ⟨hs, _⟩ | ⟨hs, _⟩
    · exact ⟨(h.ok s hs).1, .inl (h.ok s hs).2⟩
    · exact ⟨(h2.ok s hs).1, .inr (h2.ok s hs).2⟩
  · rcases mem_sj.1 hs with ⟨hs, _⟩ | ⟨hs, _⟩
    · exact h.val s hs
    · exact h2.val s hs
theorem Rp.comm (h : Rp V k0 k1 k2 l a b c) (h2 : Rp V k0 k1 k2 l2 x y z) : sj a b c x y z l l2 = sj x y z a b c l2 l := by
  refine rise_eq (h.join h2).rise (h2.join h).rise fun s => ?_
  rw [h.mem h2, h2.mem h]
  by_cases e1 : s ∈ l <;> by_cases e2 : s ∈ l2 <;> by_cases e3 : s.n ≤ comp a b c s.p <;> by_cases e4 : s.n ≤ comp x y z s.p <;> simp [e1, e2, e3, e4]
theorem Rp.assoc (h : Rp V k0 k1 k2 l a b c) (h2 : Rp V k0 k1 k2 l2 x y z) (h3 : Rp V k0 k1 k2 l3 u v t) : sj (max a x) (max b y) (max c z) u v t (sj a b c x y z l l2) l3 = sj a b c (max x u) (max y v) (max z t) l (sj x y z u v t l2 l3) := by
  refine rise_eq ((h.join h2).join h3).rise (h.join (h2.join h3)).rise fun s => ?_
  rw [(h.join h2).mem h3, h.mem (h2.join h3), h.mem h2, h2.mem h3, le_comp_max, le_comp_max]
  have f1 := h.known s
  have f2 := h2.known s
  have f3 := h3.known s
  by_cases e1 : s ∈ l <;> by_cases e2 : s ∈ l2 <;> by_cases e3 : s ∈ l3 <;> by_cases e4 : s.n ≤ comp a b c s.p <;> by_cases e5 : s.n ≤ comp x y z s.p <;> by_cases e6 : s.n ≤ comp u v t s.p <;> simp [e1, e2, e3, e4, e5, e6] at f1 f2 f3 ⊢
theorem Rp.idem (h : Rp V k0 k1 k2 l a b c) : sj a b c a b c l l = l := by
  refine rise_eq (h.join h).rise h.rise fun s => ?_
  rw [h.mem h]
  have f1 := h.known s
  by_cases e1 : s ∈ l <;> by_cases e4 : s.n ≤ comp a b c s.p <;> simp [e1, e4]
theorem Rp.again (h : Rp V k0 k1 k2 l a b c) (h2 : Rp V k0 k1 k2 l2 x y z) : sj (max a x) (max b y) (max c z) x y z (sj a b c x y z l l2) l2 = sj a b c x y z l l2 := by
  refine rise_eq ((h.join h2).join h2).rise (h.join h2).rise fun s => ?_
  rw [(h.join h2).mem h2, h.mem h2, le_comp_max]
  have f1 := h.known s
  have f2 := h2.known s
  by_cases e1 : s ∈ l <;> by_cases e2 : s ∈ l2 <;> by_cases e4 : s.n ≤ comp a b c s.p <;> by_cases e5 : s.n ≤ comp x y z s.p <;> simp [e1, e2, e4, e5] at f1 f2 ⊢
theorem Rp.again0 (h : Rp V k0 k1 k2 l a b c) (h2 : Rp V k0 k1 k2 l2 x y z) : sj (max a x) (max b y) (max c z) a b c (sj a b c x y z l l2) l = sj a b c x y z l l2 := by
  refine rise_eq ((h.join h2).join h).rise (h.join h2).rise fun s => ?_
  rw [(h.join h2).mem h, h.mem h2, le_comp_max]
  have f1 := h.known s
  have f2 := h2.known s
  by_cases e1 : s ∈ l <;> by_cases e2 : s ∈ l2 <;> by_cases e4 : s.n ≤ comp a b c s.p <;> by_cases e5 : s.n ≤ comp x y z s.p <;> simp [e1, e2, e4, e5] at f1 f2 ⊢
/-- More events, with other values at new ones alone. -/
theorem Rp.more {V' : Int → Int → Int × Bool} {m0 m1 m2 : Int} (h : Rp V k0 k1 k2 l a b c) (hk : k0 ≤ m0 ∧ k1 ≤ m1 ∧ k2 ≤ m2) (hV : ∀ p n, n ≤ comp k0 k1 k2 p → V' p n = V p n) : Rp V' m0 m1 m2 l a b c := by
  have q := h.le
  refine ⟨h.rise, h.ok, h.pos, by omega, fun s hs => ?_⟩
  rw [hV]
  · exact h.val s hs
  · exact Int.le_trans (h.ok s hs).2 (comp_mono h.le)
/-- What a context knows is replaced by a new event. -/
theorem Rp.write {V' : Int → Int → Int × Bool} {m0 m1 m2 P Q R : Int} {s : Sib} (h : Rp V k0 k1 k2 l a b c) (hk : k0 ≤ m0 ∧ k1 ≤ m1 ∧ k2 ≤ m2) (hV : ∀ p n, n ≤ comp k0 k1 k2 p → V' p n = V p n)
    (hs : sibOK s.p s.n s.v s.d = true) (hn : comp k0 k1 k2 s.p < s.n) (hv : (s.v, s.d) = V' s.p s.n)
    (hP : a ≤ P ∧ b ≤ Q ∧ c ≤ R) (hQ : P ≤ m0 ∧ Q ≤ m1 ∧ R ≤ m2) (hR : s.n ≤ comp P Q R s.p) : Rp V' m0 m1 m2 (pt s (fil x y z l)) P Q R := by
  have q := h.pos
  have h' := h.more hk hV
  refine ⟨rise_pt (h.rise.filter _) (fun o ho e => ?_), fun o ho => ?_, by omega, hQ, fun o ho => ?_⟩
  · have ho' := (mem_fil.1 ho).1
    have e1 := (h.ok o ho').2
    have e2 := comp_mono (p := o.p) h.le
    rw [e.1, e.2] at e1
    rw [e.1] at e2
    omega
  · rcases mem_pt.1 ho with rfl | ho
    · exact ⟨hs, hR⟩
    · have ho' := (mem_fil.1 ho).1
      exact ⟨(h.ok o ho').1, Int.le_trans (h.ok o ho').2 (comp_mono hP)⟩
  · rcases mem_pt.1 ho with rfl | ho
    · exact hv
    · exact h'.val o (mem_fil.1 ho).1
theorem rp_nil : Rp V 0 0 0 [] 0 0 0 := ⟨by simp [Rise], by simp, by omega, by omega, by simp⟩
end
end Go.Proofs.YtcmniplbiliobaaDoor
