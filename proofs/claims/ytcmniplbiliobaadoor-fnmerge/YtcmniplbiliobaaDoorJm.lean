/- Lists of siblings that rise: the join of the program and that of the specification are one. -/
import Derived.Test.YtcmniplbiliobaaDoorRows
import Derived.WalkKit
import Derived.WalkSpells
import Derived.WalkLawsBesides
import Derived.Deep.QuietTactic
import Derived.BigQuiet
import Derived.Deep.RegionHeld3
import Derived.Test.YtcmniplbiliobaaDoorJn
namespace Go.Proofs.YtcmniplbiliobaaDoor
open Go.RowKit
set_option linter.unusedSimpArgs false
set_option linter.unusedVariables false
/-- One event is ahead of another. -/
def Bef (s t : Sib) : Prop := s.p < t.p ∨ s.p = t.p ∧ s.n < t.n
theorem Bef.trans {s t u : Sib} (h : Bef s t) (k : Bef t u) : Bef s u := by unfold Bef at *; omega
theorem Bef.irrefl (s : Sib) : ¬ Bef s s := by unfold Bef; omega
theorem Bef.asymm {s t : Sib} (h : Bef s t) (k : Bef t s) : False := by unfold Bef at *; omega
theorem dots_pos {s t : Sib} : 0 < dotsI t.p t.n s.p s.n ↔ Bef s t := by
  unfold dotsI Bef; split <;> (try split) <;> (try split) <;> (try split) <;> omega
theorem dots_neg {s t : Sib} : dotsI s.p s.n t.p t.n < 0 ↔ Bef s t := by
  unfold dotsI Bef; split <;> (try split) <;> (try split) <;> (try split) <;> omega
/-- Siblings rise by their events. -/
def Rise (l : List Sib) : Prop := l.Pairwise Bef
theorem Rise.tail {s : Sib} {l : List Sib} (h : Rise (s :: l)) : Rise l := (List.pairwise_cons.1 h).2
theorem Rise.head {s : Sib} {l : List Sib} (h : Rise (s :: l)) : ∀ t ∈ l, Bef s t := (List.pairwise_cons.1 h).1
theorem Rise.filter {l : List Sib} (h : Rise l) (f : Sib → Bool) : Rise (l.filter f) := List.Pairwise.sublist List.filter_sublist h
/-- Two lists that rise and have the same siblings are one. -/
theorem rise_eq : ∀ {l m : List Sib}, Rise l → Rise m → (∀ s, s ∈ l ↔ s ∈ m) → l = m
  | [], [], _, _, _ => rfl
  | [], t :: m, _, _, h => by have := (h t).2 (by simp); simp at this
  | s :: l, [], _, _, h => by have := (h s).1 (by simp); simp at this
  | s :: l, t :: m, hl, hm, h => by
    have e : s = t := by
      have h1 := (h s).1 (by simp)
      have h2 := (h t).2 (by simp)
      rcases List.mem_cons.1 h1 with e | e
      · exact e
      · rcases List.mem_cons.1 h2 with e' | e'
        · exact e'.symm
        · exact ((hm.head s e).asymm (hl.head t e')).elim
    subst e
    rw [rise_eq hl.tail hm.tail (fun u => ?_)]
    constructor
    · intro hu
      rcases List.mem_cons.1 ((h u).1 (List.mem_cons_of_mem _ hu)) with e | e
      · subst e; exact (Bef.irrefl _ (hl.head _ hu)).elim
      · exact e
    · intro hu
      rcases List.mem_cons.1 ((h u).2 (List.mem_cons_of_mem _ hu)) with e | e
      · subst e; exact (Bef.irrefl _ (hm.head _ hu)).elim
      · exact e
/-- Where a sibling is put. -/
def pt (x : Sib) : List Sib → List Sib
  | [] => [x]
  | s :: l => if dotsI s.p s.n x.p x.n < 0 then s :: pt x l else x :: s :: l
theorem mem_pt {x s : Sib} : ∀ {l : List Sib}, s ∈ pt x l ↔ s = x ∨ s ∈ l
  | [] => by simp [pt]
  | t :: l => by
    unfold pt
    split
    · rw [List.mem_cons, mem_pt, List.mem_cons]
      constructor
      · rintro (h | h | h)
        · exact .inr (.inl h)
        · exact .inl h
        · exact .inr (.inr h)
      · rintro (h | h | h)
        · exact .inr (.inl h)
        · exact .inl h
        · exact .inr (.inr h)
    · rw [List.mem_cons]
theorem rise_pt {x : Sib} : ∀ {l : List Sib}, Rise l → (∀ s ∈ l, ¬ (s.p = x.p ∧ s.n = x.n)) → Rise (pt x l)
  | [], _, _ => by simp [pt, Rise]
  | t :: l, h, hx => by
    unfold pt
    split
    · next hd =>
      refine List.pairwise_cons.2 ⟨fun u hu => ?_, rise_pt h.tail (fun s hs => hx s (List.mem_cons_of_mem _ hs))⟩
      rcases mem_pt.1 hu with e | e
      · subst e; exact dots_neg.1 hd
      · exact h.head u e
    · next hd =>
      have hxt : Bef x t := by
        have h1 := hx t (by simp)
        have h2 : ¬ Bef t x := fun hb => hd (dots_neg.2 hb)
        unfold Bef at *; omega
      refine List.pairwise_cons.2 ⟨fun u hu => ?_, h⟩
      rcases List.mem_cons.1 hu with e | e
      · subst e; exact hxt
      · exact hxt.trans (h.head u e)
/-- A sibling is put at the first place where the one there is not ahead of it. -/
theorem pt_at (x : Sib) : ∀ (l : List Sib) (k : Nat), k ≤ l.length → (∀ i (h : i < l.length), i < k → dotsI l[i].p l[i].n x.p x.n < 0) → (∀ h : k < l.length, ¬ dotsI l[k].p l[k].n x.p x.n < 0) → l.take k ++ x :: l.drop k = pt x l
  | [], k, hk, _, _ => by simp at hk; subst hk; rfl
  | t :: l, 0, _, _, h2 => by
    have := h2 (by simp)
    simp at this
    unfold pt
    rw [if_neg (by simpa using this)]
    rfl
  | t :: l, k + 1, hk, h1, h2 => by
    have h0 := h1 0 (by simp) (by omega)
    unfold pt
    rw [if_pos (by simpa using h0)]
    have := pt_at x l k (by simpa using hk) (fun i h hi => by have := h1 (i + 1) (by simpa using h) (by omega); simpa using this) (fun h => by have := h2 (by simpa using h); simpa using this)
    simp [this]
def pts (m r : List Sib) : List Sib := r.foldl (fun m s => pt s m) m
theorem mem_pts {s : Sib} : ∀ {r m : List Sib}, s ∈ pts m r ↔ s ∈ m ∨ s ∈ r
  | [], m => by simp [pts]
  | x :: r, m => by
    show s ∈ pts (pt x m) r ↔ _
    rw [mem_pts, mem_pt, List.mem_cons]
    constructor
    · rintro ((h | h) | h)
      · exact .inr (.inl h)
      · exact .inl h
      · exact .inr (.inr h)
    · rintro (h | h | h)
      · exact .inl (.inr h)
      · exact .inl (.inl h)
      · exact .inr h
theorem rise_pts : ∀ {r m : List Sib}, Rise m → Rise r → (∀ s ∈ m, ∀ t ∈ r, ¬ (s.p = t.p ∧ s.n = t.n)) → Rise (pts m r)
  | [], m, hm, _, _ => hm
  | x :: r, m, hm, hr, h => by
    refine rise_pts (r := r) (m := pt x m) (rise_pt hm (fun s hs => h s hs x (by simp))) hr.tail (fun s hs t ht => ?_)
    rcases mem_pt.1 hs with e | e
    · subst e
      have := hr.head t ht
      unfold Bef at this
      omega
    · exact h s e t (List.mem_cons_of_mem _ ht)
theorem pts_append (m r : List Sib) (s : Sib) : pts m (r ++ [s]) = pt s (pts m r) := by simp [pts, List.foldl_append]
theorem pts_len : ∀ (r m : List Sib), (pts m r).length = m.length + r.length
  | [], m => by simp [pts]
  | x :: r, m => by
    have hp : ∀ (l : List Sib), (pt x l).length = l.length + 1 := fun l => by
      induction l with
      | nil => rfl
      | cons t l ih => unfold pt; split <;> simp [ih]
    show (pts (pt x m) r).length = _
    rw [pts_len, hp]; simp; omega
/-- What of a stays: what b has too, and what b does not know. -/
def hasDot (l : List Sib) (s : Sib) : Bool := l.any fun o => decide (o.p = s.p ∧ o.n = s.n)
def stay (x y z : Int) (l l2 : List Sib) : List Sib := l.filter fun s => hasDot l2 s || !decide (s.n ≤ comp x y z s.p)
theorem hasDot_iff {l : List Sib} {s : Sib} : hasDot l s = true ↔ ∃ o ∈ l, o.p = s.p ∧ o.n = s.n := by
  unfold hasDot
  simp [List.any_eq_true]
/-- The join as the specification makes it. -/
def sj (a b c x y z : Int) (l l2 : List Sib) : List Sib := pts (stay x y z l l2) (fil a b c l2)
theorem mem_stay {x y z : Int} {l l2 : List Sib} {s : Sib} : s ∈ stay x y z l l2 ↔ s ∈ l ∧ ((∃ o ∈ l2, o.p = s.p ∧ o.n = s.n) ∨ ¬ s.n ≤ comp x y z s.p) := by
  unfold stay
  rw [List.mem_filter, Bool.or_eq_true, hasDot_iff]
  simp
theorem mem_fil {a b c : Int} {l : List Sib} {s : Sib} : s ∈ fil a b c l ↔ s ∈ l ∧ ¬ s.n ≤ comp a b c s.p := by
  unfold fil
  rw [List.mem_filter]
  simp
theorem mem_sj {a b c x y z : Int} {l l2 : List Sib} {s : Sib} : s ∈ sj a b c x y z l l2 ↔ (s ∈ l ∧ ((∃ o ∈ l2, o.p = s.p ∧ o.n = s.n) ∨ ¬ s.n ≤ comp x y z s.p)) ∨ (s ∈ l2 ∧ ¬ s.n ≤ comp a b c s.p) := by
  unfold sj
  rw [mem_pts, mem_stay, mem_fil]
theorem rise_sj {a b c x y z : Int} {l l2 : List Sib} (h : Rise l) (h2 : Rise l2) (hk : ∀ s ∈ l, s.n ≤ comp a b c s.p) : Rise (sj a b c x y z l l2) := by
  refine rise_pts (h.filter _) (h2.filter _) (fun s hs t ht e => ?_)
  have h1 := hk s (mem_stay.1 hs).1
  have h3 := (mem_fil.1 ht).2
  rw [← e.1, ← e.2] at h3
  exact h3 h1
theorem fil_one {a b c : Int} {s t : Sib} : t ∈ fil a b c [s] ↔ t = s ∧ ¬ s.n ≤ comp a b c s.p := by
  rw [mem_fil, List.mem_singleton]
  constructor
  · rintro ⟨rfl, h⟩; exact ⟨rfl, h⟩
  · rintro ⟨rfl, h⟩; exact ⟨rfl, h⟩
theorem mem_jn {a b c x y z : Int} : ∀ (l l2 : List Sib), Rise l → Rise l2 → (∀ s ∈ l, s.n ≤ comp a b c s.p) → ∀ s, s ∈ jn a b c x y z l l2 ↔ (s ∈ l ∧ ((∃ o ∈ l2, o.p = s.p ∧ o.n = s.n) ∨ ¬ s.n ≤ comp x y z s.p)) ∨ (s ∈ l2 ∧ ¬ s.n ≤ comp a b c s.p) := by
  intro l l2
  induction l, l2 using jn.induct with
  | case1 rest =>
    intro _ _ _ s
    rw [jn, mem_fil]
    simp
  | case2 s l ih =>
    intro h h2 hk t
    rw [jn, List.mem_append, ih h.tail h2 (fun u hu => hk u (List.mem_cons_of_mem _ hu)), fil_one]
    simp
    constructor
    · rintro (⟨rfl, h'⟩ | ⟨h1, h'⟩)
      · exact ⟨.inl rfl, h'⟩
      · exact ⟨.inr h1, h'⟩
    · rintro ⟨rfl | h1, h'⟩
      · exact .inl ⟨rfl, h'⟩
      · exact .inr ⟨h1, h'⟩
  | case3 s l o rest hd ih =>
    intro h h2 hk t
    have hso := dots_pos.1 hd
    rw [jn, if_pos hd, List.mem_append, ih h.tail h2 (fun u hu => hk u (List.mem_cons_of_mem _ hu)), fil_one]
    have hno : ¬ ∃ o' ∈ o :: rest, o'.p = s.p ∧ o'.n = s.n := by
      rintro ⟨o', ho, e⟩
      have hb : Bef s o' := by
        rcases List.mem_cons.1 ho with e' | e'
        · rw [e']; exact hso
        · exact hso.trans (h2.head o' e')
      unfold Bef at hb
      omega
    constructor
    · rintro (⟨rfl, h'⟩ | ⟨h1, h'⟩ | h')
      · exact .inl ⟨by simp, .inr h'⟩
      · exact .inl ⟨List.mem_cons_of_mem _ h1, h'⟩
      · exact .inr h'
    · rintro (⟨h1, h'⟩ | h')
      · rcases List.mem_cons.1 h1 with e | e
        · subst e
          rcases h' with h' | h'
          · exact (hno h').elim
          · exact .inl ⟨rfl, h'⟩
        · exact .inr (.inl ⟨e, h'⟩)
      · exact .inr (.inr h')
  | case4 s l o rest hd he ih =>
    intro h h2 hk t
    rw [jn, if_neg hd, if_pos he, List.mem_cons, ih h.tail h2.tail (fun u hu => hk u (List.mem_cons_of_mem _ hu))]
    have hok : o.n ≤ comp a b c o.p := by
      have := hk s (by simp)
      rw [he.1, he.2]; exact this
    constructor
    · rintro (rfl | ⟨h1, h'⟩ | ⟨h1, h'⟩)
      · exact .inl ⟨by simp, .inl ⟨o, by simp, he⟩⟩
      · refine .inl ⟨List.mem_cons_of_mem _ h1, ?_⟩
        rcases h' with ⟨o', ho, e⟩ | h'
        · exact .inl ⟨o', List.mem_cons_of_mem _ ho, e⟩
        · exact .inr h'
      · exact .inr ⟨List.mem_cons_of_mem _ h1, h'⟩
    · rintro (⟨h1, h'⟩ | ⟨h1, h'⟩)
      · rcases List.mem_cons.1 h1 with e | e
        · exact .inl e
        · refine .inr (.inl ⟨e, ?_⟩)
          rcases h' with ⟨o', ho, e'⟩ | h'
          · rcases List.mem_cons.1 ho with e2 | e2
            · subst e2
              have hb := h.head t e
              unfold Bef at hb
              omega
            · exact .inl ⟨o', e2, e'⟩
          · exact .inr h'
      · rcases List.mem_cons.1 h1 with e | e
        · subst e; exact (h' hok).elim
        · exact .inr (.inr ⟨e, h'⟩)
  | case5 s l o rest hd he ih =>
    intro h h2 hk t
    rw [jn, if_neg hd, if_neg he, List.mem_append, ih h h2.tail hk, fil_one]
    have hos : Bef o s := by
      have h1 : ¬ Bef s o := fun hb => hd (dots_pos.2 hb)
      unfold Bef at *; omega
    constructor
    · rintro (⟨rfl, h'⟩ | ⟨h1, h'⟩ | ⟨h1, h'⟩)
      · exact .inr ⟨by simp, h'⟩
      · refine .inl ⟨h1, ?_⟩
        rcases h' with ⟨o', ho, e⟩ | h'
        · exact .inl ⟨o', List.mem_cons_of_mem _ ho, e⟩
        · exact .inr h'
      · exact .inr ⟨List.mem_cons_of_mem _ h1, h'⟩
    · rintro (⟨h1, h'⟩ | ⟨h1, h'⟩)
      · refine .inr (.inl ⟨h1, ?_⟩)
        rcases h' with ⟨o', ho, e'⟩ | h'
        · rcases List.mem_cons.1 ho with e2 | e2
          · subst e2
            have hb : Bef o' t := by
              rcases List.mem_cons.1 h1 with e | e
              · rw [e]; exact hos
              · exact hos.trans (h.head t e)
            unfold Bef at hb
            omega
          · exact .inl ⟨o', e2, e'⟩
        · exact .inr h'
      · rcases List.mem_cons.1 h1 with e | e
        · subst e; exact .inl ⟨rfl, h'⟩
        · exact .inr (.inr ⟨e, h'⟩)
theorem rise_app {l m : List Sib} (h : Rise l) (hm : Rise m) (hlm : ∀ s ∈ l, ∀ t ∈ m, Bef s t) : Rise (l ++ m) := List.pairwise_append.2 ⟨h, hm, hlm⟩
theorem jn_sub {a b c x y z : Int} : ∀ (l l2 : List Sib), ∀ s ∈ jn a b c x y z l l2, s ∈ l ∨ s ∈ l2 := by
  intro l l2
  induction l, l2 using jn.induct with
  | case1 rest => intro s hs; rw [jn] at hs; exact .inr (mem_fil.1 hs).1
  | case2 s l ih =>
    intro t ht
    rw [jn, List.mem_append, fil_one] at ht
    rcases ht with ⟨rfl, _⟩ | h
    · exact .inl (by simp)
    · rcases ih t h with h | h
      · exact .inl (List.mem_cons_of_mem _ h)
      · exact .inr h
  | case3 s l o rest hd ih =>
    intro t ht
    rw [jn, if_pos hd, List.mem_append, fil_one] at ht
    rcases ht with ⟨rfl, _⟩ | h
    · exact .inl (by simp)
    · rcases ih t h with h | h
      · exact .inl (List.mem_cons_of_mem _ h)
      · exact .inr h
  | case4 s l o rest hd he ih =>
    intro t ht
    rw [jn, if_neg hd, if_pos he, List.mem_cons] at ht
    rcases ht with rfl | h
    · exact .inl (by simp)
    · rcases ih t h with h | h
      · exact .inl (List.mem_cons_of_mem _ h)
      · exact .inr (List.mem_cons_of_mem _ h)
  | case5 s l o rest hd he ih =>
    intro t ht
    rw [jn, if_neg hd, if_neg he, List.mem_append, fil_one] at ht
    rcases ht with ⟨rfl, _⟩ | h
    · exact .inr (by simp)
    · rcases ih t h with h | h
      · exact .inl h
      · exact .inr (List.mem_cons_of_mem _ h)
theorem rise_one {f : Sib → Bool} {s : Sib} : Rise ([s].filter f) := Rise.filter (l := [s]) (by simp [Rise]) f
theorem rise_jn {a b c x y z : Int} : ∀ (l l2 : List Sib), Rise l → Rise l2 → Rise (jn a b c x y z l l2) := by
  intro l l2
  induction l, l2 using jn.induct with
  | case1 rest => intro _ h2; rw [jn]; exact h2.filter _
  | case2 s l ih =>
    intro h h2
    rw [jn]
    refine rise_app rise_one (ih h.tail h2) (fun u hu t ht => ?_)
    rw [(fil_one.1 hu).1]
    rcases jn_sub _ _ t ht with h' | h'
    · exact h.head t h'
    · simp at h'
  | case3 s l o rest hd ih =>
    intro h h2
    have hso := dots_pos.1 hd
    rw [jn, if_pos hd]
    refine rise_app rise_one (ih h.tail h2) (fun u hu t ht => ?_)
    rw [(fil_one.1 hu).1]
    rcases jn_sub _ _ t ht with h' | h'
    · exact h.head t h'
    · rcases List.mem_cons.1 h' with e | e
      · rw [e]; exact hso
      · exact hso.trans (h2.head t e)
  | case4 s l o rest hd he ih =>
    intro h h2
    rw [jn, if_neg hd, if_pos he]
    refine List.pairwise_cons.2 ⟨fun t ht => ?_, ih h.tail h2.tail⟩
    rcases jn_sub _ _ t ht with h' | h'
    · exact h.head t h'
    · have := h2.head t h'
      unfold Bef at *
      omega
  | case5 s l o rest hd he ih =>
    intro h h2
    have hos : Bef o s := by
      have h1 : ¬ Bef s o := fun hb => hd (dots_pos.2 hb)
      unfold Bef at *; omega
    rw [jn, if_neg hd, if_neg he]
    refine rise_app rise_one (ih h h2.tail) (fun u hu t ht => ?_)
    rw [(fil_one.1 hu).1]
    rcases jn_sub _ _ t ht with h' | h'
    · rcases List.mem_cons.1 h' with e | e
      · rw [e]; exact hos
      · exact hos.trans (h.head t e)
    · exact h2.head t h'
/-- The program's join is the specification's. -/
theorem jn_sj {a b c x y z : Int} {l l2 : List Sib} (h : Rise l) (h2 : Rise l2) (hk : ∀ s ∈ l, s.n ≤ comp a b c s.p) : jn a b c x y z l l2 = sj a b c x y z l l2 :=
  rise_eq (rise_jn l l2 h h2) (rise_sj h h2 hk) (fun s => by rw [mem_jn l l2 h h2 hk, mem_sj])
end Go.Proofs.YtcmniplbiliobaaDoor
