/- The object of a key's events, as the specification makes it. -/
import Derived.Test.YtkdbcmkmcjaenaaGreatDoorRows
import Derived.WalkKit
import Derived.WalkSpells
import Derived.WalkLawsBesides
import Derived.Deep.QuietTactic
import Derived.BigQuiet
import Derived.Deep.RegionHeld3
import Derived.Test.YtkdbcmkmcjaenaaGreatDoorSc
import Derived.Test.YtkdbcmkmcjaenaaGreatDoorOv
import Derived.LoopN
import Derived.OwnWalk
import Derived.Laws.StructEq
namespace Go.Proofs.YtkdbcmkmcjaenaaGreatDoor
open Go.RowKit
set_option linter.unusedSimpArgs false
set_option linter.unusedVariables false

def sOf (e : Ev) : Sb := ⟨e.p, e.n, e.v, e.dead⟩
/-- What an event's writer knew at a node, and itself. -/
def kn (e : Ev) (c : Int) : Int := if e.p = c then e.n else comp e.a e.b e.c c
/-- It was overwritten by one of its key. -/
def ovr (l : List Ev) (e : Ev) : Prop := ∃ f ∈ l, f.key = e.key ∧ knowE f e.p e.n
def supP (l : List Ev) (key : ByteArray) (c m : Int) : Prop := 0 ≤ m ∧ (∀ e ∈ l, e.key = key → kn e c ≤ m) ∧ (m = 0 ∨ ∃ e ∈ l, e.key = key ∧ kn e c = m)
theorem supP_one {l : List Ev} {key : ByteArray} {c m m' : Int} (h : supP l key c m) (h' : supP l key c m') : m = m' := by
  have a : m ≤ m' := by
    rcases h.2.2 with e | ⟨e, he, hk, hm⟩
    · have := h'.1; omega
    · have := h'.2.1 e he hk; omega
  have b : m' ≤ m := by
    rcases h'.2.2 with e | ⟨e, he, hk, hm⟩
    · have := h.1; omega
    · have := h.2.1 e he hk; omega
  omega
theorem supP_step {l : List Ev} {key : ByteArray} {c m m' : Int} {i : Nat} (h : supP (l.take i) key c m) (hi : i < l.length) (hk : l[i].key = key) (hm : m' = max m (kn l[i] c)) : supP (l.take (i + 1)) key c m' := by
  rw [List.take_succ_eq_append_getElem hi]
  refine ⟨by have := h.1; omega, fun e he hek => ?_, ?_⟩
  · rcases List.mem_append.1 he with he | he
    · have := h.2.1 e he hek; omega
    · rw [List.mem_singleton.1 he]; omega
  · rcases Int.le_total m (kn l[i] c) with h1 | h1
    · exact .inr ⟨l[i], List.mem_append.2 (.inr (List.mem_singleton.2 rfl)), hk, by omega⟩
    · have e : m' = m := by omega
      rcases h.2.2 with h0 | ⟨e', he, hek, hem⟩
      · exact .inl (by omega)
      · exact .inr ⟨e', List.mem_append.2 (.inl he), hek, by omega⟩
theorem supP_skip {l : List Ev} {key : ByteArray} {c m : Int} {i : Nat} (h : supP (l.take i) key c m) (hi : i < l.length) (hk : l[i].key ≠ key) : supP (l.take (i + 1)) key c m := by
  rw [List.take_succ_eq_append_getElem hi]
  refine ⟨h.1, fun e he hek => ?_, ?_⟩
  · rcases List.mem_append.1 he with he | he
    · exact h.2.1 e he hek
    · rw [List.mem_singleton.1 he] at hek; exact absurd hek hk
  · rcases h.2.2 with h0 | ⟨e', he, hek, hem⟩
    · exact .inl h0
    · exact .inr ⟨e', List.mem_append.2 (.inl he), hek, hem⟩
theorem eokL_at : ∀ {l : List Ev} {x y z : Int}, eokL x y z l → ∀ i (h : i < l.length), ∃ X Y Z, (∀ c, 0 ≤ c → c < 3 → comp x y z c ≤ comp X Y Z c) ∧ (∀ j (hj : j < l.length), j < i → ∀ c, 0 ≤ c → c < 3 → kn l[j] c ≤ comp X Y Z c) ∧ stepP X Y Z l[i]
  | e0 :: l, x, y, z, ⟨⟨h1, h2⟩, _⟩, 0, _ => ⟨x, y, z, fun c _ _ => Int.le_refl _, fun j _ hj => by omega, h2⟩
  | e0 :: l, x, y, z, ⟨⟨h1, h2⟩, h3⟩, i + 1, h => by
    obtain ⟨X, Y, Z, i1, i2, i3⟩ := eokL_at h3 i (by simpa using h)
    have d := ev_dot h1
    have up : ∀ c, 0 ≤ c → c < 3 → comp x y z c ≤ comp X Y Z c ∧ kn e0 c ≤ comp X Y Z c := fun c c0 c3 => by
      have := i1 c c0 c3
      rw [comp_upd ⟨d.1, d.2.1⟩ ⟨c0, c3⟩] at this
      have s1 := h2.1
      have s2 := h2.2
      unfold kn
      by_cases e : c = e0.p
      · subst e
        rw [if_pos rfl] at this ⊢
        omega
      · rw [if_neg e] at this
        rw [if_neg (fun q => e q.symm)]
        have c3' : c = 0 ∨ c = 1 ∨ c = 2 := by omega
        refine ⟨this, ?_⟩
        rcases c3' with rfl | rfl | rfl <;> simp [comp] at this ⊢ <;> omega
    refine ⟨X, Y, Z, fun c c0 c3 => (up c c0 c3).1, fun j hj hji c c0 c3 => ?_, by simpa using i3⟩
    cases j with
    | zero => exact (up c c0 c3).2
    | succ j => exact i2 j (by simpa using hj) (by omega) c c0 c3
theorem seen_lt {l : List Ev} {i : Nat} {key : ByteArray} {m : Int} (he : eok l) (hi : i < l.length) (h : supP (l.take i) key l[i].p m) : m < l[i].n ∧ comp l[i].a l[i].b l[i].c l[i].p < l[i].n := by
  obtain ⟨X, Y, Z, _, i2, i3⟩ := eokL_at he.2 i hi
  have d := ev_dot (eok_ev he _ (List.getElem_mem hi))
  have s1 := i3.1
  have s2 := i3.2
  constructor
  · rcases h.2.2 with e | ⟨e, hm, _, hk⟩
    · omega
    · obtain ⟨j, hj, rfl⟩ := List.getElem_of_mem hm
      have hj2 : j < i ∧ j < l.length := by simp at hj; omega
      have := i2 j hj2.2 hj2.1 l[i].p d.1 d.2.1
      simp only [List.getElem_take] at hk
      omega
  · have c3' : l[i].p = 0 ∨ l[i].p = 1 ∨ l[i].p = 2 := by omega
    rcases c3' with e | e | e <;> rw [e] at s1 ⊢ <;> simp [comp] at s1 ⊢ <;> omega
/-- The object of a key's events. -/
def OInv (l : List Ev) (i : Nat) (key : ByteArray) (ss : List Sb) (a b c : Int) : Prop :=
  (ss.Pairwise sl ∧ (∀ s, s ∈ ss ↔ ∃ e ∈ l.take i, e.key = key ∧ ¬ ovr l e ∧ s = sOf e) ∧ ss.length ≤ i) ∧ supP (l.take i) key 0 a ∧ supP (l.take i) key 1 b ∧ supP (l.take i) key 2 c
theorem oinv_skip {l : List Ev} {i : Nat} {key : ByteArray} {ss : List Sb} {a b c : Int} (h : OInv l i key ss a b c) (hi : i < l.length) (hk : l[i].key ≠ key) : OInv l (i + 1) key ss a b c := by
  refine ⟨⟨h.1.1, fun s => ?_, by have := h.1.2.2; omega⟩, supP_skip h.2.1 hi hk, supP_skip h.2.2.1 hi hk, supP_skip h.2.2.2 hi hk⟩
  rw [h.1.2.1, List.take_succ_eq_append_getElem hi]
  constructor
  · rintro ⟨e, he, r⟩
    exact ⟨e, List.mem_append.2 (.inl he), r⟩
  · rintro ⟨e, he, hek, r⟩
    rcases List.mem_append.1 he with he | he
    · exact ⟨e, he, hek, r⟩
    · rw [List.mem_singleton.1 he] at hek; exact absurd hek hk
/-- What the events of a key know, one more event of it being met. -/
theorem oinv_seen {l : List Ev} {i : Nat} {key : ByteArray} {ss : List Sb} {a b c : Int} (he : eok l) (h : OInv l i key ss a b c) (hi : i < l.length) (hk : l[i].key = key) :
    comp (max a l[i].a) (max b l[i].b) (max c l[i].c) l[i].p < l[i].n ∧ supP (l.take (i + 1)) key 0 (upd l[i].p l[i].n 0 (max a l[i].a)) ∧ supP (l.take (i + 1)) key 1 (upd l[i].p l[i].n 1 (max b l[i].b)) ∧ supP (l.take (i + 1)) key 2 (upd l[i].p l[i].n 2 (max c l[i].c)) := by
  have d := ev_dot (eok_ev he _ (List.getElem_mem hi))
  obtain ⟨_, h0, h1, h2⟩ := h
  have c3' : l[i].p = 0 ∨ l[i].p = 1 ∨ l[i].p = 2 := by omega
  rcases c3' with e | e | e
  · have g := seen_lt he hi (by rw [e]; exact h0)
    rw [e] at g ⊢
    simp [comp] at g
    refine ⟨by simp [comp]; omega, supP_step h0 hi hk ?_, supP_step h1 hi hk ?_, supP_step h2 hi hk ?_⟩ <;> simp [upd, kn, e, comp] <;> omega
  · have g := seen_lt he hi (by rw [e]; exact h1)
    rw [e] at g ⊢
    simp [comp] at g
    refine ⟨by simp [comp]; omega, supP_step h0 hi hk ?_, supP_step h1 hi hk ?_, supP_step h2 hi hk ?_⟩ <;> simp [upd, kn, e, comp] <;> omega
  · have g := seen_lt he hi (by rw [e]; exact h2)
    rw [e] at g ⊢
    simp [comp] at g
    refine ⟨by simp [comp]; omega, supP_step h0 hi hk ?_, supP_step h1 hi hk ?_, supP_step h2 hi hk ?_⟩ <;> simp [upd, kn, e, comp] <;> omega
theorem oinv_old {l : List Ev} {i : Nat} {key : ByteArray} {ss : List Sb} {a b c a' b' c' : Int} (h : OInv l i key ss a b c) (hi : i < l.length) (ho : ovr l l[i]) (hs : supP (l.take (i + 1)) key 0 a' ∧ supP (l.take (i + 1)) key 1 b' ∧ supP (l.take (i + 1)) key 2 c') : OInv l (i + 1) key ss a' b' c' := by
  refine ⟨⟨h.1.1, fun s => ?_, by have := h.1.2.2; omega⟩, hs⟩
  rw [h.1.2.1, List.take_succ_eq_append_getElem hi]
  constructor
  · rintro ⟨e, he, r⟩
    exact ⟨e, List.mem_append.2 (.inl he), r⟩
  · rintro ⟨e, he, hek, hno, r⟩
    rcases List.mem_append.1 he with he | he
    · exact ⟨e, he, hek, hno, r⟩
    · rw [List.mem_singleton.1 he] at hno; exact absurd ho hno
theorem oinv_new {l : List Ev} {i : Nat} {key : ByteArray} {ss ss' : List Sb} {a b c a' b' c' : Int} (h : OInv l i key ss a b c) (hi : i < l.length) (hk : l[i].key = key) (ho : ¬ ovr l l[i]) (hs : supP (l.take (i + 1)) key 0 a' ∧ supP (l.take (i + 1)) key 1 b' ∧ supP (l.take (i + 1)) key 2 c')
    (hr : ss'.Pairwise sl) (hm : ∀ s, s ∈ ss' ↔ (s ∈ ss ∨ s = sOf l[i])) (hl : ss'.length = ss.length + 1) : OInv l (i + 1) key ss' a' b' c' := by
  refine ⟨⟨hr, fun s => ?_, by have := h.1.2.2; omega⟩, hs⟩
  rw [hm, h.1.2.1, List.take_succ_eq_append_getElem hi]
  constructor
  · rintro (⟨e, he, r⟩ | rfl)
    · exact ⟨e, List.mem_append.2 (.inl he), r⟩
    · exact ⟨l[i], List.mem_append.2 (.inr (List.mem_singleton.2 rfl)), hk, ho, rfl⟩
  · rintro ⟨e, he, hek, hno, r⟩
    rcases List.mem_append.1 he with he | he
    · exact .inl ⟨e, he, hek, hno, r⟩
    · rw [List.mem_singleton.1 he] at r; exact .inr r
theorem oinv_apart {l : List Ev} {i : Nat} {key : ByteArray} {ss : List Sb} {a b c : Int} (he : eok l) (h : OInv l i key ss a b c) (hi : i < l.length) : ∀ s ∈ ss, ¬ (s.p = l[i].p ∧ s.n = l[i].n) := fun s hs hc => by
  obtain ⟨e, hm, _, _, rfl⟩ := (h.1.2.1 s).1 hs
  obtain ⟨j, hj, rfl⟩ := List.getElem_of_mem hm
  have hj2 : j < i ∧ j < l.length := by simp at hj; omega
  have := List.pairwise_iff_getElem.1 (eok_apart he) j i hj2.2 hi hj2.1
  simp only [List.getElem_take, sOf] at hc
  exact this hc
/-- An object of a key's events. -/
def Tobj (l : List Ev) (key : ByteArray) (w : World) (e : Ending) (w' : World) : Prop := ∃ g cc ss a b c, e = .returned (.agg #[.slice (some ⟨g, 0, none⟩) ss.length cc, .int .i64 a, .int .i64 b, .int .i64 c]) ∧ OwnG w' 46 4 (.slice (some ⟨g, 0, none⟩) ss.length cc) ss.length (flatS ss) w.heap.size ∧ OInv l l.length key ss a b c ∧ Below w.heap.size w w'

theorem init13 (w : World) : Box (((w.alloc (.cells #[.slice none 0 0, .int .i64 0, .int .i64 0, .int .i64 0] 34)).alloc (.cells #[] 46)).alloc (.cells #[.slice (some ⟨w.heap.size + 1, 0, none⟩) 0 0, .int .i64 0, .int .i64 0, .int .i64 0] 34)) (w.heap.size + 1 + 1) [.slice (some ⟨(w.heap.size + 1), 0, none⟩) 0 0, .int .i64 0, .int .i64 0, .int .i64 0] ∧ Box (((w.alloc (.cells #[.slice none 0 0, .int .i64 0, .int .i64 0, .int .i64 0] 34)).alloc (.cells #[] 46)).alloc (.cells #[.slice (some ⟨w.heap.size + 1, 0, none⟩) 0 0, .int .i64 0, .int .i64 0, .int .i64 0] 34)) w.heap.size [.slice none 0 0, .int .i64 0, .int .i64 0, .int .i64 0] ∧ OwnG (((w.alloc (.cells #[.slice none 0 0, .int .i64 0, .int .i64 0, .int .i64 0] 34)).alloc (.cells #[] 46)).alloc (.cells #[.slice (some ⟨w.heap.size + 1, 0, none⟩) 0 0, .int .i64 0, .int .i64 0, .int .i64 0] 34)) 46 4 (.slice (some ⟨(w.heap.size + 1), 0, none⟩) 0 0) 0 [] w.heap.size ∧ ((w.heap.size + 1) ≠ (w.heap.size + 1 + 1) ∧ (w.heap.size + 1) ≠ w.heap.size ∧ (w.heap.size + 1 + 1) ≠ w.heap.size ∧ w.heap.size ≤ (w.heap.size + 1 + 1) ∧ w.heap.size ≤ w.heap.size) ∧ Below w.heap.size w (((w.alloc (.cells #[.slice none 0 0, .int .i64 0, .int .i64 0, .int .i64 0] 34)).alloc (.cells #[] 46)).alloc (.cells #[.slice (some ⟨w.heap.size + 1, 0, none⟩) 0 0, .int .i64 0, .int .i64 0, .int .i64 0] 34)) := by
  have s1 : (w.alloc (.cells #[.slice none 0 0, .int .i64 0, .int .i64 0, .int .i64 0] 34)).heap.size = w.heap.size + 1 := by simp
  have s2 : ((w.alloc (.cells #[.slice none 0 0, .int .i64 0, .int .i64 0, .int .i64 0] 34)).alloc (.cells #[] 46)).heap.size = w.heap.size + 1 + 1 := by simp
  have b1 := bel_alloc w (.cells #[.slice none 0 0, .int .i64 0, .int .i64 0, .int .i64 0] 34)
  have b2 := bel_alloc (w.alloc (.cells #[.slice none 0 0, .int .i64 0, .int .i64 0, .int .i64 0] 34)) (.cells #[] 46)
  have b3 := bel_alloc ((w.alloc (.cells #[.slice none 0 0, .int .i64 0, .int .i64 0, .int .i64 0] 34)).alloc (.cells #[] 46)) (.cells #[.slice (some ⟨w.heap.size + 1, 0, none⟩) 0 0, .int .i64 0, .int .i64 0, .int .i64 0] 34)
  refine ⟨?_, ?_, ?_, by omega, (b1.trans (b2.mono b1.size)).trans (b3.mono (Nat.le_trans b1.size b2.size))⟩
  · have h := box_mk (W := ((w.alloc (.cells #[.slice none 0 0, .int .i64 0, .int .i64 0, .int .i64 0] 34)).alloc (.cells #[] 46))) (t := 34) (vs := [.slice (some ⟨w.heap.size + 1, 0, none⟩) 0 0, .int .i64 0, .int .i64 0, .int .i64 0])
    rw [s2] at h
    exact h
  · exact ((box_mk (W := w) (t := 34) (vs := [.slice none 0 0, .int .i64 0, .int .i64 0, .int .i64 0])).next b2).next b3
  · have h := OwnG.lit (e := 46) (size := 4) (lo := w.heap.size) (W := (w.alloc (.cells #[.slice none 0 0, .int .i64 0, .int .i64 0, .int .i64 0] 34))) b1.size
    rw [s1] at h
    exact h.next b3
set_option maxRecDepth 20000 in
set_option maxHeartbeats 16000000 in
theorem obj13_any (lo q : Nat) (po : Option Addr) (l : List Ev) (key : ByteArray) (w : World) (he : eok l) (hr0 : GRow lo w po (flatE l)) :
    Calls Tryz.prog 30 #[.slice po l.length q, .string key] w (Tobj l key w) := by
  have hr : Hid _ := hr0.e
  have HE : Hid (eok l ∧ GRow lo w po (flatE l)) := ⟨he, hr0⟩
  have hl : l.length ≤ 100 := he.1
  clear hr0 he
  go_enter Tryz.func30, Tryz.ntmps30
  go_upto_region 2 with fail
  refine wp_gen (fun W => Box W (w.heap.size + 1 + 1) [.slice (some ⟨(w.heap.size + 1), 0, none⟩) 0 0, .int .i64 0, .int .i64 0, .int .i64 0] ∧ Box W w.heap.size [.slice none 0 0, .int .i64 0, .int .i64 0, .int .i64 0] ∧ OwnG W 46 4 (.slice (some ⟨(w.heap.size + 1), 0, none⟩) 0 0) 0 [] w.heap.size ∧ ((w.heap.size + 1) ≠ (w.heap.size + 1 + 1) ∧ (w.heap.size + 1) ≠ w.heap.size ∧ (w.heap.size + 1 + 1) ≠ w.heap.size ∧ w.heap.size ≤ (w.heap.size + 1 + 1) ∧ w.heap.size ≤ w.heap.size) ∧ Below w.heap.size w W) (init13 w) (fun W0 hI => ?_)
  obtain ⟨go, hgo⟩ : ∃ g, g = w.heap.size + 1 + 1 := ⟨_, rfl⟩
  obtain ⟨g1, hgs⟩ : ∃ g, g = w.heap.size + 1 := ⟨_, rfl⟩
  obtain ⟨gr, hgr⟩ : ∃ g, g = w.heap.size := ⟨_, rfl⟩
  have Y : Hid (Box W0 go [.slice (some ⟨g1, 0, none⟩) 0 0, .int .i64 0, .int .i64 0, .int .i64 0] ∧ Box W0 gr [.slice none 0 0, .int .i64 0, .int .i64 0, .int .i64 0] ∧ OwnG W0 46 4 (.slice (some ⟨g1, 0, none⟩) 0 0) 0 [] w.heap.size ∧ (g1 ≠ go ∧ g1 ≠ gr ∧ go ≠ gr ∧ w.heap.size ≤ go ∧ w.heap.size ≤ gr) ∧ Below w.heap.size w W0) := by rw [hgo, hgs, hgr]; exact hI
  rw [← hgo, ← hgs, ← hgr]
  clear hI hgo hgs hgr
  go_wp2
  go_loopw [6] (fun s6 wr => ∃ (i n gs vc : Nat) (ss : List Sb) (a b c : Int), i ≤ l.length ∧ s6 = .int .i64 i ∧ n = ss.length ∧ OInv l i key ss a b c ∧ Box wr go [.slice (some ⟨gs, 0, none⟩) n vc, .int .i64 a, .int .i64 b, .int .i64 c] ∧ Box wr gr [.slice none 0 0, .int .i64 0, .int .i64 0, .int .i64 0] ∧ OwnG wr 46 4 (.slice (some ⟨gs, 0, none⟩) n vc) n (flatS ss) w.heap.size ∧ (gs ≠ go ∧ gs ≠ gr ∧ go ≠ gr ∧ w.heap.size ≤ go ∧ w.heap.size ≤ gr) ∧ Below w.heap.size w wr) (fun s6 _ => l.length - (intOf s6).toNat)
  case atStart => exact ⟨0, 0, g1, 0, [], 0, 0, 0, by omega, rfl, rfl, ⟨⟨.nil, fun s => by simp, Nat.le_refl _⟩, ⟨Int.le_refl _, fun e h => by simp at h, .inl rfl⟩, ⟨Int.le_refl _, fun e h => by simp at h, .inl rfl⟩, ⟨Int.le_refl _, fun e h => by simp at h, .inl rfl⟩⟩, Y.out⟩
  case round =>
    clear Y
    obtain ⟨i, n, gs, vc, ss, a, b, c, hi, rfl, hn, hI0, hY0⟩ := hrel
    have Y : Hid (Box wr go [.slice (some ⟨gs, 0, none⟩) n vc, .int .i64 a, .int .i64 b, .int .i64 c] ∧ Box wr gr [.slice none 0 0, .int .i64 0, .int .i64 0, .int .i64 0] ∧ OwnG wr 46 4 (.slice (some ⟨gs, 0, none⟩) n vc) n (flatS ss) w.heap.size ∧ (gs ≠ go ∧ gs ≠ gr ∧ go ≠ gr ∧ w.heap.size ≤ go ∧ w.heap.size ≤ gr) ∧ Below w.heap.size w wr) := hY0
    have HI : Hid (OInv l i key ss a b c) := hI0
    have HNS : Hid (n = ss.length) := hn
    clear hY0 hI0 hn
    by_cases hil : i < l.length
    · have hil' : (i : Int) < (l.length : Int) := by omega
      have i0 : (0 : Int) ≤ (i : Int) := by omega
      rcases hr.out with h' | ⟨b0, off, rfl, _, h2⟩
      · rw [h'] at hil; simp at hil
      obtain ⟨c0, c1, c2, c3, c4, c5, c6, c7⟩ := (h2 i hil).next Y.out.2.2.2.2 (cell_lt (x := ⟨b0, off + i * 8, none⟩) (h2 i hil).1)
      have HPP : Hid (0 ≤ l[i].p ∧ l[i].p < 3) := by
        have := ev_dot (eok_ev HE.out.1 _ (List.getElem_mem hil))
        exact ⟨this.1, this.2.1⟩
      have HSK : Hid (l[i].key ≠ key → OInv l (i + 1) key ss a b c) := fun h => oinv_skip HI.out hil h
      have HSN : Hid (l[i].key = key → (comp (max a l[i].a) (max b l[i].b) (max c l[i].c) l[i].p < l[i].n ∧ supP (l.take (i + 1)) key 0 (upd l[i].p l[i].n 0 (max a l[i].a)) ∧ supP (l.take (i + 1)) key 1 (upd l[i].p l[i].n 1 (max b l[i].b)) ∧ supP (l.take (i + 1)) key 2 (upd l[i].p l[i].n 2 (max c l[i].c)))) := fun h => oinv_seen HE.out.1 HI.out hil h
      have HOL : Hid (∀ a' b' c', ovr l l[i] → supP (l.take (i + 1)) key 0 a' ∧ supP (l.take (i + 1)) key 1 b' ∧ supP (l.take (i + 1)) key 2 c' → OInv l (i + 1) key ss a' b' c') := fun a' b' c' h1 h2 => oinv_old HI.out hil h1 h2
      have HNW : Hid (∀ ss' a' b' c', l[i].key = key → ¬ ovr l l[i] → (supP (l.take (i + 1)) key 0 a' ∧ supP (l.take (i + 1)) key 1 b' ∧ supP (l.take (i + 1)) key 2 c') → ss'.Pairwise sl → (∀ s, s ∈ ss' ↔ (s ∈ ss ∨ s = sOf l[i])) → ss'.length = ss.length + 1 → OInv l (i + 1) key ss' a' b' c') := fun ss' a' b' c' h1 h2 h3 h4 h5 h6 => oinv_new HI.out hil h1 h2 h3 h4 h5 h6
      have HAP : Hid (∀ s ∈ ss, ¬ (s.p = (sOf l[i]).p ∧ s.n = (sOf l[i]).n)) := oinv_apart HE.out.1 HI.out hil
      have HRI : Hid (ss.Pairwise sl ∧ ss.length ≤ i) := ⟨HI.out.1.1, HI.out.1.2.2⟩
      have HOV : Hid (∀ W, Below w.heap.size w W → Calls Tryz.prog 61 #[.slice (some ⟨b0, off, none⟩) l.length q, .int .i64 i] W (Told (ovr l l[i]) W)) := fun W h => over_any lo q i _ l W (by omega) l[i] hil rfl HPP.out (HE.out.2.next h)
      clear h2 hr HI
      generalize l[i] = m at *
      go_upto_region 6 with fail
      refine wp_gen (fun W => Box W wr.heap.size [.int .i64 m.p, .int .i64 m.n, .string m.key, .int .i64 m.v, .bool m.dead, .int .i64 m.a, .int .i64 m.b, .int .i64 m.c] ∧ Below wr.heap.size wr W) ⟨box_mk, bel_alloc _ _⟩ (fun W1 hI => ?_)
      clear c0 c1 c2 c3 c4 c5 c6 c7
      obtain ⟨ge, hge⟩ : ∃ g, g = wr.heap.size := ⟨_, rfl⟩
      have E : Hid (Box W1 ge [.int .i64 m.p, .int .i64 m.n, .string m.key, .int .i64 m.v, .bool m.dead, .int .i64 m.a, .int .i64 m.b, .int .i64 m.c] ∧ ge ≠ go) := ⟨by rw [hge]; exact hI.1, by have := Y.out.1.lt; omega⟩
      replace Y : Hid (Box W1 go [.slice (some ⟨gs, 0, none⟩) n vc, .int .i64 a, .int .i64 b, .int .i64 c] ∧ Box W1 gr [.slice none 0 0, .int .i64 0, .int .i64 0, .int .i64 0] ∧ OwnG W1 46 4 (.slice (some ⟨gs, 0, none⟩) n vc) n (flatS ss) w.heap.size ∧ (gs ≠ go ∧ gs ≠ gr ∧ go ≠ gr ∧ w.heap.size ≤ go ∧ w.heap.size ≤ gr) ∧ Below w.heap.size w W1) := ⟨Y.out.1.next hI.2, Y.out.2.1.next hI.2, Y.out.2.2.1.next hI.2, Y.out.2.2.2.1, Y.out.2.2.2.2.trans (hI.2.mono Y.out.2.2.2.2.size)⟩
      rw [← hge]
      clear hI hge
      obtain ⟨d0, d1, d2, d3, d4, d5, d6, d7⟩ := E.out.1.c8
      by_cases hke : m.key = key
      case neg =>
        have HS2 : Hid (OInv l (i + 1) key ss a b c) := HSK.out hke
        have e3 := te_no hke
        clear hke HSK HSN HOL HNW HAP HRI HOV HPP
        go_wp2
        go_roundw
        case rel => exact ⟨i + 1, n, gs, vc, ss, a, b, c, by omega, by go_num, HNS.out, HS2.out, Y.out⟩
        case measure => simp [intOf]; omega
      have HKE : Hid (m.key = key) := hke
      have HSE : Hid _ := HSN.out hke
      have e3 := te_yes hke
      clear hke HSK HSN
      go_upto_region 7 with fail
      clear e3 d0 d1 d2 d3 d4 d5 d6 d7
      refine wp_region_held_drew (S := (fun w' => w'.cell? ⟨ge, 0, none⟩ = some (.int .i64 m.p) ∧ w'.cell? ⟨ge, 1, none⟩ = some (.int .i64 m.n) ∧ w'.cell? ⟨ge, 2, none⟩ = some (.string m.key) ∧ w'.cell? ⟨ge, 3, none⟩ = some (.int .i64 m.v) ∧ w'.cell? ⟨ge, 4, none⟩ = some (.bool m.dead) ∧ w'.cell? ⟨ge, 5, none⟩ = some (.int .i64 m.a) ∧ w'.cell? ⟨ge, 6, none⟩ = some (.int .i64 m.b) ∧ w'.cell? ⟨ge, 7, none⟩ = some (.int .i64 m.c))) (by kernel_rfl) ?_ (fun hHeld => ?_)
      · (try dsimp only)
        exact (E.out.1.next (bel_drew _)).c8
      replace Y : Hid (Box W1.drew go [.slice (some ⟨gs, 0, none⟩) n vc, .int .i64 a, .int .i64 b, .int .i64 c] ∧ Box W1.drew gr [.slice none 0 0, .int .i64 0, .int .i64 0, .int .i64 0] ∧ OwnG W1.drew 46 4 (.slice (some ⟨gs, 0, none⟩) n vc) n (flatS ss) w.heap.size ∧ (gs ≠ go ∧ gs ≠ gr ∧ go ≠ gr ∧ w.heap.size ≤ go ∧ w.heap.size ≤ gr) ∧ Below w.heap.size w W1.drew) := ⟨Y.out.1.next (bel_drew _), Y.out.2.1.next (bel_drew _), Y.out.2.2.1.next (bel_drew _), Y.out.2.2.2.1, Y.out.2.2.2.2.trans ((bel_drew _).mono Y.out.2.2.2.2.size)⟩
      replace E : Hid (Box W1.drew ge [.int .i64 m.p, .int .i64 m.n, .string m.key, .int .i64 m.v, .bool m.dead, .int .i64 m.a, .int .i64 m.b, .int .i64 m.c] ∧ ge ≠ go) := ⟨E.out.1.next (bel_drew _), E.out.2⟩
      generalize W1.drew = V1 at *
      refine wTk 0 ?_
      refine wTk 2 ?_
      refine wTk 3 ?_
      refine wTk 5 ?_
      refine wTk 6 ?_
      obtain ⟨o0, o1, o2, o3⟩ := Y.out.1.c4
      refine wRd 1 (fun K hK => ?_)
      go_simp
      refine wHk hK E.out.1.c8 ?_
      clear hK K hHeld o0 o1 o2 o3
      intro hHeld
      refine wRd 4 (fun K hK => ?_)
      go_simp
      go_at_call 60
      refine (smax_max a b c m.a m.b m.c _).mono ?_
      rintro e V2 ⟨rfl, hb⟩
      (try simp only [])
      replace Y : Hid (Box V2 go [.slice (some ⟨gs, 0, none⟩) n vc, .int .i64 a, .int .i64 b, .int .i64 c] ∧ Box V2 gr [.slice none 0 0, .int .i64 0, .int .i64 0, .int .i64 0] ∧ OwnG V2 46 4 (.slice (some ⟨gs, 0, none⟩) n vc) n (flatS ss) w.heap.size ∧ (gs ≠ go ∧ gs ≠ gr ∧ go ≠ gr ∧ w.heap.size ≤ go ∧ w.heap.size ≤ gr) ∧ Below w.heap.size w V2) := ⟨Y.out.1.next hb, Y.out.2.1.next hb, Y.out.2.2.1.next hb, Y.out.2.2.2.1, Y.out.2.2.2.2.trans (hb.mono Y.out.2.2.2.2.size)⟩
      replace E : Hid (Box V2 ge [.int .i64 m.p, .int .i64 m.n, .string m.key, .int .i64 m.v, .bool m.dead, .int .i64 m.a, .int .i64 m.b, .int .i64 m.c] ∧ ge ≠ go) := ⟨E.out.1.next hb, E.out.2⟩
      refine wHk hK E.out.1.c8 ?_
      clear hb hK K hHeld
      intro hHeld
      refine wRd 7 (fun K hK => ?_)
      go_simp
      go_at_call 52
      refine (add_any (max a m.a) (max b m.b) (max c m.c) m.p m.n _ HPP.out.1 HPP.out.2 HSE.out.1).mono ?_
      rintro e V3 ⟨rfl, hb⟩
      (try simp only [])
      replace Y : Hid (Box V3 go [.slice (some ⟨gs, 0, none⟩) n vc, .int .i64 a, .int .i64 b, .int .i64 c] ∧ Box V3 gr [.slice none 0 0, .int .i64 0, .int .i64 0, .int .i64 0] ∧ OwnG V3 46 4 (.slice (some ⟨gs, 0, none⟩) n vc) n (flatS ss) w.heap.size ∧ (gs ≠ go ∧ gs ≠ gr ∧ go ≠ gr ∧ w.heap.size ≤ go ∧ w.heap.size ≤ gr) ∧ Below w.heap.size w V3) := ⟨Y.out.1.next hb, Y.out.2.1.next hb, Y.out.2.2.1.next hb, Y.out.2.2.2.1, Y.out.2.2.2.2.trans (hb.mono Y.out.2.2.2.2.size)⟩
      replace E : Hid (Box V3 ge [.int .i64 m.p, .int .i64 m.n, .string m.key, .int .i64 m.v, .bool m.dead, .int .i64 m.a, .int .i64 m.b, .int .i64 m.c] ∧ ge ≠ go) := ⟨E.out.1.next hb, E.out.2⟩
      refine wHk hK E.out.1.c8 ?_
      clear hb hK K hHeld
      intro hHeld
      have HSU : Hid (supP (l.take (i + 1)) key 0 (upd m.p m.n 0 (max a m.a)) ∧ supP (l.take (i + 1)) key 1 (upd m.p m.n 1 (max b m.b)) ∧ supP (l.take (i + 1)) key 2 (upd m.p m.n 2 (max c m.c))) := HSE.out.2
      clear HSE
      generalize upd m.p m.n 0 (max a m.a) = a2 at *
      generalize upd m.p m.n 1 (max b m.b) = b2 at *
      generalize upd m.p m.n 2 (max c m.c) = c2 at *
      refine wTk 8 ?_
      have hY : Box (((V3.setCell ⟨go, 1, none⟩ (.int .i64 a2)).setCell ⟨go, 2, none⟩ (.int .i64 b2)).setCell ⟨go, 3, none⟩ (.int .i64 c2)) go [.slice (some ⟨gs, 0, none⟩) n vc, .int .i64 a2, .int .i64 b2, .int .i64 c2] ∧ Box (((V3.setCell ⟨go, 1, none⟩ (.int .i64 a2)).setCell ⟨go, 2, none⟩ (.int .i64 b2)).setCell ⟨go, 3, none⟩ (.int .i64 c2)) gr [.slice none 0 0, .int .i64 0, .int .i64 0, .int .i64 0] ∧ OwnG (((V3.setCell ⟨go, 1, none⟩ (.int .i64 a2)).setCell ⟨go, 2, none⟩ (.int .i64 b2)).setCell ⟨go, 3, none⟩ (.int .i64 c2)) 46 4 (.slice (some ⟨gs, 0, none⟩) n vc) n (flatS ss) w.heap.size ∧ (gs ≠ go ∧ gs ≠ gr ∧ go ≠ gr ∧ w.heap.size ≤ go ∧ w.heap.size ≤ gr) ∧ Below w.heap.size w (((V3.setCell ⟨go, 1, none⟩ (.int .i64 a2)).setCell ⟨go, 2, none⟩ (.int .i64 b2)).setCell ⟨go, 3, none⟩ (.int .i64 c2)) := by
        have k1 := (((Y.out.1.set (i := 1) (u := .int .i64 a2) (by simp)).set (i := 2) (u := .int .i64 b2) (by simp)).set (i := 3) (u := .int .i64 c2) (by simp))
        have q := Y.out.2.2.2.1
        have kk : Kp (· = go) V3 (((V3.setCell ⟨go, 1, none⟩ (.int .i64 a2)).setCell ⟨go, 2, none⟩ (.int .i64 b2)).setCell ⟨go, 3, none⟩ (.int .i64 c2)) := (Kp.set.trans Kp.set (fun _ _ h => h) (fun _ _ h => h)).trans Kp.set (fun _ _ h => h) (fun _ _ h => h)
        exact ⟨by simpa using k1, ((Y.out.2.1.oth (fun h => q.2.2.1 h.symm)).oth (fun h => q.2.2.1 h.symm)).oth (fun h => q.2.2.1 h.symm), Y.out.2.2.1.kp kk (fun k hk e => q.1 (by simp [Value.ownBlock] at hk; omega)), q, Y.out.2.2.2.2.trans (kk.below Y.out.2.2.2.2.size (fun b' hb' e => by have := q.2.2.2.1; omega))⟩
      have hE : Box (((V3.setCell ⟨go, 1, none⟩ (.int .i64 a2)).setCell ⟨go, 2, none⟩ (.int .i64 b2)).setCell ⟨go, 3, none⟩ (.int .i64 c2)) ge [.int .i64 m.p, .int .i64 m.n, .string m.key, .int .i64 m.v, .bool m.dead, .int .i64 m.a, .int .i64 m.b, .int .i64 m.c] := ((E.out.1.oth E.out.2).oth E.out.2).oth E.out.2
      obtain ⟨o0, o1, o2, o3⟩ := Y.out.1.c4
      obtain ⟨f0, f1, f2, f3⟩ := Y.out.1.f4
      refine wRd 9 (fun K hK => ?_)
      go_simp
      replace Y : Hid (Box (((V3.setCell ⟨go, 1, none⟩ (.int .i64 a2)).setCell ⟨go, 2, none⟩ (.int .i64 b2)).setCell ⟨go, 3, none⟩ (.int .i64 c2)) go [.slice (some ⟨gs, 0, none⟩) n vc, .int .i64 a2, .int .i64 b2, .int .i64 c2] ∧ Box (((V3.setCell ⟨go, 1, none⟩ (.int .i64 a2)).setCell ⟨go, 2, none⟩ (.int .i64 b2)).setCell ⟨go, 3, none⟩ (.int .i64 c2)) gr [.slice none 0 0, .int .i64 0, .int .i64 0, .int .i64 0] ∧ OwnG (((V3.setCell ⟨go, 1, none⟩ (.int .i64 a2)).setCell ⟨go, 2, none⟩ (.int .i64 b2)).setCell ⟨go, 3, none⟩ (.int .i64 c2)) 46 4 (.slice (some ⟨gs, 0, none⟩) n vc) n (flatS ss) w.heap.size ∧ (gs ≠ go ∧ gs ≠ gr ∧ go ≠ gr ∧ w.heap.size ≤ go ∧ w.heap.size ≤ gr) ∧ Below w.heap.size w (((V3.setCell ⟨go, 1, none⟩ (.int .i64 a2)).setCell ⟨go, 2, none⟩ (.int .i64 b2)).setCell ⟨go, 3, none⟩ (.int .i64 c2))) := hY
      replace E : Hid (Box (((V3.setCell ⟨go, 1, none⟩ (.int .i64 a2)).setCell ⟨go, 2, none⟩ (.int .i64 b2)).setCell ⟨go, 3, none⟩ (.int .i64 c2)) ge [.int .i64 m.p, .int .i64 m.n, .string m.key, .int .i64 m.v, .bool m.dead, .int .i64 m.a, .int .i64 m.b, .int .i64 m.c] ∧ ge ≠ go) := ⟨hE, E.out.2⟩
      clear hY hE o0 o1 o2 o3 f0 f1 f2 f3
      refine wHk hK E.out.1.c8 ?_
      clear hK K hHeld
      intro hHeld
      generalize (((V3.setCell ⟨go, 1, none⟩ (.int .i64 a2)).setCell ⟨go, 2, none⟩ (.int .i64 b2)).setCell ⟨go, 3, none⟩ (.int .i64 c2)) = V4 at *
      refine wpAnyH_done (by kernel_rfl) ?_ _
      clear hHeld
      go_wp2_with fail
      refine (HOV.out _ Y.out.2.2.2.2).mono ?_
      rintro e W5 ⟨r, rfl, hq, hb⟩
      replace E : Hid (Box W5 ge [.int .i64 m.p, .int .i64 m.n, .string m.key, .int .i64 m.v, .bool m.dead, .int .i64 m.a, .int .i64 m.b, .int .i64 m.c] ∧ ge ≠ go) := ⟨E.out.1.next hb, E.out.2⟩
      replace Y : Hid (Box W5 go [.slice (some ⟨gs, 0, none⟩) n vc, .int .i64 a2, .int .i64 b2, .int .i64 c2] ∧ Box W5 gr [.slice none 0 0, .int .i64 0, .int .i64 0, .int .i64 0] ∧ OwnG W5 46 4 (.slice (some ⟨gs, 0, none⟩) n vc) n (flatS ss) w.heap.size ∧ (gs ≠ go ∧ gs ≠ gr ∧ go ≠ gr ∧ w.heap.size ≤ go ∧ w.heap.size ≤ gr) ∧ Below w.heap.size w W5) := ⟨Y.out.1.next hb, Y.out.2.1.next hb, Y.out.2.2.1.next hb, Y.out.2.2.2.1, Y.out.2.2.2.2.trans (hb.mono Y.out.2.2.2.2.size)⟩
      have HR : Hid (r = true ↔ ovr l m) := hq
      clear hb hq HOV
      cases r
      case true =>
        have HS2 : Hid (OInv l (i + 1) key ss a2 b2 c2) := HOL.out _ _ _ (HR.out.1 rfl) HSU.out
        clear HOL HNW HAP HRI HSU HR E HPP
        go_wp2
        go_roundw
        case rel => exact ⟨i + 1, n, gs, vc, ss, a2, b2, c2, by omega, by go_num, HNS.out, HS2.out, Y.out⟩
        case measure => simp [intOf]; omega
      have HS2 : Hid (∀ ss' : List Sb, ss'.Pairwise sl → (∀ s, s ∈ ss' ↔ (s ∈ ss ∨ s = sOf m)) → ss'.length = ss.length + 1 → OInv l (i + 1) key ss' a2 b2 c2) := fun ss' h1 h2 h3 => HNW.out ss' a2 b2 c2 HKE.out (fun h => by have := HR.out.2 h; cases this) HSU.out h1 h2 h3
      clear HOL HNW HSU HR HPP HKE
      obtain ⟨d0, d1, d2, d3, d4, d5, d6, d7⟩ := E.out.1.c8
      obtain ⟨o0, o1, o2, o3⟩ := Y.out.1.c4
      obtain ⟨f0, f1, f2, f3⟩ := Y.out.1.f4
      have HPT : Hid (Calls Tryz.prog 62 #[.slice (some ⟨gs, 0, none⟩) n vc, .agg #[.int .i64 m.p, .int .i64 m.n, .int .i64 m.v, .bool m.dead]] W5 (Tput ss (sOf m) W5)) := by
        have hg := Y.out.2.2.1.grow
        obtain ⟨p', c', e', hle, hgr⟩ := hg
        cases e'
        exact put_any w.heap.size n vc gs ss (sOf m) W5 HNS.out (by have := HRI.out.2; omega) hle HRI.out.1 HAP.out hgr
      clear HAP HRI
      go_wp2_with fail
      refine (HPT.out).mono ?_
      rintro e W6 ⟨g2, c3, ss', rfl, hO, hr1, hm1, hb, hl1⟩
      clear d0 d1 d2 d3 d4 d5 d6 d7 o0 o1 o2 o3 f0 f1 f2 f3 HPT
      have HS3 : Hid (OInv l (i + 1) key ss' a2 b2 c2) := HS2.out ss' hr1 hm1 hl1
      have HLN : Hid (go < W5.heap.size ∧ gr < W5.heap.size) := ⟨Y.out.1.lt, Y.out.2.1.lt⟩
      have HG2 : Hid (W5.heap.size ≤ g2) := hO.ge g2 rfl
      have HOW : Hid (OwnG W6 46 4 (.slice (some ⟨g2, 0, none⟩) ss'.length c3) ss'.length (flatS ss') W5.heap.size) := hO
      replace Y : Hid (Box W6 go [.slice (some ⟨gs, 0, none⟩) n vc, .int .i64 a2, .int .i64 b2, .int .i64 c2] ∧ Box W6 gr [.slice none 0 0, .int .i64 0, .int .i64 0, .int .i64 0] ∧ OwnG W6 46 4 (.slice (some ⟨gs, 0, none⟩) n vc) n (flatS ss) w.heap.size ∧ (gs ≠ go ∧ gs ≠ gr ∧ go ≠ gr ∧ w.heap.size ≤ go ∧ w.heap.size ≤ gr) ∧ Below w.heap.size w W6) := ⟨Y.out.1.next hb, Y.out.2.1.next hb, Y.out.2.2.1.next hb, Y.out.2.2.2.1, Y.out.2.2.2.2.trans (hb.mono Y.out.2.2.2.2.size)⟩
      clear hO hr1 hm1 hb hl1 HS2 E
      obtain ⟨o0, o1, o2, o3⟩ := Y.out.1.c4
      obtain ⟨f0, f1, f2, f3⟩ := Y.out.1.f4
      have HF : Hid (Box (W6.setCell ⟨go, 0, none⟩ (.slice (some ⟨g2, 0, none⟩) ss'.length c3)) go [.slice (some ⟨g2, 0, none⟩) ss'.length c3, .int .i64 a2, .int .i64 b2, .int .i64 c2] ∧ Box (W6.setCell ⟨go, 0, none⟩ (.slice (some ⟨g2, 0, none⟩) ss'.length c3)) gr [.slice none 0 0, .int .i64 0, .int .i64 0, .int .i64 0] ∧ OwnG (W6.setCell ⟨go, 0, none⟩ (.slice (some ⟨g2, 0, none⟩) ss'.length c3)) 46 4 (.slice (some ⟨g2, 0, none⟩) ss'.length c3) ss'.length (flatS ss') w.heap.size ∧ (g2 ≠ go ∧ g2 ≠ gr ∧ go ≠ gr ∧ w.heap.size ≤ go ∧ w.heap.size ≤ gr) ∧ Below w.heap.size w (W6.setCell ⟨go, 0, none⟩ (.slice (some ⟨g2, 0, none⟩) ss'.length c3))) := by
        have k1 := (Y.out.1.set (i := 0) (u := .slice (some ⟨g2, 0, none⟩) ss'.length c3) (by simp))
        have q := Y.out.2.2.2.1
        have h1 := HLN.out
        have h2 := HG2.out
        exact ⟨by simpa using k1, Y.out.2.1.oth (fun h => q.2.2.1 h.symm), (HOW.out.weak (by have := Y.out.2.2.2.2.size; omega)).kp Kp.set (fun k hk e => by simp [Value.ownBlock] at hk; omega), by omega, Y.out.2.2.2.2.trans (Kp.set.below Y.out.2.2.2.2.size (fun b' hb' e => by have := q.2.2.2.1; omega))⟩
      clear Y HOW HG2 HLN
      go_wp2
      go_roundw
      case rel => exact ⟨i + 1, ss'.length, g2, c3, ss', a2, b2, c2, by omega, by go_num, rfl, HS3.out, HF.out⟩
      case measure => simp [intOf]; omega
    · have hil' : ¬ (i : Int) < (l.length : Int) := by omega
      have hie : i = l.length := by omega
      subst hie
      obtain ⟨o0, o1, o2, o3⟩ := Y.out.1.c4
      obtain ⟨r0, r1, r2, r3⟩ := Y.out.2.1.f4
      obtain ⟨q0, q1, q2, q3⟩ := Y.out.2.1.c4
      have HF : Hid (Tobj l key w (.returned (.agg #[.slice (some ⟨gs, 0, none⟩) n vc, .int .i64 a, .int .i64 b, .int .i64 c])) ((((wr.setCell ⟨gr, 0, none⟩ (.slice (some ⟨gs, 0, none⟩) n vc)).setCell ⟨gr, 1, none⟩ (.int .i64 a)).setCell ⟨gr, 2, none⟩ (.int .i64 b)).setCell ⟨gr, 3, none⟩ (.int .i64 c))) := by
        have q := Y.out.2.2.2.1
        have kk : Kp (· = gr) wr ((((wr.setCell ⟨gr, 0, none⟩ (.slice (some ⟨gs, 0, none⟩) n vc)).setCell ⟨gr, 1, none⟩ (.int .i64 a)).setCell ⟨gr, 2, none⟩ (.int .i64 b)).setCell ⟨gr, 3, none⟩ (.int .i64 c)) := ((Kp.set.trans Kp.set (fun _ _ h => h) (fun _ _ h => h)).trans Kp.set (fun _ _ h => h) (fun _ _ h => h)).trans Kp.set (fun _ _ h => h) (fun _ _ h => h)
        have ho := Y.out.2.2.1.kp kk (fun k hk e => q.2.1 (by simp [Value.ownBlock] at hk; omega))
        have hbl := Y.out.2.2.2.2.trans (kk.below Y.out.2.2.2.2.size (fun b' hb' e => by have := q.2.2.2.2; omega))
        clear kk
        rw [HNS.out] at ho hbl ⊢
        exact ⟨gs, vc, ss, a, b, c, rfl, ho, HI.out, hbl⟩
      clear Y HI hr HE
      go_wp2
      refine bodyPost_ret (v := .agg #[.slice (some ⟨gs, 0, none⟩) n vc, .int .i64 a, .int .i64 b, .int .i64 c]) ?_ rfl HF.out
      simp [results, Tryz.results30, go_sem, q0, q1, q2, q3]
      try trace_state
end Go.Proofs.YtkdbcmkmcjaenaaGreatDoor
