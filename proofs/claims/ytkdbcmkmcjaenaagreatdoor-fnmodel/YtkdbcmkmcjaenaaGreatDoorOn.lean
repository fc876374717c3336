/- The object of a past, over its sorted keys. -/
import Derived.Test.YtkdbcmkmcjaenaaGreatDoorRows
import Derived.WalkKit
import Derived.WalkSpells
import Derived.WalkLawsBesides
import Derived.Deep.QuietTactic
import Derived.BigQuiet
import Derived.Deep.RegionHeld3
import Derived.Test.YtkdbcmkmcjaenaaGreatDoorLm
import Derived.Test.YtkdbcmkmcjaenaaGreatDoorKn
import Derived.LoopN
import Derived.OwnWalk
import Derived.Laws.StructEq
namespace Go.Proofs.YtkdbcmkmcjaenaaGreatDoor
open Go.RowKit
set_option linter.unusedSimpArgs false
set_option linter.unusedVariables false

def fD : List Ev → List Value
  | [] => []
  | e :: l => .int .i64 e.p :: .int .i64 e.n :: fD l
theorem fD_len : ∀ l : List Ev, (fD l).length = l.length * 2
  | [] => rfl
  | e :: l => by simp [fD, fD_len l]; omega
theorem fD_at : ∀ (l : List Ev) (k : Nat) (hk : k < l.length), (fD l)[k * 2]? = some (.int .i64 l[k].p) ∧ (fD l)[k * 2 + 1]? = some (.int .i64 l[k].n)
  | e :: l, 0, _ => ⟨rfl, rfl⟩
  | e :: l, k + 1, h => by
    have := fD_at l k (by simpa using h)
    rw [show (k + 1) * 2 = k * 2 + 1 + 1 by omega]
    exact this
theorem growKp {go lo : Nat} {w w' : World} {p : Option Addr} {xs : List Value} (h : GRow lo w p xs) (k : Kp (· = go) w w') (hg : go < lo) : GRow lo w' p xs := by
  rcases h with h' | ⟨b, off, h1, h2, h3⟩
  · exact .inl h'
  · refine .inr ⟨b, off, h1, h2, fun j hj => ?_⟩
    have hc := h3 j hj
    rw [World.cell?_of_block (w := w) (k.block _ (cell_lt (x := ⟨b, off + j, none⟩) hc) (fun e => by have e2 : b = go := e; omega))]
    exact hc
def ez (x y : Ev) : Prop := dlt x.p x.n y.p y.n
/-- The keys of a past, sorted. -/
def Tds (Q : Ev → Prop) (n : Nat) (w : World) (e : Ending) (w' : World) : Prop := ∃ p q es, e = .returned (.slice p es.length q) ∧ GRow w.heap.size w' p (fD es) ∧ es.Pairwise ez ∧ (∀ x, x ∈ es ↔ Q x) ∧ Below w.heap.size w w' ∧ es.length ≤ n
def SortedK : Prop := ∀ (b n Bm : Nat) (Q : Ev → Prop) (w : World), n ≤ 100 → PMap w b n Q → w.cell? ⟨Bm, 0, none⟩ = some (.map (some b)) → Calls Tryz.prog 57 #[.func (.func 93) #[] #[.pointer (some ⟨Bm, 0, none⟩)], .func (.func 34) #[] #[]] w (Tds Q n w)
def ovQ (Q : Ev → Prop) (e : Ev) : Prop := ∃ f, Q f ∧ knowE f e.p e.n
def OIE (Q : Ev → Prop) (es : List Ev) (i : Nat) (ss : List Sb) (a b c : Int) : Prop := (ss.Pairwise sl ∧ (∀ s, s ∈ ss ↔ ∃ e ∈ es.take i, ¬ ovQ Q e ∧ s = sOf e) ∧ ss.length ≤ i) ∧ supQ (· ∈ es.take i) 0 a ∧ supQ (· ∈ es.take i) 1 b ∧ supQ (· ∈ es.take i) 2 c
theorem supQ_next {es : List Ev} {i : Nat} {c m : Int} (h : supQ (· ∈ es.take i) c m) (hi : i < es.length) : supQ (· ∈ es.take (i + 1)) c (max m (kn es[i] c)) := by
  rw [List.take_succ_eq_append_getElem hi]
  refine ⟨by have := h.1; omega, fun e he => ?_, ?_⟩
  · rcases List.mem_append.1 he with he | he
    · have := h.2.1 e he; omega
    · rw [List.mem_singleton.1 he]; omega
  · rcases Int.le_total m (kn es[i] c) with h1 | h1
    · exact .inr ⟨es[i], List.mem_append.2 (.inr (List.mem_singleton.2 rfl)), by omega⟩
    · rcases h.2.2 with h0 | ⟨e', he, hem⟩
      · exact .inl (by omega)
      · exact .inr ⟨e', List.mem_append.2 (.inl he), by omega⟩
theorem oie_sup {Q : Ev → Prop} {es : List Ev} {i : Nat} {ss : List Sb} {a b c : Int} (h : OIE Q es i ss a b c) (hi : i < es.length) : supQ (· ∈ es.take (i + 1)) 0 (max a (kn es[i] 0)) ∧ supQ (· ∈ es.take (i + 1)) 1 (max b (kn es[i] 1)) ∧ supQ (· ∈ es.take (i + 1)) 2 (max c (kn es[i] 2)) := ⟨supQ_next h.2.1 hi, supQ_next h.2.2.1 hi, supQ_next h.2.2.2 hi⟩
theorem oie_old {Q : Ev → Prop} {es : List Ev} {i : Nat} {ss : List Sb} {a b c a' b' c' : Int} (h : OIE Q es i ss a b c) (hi : i < es.length) (ho : ovQ Q es[i]) (hs : supQ (· ∈ es.take (i + 1)) 0 a' ∧ supQ (· ∈ es.take (i + 1)) 1 b' ∧ supQ (· ∈ es.take (i + 1)) 2 c') : OIE Q es (i + 1) ss a' b' c' := by
  refine ⟨⟨h.1.1, fun s => ?_, by have := h.1.2.2; omega⟩, hs⟩
  rw [h.1.2.1, List.take_succ_eq_append_getElem hi]
  constructor
  · rintro ⟨e, he, r⟩
    exact ⟨e, List.mem_append.2 (.inl he), r⟩
  · rintro ⟨e, he, hno, r⟩
    rcases List.mem_append.1 he with he | he
    · exact ⟨e, he, hno, r⟩
    · rw [List.mem_singleton.1 he] at hno; exact absurd ho hno
theorem oie_new {Q : Ev → Prop} {es : List Ev} {i : Nat} {ss : List Sb} {a b c a' b' c' : Int} (hz : es.Pairwise ez) (h : OIE Q es i ss a b c) (hi : i < es.length) (ho : ¬ ovQ Q es[i]) (hs : supQ (· ∈ es.take (i + 1)) 0 a' ∧ supQ (· ∈ es.take (i + 1)) 1 b' ∧ supQ (· ∈ es.take (i + 1)) 2 c') : OIE Q es (i + 1) (ss ++ [sOf es[i]]) a' b' c' := by
  refine ⟨⟨List.pairwise_append.2 ⟨h.1.1, List.pairwise_singleton _ _, fun s hs t ht => ?_⟩, fun s => ?_, by have := h.1.2.2; simp; omega⟩, hs⟩
  · obtain ⟨e, he, _, rfl⟩ := (h.1.2.1 s).1 hs
    rw [List.mem_singleton.1 ht]
    obtain ⟨j, hj, rfl⟩ := List.getElem_of_mem he
    have hj2 : j < i ∧ j < es.length := by simp at hj; omega
    have := List.pairwise_iff_getElem.1 hz j i hj2.2 hi hj2.1
    simpa [sl, sOf, ez] using this
  · rw [List.mem_append, h.1.2.1, List.take_succ_eq_append_getElem hi, List.mem_singleton]
    constructor
    · rintro (⟨e, he, r⟩ | rfl)
      · exact ⟨e, List.mem_append.2 (.inl he), r⟩
      · exact ⟨es[i], List.mem_append.2 (.inr (List.mem_singleton.2 rfl)), ho, rfl⟩
    · rintro ⟨e, he, hno, r⟩
      rcases List.mem_append.1 he with he | he
      · exact .inl ⟨e, he, hno, r⟩
      · rw [List.mem_singleton.1 he] at r; exact .inr r

theorem init44 (w : World) (bm nm : Nat) (Q : Ev → Prop) (hM : PMap w bm nm Q) : Box ((w.alloc (.cells #[.slice none 0 0, .int .i64 0, .int .i64 0, .int .i64 0] 34)).alloc (.cells #[.slice none 0 0, .int .i64 0, .int .i64 0, .int .i64 0] 34)) (w.heap.size + 1) [.slice none 0 0, .int .i64 0, .int .i64 0, .int .i64 0] ∧ Box ((w.alloc (.cells #[.slice none 0 0, .int .i64 0, .int .i64 0, .int .i64 0] 34)).alloc (.cells #[.slice none 0 0, .int .i64 0, .int .i64 0, .int .i64 0] 34)) w.heap.size [.slice none 0 0, .int .i64 0, .int .i64 0, .int .i64 0] ∧ PMap ((w.alloc (.cells #[.slice none 0 0, .int .i64 0, .int .i64 0, .int .i64 0] 34)).alloc (.cells #[.slice none 0 0, .int .i64 0, .int .i64 0, .int .i64 0] 34)) bm nm Q ∧ Below w.heap.size w ((w.alloc (.cells #[.slice none 0 0, .int .i64 0, .int .i64 0, .int .i64 0] 34)).alloc (.cells #[.slice none 0 0, .int .i64 0, .int .i64 0, .int .i64 0] 34)) ∧ ((w.heap.size + 1) ≠ w.heap.size ∧ w.heap.size ≤ (w.heap.size + 1) ∧ w.heap.size ≤ w.heap.size ∧ bm < w.heap.size ∧ bm < (w.heap.size + 1)) := by
  have s1 : (w.alloc (.cells #[.slice none 0 0, .int .i64 0, .int .i64 0, .int .i64 0] 34)).heap.size = w.heap.size + 1 := by simp
  have b1 := bel_alloc w (.cells #[.slice none 0 0, .int .i64 0, .int .i64 0, .int .i64 0] 34)
  have b2 := bel_alloc (w.alloc (.cells #[.slice none 0 0, .int .i64 0, .int .i64 0, .int .i64 0] 34)) (.cells #[.slice none 0 0, .int .i64 0, .int .i64 0, .int .i64 0] 34)
  have hl := hM.lt
  refine ⟨?_, (box_mk (W := w) (t := 34) (vs := [.slice none 0 0, .int .i64 0, .int .i64 0, .int .i64 0])).next b2, (hM.next b1).next b2, b1.trans (b2.mono b1.size), by omega⟩
  have h := box_mk (W := (w.alloc (.cells #[.slice none 0 0, .int .i64 0, .int .i64 0, .int .i64 0] 34))) (t := 34) (vs := [.slice none 0 0, .int .i64 0, .int .i64 0, .int .i64 0])
  rw [s1] at h
  exact h
set_option maxRecDepth 20000 in
set_option maxHeartbeats 16000000 in
theorem obj44 (HSK : SortedK) : ImplObj := by
  intro bm nm Q w hn hev hin hM0
  have HS : Hid SortedK := HSK
  have HQ : Hid (nm ≤ 100 ∧ (∀ e, Q e → evP e) ∧ (∀ e f, Q e → Q f → e.p = f.p → e.n = f.n → e = f)) := ⟨hn, hev, hin⟩
  have HI0 := init44 w bm nm Q hM0
  clear HSK hev hin hM0 hn
  go_enter Tryz.func28, Tryz.ntmps28
  go_upto_region 2 with fail
  refine wp_gen (fun W => Box W (w.heap.size + 1) [.slice none 0 0, .int .i64 0, .int .i64 0, .int .i64 0] ∧ Box W w.heap.size [.slice none 0 0, .int .i64 0, .int .i64 0, .int .i64 0] ∧ PMap W bm nm Q ∧ Below w.heap.size w W ∧ ((w.heap.size + 1) ≠ w.heap.size ∧ w.heap.size ≤ (w.heap.size + 1) ∧ w.heap.size ≤ w.heap.size ∧ bm < w.heap.size ∧ bm < (w.heap.size + 1))) HI0 (fun W0 hI => ?_)
  clear HI0
  obtain ⟨go, hgo⟩ : ∃ g, g = w.heap.size + 1 := ⟨_, rfl⟩
  obtain ⟨gr, hgr⟩ : ∃ g, g = w.heap.size := ⟨_, rfl⟩
  have Y0 : Hid (Box W0 go [.slice none 0 0, .int .i64 0, .int .i64 0, .int .i64 0] ∧ Box W0 gr [.slice none 0 0, .int .i64 0, .int .i64 0, .int .i64 0] ∧ PMap W0 bm nm Q ∧ Below w.heap.size w W0 ∧ (go ≠ gr ∧ w.heap.size ≤ go ∧ w.heap.size ≤ gr ∧ bm < gr ∧ bm < go)) := by rw [hgo, hgr]; exact hI
  rw [← hgo, ← hgr]
  clear hI hgo hgr
  go_wp2_with fail
  refine (keys_fn bm W0).mono ?_
  rintro e W1 ⟨rfl, hw⟩
  have hb : Below W0.heap.size W0 W1 := by rw [hw]; exact bel_alloc _ _
  have hc : W1.cell? ⟨W0.heap.size, 0, none⟩ = some (.map (some bm)) := by
    rw [hw]
    exact ((box_mk (W := W0) (t := 61) (vs := [.map (some bm)])).is 0 (by simp)).1
  replace Y0 : Hid (Box W1 go [.slice none 0 0, .int .i64 0, .int .i64 0, .int .i64 0] ∧ Box W1 gr [.slice none 0 0, .int .i64 0, .int .i64 0, .int .i64 0] ∧ PMap W1 bm nm Q ∧ Below w.heap.size w W1 ∧ (go ≠ gr ∧ w.heap.size ≤ go ∧ w.heap.size ≤ gr ∧ bm < gr ∧ bm < go)) := ⟨Y0.out.1.next hb, Y0.out.2.1.next hb, Y0.out.2.2.1.next hb, Y0.out.2.2.2.1.trans (hb.mono Y0.out.2.2.2.1.size), Y0.out.2.2.2.2⟩
  have HGW : Hid (go < W1.heap.size) := Y0.out.1.lt
  have HC : Hid (W1.cell? ⟨W0.heap.size, 0, none⟩ = some (.map (some bm))) := hc
  clear hb hc hw
  generalize W0.heap.size = gk at *
  go_wp2_with fail
  refine (HS.out bm nm gk Q W1 HQ.out.1 Y0.out.2.2.1 HC.out).mono ?_
  rintro e W2 ⟨p, q, es, rfl, hg, hz, hm, hb, hl⟩
  have HES : Hid (es.Pairwise ez ∧ (∀ x, x ∈ es ↔ Q x) ∧ es.length ≤ 100) := ⟨hz, hm, Nat.le_trans hl HQ.out.1⟩
  have HR : Hid (GRow W1.heap.size W2 p (fD es)) := hg
  replace Y0 : Hid (Box W2 go [.slice none 0 0, .int .i64 0, .int .i64 0, .int .i64 0] ∧ Box W2 gr [.slice none 0 0, .int .i64 0, .int .i64 0, .int .i64 0] ∧ PMap W2 bm nm Q ∧ Below w.heap.size w W2 ∧ (go ≠ gr ∧ w.heap.size ≤ go ∧ w.heap.size ≤ gr ∧ bm < gr ∧ bm < go)) := ⟨Y0.out.1.next hb, Y0.out.2.1.next hb, Y0.out.2.2.1.next hb, Y0.out.2.2.2.1.trans (hb.mono Y0.out.2.2.2.1.size), Y0.out.2.2.2.2⟩
  have hel : es.length ≤ 100 := HES.out.2.2
  clear hg hz hm hb hl HC HS
  obtain ⟨LO, hLO⟩ : ∃ x, x = W2.heap.size := ⟨_, rfl⟩
  have HLO : Hid (go < LO ∧ gr < LO ∧ bm < LO ∧ w.heap.size ≤ LO) := by rw [hLO]; exact ⟨Y0.out.1.lt, Y0.out.2.1.lt, Y0.out.2.2.1.lt, Y0.out.2.2.2.1.size⟩
  have Y : Hid (Box W2 go [.slice none 0 0, .int .i64 0, .int .i64 0, .int .i64 0] ∧ Box W2 gr [.slice none 0 0, .int .i64 0, .int .i64 0, .int .i64 0] ∧ OwnG W2 46 4 (.slice none 0 0) 0 (flatS []) LO ∧ PMap W2 bm nm Q ∧ Below w.heap.size w W2 ∧ LO ≤ W2.heap.size) := ⟨Y0.out.1, Y0.out.2.1, OwnG.nil _ _ _ _, Y0.out.2.2.1, Y0.out.2.2.2.1, by rw [hLO]; exact Nat.le_refl _⟩
  have HAP : Hid (go ≠ gr ∧ w.heap.size ≤ go ∧ w.heap.size ≤ gr ∧ bm < gr ∧ bm < go) := Y0.out.2.2.2.2
  have HR2 : Hid (∀ W, Kp (· = go) W2 W → GRow W1.heap.size W p (fD es)) := fun W h => growKp HR.out h HGW.out
  have HB2 : Hid (Kp (· = go) W2 W2) := Kp.of_below (Below.refl _ _)
  have HLW : Hid (W2.heap.size = LO ∧ go < W2.heap.size) := ⟨hLO.symm, Y0.out.1.lt⟩
  clear Y0 HR hLO
  go_wp2
  go_loopw [11] (fun s11 wr => ∃ (i n : Nat) (vo : Option Addr) (vc : Nat) (ss : List Sb) (a b c : Int), i ≤ es.length ∧ s11 = .int .i64 i ∧ n = ss.length ∧ OIE Q es i ss a b c ∧ Kp (· = go) W2 wr ∧ Box wr go [.slice vo n vc, .int .i64 a, .int .i64 b, .int .i64 c] ∧ Box wr gr [.slice none 0 0, .int .i64 0, .int .i64 0, .int .i64 0] ∧ OwnG wr 46 4 (.slice vo n vc) n (flatS ss) LO ∧ PMap wr bm nm Q ∧ Below w.heap.size w wr ∧ LO ≤ wr.heap.size) (fun s11 _ => es.length - (intOf s11).toNat)
  case atStart => exact ⟨0, 0, none, 0, [], 0, 0, 0, by omega, rfl, rfl, ⟨⟨.nil, fun s => by simp, Nat.le_refl _⟩, ⟨Int.le_refl _, fun e h => by simp at h, .inl rfl⟩, ⟨Int.le_refl _, fun e h => by simp at h, .inl rfl⟩, ⟨Int.le_refl _, fun e h => by simp at h, .inl rfl⟩⟩, HB2.out, Y.out⟩
  case round =>
    clear Y HB2
    obtain ⟨i, n, vo, vc, ss, a, b, c, hi, rfl, hn, hI0, hB0, hY0⟩ := hrel
    have Y : Hid (Box wr go [.slice vo n vc, .int .i64 a, .int .i64 b, .int .i64 c] ∧ Box wr gr [.slice none 0 0, .int .i64 0, .int .i64 0, .int .i64 0] ∧ OwnG wr 46 4 (.slice vo n vc) n (flatS ss) LO ∧ PMap wr bm nm Q ∧ Below w.heap.size w wr ∧ LO ≤ wr.heap.size) := hY0
    have HI : Hid (OIE Q es i ss a b c) := hI0
    have HN : Hid (n = ss.length) := hn
    have HB : Hid (Kp (· = go) W2 wr) := hB0
    clear hY0 hI0 hn hB0
    by_cases hil : i < es.length
    · have hil' : (i : Int) < (es.length : Int) := by omega
      have i0 : (0 : Int) ≤ (i : Int) := by omega
      rcases HR2.out wr HB.out with h' | ⟨b0, off, rfl, _, h2⟩
      · have := congrArg List.length h'
        rw [fD_len, List.length_nil] at this
        omega
      have hl1 : i * 2 < (fD es).length := by rw [fD_len]; omega
      have hl2 : i * 2 + 1 < (fD es).length := by rw [fD_len]; omega
      have hat := fD_at es i hil
      rw [List.getElem?_eq_getElem hl1, List.getElem?_eq_getElem hl2] at hat
      have x0 : wr.cell? ⟨b0, off + i * 2, none⟩ = some (.int .i64 es[i].p) := by rw [h2 _ hl1]; exact hat.1
      have x1 : wr.cell? ⟨b0, off + i * 2 + 1, none⟩ = some (.int .i64 es[i].n) := by
        have := h2 _ hl2
        rw [← Nat.add_assoc] at this
        rw [this]; exact hat.2
      have hqi : Q es[i] := (HES.out.2.1 _).1 (List.getElem_mem hil)
      have HPP : Hid (0 ≤ es[i].p ∧ es[i].p < 3) := by have := ev_dot (HQ.out.2.1 _ hqi); exact ⟨this.1, this.2.1⟩
      have HSU : Hid (supQ (· ∈ es.take (i + 1)) 0 (max a (kn es[i] 0)) ∧ supQ (· ∈ es.take (i + 1)) 1 (max b (kn es[i] 1)) ∧ supQ (· ∈ es.take (i + 1)) 2 (max c (kn es[i] 2))) := oie_sup HI.out hil
      have HOL : Hid (∀ a' b' c', ovQ Q es[i] → (supQ (· ∈ es.take (i + 1)) 0 a' ∧ supQ (· ∈ es.take (i + 1)) 1 b' ∧ supQ (· ∈ es.take (i + 1)) 2 c') → OIE Q es (i + 1) ss a' b' c') := fun a' b' c' h1 h2 => oie_old HI.out hil h1 h2
      have HNW : Hid (∀ a' b' c', ¬ ovQ Q es[i] → (supQ (· ∈ es.take (i + 1)) 0 a' ∧ supQ (· ∈ es.take (i + 1)) 1 b' ∧ supQ (· ∈ es.take (i + 1)) 2 c') → OIE Q es (i + 1) (ss ++ [sOf es[i]]) a' b' c') := fun a' b' c' h1 h2 => oie_new HES.out.1 HI.out hil h1 h2
      have HLN : Hid (ss.length ≤ 100) := by have h1 := HI.out.1.2.2; show _ ≤ _; omega
      have HLK : Hid (∀ W, PMap W bm nm Q → _) := fun W h => (h.look es[i] hqi).2
      clear h2 hat hl1 hl2 hqi HI
      generalize es[i] = m at *
      go_upto_region 5 with fail
      refine wp_gen (fun W => Box W wr.heap.size [.int .i64 m.p, .int .i64 m.n] ∧ Below wr.heap.size wr W) ⟨box_mk, bel_alloc _ _⟩ (fun W3 hI => ?_)
      obtain ⟨gd, hgd⟩ : ∃ g, g = wr.heap.size := ⟨_, rfl⟩
      have D : Hid (Box W3 gd [.int .i64 m.p, .int .i64 m.n] ∧ gd ≠ go) := ⟨by rw [hgd]; exact hI.1, by have := Y.out.1.lt; omega⟩
      have hb := hI.2
      replace Y : Hid (Box W3 go [.slice vo n vc, .int .i64 a, .int .i64 b, .int .i64 c] ∧ Box W3 gr [.slice none 0 0, .int .i64 0, .int .i64 0, .int .i64 0] ∧ OwnG W3 46 4 (.slice vo n vc) n (flatS ss) LO ∧ PMap W3 bm nm Q ∧ Below w.heap.size w W3 ∧ LO ≤ W3.heap.size) := ⟨Y.out.1.next hb, Y.out.2.1.next hb, Y.out.2.2.1.next hb, Y.out.2.2.2.1.next hb, Y.out.2.2.2.2.1.trans (hb.mono Y.out.2.2.2.2.1.size), Nat.le_trans Y.out.2.2.2.2.2 hb.size⟩
      replace HB : Hid (Kp (· = go) W2 W3) := HB.out.trans (Kp.of_below (E := (· = go)) hb) (fun _ _ h => h) (fun _ _ h => h)
      rw [← hgd]
      clear hI hb hgd x0 x1
      obtain ⟨d0, d1⟩ := D.out.1.c2
      have hrun := HLK.out W3 Y.out.2.2.2.1
      clear HLK
      go_upto_region 6 with fail
      clear hrun d0 d1
      refine wp_gen (fun W => Box W W3.heap.size [.int .i64 m.p, .int .i64 m.n, .int .i64 m.v, .bool m.dead, .string m.key, .int .i64 m.a, .int .i64 m.b, .int .i64 m.c] ∧ Below W3.heap.size W3 W) ⟨box_mk, bel_alloc _ _⟩ (fun W4 hI => ?_)
      obtain ⟨ge, hge⟩ : ∃ g, g = W3.heap.size := ⟨_, rfl⟩
      have E : Hid (Box W4 ge [.int .i64 m.p, .int .i64 m.n, .int .i64 m.v, .bool m.dead, .string m.key, .int .i64 m.a, .int .i64 m.b, .int .i64 m.c] ∧ ge ≠ go) := ⟨by rw [hge]; exact hI.1, by have := Y.out.1.lt; omega⟩
      have hb := hI.2
      replace Y : Hid (Box W4 go [.slice vo n vc, .int .i64 a, .int .i64 b, .int .i64 c] ∧ Box W4 gr [.slice none 0 0, .int .i64 0, .int .i64 0, .int .i64 0] ∧ OwnG W4 46 4 (.slice vo n vc) n (flatS ss) LO ∧ PMap W4 bm nm Q ∧ Below w.heap.size w W4 ∧ LO ≤ W4.heap.size) := ⟨Y.out.1.next hb, Y.out.2.1.next hb, Y.out.2.2.1.next hb, Y.out.2.2.2.1.next hb, Y.out.2.2.2.2.1.trans (hb.mono Y.out.2.2.2.2.1.size), Nat.le_trans Y.out.2.2.2.2.2 hb.size⟩
      replace HB : Hid (Kp (· = go) W2 W4) := HB.out.trans (Kp.of_below (E := (· = go)) hb) (fun _ _ h => h) (fun _ _ h => h)
      replace D : Hid (Box W4 gd [.int .i64 m.p, .int .i64 m.n] ∧ gd ≠ go) := ⟨D.out.1.next hb, D.out.2⟩
      rw [← hge]
      clear hI hb hge
      refine wp_region_held_drew (S := (fun w' => w'.cell? ⟨ge, 0, none⟩ = some (.int .i64 m.p) ∧ w'.cell? ⟨ge, 1, none⟩ = some (.int .i64 m.n) ∧ w'.cell? ⟨ge, 2, none⟩ = some (.int .i64 m.v) ∧ w'.cell? ⟨ge, 3, none⟩ = some (.bool m.dead) ∧ w'.cell? ⟨ge, 4, none⟩ = some (.string m.key) ∧ w'.cell? ⟨ge, 5, none⟩ = some (.int .i64 m.a) ∧ w'.cell? ⟨ge, 6, none⟩ = some (.int .i64 m.b) ∧ w'.cell? ⟨ge, 7, none⟩ = some (.int .i64 m.c))) (by kernel_rfl) ?_ (fun hHeld => ?_)
      · (try dsimp only)
        exact (E.out.1.next (bel_drew _)).c8
      replace Y : Hid (Box W4.drew go [.slice vo n vc, .int .i64 a, .int .i64 b, .int .i64 c] ∧ Box W4.drew gr [.slice none 0 0, .int .i64 0, .int .i64 0, .int .i64 0] ∧ OwnG W4.drew 46 4 (.slice vo n vc) n (flatS ss) LO ∧ PMap W4.drew bm nm Q ∧ Below w.heap.size w W4.drew ∧ LO ≤ W4.drew.heap.size) := ⟨Y.out.1.next (bel_drew _), Y.out.2.1.next (bel_drew _), Y.out.2.2.1.next (bel_drew _), Y.out.2.2.2.1.next (bel_drew _), Y.out.2.2.2.2.1.trans ((bel_drew _).mono Y.out.2.2.2.2.1.size), Nat.le_trans Y.out.2.2.2.2.2 (bel_drew _).size⟩
      replace D : Hid (Box W4.drew gd [.int .i64 m.p, .int .i64 m.n] ∧ gd ≠ go) := ⟨D.out.1.next (bel_drew _), D.out.2⟩
      replace E : Hid (Box W4.drew ge [.int .i64 m.p, .int .i64 m.n, .int .i64 m.v, .bool m.dead, .string m.key, .int .i64 m.a, .int .i64 m.b, .int .i64 m.c] ∧ ge ≠ go) := ⟨E.out.1.next (bel_drew _), E.out.2⟩
      replace HB : Hid (Kp (· = go) W2 W4.drew) := HB.out.trans (Kp.of_below (E := (· = go)) (bel_drew _)) (fun _ _ h => h) (fun _ _ h => h)
      generalize W4.drew = V1 at *
      refine wTk 0 ?_
      refine wTk 2 ?_
      refine wRd2 1 3 (fun K hK => ?_) (fun K hK => ?_)
      · obtain ⟨o0, o1, o2, o3⟩ := Y.out.1.c4
        go_simp
        refine wHk hK E.out.1.c8 ?_
        clear hK K hHeld o0 o1 o2 o3
        intro hHeld
        refine wRd 3 (fun K hK => ?_)
        go_simp
        go_at_call 59
        refine (known_ev m HPP.out.1 HPP.out.2 _).mono ?_
        rintro e V2 ⟨rfl, hb⟩
        (try simp only [])
        replace Y : Hid (Box V2 go [.slice vo n vc, .int .i64 a, .int .i64 b, .int .i64 c] ∧ Box V2 gr [.slice none 0 0, .int .i64 0, .int .i64 0, .int .i64 0] ∧ OwnG V2 46 4 (.slice vo n vc) n (flatS ss) LO ∧ PMap V2 bm nm Q ∧ Below w.heap.size w V2 ∧ LO ≤ V2.heap.size) := ⟨Y.out.1.next hb, Y.out.2.1.next hb, Y.out.2.2.1.next hb, Y.out.2.2.2.1.next hb, Y.out.2.2.2.2.1.trans (hb.mono Y.out.2.2.2.2.1.size), Nat.le_trans Y.out.2.2.2.2.2 hb.size⟩
        replace D : Hid (Box V2 gd [.int .i64 m.p, .int .i64 m.n] ∧ gd ≠ go) := ⟨D.out.1.next hb, D.out.2⟩
        replace E : Hid (Box V2 ge [.int .i64 m.p, .int .i64 m.n, .int .i64 m.v, .bool m.dead, .string m.key, .int .i64 m.a, .int .i64 m.b, .int .i64 m.c] ∧ ge ≠ go) := ⟨E.out.1.next hb, E.out.2⟩
        replace HB : Hid (Kp (· = go) W2 V2) := HB.out.trans (Kp.of_below (E := (· = go)) hb) (fun _ _ h => h) (fun _ _ h => h)
        refine wHk hK E.out.1.c8 ?_
        clear hb hK K hHeld
        intro hHeld
        refine wRd 4 (fun K hK => ?_)
        go_simp
        go_at_call 24
        refine (greater_max a b c (kn m 0) (kn m 1) (kn m 2) _).mono ?_
        rintro e V8 ⟨rfl, hb⟩
        (try simp only [])
        replace Y : Hid (Box V8 go [.slice vo n vc, .int .i64 a, .int .i64 b, .int .i64 c] ∧ Box V8 gr [.slice none 0 0, .int .i64 0, .int .i64 0, .int .i64 0] ∧ OwnG V8 46 4 (.slice vo n vc) n (flatS ss) LO ∧ PMap V8 bm nm Q ∧ Below w.heap.size w V8 ∧ LO ≤ V8.heap.size) := ⟨Y.out.1.next hb, Y.out.2.1.next hb, Y.out.2.2.1.next hb, Y.out.2.2.2.1.next hb, Y.out.2.2.2.2.1.trans (hb.mono Y.out.2.2.2.2.1.size), Nat.le_trans Y.out.2.2.2.2.2 hb.size⟩
        replace D : Hid (Box V8 gd [.int .i64 m.p, .int .i64 m.n] ∧ gd ≠ go) := ⟨D.out.1.next hb, D.out.2⟩
        replace E : Hid (Box V8 ge [.int .i64 m.p, .int .i64 m.n, .int .i64 m.v, .bool m.dead, .string m.key, .int .i64 m.a, .int .i64 m.b, .int .i64 m.c] ∧ ge ≠ go) := ⟨E.out.1.next hb, E.out.2⟩
        replace HB : Hid (Kp (· = go) W2 V8) := HB.out.trans (Kp.of_below (E := (· = go)) hb) (fun _ _ h => h) (fun _ _ h => h)
        refine wHk hK E.out.1.c8 ?_
        clear hb hK K hHeld
        intro hHeld
        have HS2 : Hid (supQ (· ∈ es.take (i + 1)) 0 (max a (kn m 0)) ∧ supQ (· ∈ es.take (i + 1)) 1 (max b (kn m 1)) ∧ supQ (· ∈ es.take (i + 1)) 2 (max c (kn m 2))) := HSU.out
        clear HSU
        generalize max a (kn m 0) = a2 at *
        generalize max b (kn m 1) = b2 at *
        generalize max c (kn m 2) = c2 at *
        refine wTk 5 ?_
        have kk : Hid (Kp (· = go) V8 (((V8.setCell ⟨go, 1, none⟩ (.int .i64 a2)).setCell ⟨go, 2, none⟩ (.int .i64 b2)).setCell ⟨go, 3, none⟩ (.int .i64 c2))) := (Kp.set.trans Kp.set (fun _ _ h => h) (fun _ _ h => h)).trans Kp.set (fun _ _ h => h) (fun _ _ h => h)
        have hY : Box (((V8.setCell ⟨go, 1, none⟩ (.int .i64 a2)).setCell ⟨go, 2, none⟩ (.int .i64 b2)).setCell ⟨go, 3, none⟩ (.int .i64 c2)) go [.slice vo n vc, .int .i64 a2, .int .i64 b2, .int .i64 c2] ∧ Box (((V8.setCell ⟨go, 1, none⟩ (.int .i64 a2)).setCell ⟨go, 2, none⟩ (.int .i64 b2)).setCell ⟨go, 3, none⟩ (.int .i64 c2)) gr [.slice none 0 0, .int .i64 0, .int .i64 0, .int .i64 0] ∧ OwnG (((V8.setCell ⟨go, 1, none⟩ (.int .i64 a2)).setCell ⟨go, 2, none⟩ (.int .i64 b2)).setCell ⟨go, 3, none⟩ (.int .i64 c2)) 46 4 (.slice vo n vc) n (flatS ss) LO ∧ PMap (((V8.setCell ⟨go, 1, none⟩ (.int .i64 a2)).setCell ⟨go, 2, none⟩ (.int .i64 b2)).setCell ⟨go, 3, none⟩ (.int .i64 c2)) bm nm Q ∧ Below w.heap.size w (((V8.setCell ⟨go, 1, none⟩ (.int .i64 a2)).setCell ⟨go, 2, none⟩ (.int .i64 b2)).setCell ⟨go, 3, none⟩ (.int .i64 c2)) ∧ LO ≤ (((V8.setCell ⟨go, 1, none⟩ (.int .i64 a2)).setCell ⟨go, 2, none⟩ (.int .i64 b2)).setCell ⟨go, 3, none⟩ (.int .i64 c2)).heap.size := by
          have k1 := (((Y.out.1.set (i := 1) (u := .int .i64 a2) (by simp)).set (i := 2) (u := .int .i64 b2) (by simp)).set (i := 3) (u := .int .i64 c2) (by simp))
          exact ⟨by simpa using k1, Y.out.2.1.kp kk.out (fun e => HAP.out.1 e.symm), Y.out.2.2.1.kp kk.out (fun k hk e => by have h1 := Y.out.2.2.1.ge k hk; have h2 := HLO.out.1; omega), ((Y.out.2.2.2.1.set (by have := HAP.out; omega)).set (by have := HAP.out; omega)).set (by have := HAP.out; omega), Y.out.2.2.2.2.1.trans (kk.out.below Y.out.2.2.2.2.1.size (fun b' hb' e => by have := HAP.out; omega)), Nat.le_trans Y.out.2.2.2.2.2 kk.out.size⟩
        have hE : Box (((V8.setCell ⟨go, 1, none⟩ (.int .i64 a2)).setCell ⟨go, 2, none⟩ (.int .i64 b2)).setCell ⟨go, 3, none⟩ (.int .i64 c2)) ge [.int .i64 m.p, .int .i64 m.n, .int .i64 m.v, .bool m.dead, .string m.key, .int .i64 m.a, .int .i64 m.b, .int .i64 m.c] := E.out.1.kp kk.out E.out.2
        have hD : Box (((V8.setCell ⟨go, 1, none⟩ (.int .i64 a2)).setCell ⟨go, 2, none⟩ (.int .i64 b2)).setCell ⟨go, 3, none⟩ (.int .i64 c2)) gd [.int .i64 m.p, .int .i64 m.n] := D.out.1.kp kk.out D.out.2
        have hBB : Kp (· = go) W2 (((V8.setCell ⟨go, 1, none⟩ (.int .i64 a2)).setCell ⟨go, 2, none⟩ (.int .i64 b2)).setCell ⟨go, 3, none⟩ (.int .i64 c2)) := HB.out.trans kk.out (fun _ _ h => h) (fun _ _ h => h)
        obtain ⟨o0, o1, o2, o3⟩ := Y.out.1.c4
        obtain ⟨f0, f1, f2, f3⟩ := Y.out.1.f4
        refine wRd 6 (fun K hK => ?_)
        go_simp
        replace Y : Hid (Box (((V8.setCell ⟨go, 1, none⟩ (.int .i64 a2)).setCell ⟨go, 2, none⟩ (.int .i64 b2)).setCell ⟨go, 3, none⟩ (.int .i64 c2)) go [.slice vo n vc, .int .i64 a2, .int .i64 b2, .int .i64 c2] ∧ Box (((V8.setCell ⟨go, 1, none⟩ (.int .i64 a2)).setCell ⟨go, 2, none⟩ (.int .i64 b2)).setCell ⟨go, 3, none⟩ (.int .i64 c2)) gr [.slice none 0 0, .int .i64 0, .int .i64 0, .int .i64 0] ∧ OwnG (((V8.setCell ⟨go, 1, none⟩ (.int .i64 a2)).setCell ⟨go, 2, none⟩ (.int .i64 b2)).setCell ⟨go, 3, none⟩ (.int .i64 c2)) 46 4 (.slice vo n vc) n (flatS ss) LO ∧ PMap (((V8.setCell ⟨go, 1, none⟩ (.int .i64 a2)).setCell ⟨go, 2, none⟩ (.int .i64 b2)).setCell ⟨go, 3, none⟩ (.int .i64 c2)) bm nm Q ∧ Below w.heap.size w (((V8.setCell ⟨go, 1, none⟩ (.int .i64 a2)).setCell ⟨go, 2, none⟩ (.int .i64 b2)).setCell ⟨go, 3, none⟩ (.int .i64 c2)) ∧ LO ≤ (((V8.setCell ⟨go, 1, none⟩ (.int .i64 a2)).setCell ⟨go, 2, none⟩ (.int .i64 b2)).setCell ⟨go, 3, none⟩ (.int .i64 c2)).heap.size) := hY
        replace E : Hid (Box (((V8.setCell ⟨go, 1, none⟩ (.int .i64 a2)).setCell ⟨go, 2, none⟩ (.int .i64 b2)).setCell ⟨go, 3, none⟩ (.int .i64 c2)) ge [.int .i64 m.p, .int .i64 m.n, .int .i64 m.v, .bool m.dead, .string m.key, .int .i64 m.a, .int .i64 m.b, .int .i64 m.c] ∧ ge ≠ go) := ⟨hE, E.out.2⟩
        replace D : Hid (Box (((V8.setCell ⟨go, 1, none⟩ (.int .i64 a2)).setCell ⟨go, 2, none⟩ (.int .i64 b2)).setCell ⟨go, 3, none⟩ (.int .i64 c2)) gd [.int .i64 m.p, .int .i64 m.n] ∧ gd ≠ go) := ⟨hD, D.out.2⟩
        replace HB : Hid (Kp (· = go) W2 (((V8.setCell ⟨go, 1, none⟩ (.int .i64 a2)).setCell ⟨go, 2, none⟩ (.int .i64 b2)).setCell ⟨go, 3, none⟩ (.int .i64 c2))) := hBB
        clear hY hE hD hBB kk o0 o1 o2 o3 f0 f1 f2 f3
        refine wHk hK E.out.1.c8 ?_
        clear hK K hHeld
        intro hHeld
        generalize (((V8.setCell ⟨go, 1, none⟩ (.int .i64 a2)).setCell ⟨go, 2, none⟩ (.int .i64 b2)).setCell ⟨go, 3, none⟩ (.int .i64 c2)) = V9 at *
        refine wpAnyH_done (by kernel_rfl) ?_ _
        clear hHeld
        obtain ⟨d0, d1⟩ := D.out.1.c2
        go_wp2_with fail
        refine (overwrote_any bm nm Q m.p m.n _ HPP.out.1 HPP.out.2 Y.out.2.2.2.1).mono ?_
        rintro e U1 ⟨r, rfl, hq, hb⟩
        clear d0 d1
        replace Y : Hid (Box U1 go [.slice vo n vc, .int .i64 a2, .int .i64 b2, .int .i64 c2] ∧ Box U1 gr [.slice none 0 0, .int .i64 0, .int .i64 0, .int .i64 0] ∧ OwnG U1 46 4 (.slice vo n vc) n (flatS ss) LO ∧ PMap U1 bm nm Q ∧ Below w.heap.size w U1 ∧ LO ≤ U1.heap.size) := ⟨Y.out.1.next hb, Y.out.2.1.next hb, Y.out.2.2.1.next hb, Y.out.2.2.2.1.next hb, Y.out.2.2.2.2.1.trans (hb.mono Y.out.2.2.2.2.1.size), Nat.le_trans Y.out.2.2.2.2.2 hb.size⟩
        replace D : Hid (Box U1 gd [.int .i64 m.p, .int .i64 m.n] ∧ gd ≠ go) := ⟨D.out.1.next hb, D.out.2⟩
        replace E : Hid (Box U1 ge [.int .i64 m.p, .int .i64 m.n, .int .i64 m.v, .bool m.dead, .string m.key, .int .i64 m.a, .int .i64 m.b, .int .i64 m.c] ∧ ge ≠ go) := ⟨E.out.1.next hb, E.out.2⟩
        replace HB : Hid (Kp (· = go) W2 U1) := HB.out.trans (Kp.of_below (E := (· = go)) hb) (fun _ _ h => h) (fun _ _ h => h)
        have HRR : Hid (r = true ↔ ovQ Q m) := hq
        clear hb hq
        cases r
        case true =>
          have HF : Hid (OIE Q es (i + 1) ss a2 b2 c2) := HOL.out _ _ _ (HRR.out.1 rfl) HS2.out
          clear HOL HNW HS2 HRR D E
          go_wp2
          go_roundw
          case rel => exact ⟨i + 1, n, vo, vc, ss, a2, b2, c2, by omega, by go_num, HN.out, HF.out, HB.out, Y.out⟩
          case measure => simp [intOf]; omega
        have HF : Hid (OIE Q es (i + 1) (ss ++ [sOf m]) a2 b2 c2) := HNW.out _ _ _ (fun h => by have := HRR.out.2 h; cases this) HS2.out
        clear HOL HNW HS2 HRR D
        obtain ⟨e0, e1, e2, e3, e4, e5, e6, e7⟩ := E.out.1.c8
        obtain ⟨o0, o1, o2, o3⟩ := Y.out.1.c4
        have hn100 : n ≤ 100 := by have h1 := HN.out; have h2 := HLN.out; omega
        go_wp2_with (first | (at_builtin; refine wpList_appG elSb rfl _ _ rfl (.slice vo n vc) n (flatS ss) LO (n + 1) rfl (Y.out.2.2.1.next (bel_alloc _ _)) (by have := Y.out.2.2.2.2.2; simp; omega) (some ⟨U1.heap.size, 0, none⟩) 1 1 [.int .i64 m.p, .int .i64 m.n, .int .i64 m.v, .bool m.dead] rfl rfl (flatS_one [sOf m]) 0 (box_rows box_mk) (by omega) (by omega) ?_) | fail)
        intro v9 c9 U2 hO9 hG9 hS9
        have hge : ∀ k, (Value.slice vo n vc).ownBlock = some k → LO ≤ k := fun k h => Y.out.2.2.1.ge k h
        have hal := bel_alloc U1 (.cells #[.int .i64 m.p, .int .i64 m.n, .int .i64 m.v, .bool m.dead] 46)
        have HO9 : Hid (OwnG U2 46 4 (.slice v9 (n + 1) c9) (n + 1) (flatS (ss ++ [sOf m])) LO) := by
          have h1 := hO9
          rw [show flatS (ss ++ [sOf m]) = flatS ss ++ [.int .i64 m.p, .int .i64 m.n, .int .i64 m.v, .bool m.dead] by simp [flatS_app, flatS, sc, sOf]]
          exact h1
        have YA : Hid (Box U2 go [.slice vo n vc, .int .i64 a2, .int .i64 b2, .int .i64 c2] ∧ Box U2 gr [.slice none 0 0, .int .i64 0, .int .i64 0, .int .i64 0] ∧ PMap U2 bm nm Q ∧ Below w.heap.size w U2 ∧ LO ≤ U2.heap.size) := ⟨(Y.out.1.next hal).gro hG9 (fun e => by have h1 := hge _ e; have h2 := HLO.out.1; omega), (Y.out.2.1.next hal).gro hG9 (fun e => by have h1 := hge _ e; have h2 := HLO.out.2.1; omega), (Y.out.2.2.2.1.next hal).kept hG9.grown (fun e => by have h1 := hge _ e.symm; have h2 := HLO.out.2.2.1; omega), (Y.out.2.2.2.2.1.trans (hal.mono Y.out.2.2.2.2.1.size)).trans (hG9.below (Nat.le_trans Y.out.2.2.2.2.1.size hal.size) (fun k e => by have h1 := hge _ e; have h2 := HLO.out.2.2.2; omega)), Nat.le_trans Y.out.2.2.2.2.2 (Nat.le_trans hal.size hG9.size)⟩
        replace HB : Hid (Kp (· = go) W2 U2) := (HB.out.trans (Kp.of_below (E := (· = go)) hal) (fun _ _ h => h) (fun _ _ h => h)).trans (Kp.of_gro hG9) (fun _ _ h => h) (fun x hx e => by have h1 := hge _ e; have h2 := HLW.out.1; omega)
        clear hO9 hG9 hS9 hal hge Y E e0 e1 e2 e3 e4 e5 e6 e7 o0 o1 o2 o3
        obtain ⟨o0, o1, o2, o3⟩ := YA.out.1.c4
        obtain ⟨f0, f1, f2, f3⟩ := YA.out.1.f4
        have HZ : Hid (Kp (· = go) W2 (U2.setCell ⟨go, 0, none⟩ (.slice v9 (n + 1) c9)) ∧ Box (U2.setCell ⟨go, 0, none⟩ (.slice v9 (n + 1) c9)) go [.slice v9 (n + 1) c9, .int .i64 a2, .int .i64 b2, .int .i64 c2] ∧ Box (U2.setCell ⟨go, 0, none⟩ (.slice v9 (n + 1) c9)) gr [.slice none 0 0, .int .i64 0, .int .i64 0, .int .i64 0] ∧ OwnG (U2.setCell ⟨go, 0, none⟩ (.slice v9 (n + 1) c9)) 46 4 (.slice v9 (n + 1) c9) (n + 1) (flatS (ss ++ [sOf m])) LO ∧ PMap (U2.setCell ⟨go, 0, none⟩ (.slice v9 (n + 1) c9)) bm nm Q ∧ Below w.heap.size w (U2.setCell ⟨go, 0, none⟩ (.slice v9 (n + 1) c9)) ∧ LO ≤ (U2.setCell ⟨go, 0, none⟩ (.slice v9 (n + 1) c9)).heap.size) := by
          have kk : Kp (· = go) U2 (U2.setCell ⟨go, 0, none⟩ (.slice v9 (n + 1) c9)) := Kp.set
          exact ⟨HB.out.trans kk (fun _ _ h => h) (fun _ _ h => h), by simpa using YA.out.1.set (i := 0) (u := .slice v9 (n + 1) c9) (by simp), YA.out.2.1.kp kk (fun e => HAP.out.1 e.symm), HO9.out.kp kk (fun k hk e => by have h1 := HO9.out.ge k hk; have h2 := HLO.out.1; omega), YA.out.2.2.1.set (by have := HAP.out; omega), YA.out.2.2.2.1.trans (kk.below YA.out.2.2.2.1.size (fun b' hb' e => by have := HAP.out; omega)), Nat.le_trans YA.out.2.2.2.2 kk.size⟩
        have HN2 : Hid (n + 1 = (ss ++ [sOf m]).length) := by have := HN.out; show _ = _; simp; exact this
        clear YA HB HO9
        go_wp2
        go_roundw
        case rel => exact ⟨i + 1, n + 1, v9, c9, ss ++ [sOf m], a2, b2, c2, by omega, by go_num, HN2.out, HF.out, HZ.out.1, HZ.out.2⟩
        case measure => simp [intOf]; omega
      · go_simp
        go_at_call 59
        refine (known_ev m HPP.out.1 HPP.out.2 _).mono ?_
        rintro e V3 ⟨rfl, hb⟩
        (try simp only [])
        replace Y : Hid (Box V3 go [.slice vo n vc, .int .i64 a, .int .i64 b, .int .i64 c] ∧ Box V3 gr [.slice none 0 0, .int .i64 0, .int .i64 0, .int .i64 0] ∧ OwnG V3 46 4 (.slice vo n vc) n (flatS ss) LO ∧ PMap V3 bm nm Q ∧ Below w.heap.size w V3 ∧ LO ≤ V3.heap.size) := ⟨Y.out.1.next hb, Y.out.2.1.next hb, Y.out.2.2.1.next hb, Y.out.2.2.2.1.next hb, Y.out.2.2.2.2.1.trans (hb.mono Y.out.2.2.2.2.1.size), Nat.le_trans Y.out.2.2.2.2.2 hb.size⟩
        replace D : Hid (Box V3 gd [.int .i64 m.p, .int .i64 m.n] ∧ gd ≠ go) := ⟨D.out.1.next hb, D.out.2⟩
        replace E : Hid (Box V3 ge [.int .i64 m.p, .int .i64 m.n, .int .i64 m.v, .bool m.dead, .string m.key, .int .i64 m.a, .int .i64 m.b, .int .i64 m.c] ∧ ge ≠ go) := ⟨E.out.1.next hb, E.out.2⟩
        replace HB : Hid (Kp (· = go) W2 V3) := HB.out.trans (Kp.of_below (E := (· = go)) hb) (fun _ _ h => h) (fun _ _ h => h)
        refine wHk hK E.out.1.c8 ?_
        clear hb hK K hHeld
        intro hHeld
        refine wRd 1 (fun K hK => ?_)
        obtain ⟨o0, o1, o2, o3⟩ := Y.out.1.c4
        go_simp
        refine wHk hK E.out.1.c8 ?_
        clear hK K hHeld o0 o1 o2 o3
        intro hHeld
        refine wRd 4 (fun K hK => ?_)
        go_simp
        go_at_call 24
        refine (greater_max a b c (kn m 0) (kn m 1) (kn m 2) _).mono ?_
        rintro e V8 ⟨rfl, hb⟩
        (try simp only [])
        replace Y : Hid (Box V8 go [.slice vo n vc, .int .i64 a, .int .i64 b, .int .i64 c] ∧ Box V8 gr [.slice none 0 0, .int .i64 0, .int .i64 0, .int .i64 0] ∧ OwnG V8 46 4 (.slice vo n vc) n (flatS ss) LO ∧ PMap V8 bm nm Q ∧ Below w.heap.size w V8 ∧ LO ≤ V8.heap.size) := ⟨Y.out.1.next hb, Y.out.2.1.next hb, Y.out.2.2.1.next hb, Y.out.2.2.2.1.next hb, Y.out.2.2.2.2.1.trans (hb.mono Y.out.2.2.2.2.1.size), Nat.le_trans Y.out.2.2.2.2.2 hb.size⟩
        replace D : Hid (Box V8 gd [.int .i64 m.p, .int .i64 m.n] ∧ gd ≠ go) := ⟨D.out.1.next hb, D.out.2⟩
        replace E : Hid (Box V8 ge [.int .i64 m.p, .int .i64 m.n, .int .i64 m.v, .bool m.dead, .string m.key, .int .i64 m.a, .int .i64 m.b, .int .i64 m.c] ∧ ge ≠ go) := ⟨E.out.1.next hb, E.out.2⟩
        replace HB : Hid (Kp (· = go) W2 V8) := HB.out.trans (Kp.of_below (E := (· = go)) hb) (fun _ _ h => h) (fun _ _ h => h)
        refine wHk hK E.out.1.c8 ?_
        clear hb hK K hHeld
        intro hHeld
        have HS2 : Hid (supQ (· ∈ es.take (i + 1)) 0 (max a (kn m 0)) ∧ supQ (· ∈ es.take (i + 1)) 1 (max b (kn m 1)) ∧ supQ (· ∈ es.take (i + 1)) 2 (max c (kn m 2))) := HSU.out
        clear HSU
        generalize max a (kn m 0) = a2 at *
        generalize max b (kn m 1) = b2 at *
        generalize max c (kn m 2) = c2 at *
        refine wTk 5 ?_
        have kk : Hid (Kp (· = go) V8 (((V8.setCell ⟨go, 1, none⟩ (.int .i64 a2)).setCell ⟨go, 2, none⟩ (.int .i64 b2)).setCell ⟨go, 3, none⟩ (.int .i64 c2))) := (Kp.set.trans Kp.set (fun _ _ h => h) (fun _ _ h => h)).trans Kp.set (fun _ _ h => h) (fun _ _ h => h)
        have hY : Box (((V8.setCell ⟨go, 1, none⟩ (.int .i64 a2)).setCell ⟨go, 2, none⟩ (.int .i64 b2)).setCell ⟨go, 3, none⟩ (.int .i64 c2)) go [.slice vo n vc, .int .i64 a2, .int .i64 b2, .int .i64 c2] ∧ Box (((V8.setCell ⟨go, 1, none⟩ (.int .i64 a2)).setCell ⟨go, 2, none⟩ (.int .i64 b2)).setCell ⟨go, 3, none⟩ (.int .i64 c2)) gr [.slice none 0 0, .int .i64 0, .int .i64 0, .int .i64 0] ∧ OwnG (((V8.setCell ⟨go, 1, none⟩ (.int .i64 a2)).setCell ⟨go, 2, none⟩ (.int .i64 b2)).setCell ⟨go, 3, none⟩ (.int .i64 c2)) 46 4 (.slice vo n vc) n (flatS ss) LO ∧ PMap (((V8.setCell ⟨go, 1, none⟩ (.int .i64 a2)).setCell ⟨go, 2, none⟩ (.int .i64 b2)).setCell ⟨go, 3, none⟩ (.int .i64 c2)) bm nm Q ∧ Below w.heap.size w (((V8.setCell ⟨go, 1, none⟩ (.int .i64 a2)).setCell ⟨go, 2, none⟩ (.int .i64 b2)).setCell ⟨go, 3, none⟩ (.int .i64 c2)) ∧ LO ≤ (((V8.setCell ⟨go, 1, none⟩ (.int .i64 a2)).setCell ⟨go, 2, none⟩ (.int .i64 b2)).setCell ⟨go, 3, none⟩ (.int .i64 c2)).heap.size := by
          have k1 := (((Y.out.1.set (i := 1) (u := .int .i64 a2) (by simp)).set (i := 2) (u := .int .i64 b2) (by simp)).set (i := 3) (u := .int .i64 c2) (by simp))
          exact ⟨by simpa using k1, Y.out.2.1.kp kk.out (fun e => HAP.out.1 e.symm), Y.out.2.2.1.kp kk.out (fun k hk e => by have h1 := Y.out.2.2.1.ge k hk; have h2 := HLO.out.1; omega), ((Y.out.2.2.2.1.set (by have := HAP.out; omega)).set (by have := HAP.out; omega)).set (by have := HAP.out; omega), Y.out.2.2.2.2.1.trans (kk.out.below Y.out.2.2.2.2.1.size (fun b' hb' e => by have := HAP.out; omega)), Nat.le_trans Y.out.2.2.2.2.2 kk.out.size⟩
        have hE : Box (((V8.setCell ⟨go, 1, none⟩ (.int .i64 a2)).setCell ⟨go, 2, none⟩ (.int .i64 b2)).setCell ⟨go, 3, none⟩ (.int .i64 c2)) ge [.int .i64 m.p, .int .i64 m.n, .int .i64 m.v, .bool m.dead, .string m.key, .int .i64 m.a, .int .i64 m.b, .int .i64 m.c] := E.out.1.kp kk.out E.out.2
        have hD : Box (((V8.setCell ⟨go, 1, none⟩ (.int .i64 a2)).setCell ⟨go, 2, none⟩ (.int .i64 b2)).setCell ⟨go, 3, none⟩ (.int .i64 c2)) gd [.int .i64 m.p, .int .i64 m.n] := D.out.1.kp kk.out D.out.2
        have hBB : Kp (· = go) W2 (((V8.setCell ⟨go, 1, none⟩ (.int .i64 a2)).setCell ⟨go, 2, none⟩ (.int .i64 b2)).setCell ⟨go, 3, none⟩ (.int .i64 c2)) := HB.out.trans kk.out (fun _ _ h => h) (fun _ _ h => h)
        obtain ⟨o0, o1, o2, o3⟩ := Y.out.1.c4
        obtain ⟨f0, f1, f2, f3⟩ := Y.out.1.f4
        refine wRd 6 (fun K hK => ?_)
        go_simp
        replace Y : Hid (Box (((V8.setCell ⟨go, 1, none⟩ (.int .i64 a2)).setCell ⟨go, 2, none⟩ (.int .i64 b2)).setCell ⟨go, 3, none⟩ (.int .i64 c2)) go [.slice vo n vc, .int .i64 a2, .int .i64 b2, .int .i64 c2] ∧ Box (((V8.setCell ⟨go, 1, none⟩ (.int .i64 a2)).setCell ⟨go, 2, none⟩ (.int .i64 b2)).setCell ⟨go, 3, none⟩ (.int .i64 c2)) gr [.slice none 0 0, .int .i64 0, .int .i64 0, .int .i64 0] ∧ OwnG (((V8.setCell ⟨go, 1, none⟩ (.int .i64 a2)).setCell ⟨go, 2, none⟩ (.int .i64 b2)).setCell ⟨go, 3, none⟩ (.int .i64 c2)) 46 4 (.slice vo n vc) n (flatS ss) LO ∧ PMap (((V8.setCell ⟨go, 1, none⟩ (.int .i64 a2)).setCell ⟨go, 2, none⟩ (.int .i64 b2)).setCell ⟨go, 3, none⟩ (.int .i64 c2)) bm nm Q ∧ Below w.heap.size w (((V8.setCell ⟨go, 1, none⟩ (.int .i64 a2)).setCell ⟨go, 2, none⟩ (.int .i64 b2)).setCell ⟨go, 3, none⟩ (.int .i64 c2)) ∧ LO ≤ (((V8.setCell ⟨go, 1, none⟩ (.int .i64 a2)).setCell ⟨go, 2, none⟩ (.int .i64 b2)).setCell ⟨go, 3, none⟩ (.int .i64 c2)).heap.size) := hY
        replace E : Hid (Box (((V8.setCell ⟨go, 1, none⟩ (.int .i64 a2)).setCell ⟨go, 2, none⟩ (.int .i64 b2)).setCell ⟨go, 3, none⟩ (.int .i64 c2)) ge [.int .i64 m.p, .int .i64 m.n, .int .i64 m.v, .bool m.dead, .string m.key, .int .i64 m.a, .int .i64 m.b, .int .i64 m.c] ∧ ge ≠ go) := ⟨hE, E.out.2⟩
        replace D : Hid (Box (((V8.setCell ⟨go, 1, none⟩ (.int .i64 a2)).setCell ⟨go, 2, none⟩ (.int .i64 b2)).setCell ⟨go, 3, none⟩ (.int .i64 c2)) gd [.int .i64 m.p, .int .i64 m.n] ∧ gd ≠ go) := ⟨hD, D.out.2⟩
        replace HB : Hid (Kp (· = go) W2 (((V8.setCell ⟨go, 1, none⟩ (.int .i64 a2)).setCell ⟨go, 2, none⟩ (.int .i64 b2)).setCell ⟨go, 3, none⟩ (.int .i64 c2))) := hBB
        clear hY hE hD hBB kk o0 o1 o2 o3 f0 f1 f2 f3
        refine wHk hK E.out.1.c8 ?_
        clear hK K hHeld
        intro hHeld
        generalize (((V8.setCell ⟨go, 1, none⟩ (.int .i64 a2)).setCell ⟨go, 2, none⟩ (.int .i64 b2)).setCell ⟨go, 3, none⟩ (.int .i64 c2)) = V9 at *
        refine wpAnyH_done (by kernel_rfl) ?_ _
        clear hHeld
        obtain ⟨d0, d1⟩ := D.out.1.c2
        go_wp2_with fail
        refine (overwrote_any bm nm Q m.p m.n _ HPP.out.1 HPP.out.2 Y.out.2.2.2.1).mono ?_
        rintro e U1 ⟨r, rfl, hq, hb⟩
        clear d0 d1
        replace Y : Hid (Box U1 go [.slice vo n vc, .int .i64 a2, .int .i64 b2, .int .i64 c2] ∧ Box U1 gr [.slice none 0 0, .int .i64 0, .int .i64 0, .int .i64 0] ∧ OwnG U1 46 4 (.slice vo n vc) n (flatS ss) LO ∧ PMap U1 bm nm Q ∧ Below w.heap.size w U1 ∧ LO ≤ U1.heap.size) := ⟨Y.out.1.next hb, Y.out.2.1.next hb, Y.out.2.2.1.next hb, Y.out.2.2.2.1.next hb, Y.out.2.2.2.2.1.trans (hb.mono Y.out.2.2.2.2.1.size), Nat.le_trans Y.out.2.2.2.2.2 hb.size⟩
        replace D : Hid (Box U1 gd [.int .i64 m.p, .int .i64 m.n] ∧ gd ≠ go) := ⟨D.out.1.next hb, D.out.2⟩
        replace E : Hid (Box U1 ge [.int .i64 m.p, .int .i64 m.n, .int .i64 m.v, .bool m.dead, .string m.key, .int .i64 m.a, .int .i64 m.b, .int .i64 m.c] ∧ ge ≠ go) := ⟨E.out.1.next hb, E.out.2⟩
        replace HB : Hid (Kp (· = go) W2 U1) := HB.out.trans (Kp.of_below (E := (· = go)) hb) (fun _ _ h => h) (fun _ _ h => h)
        have HRR : Hid (r = true ↔ ovQ Q m) := hq
        clear hb hq
        cases r
        case true =>
          have HF : Hid (OIE Q es (i + 1) ss a2 b2 c2) := HOL.out _ _ _ (HRR.out.1 rfl) HS2.out
          clear HOL HNW HS2 HRR D E
          go_wp2
          go_roundw
          case rel => exact ⟨i + 1, n, vo, vc, ss, a2, b2, c2, by omega, by go_num, HN.out, HF.out, HB.out, Y.out⟩
          case measure => simp [intOf]; omega
        have HF : Hid (OIE Q es (i + 1) (ss ++ [sOf m]) a2 b2 c2) := HNW.out _ _ _ (fun h => by have := HRR.out.2 h; cases this) HS2.out
        clear HOL HNW HS2 HRR D
        obtain ⟨e0, e1, e2, e3, e4, e5, e6, e7⟩ := E.out.1.c8
        obtain ⟨o0, o1, o2, o3⟩ := Y.out.1.c4
        have hn100 : n ≤ 100 := by have h1 := HN.out; have h2 := HLN.out; omega
        go_wp2_with (first | (at_builtin; refine wpList_appG elSb rfl _ _ rfl (.slice vo n vc) n (flatS ss) LO (n + 1) rfl (Y.out.2.2.1.next (bel_alloc _ _)) (by have := Y.out.2.2.2.2.2; simp; omega) (some ⟨U1.heap.size, 0, none⟩) 1 1 [.int .i64 m.p, .int .i64 m.n, .int .i64 m.v, .bool m.dead] rfl rfl (flatS_one [sOf m]) 0 (box_rows box_mk) (by omega) (by omega) ?_) | fail)
        intro v9 c9 U2 hO9 hG9 hS9
        have hge : ∀ k, (Value.slice vo n vc).ownBlock = some k → LO ≤ k := fun k h => Y.out.2.2.1.ge k h
        have hal := bel_alloc U1 (.cells #[.int .i64 m.p, .int .i64 m.n, .int .i64 m.v, .bool m.dead] 46)
        have HO9 : Hid (OwnG U2 46 4 (.slice v9 (n + 1) c9) (n + 1) (flatS (ss ++ [sOf m])) LO) := by
          have h1 := hO9
          rw [show flatS (ss ++ [sOf m]) = flatS ss ++ [.int .i64 m.p, .int .i64 m.n, .int .i64 m.v, .bool m.dead] by simp [flatS_app, flatS, sc, sOf]]
          exact h1
        have YA : Hid (Box U2 go [.slice vo n vc, .int .i64 a2, .int .i64 b2, .int .i64 c2] ∧ Box U2 gr [.slice none 0 0, .int .i64 0, .int .i64 0, .int .i64 0] ∧ PMap U2 bm nm Q ∧ Below w.heap.size w U2 ∧ LO ≤ U2.heap.size) := ⟨(Y.out.1.next hal).gro hG9 (fun e => by have h1 := hge _ e; have h2 := HLO.out.1; omega), (Y.out.2.1.next hal).gro hG9 (fun e => by have h1 := hge _ e; have h2 := HLO.out.2.1; omega), (Y.out.2.2.2.1.next hal).kept hG9.grown (fun e => by have h1 := hge _ e.symm; have h2 := HLO.out.2.2.1; omega), (Y.out.2.2.2.2.1.trans (hal.mono Y.out.2.2.2.2.1.size)).trans (hG9.below (Nat.le_trans Y.out.2.2.2.2.1.size hal.size) (fun k e => by have h1 := hge _ e; have h2 := HLO.out.2.2.2; omega)), Nat.le_trans Y.out.2.2.2.2.2 (Nat.le_trans hal.size hG9.size)⟩
        replace HB : Hid (Kp (· = go) W2 U2) := (HB.out.trans (Kp.of_below (E := (· = go)) hal) (fun _ _ h => h) (fun _ _ h => h)).trans (Kp.of_gro hG9) (fun _ _ h => h) (fun x hx e => by have h1 := hge _ e; have h2 := HLW.out.1; omega)
        clear hO9 hG9 hS9 hal hge Y E e0 e1 e2 e3 e4 e5 e6 e7 o0 o1 o2 o3
        obtain ⟨o0, o1, o2, o3⟩ := YA.out.1.c4
        obtain ⟨f0, f1, f2, f3⟩ := YA.out.1.f4
        have HZ : Hid (Kp (· = go) W2 (U2.setCell ⟨go, 0, none⟩ (.slice v9 (n + 1) c9)) ∧ Box (U2.setCell ⟨go, 0, none⟩ (.slice v9 (n + 1) c9)) go [.slice v9 (n + 1) c9, .int .i64 a2, .int .i64 b2, .int .i64 c2] ∧ Box (U2.setCell ⟨go, 0, none⟩ (.slice v9 (n + 1) c9)) gr [.slice none 0 0, .int .i64 0, .int .i64 0, .int .i64 0] ∧ OwnG (U2.setCell ⟨go, 0, none⟩ (.slice v9 (n + 1) c9)) 46 4 (.slice v9 (n + 1) c9) (n + 1) (flatS (ss ++ [sOf m])) LO ∧ PMap (U2.setCell ⟨go, 0, none⟩ (.slice v9 (n + 1) c9)) bm nm Q ∧ Below w.heap.size w (U2.setCell ⟨go, 0, none⟩ (.slice v9 (n + 1) c9)) ∧ LO ≤ (U2.setCell ⟨go, 0, none⟩ (.slice v9 (n + 1) c9)).heap.size) := by
          have kk : Kp (· = go) U2 (U2.setCell ⟨go, 0, none⟩ (.slice v9 (n + 1) c9)) := Kp.set
          exact ⟨HB.out.trans kk (fun _ _ h => h) (fun _ _ h => h), by simpa using YA.out.1.set (i := 0) (u := .slice v9 (n + 1) c9) (by simp), YA.out.2.1.kp kk (fun e => HAP.out.1 e.symm), HO9.out.kp kk (fun k hk e => by have h1 := HO9.out.ge k hk; have h2 := HLO.out.1; omega), YA.out.2.2.1.set (by have := HAP.out; omega), YA.out.2.2.2.1.trans (kk.below YA.out.2.2.2.1.size (fun b' hb' e => by have := HAP.out; omega)), Nat.le_trans YA.out.2.2.2.2 kk.size⟩
        have HN2 : Hid (n + 1 = (ss ++ [sOf m]).length) := by have := HN.out; show _ = _; simp; exact this
        clear YA HB HO9
        go_wp2
        go_roundw
        case rel => exact ⟨i + 1, n + 1, v9, c9, ss ++ [sOf m], a2, b2, c2, by omega, by go_num, HN2.out, HF.out, HZ.out.1, HZ.out.2⟩
        case measure => simp [intOf]; omega
    · have hil' : ¬ (i : Int) < (es.length : Int) := by omega
      have hie : i = es.length := by omega
      subst hie
      obtain ⟨o0, o1, o2, o3⟩ := Y.out.1.c4
      obtain ⟨r0, r1, r2, r3⟩ := Y.out.2.1.f4
      obtain ⟨q0, q1, q2, q3⟩ := Y.out.2.1.c4
      have HF : Hid (TobjQ Q nm w (.returned (.agg #[.slice vo n vc, .int .i64 a, .int .i64 b, .int .i64 c])) ((((wr.setCell ⟨gr, 0, none⟩ (.slice vo n vc)).setCell ⟨gr, 1, none⟩ (.int .i64 a)).setCell ⟨gr, 2, none⟩ (.int .i64 b)).setCell ⟨gr, 3, none⟩ (.int .i64 c))) := by
        have ho := Y.out.2.2.1
        rw [HN.out] at ho
        have hs := (ho.sr.weak HLO.out.2.2.2)
        have h4 : SR w.heap.size ((((wr.setCell ⟨gr, 0, none⟩ (.slice vo n vc)).setCell ⟨gr, 1, none⟩ (.int .i64 a)).setCell ⟨gr, 2, none⟩ (.int .i64 b)).setCell ⟨gr, 3, none⟩ (.int .i64 c)) vo ss := (ho.sr.set4 HLO.out.2.1).weak HLO.out.2.2.2
        have hbl := set4_below (u0 := .slice vo n vc) (u1 := .int .i64 a) (u2 := .int .i64 b) (u3 := .int .i64 c) Y.out.2.2.2.2.1 HAP.out.2.2.1
        have hI := HI.out
        rw [HN.out] at h4 hbl ⊢
        have tk : es.take es.length = es := List.take_length
        unfold OIE at hI
        rw [tk] at hI
        have hmem := HES.out.2.1
        have hsq : ∀ c m, supQ (· ∈ es) c m → supQ Q c m := fun c m h => ⟨h.1, fun e he => h.2.1 e ((hmem e).2 he), h.2.2.imp id (fun ⟨e, he, r⟩ => ⟨e, (hmem e).1 he, r⟩)⟩
        exact ⟨vo, vc, ss, a, b, c, rfl, h4, hbl, ⟨hI.1.1, fun s => (hI.1.2.1 s).trans ⟨fun ⟨e, he, r⟩ => ⟨e, (hmem e).1 he, r⟩, fun ⟨e, he, r⟩ => ⟨e, (hmem e).2 he, r⟩⟩⟩, hsq _ _ hI.2.1, hsq _ _ hI.2.2.1, hsq _ _ hI.2.2.2⟩
      clear Y HI HR2 HB HES HLO
      go_wp2
      refine bodyPost_ret (v := .agg #[.slice vo n vc, .int .i64 a, .int .i64 b, .int .i64 c]) ?_ rfl HF.out
      simp [results, Tryz.results28, go_sem, q0, q1, q2, q3]
end Go.Proofs.YtkdbcmkmcjaenaaGreatDoor
