/- ModelObj of the program, over its object of a past. -/
import Derived.Test.YtkdbcmkmcjaenaaGreatDoorRows
import Derived.WalkKit
import Derived.WalkSpells
import Derived.WalkLawsBesides
import Derived.Deep.QuietTactic
import Derived.BigQuiet
import Derived.Deep.RegionHeld3
import Derived.Test.YtkdbcmkmcjaenaaGreatDoorLo
import Derived.Test.YtkdbcmkmcjaenaaGreatDoorEn
import Derived.Test.YtkdbcmkmcjaenaaGreatDoorOi
import Derived.LoopN
import Derived.OwnWalk
import Derived.Laws.StructEq
namespace Go.Proofs.YtkdbcmkmcjaenaaGreatDoor
open Go.RowKit
set_option linter.unusedSimpArgs false
set_option linter.unusedVariables false

def supQ (Q : Ev → Prop) (c m : Int) : Prop := 0 ≤ m ∧ (∀ e, Q e → kn e c ≤ m) ∧ (m = 0 ∨ ∃ e, Q e ∧ kn e c = m)
/-- The object of a set of events. -/
def TobjQ (Q : Ev → Prop) (n : Nat) (w : World) (e : Ending) (w' : World) : Prop := ∃ p q ss a b c, e = .returned (.agg #[.slice p ss.length q, .int .i64 a, .int .i64 b, .int .i64 c]) ∧ SR w.heap.size w' p ss ∧ Below w.heap.size w w' ∧
  (ss.Pairwise sl ∧ (∀ s, s ∈ ss ↔ ∃ e, Q e ∧ ¬ (∃ f, Q f ∧ knowE f e.p e.n) ∧ s = sOf e)) ∧ supQ Q 0 a ∧ supQ Q 1 b ∧ supQ Q 2 c
/-- The contract of the program's object of a past. -/
def ImplObj : Prop := ∀ (b n : Nat) (Q : Ev → Prop) (w : World), n ≤ 100 → (∀ e, Q e → evP e) → (∀ e f, Q e → Q f → e.p = f.p → e.n = f.n → e = f) → PMap w b n Q → Calls Tryz.prog 28 #[.map (some b)] w (TobjQ Q n w)
theorem supQ_sup {l : List Ev} {key : ByteArray} {c m : Int} (h : supQ (fun e => e ∈ l ∧ e.key = key) c m) : supP (l.take l.length) key c m := by
  rw [List.take_length]
  refine ⟨h.1, fun e he hk => h.2.1 e ⟨he, hk⟩, ?_⟩
  rcases h.2.2 with h | ⟨e, ⟨he, hk⟩, hm⟩
  · exact .inl h
  · exact .inr ⟨e, he, hk, hm⟩
theorem nd_len : ∀ (a b : List Sb), a.Nodup → (∀ x ∈ a, x ∈ b) → a.length ≤ b.length
  | [], b, _, _ => Nat.zero_le _
  | x :: a, b, h, hm => by
    obtain ⟨h1, h2⟩ := List.pairwise_cons.1 h
    obtain ⟨b1, b2, rfl⟩ := List.append_of_mem (hm x (List.mem_cons_self ..))
    have := nd_len a (b1 ++ b2) h2 (fun y hy => by
      have h3 := hm y (List.mem_cons_of_mem _ hy)
      have h4 : x ≠ y := h1 y hy
      simp only [List.mem_append, List.mem_cons] at h3 ⊢
      rcases h3 with h | h | h
      · exact .inl h
      · exact absurd h.symm h4
      · exact .inr h)
    simp at this ⊢
    omega
/-- Rising siblings of events are no more than the events. -/
theorem ss_len {l : List Ev} {ss : List Sb} (hr : ss.Pairwise sl) (hm : ∀ s ∈ ss, ∃ e ∈ l, s = sOf e) : ss.length ≤ l.length := by
  have nd : ss.Nodup := hr.imp (fun {x y} hxy e => by subst e; unfold sl dlt at hxy; omega)
  have : ss.length ≤ (l.map sOf).length := by
    exact nd_len ss _ nd (fun s hs => by
      obtain ⟨e, he, h⟩ := hm s hs
      rw [h]
      exact List.mem_map.2 ⟨e, he, rfl⟩)
  simpa using this
theorem objQ_inv {l : List Ev} {key : ByteArray} {ss : List Sb} {a b c : Int} (h : (ss.Pairwise sl ∧ (∀ s, s ∈ ss ↔ ∃ e, (e ∈ l ∧ e.key = key) ∧ ¬ (∃ f, (f ∈ l ∧ f.key = key) ∧ knowE f e.p e.n) ∧ s = sOf e)) ∧ supQ (fun e => e ∈ l ∧ e.key = key) 0 a ∧ supQ (fun e => e ∈ l ∧ e.key = key) 1 b ∧ supQ (fun e => e ∈ l ∧ e.key = key) 2 c) : OInv l l.length key ss a b c := by
  refine ⟨⟨h.1.1, fun s => ?_, ss_len h.1.1 (fun s hs => ?_)⟩, supQ_sup h.2.1, supQ_sup h.2.2.1, supQ_sup h.2.2.2⟩
  · rw [h.1.2, List.take_length]
    constructor
    · rintro ⟨e, ⟨he, hk⟩, hn, hs⟩
      exact ⟨e, he, hk, fun ⟨f, hf, hfk, hkn⟩ => hn ⟨f, ⟨hf, hfk.trans hk⟩, hkn⟩, hs⟩
    · rintro ⟨e, he, hk, hn, hs⟩
      exact ⟨e, ⟨he, hk⟩, fun ⟨f, ⟨hf, hfk⟩, hkn⟩ => hn ⟨f, hf, hfk.trans hk.symm, hkn⟩, hs⟩
  · obtain ⟨e, ⟨he, _⟩, _, h'⟩ := (h.1.2 s).1 hs
    exact ⟨e, he, h'⟩
set_option maxRecDepth 20000 in
set_option maxHeartbeats 4000000 in
theorem implMo (HOB : ImplObj) : ImplMo := by
  intro lo q po l key w hks hkk hr0
  have hr : Hid (GRow lo w po (flatE l)) := hr0
  have HO2 : Hid ImplObj := HOB
  clear hr0 HOB
  go_enter Tryz.func9, Tryz.ntmps9
  by_cases hl : 4096 < (l.length : Int)
  case pos =>
    have HF : Hid (moP l key [] 0 0 0 2) := .inl ⟨.inl (by omega), ⟨rfl, rfl, rfl, rfl⟩, rfl⟩
    clear hr
    go_wp2
    refine bodyPost_ret (v := .tuple #[.agg #[.slice none 0 0, .int .i64 0, .int .i64 0, .int .i64 0], .int .i64 2]) ?_ rfl (Tmo.mk (p := none) (q := 0) (ss := []) rfl HF.out (SR.nil _ _ _) (bel_alloc _ _))
    · simp [results, Tryz.results9, go_sem]
  by_cases hk : 65536 < (key.size : Int)
  case pos =>
    have HF : Hid (moP l key [] 0 0 0 2) := .inl ⟨.inr (by omega), ⟨rfl, rfl, rfl, rfl⟩, rfl⟩
    clear hr
    go_wp2
    refine bodyPost_ret (v := .tuple #[.agg #[.slice none 0 0, .int .i64 0, .int .i64 0, .int .i64 0], .int .i64 2]) ?_ rfl (Tmo.mk (p := none) (q := 0) (ss := []) rfl HF.out (SR.nil _ _ _) (bel_alloc _ _))
    · simp [results, Tryz.results9, go_sem]
  have HLE : Hid (¬ (4096 < l.length ∨ 65536 < key.size)) := by show ¬ _; omega
  have HA : Hid (Below w.heap.size w (w.alloc (.cells #[.slice none 0 0, .int .i64 0, .int .i64 0, .int .i64 0] 34))) := bel_alloc _ _
  have HBX : Hid (Box (w.alloc (.cells #[.slice none 0 0, .int .i64 0, .int .i64 0, .int .i64 0] 34)) w.heap.size [.slice none 0 0, .int .i64 0, .int .i64 0, .int .i64 0]) := box_mk
  go_wp2_with fail
  refine (implEvents lo q po l _ hks (hr.out.next HA.out)).mono ?_
  rintro e1 W1 ⟨r1, rfl, hq, hb⟩
  have HB : Hid (Below w.heap.size w W1 ∧ Box W1 w.heap.size [.slice none 0 0, .int .i64 0, .int .i64 0, .int .i64 0]) := ⟨HA.out.trans (hb.mono HA.out.size), HBX.out.next hb⟩
  have HQ : Hid (r1 = true ↔ eok l) := hq
  clear hb hq HA HBX
  cases r1
  case false =>
    have HF : Hid (moP l key [] 0 0 0 1) := .inr (.inl ⟨HLE.out, fun h => (by have := HQ.out.2 h; cases this), ⟨rfl, rfl, rfl, rfl⟩, rfl⟩)
    clear HQ hr
    obtain ⟨q0, q1, q2, q3⟩ := HB.out.2.c4
    obtain ⟨r0, r1, r2, r3⟩ := HB.out.2.f4
    go_wp2
    refine bodyPost_ret (v := .tuple #[.agg #[.slice none 0 0, .int .i64 0, .int .i64 0, .int .i64 0], .int .i64 1]) ?_ rfl (Tmo.mk (p := none) (q := 0) (ss := []) rfl HF.out (SR.nil _ _ _) (set4_below HB.out.1 (Nat.le_refl _)))
    simp [results, Tryz.results9, go_sem, q0, q1, q2, q3]
  have HE : Hid (eok l) := HQ.out.1 rfl
  clear HQ
  obtain ⟨bk, hbk⟩ := bool_of (keyP key)
  have HK : Hid (bk = true ↔ keyP key) := hbk
  clear hbk
  go_wp2_with fail
  refine (implKey_any key bk HK.out W1 hkk).mono ?_
  rintro e1 W2 ⟨rfl, hw2⟩
  subst hw2
  cases bk
  case false =>
    have HF : Hid (moP l key [] 0 0 0 8) := .inr (.inr (.inl ⟨HLE.out, HE.out, fun h => (by have := HK.out.2 h; cases this), ⟨rfl, rfl, rfl, rfl⟩, rfl⟩))
    clear HK hr
    obtain ⟨q0, q1, q2, q3⟩ := HB.out.2.c4
    obtain ⟨r0, r1, r2, r3⟩ := HB.out.2.f4
    go_wp2
    refine bodyPost_ret (v := .tuple #[.agg #[.slice none 0 0, .int .i64 0, .int .i64 0, .int .i64 0], .int .i64 8]) ?_ rfl (Tmo.mk (p := none) (q := 0) (ss := []) rfl HF.out (SR.nil _ _ _) (set4_below HB.out.1 (Nat.le_refl _)))
    simp [results, Tryz.results9, go_sem, q0, q1, q2, q3]
  have HKP : Hid (keyP key) := HK.out.1 rfl
  clear HK
  go_wp2_with fail
  refine (pastOf_any lo q po l W2 HE.out.1 (eok_wf HE.out) (eok_apart HE.out) (hr.out.next HB.out.1)).mono ?_
  rintro e1 W3 ⟨rfl, hb, hM⟩
  replace HB : Hid (Below w.heap.size w W3 ∧ Box W3 w.heap.size [.slice none 0 0, .int .i64 0, .int .i64 0, .int .i64 0]) := ⟨HB.out.1.trans (hb.mono HB.out.1.size), HB.out.2.next hb⟩
  have HM : Hid (PMap W3 W2.heap.size l.length (· ∈ l)) := hM
  clear hb hM hr
  generalize W2.heap.size = gm at *
  go_wp2_with fail
  refine (of_any gm l.length (· ∈ l) key W3 HE.out.1 HM.out).mono ?_
  rintro e1 W4 ⟨g2, rfl, hb, hM⟩
  replace HB : Hid (Below w.heap.size w W4 ∧ Box W4 w.heap.size [.slice none 0 0, .int .i64 0, .int .i64 0, .int .i64 0]) := ⟨HB.out.1.trans (hb.mono HB.out.1.size), HB.out.2.next hb⟩
  have HM2 : Hid (PMap W4 g2 l.length (fun e => e ∈ l ∧ e.key = key)) := hM
  have HW4 : Hid (w.heap.size < W4.heap.size) := HB.out.2.lt
  clear hb hM HM
  go_wp2_with fail
  refine (HO2.out g2 l.length _ W4 HE.out.1 (fun e he => eok_ev HE.out e he.1) (fun e f he hf h1 h2 => apart_one (eok_apart HE.out) he.1 hf.1 h1 h2) HM2.out).mono ?_
  rintro e1 W5 ⟨p, q2, ss, a, b, c, rfl, hS, hb, hI⟩
  replace HB : Hid (Below w.heap.size w W5 ∧ Box W5 w.heap.size [.slice none 0 0, .int .i64 0, .int .i64 0, .int .i64 0]) := ⟨HB.out.1.trans (hb.mono HB.out.1.size), HB.out.2.next hb⟩
  have HS : Hid (SR W4.heap.size W5 p ss) := hS
  have HF : Hid (moP l key ss a b c 0) := .inr (.inr (.inr ⟨HLE.out, HE.out, HKP.out, objQ_inv hI, rfl⟩))
  have hl3 : (ss.length : Int) ≤ 100 := by have h1 := (objQ_inv hI).1.2.2; have h2 := HE.out.1; omega
  clear hS hI hb HE HKP HLE HM2 HO2
  go_upto_region 8 with fail
  refine wp_gen (fun W => Box W W5.heap.size [.slice p ss.length q2, .int .i64 a, .int .i64 b, .int .i64 c] ∧ Below W5.heap.size W5 W) ⟨box_mk, bel_alloc _ _⟩ (fun W6 hI => ?_)
  have hb := hI.2
  replace HB : Hid (Below w.heap.size w W6 ∧ Box W6 w.heap.size [.slice none 0 0, .int .i64 0, .int .i64 0, .int .i64 0]) := ⟨HB.out.1.trans (hb.mono HB.out.1.size), HB.out.2.next hb⟩
  replace HS : Hid (SR W4.heap.size W6 p ss) := HS.out.next hb
  obtain ⟨o0, o1, o2, o3⟩ := hI.1.c4
  clear hI hb
  obtain ⟨k0, k1, k2, k3⟩ := HB.out.2.c4
  obtain ⟨r0, r1, r2, r3⟩ := HB.out.2.f4
  have hl4 : ¬ 100 < (ss.length : Int) := by omega
  generalize W5.heap.size = go at *
  go_wp2
  refine bodyPost_ret (v := .tuple #[.agg #[.slice p ss.length q2, .int .i64 a, .int .i64 b, .int .i64 c], .int .i64 0]) ?_ rfl (Tmo.mk rfl HF.out (HS.out.set4 HW4.out |>.weak (Nat.le_of_lt HW4.out)) (set4_below HB.out.1 (Nat.le_refl _)))
  simp [results, Tryz.results9, go_sem, k0, k1, k2, k3]
end Go.Proofs.YtkdbcmkmcjaenaaGreatDoor
