/- What of a past was overwritten, on the program's side. -/
import Derived.Test.YtkdbcmkmcjaenaaGreatDoorRows
import Derived.WalkKit
import Derived.WalkSpells
import Derived.WalkLawsBesides
import Derived.Deep.QuietTactic
import Derived.BigQuiet
import Derived.Deep.RegionHeld3
import Derived.Test.YtkdbcmkmcjaenaaGreatDoorPo
import Derived.LoopN
namespace Go.Proofs.YtkdbcmkmcjaenaaGreatDoor
open Go.RowKit
set_option linter.unusedSimpArgs false
set_option linter.unusedVariables false

open Go.Maps
def knowE (e : Ev) (p n : Int) : Prop := n ≤ comp e.a e.b e.c p
set_option maxRecDepth 20000 in
set_option maxHeartbeats 4000000 in
theorem overwrote_any (b n : Nat) (Q : Ev → Prop) (p q : Int) (w : World) (hp0 : 0 ≤ p) (hp3 : p < 3) (hM0 : PMap w b n Q) :
    Calls Tryz.prog 36 #[.map (some b), .agg #[.int .i64 p, .int .i64 q]] w (Told (∃ e, Q e ∧ knowE e p q) w) := by
  have HM : Hid (PMap w b n Q) := hM0
  clear hM0
  go_enter Tryz.func36, Tryz.ntmps36
  go_upto_region 1 with fail
  refine wp_gen (fun W => Box W w.heap.size [.int .i64 p, .int .i64 q] ∧ PMap W b n Q ∧ Below w.heap.size w W) ⟨box_mk, HM.out.kept (World.grownBy_alloc _ _ none) (by simp), bel_alloc _ _⟩ (fun W0 hI => ?_)
  obtain ⟨gd, hgd⟩ : ∃ g, g = w.heap.size := ⟨_, rfl⟩
  have HD : Hid (w.heap.size ≤ gd) := by show _ ≤ _; omega
  have Y : Hid (Box W0 gd [.int .i64 p, .int .i64 q] ∧ PMap W0 b n Q ∧ Below w.heap.size w W0) := by rw [hgd]; exact hI
  rw [← hgd]
  clear hI hgd HM
  go_wp2_with (first
    | (at_range; refine wpList_range_past _ rfl _ rfl b n Q rfl Y.out.2.1 ?_; intro w0 D cnt0 hrg0 hcn hg0 hs0)
    | go_in)
  go_frame
  have HS : Hid (Box w0 gd [.int .i64 p, .int .i64 q] ∧ Below w.heap.size w w0 ∧ PRange w0 b W0.heap.size n Q D (Maps.has D) cnt0 ∧ gd ≠ W0.heap.size ∧ w.heap.size ≤ W0.heap.size) := by
    have hb : Below W0.heap.size W0 w0 := (Below.refl _ _).grown hg0 (Nat.le_refl _) (fun j hj => by cases hj)
    exact ⟨Y.out.1.next hb, Y.out.2.2.trans (hb.mono Y.out.2.2.size), hrg0, by have := Y.out.1.lt; omega, Y.out.2.2.size⟩
  clear hg0 hs0 Y hrg0
  generalize W0.heap.size = r at *
  go_loopw [6] (fun _ wr => ∃ (left : Lit → Bool) (cnt : Nat), Box wr gd [.int .i64 p, .int .i64 q] ∧ Below w.heap.size w wr ∧ PRange wr b r n Q D left cnt ∧ (∀ e, Q e → left (dk e.p e.n) = false → ¬ knowE e p q)) (fun _ wr => wr.rangeLeft b r)
  case atStart => exact ⟨_, cnt0, HS.out.1, HS.out.2.1, HS.out.2.2.1, fun e he h => by rw [HS.out.2.2.1.past.left_all he] at h; cases h⟩
  case round =>
    have HN : Hid (gd ≠ r ∧ w.heap.size ≤ r) := ⟨HS.out.2.2.2.1, HS.out.2.2.2.2⟩
    clear HS
    obtain ⟨left, cnt, hB0, hL0, hR0, hK0⟩ := hrel
    have Y : Hid (Box wr gd [.int .i64 p, .int .i64 q] ∧ Below w.heap.size w wr ∧ PRange wr b r n Q D left cnt) := ⟨hB0, hL0, hR0⟩
    have HK : Hid (∀ e, Q e → left (dk e.p e.n) = false → ¬ knowE e p q) := hK0
    clear hB0 hL0 hR0 hK0
    go_wp2_with (first
      | (at_next; refine wpList_next_past _ rfl _ rfl b r n Q D left cnt rfl Y.out.2.2 ?_ ?_)
      | go_in)
    · intro hl0
      have HF : Hid (¬ ∃ e, Q e ∧ knowE e p q) := fun ⟨e, he, hk⟩ => HK.out e he (hl0 _) hk
      clear hl0 HK
      go_wp2
      go_ret
      exact ⟨false, rfl, by simp [HF.out], Y.out.2.1⟩
    · intro m w1 cnt1 hQ hlx hrg1 hlt hg1 hs1 hen
      have HQ : Hid (Q m) := hQ
      have HK2 : Hid (¬ knowE m p q → ∀ e, Q e → (left (dk e.p e.n) && !(dk e.p e.n).sameKey (dk m.p m.n)) = false → ¬ knowE e p q) := fun hm e he h => by
        rcases (Y.out.2.2.past.left_step hQ he).1 h with h | rfl
        · exact HK.out e he h
        · exact hm
      have hb1 : Below w.heap.size w w1 := Y.out.2.1.grown hg1 Y.out.2.1.size (fun j hj => by cases hj; exact HN.out.2)
      have Y1 : Hid (Box w1 gd [.int .i64 p, .int .i64 q] ∧ Below w.heap.size w w1 ∧ PRange w1 b r n Q D (fun z => left z && !z.sameKey (dk m.p m.n)) cnt1 ∧ cnt1 < wr.rangeLeft b r) := ⟨Y.out.1.kp (Kp.of_grown hg1) HN.out.1, hb1, hrg1, by rw [Y.out.2.2.rg.left_eq]; exact hlt⟩
      clear hb1 hg1 hs1 hlt hlx hQ Y HK
      go_upto_region 4 with fail
      refine wp_gen (fun W => Box W w1.heap.size [.int .i64 m.p, .int .i64 m.n, .int .i64 m.v, .bool m.dead, .string m.key, .int .i64 m.a, .int .i64 m.b, .int .i64 m.c] ∧ Below w1.heap.size w1 W) ⟨?_, ?_⟩ (fun W2 hI => ?_)
      · exact box_mk
      · exact bel_alloc _ _
      have Y2 : Hid (Box W2 w1.heap.size [.int .i64 m.p, .int .i64 m.n, .int .i64 m.v, .bool m.dead, .string m.key, .int .i64 m.a, .int .i64 m.b, .int .i64 m.c] ∧ Box W2 gd [.int .i64 p, .int .i64 q] ∧ Below w.heap.size w W2 ∧ PRange W2 b r n Q D (fun z => left z && !z.sameKey (dk m.p m.n)) cnt1 ∧ cnt1 < wr.rangeLeft b r) := ⟨hI.1, Y1.out.1.next hI.2, Y1.out.2.1.trans (hI.2.mono Y1.out.2.1.size), Y1.out.2.2.1.next hI.2, Y1.out.2.2.2⟩
      clear hI Y1 hen hrg1
      generalize w1.heap.size = ge at *
      obtain ⟨a0, a1, a2, a3, a4, a5, a6, a7⟩ := Y2.out.1.c8
      obtain ⟨b0, b1⟩ := Y2.out.2.1.c2
      go_wp2_with fail
      refine (knows_any m.a m.b m.c p q _ hp0 hp3).mono ?_
      rintro e1 W3 ⟨rfl, hb⟩
      have Y3 : Hid (Box W3 gd [.int .i64 p, .int .i64 q] ∧ Below w.heap.size w W3 ∧ PRange W3 b r n Q D (fun z => left z && !z.sameKey (dk m.p m.n)) cnt1 ∧ cnt1 < wr.rangeLeft b r) := ⟨Y2.out.2.1.next hb, Y2.out.2.2.1.trans (hb.mono Y2.out.2.2.1.size), Y2.out.2.2.2.1.next hb, Y2.out.2.2.2.2⟩
      clear hb a0 a1 a2 a3 a4 a5 a6 a7 b0 b1 Y2
      by_cases hk : q ≤ comp m.a m.b m.c p
      · have HF : Hid (∃ e, Q e ∧ knowE e p q) := ⟨m, HQ.out, hk⟩
        rw [decide_eq_true hk]
        clear hk HK2
        go_wp2
        go_ret
        exact ⟨true, rfl, by simp [HF.out], Y3.out.2.1⟩
      · have HF : Hid (∀ e, Q e → (left (dk e.p e.n) && !(dk e.p e.n).sameKey (dk m.p m.n)) = false → ¬ knowE e p q) := HK2.out hk
        rw [decide_eq_false hk]
        clear hk HK2
        go_wp2
        go_roundw
        case rel => exact ⟨_, cnt1, Y3.out.1, Y3.out.2.1, Y3.out.2.2.1, HF.out⟩
        case measure => rw [Y3.out.2.2.1.rg.left_eq]; exact Y3.out.2.2.2

theorem key_dec (e : Ev) (key : ByteArray) : e.key = key ∨ e.key ≠ key := Classical.em _
set_option maxRecDepth 20000 in
set_option maxHeartbeats 4000000 in
theorem of_any (b n : Nat) (Q : Ev → Prop) (key : ByteArray) (w : World) (hn : n ≤ 100) (hM0 : PMap w b n Q) :
    Calls Tryz.prog 27 #[.map (some b), .string key] w fun e w' => ∃ g, e = .returned (.map (some g)) ∧ Below w.heap.size w w' ∧ PMap w' g n (fun e => Q e ∧ e.key = key) := by
  have HM : Hid (PMap w b n Q) := hM0
  clear hM0
  have hmm := @run_makeMap Tryz.prog
  go_enter Tryz.func27, Tryz.ntmps27
  go_upto_region 2 with fail
  refine wp_gen (fun W => PMap W w.heap.size 0 (fun _ => False) ∧ PMap W b n Q ∧ Below w.heap.size w W) ⟨PMap.made w, HM.out.kept (World.grownBy_alloc _ _ none) (by simp), bel_alloc _ _⟩ (fun W0 hI => ?_)
  clear hmm
  obtain ⟨gm, hgm⟩ : ∃ g, g = w.heap.size := ⟨_, rfl⟩
  have HG : Hid (w.heap.size ≤ gm ∧ b < gm) := ⟨by omega, by have := HM.out.lt; omega⟩
  have Y : Hid (PMap W0 gm 0 (fun _ => False) ∧ PMap W0 b n Q ∧ Below w.heap.size w W0) := by rw [hgm]; exact hI
  rw [← hgm]
  clear hI hgm HM
  go_wp2_with (first
    | (at_range; refine wpList_range_past _ rfl _ rfl b n Q rfl Y.out.2.1 ?_; intro w0 D cnt0 hrg0 hcn hg0 hs0)
    | go_in)
  go_frame
  have HS : Hid (PMap w0 gm 0 (fun _ => False) ∧ Below w.heap.size w w0 ∧ PRange w0 b W0.heap.size n Q D (Maps.has D) cnt0 ∧ gm ≠ W0.heap.size ∧ w.heap.size ≤ W0.heap.size) := by
    have hb : Below W0.heap.size W0 w0 := (Below.refl _ _).grown hg0 (Nat.le_refl _) (fun j hj => by cases hj)
    exact ⟨Y.out.1.next hb, Y.out.2.2.trans (hb.mono Y.out.2.2.size), hrg0, by have := Y.out.1.lt; omega, Y.out.2.2.size⟩
  have HC : Hid (cnt0 ≤ n) := hcn
  clear hg0 hs0 Y hrg0 hcn
  generalize W0.heap.size = r at *
  go_loopw [7] (fun _ wr => ∃ (left : Lit → Bool) (cnt : Nat), cnt ≤ cnt0 ∧ PMap wr gm (cnt0 - cnt) (fun e => Q e ∧ e.key = key ∧ left (dk e.p e.n) = false) ∧ Below w.heap.size w wr ∧ PRange wr b r n Q D left cnt) (fun _ wr => wr.rangeLeft b r)
  case atStart => exact ⟨_, cnt0, Nat.le_refl _, (HS.out.1.more (Nat.zero_le _)).same (fun e => ⟨fun h => h.elim, fun h => by rw [HS.out.2.2.1.past.left_all h.1] at h; exact absurd h.2.2 (by decide)⟩), HS.out.2.1, HS.out.2.2.1⟩
  case round =>
    have HN : Hid (gm ≠ r ∧ w.heap.size ≤ r) := ⟨HS.out.2.2.2.1, HS.out.2.2.2.2⟩
    clear HS
    obtain ⟨left, cnt, hcc0, hM0, hL0, hR0⟩ := hrel
    have Y : Hid (PMap wr gm (cnt0 - cnt) (fun e => Q e ∧ e.key = key ∧ left (dk e.p e.n) = false) ∧ Below w.heap.size w wr ∧ PRange wr b r n Q D left cnt) := ⟨hM0, hL0, hR0⟩
    have HCC : Hid (cnt ≤ cnt0) := hcc0
    clear hM0 hL0 hR0 hcc0
    go_wp2_with (first
      | (at_next; refine wpList_next_past _ rfl _ rfl b r n Q D left cnt rfl Y.out.2.2 ?_ ?_)
      | go_in)
    · intro hl0
      have HF : Hid (PMap wr gm n (fun e => Q e ∧ e.key = key) ∧ Below w.heap.size w wr) := ⟨(Y.out.1.more (by have := HC.out; omega)).same (fun e => ⟨fun h => ⟨h.1, h.2.1⟩, fun h => ⟨h.1, h.2, hl0 _⟩⟩), Y.out.2.1⟩
      clear hl0 Y
      go_wp2
      go_ret
      exact ⟨gm, rfl, HF.out.2, HF.out.1⟩
    · intro m w1 cnt1 hQ hlx hrg1 hlt hg1 hs1 hen
      have HQ : Hid (Q m ∧ left (dk m.p m.n) = true ∧ wfI m.p ∧ wfI m.n) := ⟨hQ, hlx, hrg1.past.wf m hQ⟩
      have HLT : Hid (cnt1 < cnt ∧ wr.rangeLeft b r = cnt) := ⟨hlt, Y.out.2.2.rg.left_eq⟩
      have HST : Hid (∀ e, Q e → ((left (dk e.p e.n) && !(dk e.p e.n).sameKey (dk m.p m.n)) = false ↔ (left (dk e.p e.n) = false ∨ e = m))) := fun e he => hrg1.past.left_step hQ he
      have hb1 : Below w.heap.size w w1 := Y.out.2.1.grown hg1 Y.out.2.1.size (fun j hj => by cases hj; exact HN.out.2)
      have Y1 : Hid (PMap w1 gm (cnt0 - cnt) (fun e => Q e ∧ e.key = key ∧ left (dk e.p e.n) = false) ∧ Below w.heap.size w w1 ∧ PRange w1 b r n Q D (fun z => left z && !z.sameKey (dk m.p m.n)) cnt1) := ⟨Y.out.1.kept hg1 (fun e => HN.out.1 (Option.some.inj e)), hb1, hrg1⟩
      clear hb1 hg1 hs1 hlt hlx hQ Y
      go_upto_region 5 with fail
      refine wp_gen (fun W => Box W w1.heap.size [.int .i64 m.p, .int .i64 m.n] ∧ Box W (w1.heap.size + 1) [.int .i64 m.p, .int .i64 m.n, .int .i64 m.v, .bool m.dead, .string m.key, .int .i64 m.a, .int .i64 m.b, .int .i64 m.c] ∧ Below w1.heap.size w1 W) ⟨?_, ?_, ?_⟩ (fun W2 hI => ?_)
      · exact box_mk.alloc
      · have := box_mk (W := w1.alloc (.cells #[.int .i64 m.p, .int .i64 m.n] 40)) (t := 72) (vs := [.int .i64 m.p, .int .i64 m.n, .int .i64 m.v, .bool m.dead, .string m.key, .int .i64 m.a, .int .i64 m.b, .int .i64 m.c])
        simpa using this
      · exact ((Below.refl _ _).alloc (Nat.le_refl _) _).alloc (by simp) _
      have Y2 : Hid (Box W2 w1.heap.size [.int .i64 m.p, .int .i64 m.n] ∧ Box W2 (w1.heap.size + 1) [.int .i64 m.p, .int .i64 m.n, .int .i64 m.v, .bool m.dead, .string m.key, .int .i64 m.a, .int .i64 m.b, .int .i64 m.c] ∧ PMap W2 gm (cnt0 - cnt) (fun e => Q e ∧ e.key = key ∧ left (dk e.p e.n) = false) ∧ Below w.heap.size w W2 ∧ PRange W2 b r n Q D (fun z => left z && !z.sameKey (dk m.p m.n)) cnt1) := ⟨hI.1, hI.2.1, Y1.out.1.next hI.2.2, Y1.out.2.1.trans (hI.2.2.mono Y1.out.2.1.size), Y1.out.2.2.next hI.2.2⟩
      clear hI Y1 hen hrg1
      generalize w1.heap.size = ge at *
      obtain ⟨b0, b1⟩ := Y2.out.1.c2
      obtain ⟨a0, a1, a2, a3, a4, a5, a6, a7⟩ := Y2.out.2.1.c8
      by_cases hk : m.key = key
      · have HK : Hid (m.key = key) := hk
        have e3 := te_yes hk
        obtain ⟨W3, hrun, hM, hgr⟩ := Y2.out.2.2.1.store (by have := HC.out; unfold maxLen; omega) m HQ.out.2.2.1 HQ.out.2.2.2 (fun f hf he => by
          have := Y2.out.2.2.2.2.past.inj hf.1 HQ.out.1 he.1 he.2
          subst this
          have h2 := hf.2.2
          rw [HQ.out.2.1] at h2
          cases h2)
        have Y3 : Hid (PMap W3 gm (cnt0 - cnt1) (fun e => Q e ∧ e.key = key ∧ (fun z => left z && !z.sameKey (dk m.p m.n)) (dk e.p e.n) = false) ∧ Below w.heap.size w W3 ∧ PRange W3 b r n Q D (fun z => left z && !z.sameKey (dk m.p m.n)) cnt1) := by
          refine ⟨(hM.more (by have := HLT.out.1; have := HCC.out; omega)).same (fun e => ?_), Y2.out.2.2.2.1.grown hgr Y2.out.2.2.2.1.size (fun j hj => by cases hj; exact HG.out.1), Y2.out.2.2.2.2.kept hgr (fun e => by have := Option.some.inj e; have := HG.out.2; omega) (fun e => HN.out.1 (Option.some.inj e).symm)⟩
          constructor
          · rintro (⟨h1, h2, h3⟩ | rfl)
            · exact ⟨h1, h2, (HST.out e h1).2 (.inl h3)⟩
            · exact ⟨HQ.out.1, HK.out, (HST.out e HQ.out.1).2 (.inr rfl)⟩
          · rintro ⟨h1, h2, h3⟩
            rcases (HST.out e h1).1 h3 with h | h
            · exact .inl ⟨h1, h2, h⟩
            · exact .inr h
        clear hM hgr Y2 hk HST
        go_wp2
        go_roundw
        case rel => exact ⟨fun z => left z && !z.sameKey (dk m.p m.n), cnt1, by have := HLT.out.1; have := HCC.out; omega, Y3.out⟩
        case measure => rw [Y3.out.2.2.rg.left_eq, HLT.out.2]; exact HLT.out.1
      · have e3 := te_no hk
        have Y3 : Hid (PMap W2 gm (cnt0 - cnt1) (fun e => Q e ∧ e.key = key ∧ (fun z => left z && !z.sameKey (dk m.p m.n)) (dk e.p e.n) = false) ∧ Below w.heap.size w W2 ∧ PRange W2 b r n Q D (fun z => left z && !z.sameKey (dk m.p m.n)) cnt1) := by
          refine ⟨(Y2.out.2.2.1.more (by have := HLT.out.1; have := HCC.out; omega)).same (fun e => ?_), Y2.out.2.2.2.1, Y2.out.2.2.2.2⟩
          constructor
          · rintro ⟨h1, h2, h3⟩
            exact ⟨h1, h2, (HST.out e h1).2 (.inl h3)⟩
          · rintro ⟨h1, h2, h3⟩
            rcases (HST.out e h1).1 h3 with h | rfl
            · exact ⟨h1, h2, h⟩
            · exact (hk h2).elim
        clear Y2 hk HST
        go_wp2
        go_roundw
        case rel => exact ⟨fun z => left z && !z.sameKey (dk m.p m.n), cnt1, by have := HLT.out.1; have := HCC.out; omega, Y3.out⟩
        case measure => rw [Y3.out.2.2.rg.left_eq, HLT.out.2]; exact HLT.out.1
end Go.Proofs.YtkdbcmkmcjaenaaGreatDoor
