/- l03Sibling: a sibling's text. -/
import Derived.Test.YtodjbkeljfnebaaRows
import Derived.WalkKit
import Derived.WalkSpells
import Derived.WalkLawsBesides
import Derived.Deep.QuietTactic
import Derived.BigQuiet
import Derived.Deep.RegionHeld3
import Derived.Test.YtodjbkeljfnebaaCu
import Derived.Test.YtodjbkeljfnebaaRs
import Derived.LoopN
namespace Go.Proofs.Ytodjbkeljfnebaa
open Go.RowKit
set_option linter.unusedSimpArgs false
set_option linter.unusedVariables false

theorem bel_s4' {w W : World} {u0 u1 u2 u3 : Value} (h : Below w.heap.size w W) : Below w.heap.size w ((((W.setCell ⟨w.heap.size, 0, none⟩ u0).setCell ⟨w.heap.size, 1, none⟩ u1).setCell ⟨w.heap.size, 2, none⟩ u2).setCell ⟨w.heap.size, 3, none⟩ u3) :=
  (((h.setCell (by simp) _).setCell (by simp) _).setCell (by simp) _).setCell (by simp) _
theorem num_last {b : List UInt8} (h : Num b) : ∀ q, b ≠ q ++ [33] := fun q e => by
  have := num_free h 33 (by decide) 33 (by rw [e]; simp)
  exact this rfl
/-- A text with ! at its end. -/
theorem sibS_dead {C : List UInt8} {x : Sib} : SibS (C ++ [33]) x ↔ tdR C ∧ x = ⟨(tdV C).1, (tdV C).2, 0, true⟩ := by
  constructor
  · rintro (⟨D, e, h, hx⟩ | ⟨a, b, e, h, ⟨hn, _⟩, hx⟩)
    · have := List.append_inj_left' e rfl
      subst this
      exact ⟨h, hx⟩
    · exfalso
      rcases List.eq_nil_or_concat b with rfl | ⟨q, d, rfl⟩
      · exact hn.1 rfl
      · rw [List.concat_eq_append] at hn e
        have e2 : C ++ [33] = (a ++ 61 :: q) ++ [d] := by rw [e]; simp
        have := (List.append_inj' e2 rfl).2
        simp only [List.cons.injEq, and_true] at this
        subst this
        exact num_last hn q rfl
  · rintro ⟨h, rfl⟩
    exact .inl ⟨C, rfl, h, rfl⟩
theorem sibS_two {l a b : List UInt8} (h : cutL 61 l = [a, b]) (hl : ∀ q, l ≠ q ++ [33]) {x : Sib} : SibS l x ↔ (tdR a ∧ (Num b ∧ b.length ≤ 18)) ∧ x = ⟨(tdV a).1, (tdV a).2, nv b, false⟩ := by
  constructor
  · rintro (⟨D, e, _, _⟩ | ⟨a', b', e, h1, h2, hx⟩)
    · exact absurd e (hl D)
    · rw [e, cutL_app 61 a' b' (tdR_free h1 61 (by decide) (by decide)), cutL_none 61 b' (num_free h2.1 61 (by decide))] at h
      simp only [List.cons.injEq, and_true] at h
      obtain ⟨rfl, rfl⟩ := h
      exact ⟨⟨h1, h2⟩, hx⟩
  · rintro ⟨⟨h1, h2⟩, hx⟩
    refine .inr ⟨a, b, ?_, h1, h2, hx⟩
    rw [← glue_cut 61 l, h]
    rfl
theorem sibS_not {l : List UInt8} (h : ¬ (cutL 61 l).length = 2) (hl : ∀ q, l ≠ q ++ [33]) {x : Sib} : ¬ SibS l x := by
  rintro (⟨D, e, _, _⟩ | ⟨a', b', e, h1, h2, hx⟩)
  · exact hl D e
  · rw [e, cutL_app 61 a' b' (tdR_free h1 61 (by decide) (by decide)), cutL_none 61 b' (num_free h2.1 61 (by decide))] at h
    exact h rfl
/-- What l03Sibling answers. -/
def LsP (w : World) (s : ByteArray) (e : Ending) (w' : World) : Prop :=
  ∃ (ok : Bool) (x : Sib), e = .returned (.tuple #[.agg #[.int .i64 x.p, .int .i64 x.n, .int .i64 x.v, .bool x.d], .bool ok]) ∧ (ok = true → SibS (bl s) x) ∧ (ok = false → ∀ x', ¬ SibS (bl s) x') ∧ Below w.heap.size w w'
set_option maxHeartbeats 4000000 in
theorem sibling_any (s : ByteArray) (w : World) (hs : s.size ≤ 1048576) :
    Calls Try.prog 55 #[.string s] w fun e w' => LsP w s e w' := by
  by_cases hD : ∃ h : 0 < s.size, (s[s.size - 1]'(by omega)).toNat = 33
  · obtain ⟨hs0, hc⟩ := hD
    have e0 : bl s = bl (s.extract 0 (s.size - 1)) ++ [33] := by
      rw [ex_bl s 0 (s.size - 1) (by omega) (by omega)]
      have h1 := (List.take_append_drop (s.size - 1) (bl s)).symm
      rw [bl_drop s (s.size - 1) (by omega), show s.size - 1 + 1 = s.size by omega, List.drop_eq_nil_of_le (by rw [bl_len]; omega)] at h1
      rw [h1]
      have : s[s.size - 1] = 33 := UInt8.toNat_inj.1 (by simpa using hc)
      simp [this, bl_len]
    have hsz : (s.extract 0 (s.size - 1)).size ≤ 1048576 := by rw [ex_size s 0 _ (by omega) (by omega)]; omega
    have hE := empty_no s hs0
    have k1 : (s.size : Int) - 1 = ((s.size - 1 : Nat) : Int) := by omega
    obtain ⟨n, hn⟩ : ∃ n : Nat, s.size - 1 = n := ⟨_, rfl⟩
    rw [hn] at k1 hsz e0
    have k2 : IntKind.i64.wrap (n : Int) = n := by rw [IntKind.wrap_i64]; omega
    have k3 : n < s.size := by omega
    have k4 : ∀ h : n < s.size, ((s[n]'h).toNat : Int) = 33 := fun h => by subst hn; exact_mod_cast hc
    have k5 : (n : Int) ≤ (s.size : Int) := by omega
    have k6 : (0 : Int) ≤ (n : Int) := by omega
    have k7 : (n : Int) < (s.size : Int) := by omega
    clear hc hn
    by_cases h : tdR (bl (s.extract 0 n))
    · obtain ⟨a, ha⟩ : ∃ a, a = (tdV (bl (s.extract 0 n))).1 := ⟨_, rfl⟩
      obtain ⟨b, hb⟩ : ∃ b, b = (tdV (bl (s.extract 0 n))).2 := ⟨_, rfl⟩
      have HT : Hid (∀ W : World, Calls Try.prog 68 #[.string (s.extract 0 n)] W fun e w' => e = .returned (.tuple #[.agg #[.int .i64 a, .int .i64 b], .bool true]) ∧ Below W.heap.size W w') := fun W => by rw [ha, hb]; exact toDot_yes _ W hsz h
      have HY : Hid (SibS (bl s) ⟨a, b, 0, true⟩) := by show SibS _ _;  rw [e0, ha, hb]; exact sibS_dead.2 ⟨h, rfl⟩
      clear ha hb e0 h
      go_enter Try.func55, Try.ntmps55
      go_wp2_with fail
      refine (HT.out _).mono ?_
      rintro e w1 ⟨rfl, hb⟩
      have HB : Hid (Below w.heap.size w w1) := (bel_alloc _ _).trans (hb.mono (by simp))
      have r0 := cell_next hb (b := w.heap.size) (o := 0) (v := .int .i64 0) (by go_simp) (by simp)
      have q0 := frozen_next hb (b := w.heap.size) (o := 0) (by go_simp) (by simp)
      have r1 := cell_next hb (b := w.heap.size) (o := 1) (v := .int .i64 0) (by go_simp) (by simp)
      have q1 := frozen_next hb (b := w.heap.size) (o := 1) (by go_simp) (by simp)
      have r2 := cell_next hb (b := w.heap.size) (o := 2) (v := .int .i64 0) (by go_simp) (by simp)
      have q2 := frozen_next hb (b := w.heap.size) (o := 2) (by go_simp) (by simp)
      have r3 := cell_next hb (b := w.heap.size) (o := 3) (v := .bool false) (by go_simp) (by simp)
      have q3 := frozen_next hb (b := w.heap.size) (o := 3) (by go_simp) (by simp)
      have hz : w.heap.size < w1.heap.size := by have := hb.size; simp at this; omega
      clear hb HT
      go_wp2
      exact bodyPost_ret (v := .tuple #[.agg #[.int .i64 a, .int .i64 b, .int .i64 0, .bool true], .bool true]) (by simp [results, Try.results55, go_sem, r0, r1, r2, r3, q0, q1, q2, q3, hz]) rfl ⟨true, ⟨a, b, 0, true⟩, rfl, (fun _ => HY.out), (fun h => by cases h), (bel_s4' HB.out).alloc (by simpa [World.setCell] using Nat.le_of_lt hz) _⟩
    · have HT : Hid (∀ W : World, Calls Try.prog 68 #[.string (s.extract 0 n)] W fun e w' => e = .returned (.tuple #[.agg #[.int .i64 0, .int .i64 0], .bool false]) ∧ Below W.heap.size W w') := fun W => toDot_no _ W hsz h
      have HN : Hid (∀ x', ¬ SibS (bl s) x') := fun x' hx => h (by rw [e0] at hx; exact (sibS_dead.1 hx).1)
      clear e0 h
      go_enter Try.func55, Try.ntmps55
      go_wp2_with fail
      refine (HT.out _).mono ?_
      rintro e w1 ⟨rfl, hb⟩
      have HB : Hid (Below w.heap.size w w1) := (bel_alloc _ _).trans (hb.mono (by simp))
      have r0 := cell_next hb (b := w.heap.size) (o := 0) (v := .int .i64 0) (by go_simp) (by simp)
      have q0 := frozen_next hb (b := w.heap.size) (o := 0) (by go_simp) (by simp)
      have r1 := cell_next hb (b := w.heap.size) (o := 1) (v := .int .i64 0) (by go_simp) (by simp)
      have q1 := frozen_next hb (b := w.heap.size) (o := 1) (by go_simp) (by simp)
      have r2 := cell_next hb (b := w.heap.size) (o := 2) (v := .int .i64 0) (by go_simp) (by simp)
      have q2 := frozen_next hb (b := w.heap.size) (o := 2) (by go_simp) (by simp)
      have r3 := cell_next hb (b := w.heap.size) (o := 3) (v := .bool false) (by go_simp) (by simp)
      have q3 := frozen_next hb (b := w.heap.size) (o := 3) (by go_simp) (by simp)
      have hz : w.heap.size < w1.heap.size := by have := hb.size; simp at this; omega
      clear hb HT
      go_wp2
      exact bodyPost_ret (v := .tuple #[.agg #[.int .i64 0, .int .i64 0, .int .i64 0, .bool true], .bool false]) (by simp [results, Try.results55, go_sem, r0, r1, r2, r3, q0, q1, q2, q3, hz]) rfl ⟨false, ⟨0, 0, 0, true⟩, rfl, (fun h => by cases h), (fun _ => HN.out), (bel_s4' HB.out).alloc (by simpa [World.setCell] using Nat.le_of_lt hz) _⟩
  · have HL : Hid (∀ q, bl s ≠ q ++ [33]) := fun q e => by
      have hl := bl_len s
      rw [e] at hl
      simp at hl
      refine hD ⟨by omega, ?_⟩
      have h1 := bl_drop s (s.size - 1) (by omega)
      rw [e, List.drop_left' (by omega)] at h1
      simp only [List.cons.injEq] at h1
      rw [← h1.1]
      rfl
    have CT : Hid (∀ W : World, Calls Try.prog 53 #[.string s, .int .u8 61] W fun e w' => CutP W s 61 e w') := fun W => cut_any s 61 W hs (by omega)
    have key : ∀ (Q : Prop), ((s.size = 0) → Q) → ((h : 0 < s.size) → (¬ (s[s.size - 1]'(by omega)).toNat = 33) → Q) → Q := fun Q h1 h2 => by
      rcases Nat.eq_zero_or_pos s.size with e | e
      · exact h1 e
      · exact h2 e (fun h => hD ⟨e, h⟩)
    clear hD
    have MAIN : ∀ w1 : World, True := fun _ => trivial
    refine key _ (fun h0 => ?_) (fun hs0 hc => ?_)
    · have hE := empty_yes s h0
      clear key MAIN
      go_enter Try.func55, Try.ntmps55
      go_wp2_with fail
      refine (CT.out _).mono ?_
      rintro e w1 ⟨g, cap, ps, rfl, hPS, hSZ, hC, hb⟩
      have HB : Hid (Below w.heap.size w w1) := (bel_alloc _ _).trans (hb.mono (by simp))
      have r0 := cell_next hb (b := w.heap.size) (o := 0) (v := .int .i64 0) (by go_simp) (by simp)
      have q0 := frozen_next hb (b := w.heap.size) (o := 0) (by go_simp) (by simp)
      have r1 := cell_next hb (b := w.heap.size) (o := 1) (v := .int .i64 0) (by go_simp) (by simp)
      have q1 := frozen_next hb (b := w.heap.size) (o := 1) (by go_simp) (by simp)
      have r2 := cell_next hb (b := w.heap.size) (o := 2) (v := .int .i64 0) (by go_simp) (by simp)
      have q2 := frozen_next hb (b := w.heap.size) (o := 2) (by go_simp) (by simp)
      have r3 := cell_next hb (b := w.heap.size) (o := 3) (v := .bool false) (by go_simp) (by simp)
      have q3 := frozen_next hb (b := w.heap.size) (o := 3) (by go_simp) (by simp)
      have hz : w.heap.size < w1.heap.size := by have := hb.size; simp at this; omega
      clear hb CT
      by_cases h2 : ps.length = 2
      · obtain ⟨p0, p1, rfl⟩ : ∃ p0 p1, ps = [p0, p1] := by
          match ps, h2 with
          | [a, b], _ => exact ⟨a, b, rfl⟩
        have k0 := hC 0 (by simp)
        have K1 : Hid _ := hC 1 (by simp)
        simp only [List.getElem_cons_zero, List.getElem_cons_succ] at k0 K1
        have z0 : p0.size ≤ 1048576 := by have := hSZ p0 (by simp); omega
        have z1 : p1.size ≤ 1048576 := by have := hSZ p1 (by simp); omega
        have G1 : Hid (g < w1.heap.size) := World.block_lt_of_cell? w1 ⟨g, 0, none⟩ k0
        have HP : Hid (cutL 61 (bl s) = [bl p0, bl p1]) := hPS.symm
        clear hC hSZ hPS h2
        simp only [List.length_cons, List.length_nil, Nat.zero_add]
        go_wp2_with fail
        have K0 : Hid True := trivial
        clear k0
        by_cases hd : tdR (bl p0)
        · obtain ⟨a, ha⟩ : ∃ a, a = (tdV (bl p0)).1 := ⟨_, rfl⟩
          obtain ⟨b, hb⟩ : ∃ b, b = (tdV (bl p0)).2 := ⟨_, rfl⟩
          have HTD : Hid (∀ W : World, Calls Try.prog 68 #[.string p0] W fun e w' => e = .returned (.tuple #[.agg #[.int .i64 a, .int .i64 b], .bool true]) ∧ Below W.heap.size W w') := fun W => by rw [ha, hb]; exact toDot_yes _ W z0 hd
          by_cases hn : Num (bl p1) ∧ (bl p1).length ≤ 18
          · obtain ⟨v, hv⟩ : ∃ v, v = nv (bl p1) := ⟨_, rfl⟩
            have HTN : Hid (∀ W : World, Calls Try.prog 67 #[.string p1] W fun e w' => e = .returned (.tuple #[.int .i64 v, .bool true]) ∧ Below W.heap.size W w') := fun W => by rw [hv]; exact l03num_yes _ W z1 hn
            have HY : Hid (SibS (bl s) ⟨a, b, v, false⟩) := by show SibS _ _;  rw [ha, hb, hv]; exact (sibS_two HP.out HL.out).2 ⟨⟨hd, hn⟩, rfl⟩
            clear ha hb hv hd hn HP HL
            
            refine (HTD.out _).mono ?_
            rintro e w2 ⟨rfl, hb⟩
            have k1 := cell_next hb K1.out G1.out
            replace HB := bel_next HB hb
            replace r0 := cell_next hb (r0) (by first | omega | (simp; omega))
            replace q0 := frozen_next hb (q0) (by first | omega | (simp; omega))
            replace r1 := cell_next hb (r1) (by first | omega | (simp; omega))
            replace q1 := frozen_next hb (q1) (by first | omega | (simp; omega))
            replace r2 := cell_next hb (r2) (by first | omega | (simp; omega))
            replace q2 := frozen_next hb (q2) (by first | omega | (simp; omega))
            replace r3 := cell_next hb (r3) (by first | omega | (simp; omega))
            replace q3 := frozen_next hb (q3) (by first | omega | (simp; omega))
            replace hz := Nat.lt_of_lt_of_le hz hb.size
            clear hb HTD K0 K1
            have hg2 := World.block_lt_of_cell? _ ⟨g, 1, none⟩ k1
            have k1' : ∀ o, (w2.alloc o).cell? ⟨g, 1, none⟩ = some (.string p1) := fun o => box_a k1 hg2
            clear hg2
            go_wp2_with fail
            clear k1 k1'
            refine (HTN.out _).mono ?_
            rintro e w3 ⟨rfl, hb⟩
            have d0 := cell_next hb (b := w2.heap.size) (o := 0) (v := .int .i64 a) (by go_simp) (by simp)
            have d1 := cell_next hb (b := w2.heap.size) (o := 1) (v := .int .i64 b) (by go_simp) (by simp)
            replace HB := bel_next (bel_next HB (bel_alloc _ _)) hb
            replace r0 := cell_next hb (box_a r0 hz) (by first | omega | (simp; omega))
            replace q0 := frozen_next hb (froz_a q0 hz) (by first | omega | (simp; omega))
            replace r1 := cell_next hb (box_a r1 hz) (by first | omega | (simp; omega))
            replace q1 := frozen_next hb (froz_a q1 hz) (by first | omega | (simp; omega))
            replace r2 := cell_next hb (box_a r2 hz) (by first | omega | (simp; omega))
            replace q2 := frozen_next hb (froz_a q2 hz) (by first | omega | (simp; omega))
            replace r3 := cell_next hb (box_a r3 hz) (by first | omega | (simp; omega))
            replace q3 := frozen_next hb (froz_a q3 hz) (by first | omega | (simp; omega))
            clear hb HTN
            go_wp2
            exact bodyPost_ret (v := .tuple #[.agg #[.int .i64 a, .int .i64 b, .int .i64 v, .bool false], .bool true]) (by simp [results, Try.results55, go_sem, r0, r1, r2, r3, q0, q1, q2, q3, hz]) rfl ⟨true, ⟨a, b, v, false⟩, rfl, (fun _ => HY.out), (fun h => by cases h), bel_s4' HB.out⟩
          · have HTN : Hid (∀ W : World, Calls Try.prog 67 #[.string p1] W fun e w' => N3P W e w') := fun W => l03num_no _ W z1 hn
            have HN : Hid (∀ x', ¬ SibS (bl s) x') := fun x' hx => hn ((sibS_two HP.out HL.out).1 hx).1.2
            clear ha hb hd hn HP HL
            
            refine (HTD.out _).mono ?_
            rintro e w2 ⟨rfl, hb⟩
            have k1 := cell_next hb K1.out G1.out
            replace HB := bel_next HB hb
            replace r0 := cell_next hb (r0) (by first | omega | (simp; omega))
            replace q0 := frozen_next hb (q0) (by first | omega | (simp; omega))
            replace r1 := cell_next hb (r1) (by first | omega | (simp; omega))
            replace q1 := frozen_next hb (q1) (by first | omega | (simp; omega))
            replace r2 := cell_next hb (r2) (by first | omega | (simp; omega))
            replace q2 := frozen_next hb (q2) (by first | omega | (simp; omega))
            replace r3 := cell_next hb (r3) (by first | omega | (simp; omega))
            replace q3 := frozen_next hb (q3) (by first | omega | (simp; omega))
            replace hz := Nat.lt_of_lt_of_le hz hb.size
            clear hb HTD K0 K1
            have hg2 := World.block_lt_of_cell? _ ⟨g, 1, none⟩ k1
            have k1' : ∀ o, (w2.alloc o).cell? ⟨g, 1, none⟩ = some (.string p1) := fun o => box_a k1 hg2
            clear hg2
            go_wp2_with fail
            clear k1 k1'
            refine (HTN.out _).mono ?_
            rintro e w3 ⟨v, rfl, hb⟩
            have d0 := cell_next hb (b := w2.heap.size) (o := 0) (v := .int .i64 a) (by go_simp) (by simp)
            have d1 := cell_next hb (b := w2.heap.size) (o := 1) (v := .int .i64 b) (by go_simp) (by simp)
            replace HB := bel_next (bel_next HB (bel_alloc _ _)) hb
            replace r0 := cell_next hb (box_a r0 hz) (by first | omega | (simp; omega))
            replace q0 := frozen_next hb (froz_a q0 hz) (by first | omega | (simp; omega))
            replace r1 := cell_next hb (box_a r1 hz) (by first | omega | (simp; omega))
            replace q1 := frozen_next hb (froz_a q1 hz) (by first | omega | (simp; omega))
            replace r2 := cell_next hb (box_a r2 hz) (by first | omega | (simp; omega))
            replace q2 := frozen_next hb (froz_a q2 hz) (by first | omega | (simp; omega))
            replace r3 := cell_next hb (box_a r3 hz) (by first | omega | (simp; omega))
            replace q3 := frozen_next hb (froz_a q3 hz) (by first | omega | (simp; omega))
            clear hb HTN
            go_wp2
            exact bodyPost_ret (v := .tuple #[.agg #[.int .i64 a, .int .i64 b, .int .i64 v, .bool false], .bool false]) (by simp [results, Try.results55, go_sem, r0, r1, r2, r3, q0, q1, q2, q3, hz]) rfl ⟨false, ⟨a, b, v, false⟩, rfl, (fun h => by cases h), (fun _ => HN.out), bel_s4' HB.out⟩
        · have HTD : Hid (∀ W : World, Calls Try.prog 68 #[.string p0] W fun e w' => e = .returned (.tuple #[.agg #[.int .i64 0, .int .i64 0], .bool false]) ∧ Below W.heap.size W w') := fun W => toDot_no _ W z0 hd
          have HN : Hid (∀ x', ¬ SibS (bl s) x') := fun x' hx => hd ((sibS_two HP.out HL.out).1 hx).1.1
          by_cases hn : Num (bl p1) ∧ (bl p1).length ≤ 18
          · obtain ⟨v, hv⟩ : ∃ v, v = nv (bl p1) := ⟨_, rfl⟩
            have HTN : Hid (∀ W : World, Calls Try.prog 67 #[.string p1] W fun e w' => e = .returned (.tuple #[.int .i64 v, .bool true]) ∧ Below W.heap.size W w') := fun W => by rw [hv]; exact l03num_yes _ W z1 hn
            clear hv hd hn HP HL
            
            refine (HTD.out _).mono ?_
            rintro e w2 ⟨rfl, hb⟩
            have k1 := cell_next hb K1.out G1.out
            replace HB := bel_next HB hb
            replace r0 := cell_next hb (r0) (by first | omega | (simp; omega))
            replace q0 := frozen_next hb (q0) (by first | omega | (simp; omega))
            replace r1 := cell_next hb (r1) (by first | omega | (simp; omega))
            replace q1 := frozen_next hb (q1) (by first | omega | (simp; omega))
            replace r2 := cell_next hb (r2) (by first | omega | (simp; omega))
            replace q2 := frozen_next hb (q2) (by first | omega | (simp; omega))
            replace r3 := cell_next hb (r3) (by first | omega | (simp; omega))
            replace q3 := frozen_next hb (q3) (by first | omega | (simp; omega))
            replace hz := Nat.lt_of_lt_of_le hz hb.size
            clear hb HTD K0 K1
            have hg2 := World.block_lt_of_cell? _ ⟨g, 1, none⟩ k1
            have k1' : ∀ o, (w2.alloc o).cell? ⟨g, 1, none⟩ = some (.string p1) := fun o => box_a k1 hg2
            clear hg2
            go_wp2_with fail
            clear k1 k1'
            refine (HTN.out _).mono ?_
            rintro e w3 ⟨rfl, hb⟩
            have d0 := cell_next hb (b := w2.heap.size) (o := 0) (v := .int .i64 0) (by go_simp) (by simp)
            have d1 := cell_next hb (b := w2.heap.size) (o := 1) (v := .int .i64 0) (by go_simp) (by simp)
            replace HB := bel_next (bel_next HB (bel_alloc _ _)) hb
            replace r0 := cell_next hb (box_a r0 hz) (by first | omega | (simp; omega))
            replace q0 := frozen_next hb (froz_a q0 hz) (by first | omega | (simp; omega))
            replace r1 := cell_next hb (box_a r1 hz) (by first | omega | (simp; omega))
            replace q1 := frozen_next hb (froz_a q1 hz) (by first | omega | (simp; omega))
            replace r2 := cell_next hb (box_a r2 hz) (by first | omega | (simp; omega))
            replace q2 := frozen_next hb (froz_a q2 hz) (by first | omega | (simp; omega))
            replace r3 := cell_next hb (box_a r3 hz) (by first | omega | (simp; omega))
            replace q3 := frozen_next hb (froz_a q3 hz) (by first | omega | (simp; omega))
            clear hb HTN
            go_wp2
            exact bodyPost_ret (v := .tuple #[.agg #[.int .i64 0, .int .i64 0, .int .i64 v, .bool false], .bool false]) (by simp [results, Try.results55, go_sem, r0, r1, r2, r3, q0, q1, q2, q3, hz]) rfl ⟨false, ⟨0, 0, v, false⟩, rfl, (fun h => by cases h), (fun _ => HN.out), bel_s4' HB.out⟩
          · have HTN : Hid (∀ W : World, Calls Try.prog 67 #[.string p1] W fun e w' => N3P W e w') := fun W => l03num_no _ W z1 hn
            clear hd hn HP HL
            
            refine (HTD.out _).mono ?_
            rintro e w2 ⟨rfl, hb⟩
            have k1 := cell_next hb K1.out G1.out
            replace HB := bel_next HB hb
            replace r0 := cell_next hb (r0) (by first | omega | (simp; omega))
            replace q0 := frozen_next hb (q0) (by first | omega | (simp; omega))
            replace r1 := cell_next hb (r1) (by first | omega | (simp; omega))
            replace q1 := frozen_next hb (q1) (by first | omega | (simp; omega))
            replace r2 := cell_next hb (r2) (by first | omega | (simp; omega))
            replace q2 := frozen_next hb (q2) (by first | omega | (simp; omega))
            replace r3 := cell_next hb (r3) (by first | omega | (simp; omega))
            replace q3 := frozen_next hb (q3) (by first | omega | (simp; omega))
            replace hz := Nat.lt_of_lt_of_le hz hb.size
            clear hb HTD K0 K1
            have hg2 := World.block_lt_of_cell? _ ⟨g, 1, none⟩ k1
            have k1' : ∀ o, (w2.alloc o).cell? ⟨g, 1, none⟩ = some (.string p1) := fun o => box_a k1 hg2
            clear hg2
            go_wp2_with fail
            clear k1 k1'
            refine (HTN.out _).mono ?_
            rintro e w3 ⟨v, rfl, hb⟩
            have d0 := cell_next hb (b := w2.heap.size) (o := 0) (v := .int .i64 0) (by go_simp) (by simp)
            have d1 := cell_next hb (b := w2.heap.size) (o := 1) (v := .int .i64 0) (by go_simp) (by simp)
            replace HB := bel_next (bel_next HB (bel_alloc _ _)) hb
            replace r0 := cell_next hb (box_a r0 hz) (by first | omega | (simp; omega))
            replace q0 := frozen_next hb (froz_a q0 hz) (by first | omega | (simp; omega))
            replace r1 := cell_next hb (box_a r1 hz) (by first | omega | (simp; omega))
            replace q1 := frozen_next hb (froz_a q1 hz) (by first | omega | (simp; omega))
            replace r2 := cell_next hb (box_a r2 hz) (by first | omega | (simp; omega))
            replace q2 := frozen_next hb (froz_a q2 hz) (by first | omega | (simp; omega))
            replace r3 := cell_next hb (box_a r3 hz) (by first | omega | (simp; omega))
            replace q3 := frozen_next hb (froz_a q3 hz) (by first | omega | (simp; omega))
            clear hb HTN
            go_wp2
            exact bodyPost_ret (v := .tuple #[.agg #[.int .i64 0, .int .i64 0, .int .i64 v, .bool false], .bool false]) (by simp [results, Try.results55, go_sem, r0, r1, r2, r3, q0, q1, q2, q3, hz]) rfl ⟨false, ⟨0, 0, v, false⟩, rfl, (fun h => by cases h), (fun _ => HN.out), bel_s4' HB.out⟩
      · have h9 : (cutL 61 (bl s)).length = ps.length := by
          have := congrArg List.length hPS
          rw [List.length_map] at this
          exact this.symm
        have HN : Hid (∀ x', ¬ SibS (bl s) x') := fun x' => sibS_not (by rw [h9]; exact h2) HL.out
        clear h9
        have h2' : ¬ (ps.length : Int) = 2 := by omega
        clear hC hSZ hPS HL h2
        go_wp2
        exact bodyPost_ret (v := .tuple #[.agg #[.int .i64 0, .int .i64 0, .int .i64 0, .bool false], .bool false]) (by simp [results, Try.results55, go_sem, r0, r1, r2, r3, q0, q1, q2, q3, hz]) rfl ⟨false, ⟨0, 0, 0, false⟩, rfl, (fun h => by cases h), fun _ => HN.out, bel_s4' HB.out⟩
    · have hE := empty_no s hs0
      have k1 : (s.size : Int) - 1 = ((s.size - 1 : Nat) : Int) := by omega
      obtain ⟨n, hn⟩ : ∃ n : Nat, s.size - 1 = n := ⟨_, rfl⟩
      rw [hn] at k1
      have k2 : IntKind.i64.wrap (n : Int) = n := by rw [IntKind.wrap_i64]; omega
      have k3 : n < s.size := by omega
      obtain ⟨c, hcc⟩ : ∃ c : Nat, c = (s[n]'k3).toNat := ⟨_, rfl⟩
      have k4 : ∀ h : n < s.size, ((s[n]'h).toNat : Int) = (c : Int) := fun h => by rw [hcc]
      have k5 : ¬ (c : Int) = 33 := fun h => hc (by subst hn; rw [← hcc]; exact_mod_cast h)
      have k6 : (0 : Int) ≤ (n : Int) := by omega
      have k7 : (n : Int) < (s.size : Int) := by omega
      clear hc hn hcc key MAIN
      go_enter Try.func55, Try.ntmps55
      go_wp2_with fail
      refine (CT.out _).mono ?_
      rintro e w1 ⟨g, cap, ps, rfl, hPS, hSZ, hC, hb⟩
      have HB : Hid (Below w.heap.size w w1) := (bel_alloc _ _).trans (hb.mono (by simp))
      have r0 := cell_next hb (b := w.heap.size) (o := 0) (v := .int .i64 0) (by go_simp) (by simp)
      have q0 := frozen_next hb (b := w.heap.size) (o := 0) (by go_simp) (by simp)
      have r1 := cell_next hb (b := w.heap.size) (o := 1) (v := .int .i64 0) (by go_simp) (by simp)
      have q1 := frozen_next hb (b := w.heap.size) (o := 1) (by go_simp) (by simp)
      have r2 := cell_next hb (b := w.heap.size) (o := 2) (v := .int .i64 0) (by go_simp) (by simp)
      have q2 := frozen_next hb (b := w.heap.size) (o := 2) (by go_simp) (by simp)
      have r3 := cell_next hb (b := w.heap.size) (o := 3) (v := .bool false) (by go_simp) (by simp)
      have q3 := frozen_next hb (b := w.heap.size) (o := 3) (by go_simp) (by simp)
      have hz : w.heap.size < w1.heap.size := by have := hb.size; simp at this; omega
      clear hb CT
      by_cases h2 : ps.length = 2
      · obtain ⟨p0, p1, rfl⟩ : ∃ p0 p1, ps = [p0, p1] := by
          match ps, h2 with
          | [a, b], _ => exact ⟨a, b, rfl⟩
        have k0 := hC 0 (by simp)
        have K1 : Hid _ := hC 1 (by simp)
        simp only [List.getElem_cons_zero, List.getElem_cons_succ] at k0 K1
        have z0 : p0.size ≤ 1048576 := by have := hSZ p0 (by simp); omega
        have z1 : p1.size ≤ 1048576 := by have := hSZ p1 (by simp); omega
        have G1 : Hid (g < w1.heap.size) := World.block_lt_of_cell? w1 ⟨g, 0, none⟩ k0
        have HP : Hid (cutL 61 (bl s) = [bl p0, bl p1]) := hPS.symm
        clear hC hSZ hPS h2
        simp only [List.length_cons, List.length_nil, Nat.zero_add]
        go_wp2_with fail
        have K0 : Hid True := trivial
        clear k0
        by_cases hd : tdR (bl p0)
        · obtain ⟨a, ha⟩ : ∃ a, a = (tdV (bl p0)).1 := ⟨_, rfl⟩
          obtain ⟨b, hb⟩ : ∃ b, b = (tdV (bl p0)).2 := ⟨_, rfl⟩
          have HTD : Hid (∀ W : World, Calls Try.prog 68 #[.string p0] W fun e w' => e = .returned (.tuple #[.agg #[.int .i64 a, .int .i64 b], .bool true]) ∧ Below W.heap.size W w') := fun W => by rw [ha, hb]; exact toDot_yes _ W z0 hd
          by_cases hn : Num (bl p1) ∧ (bl p1).length ≤ 18
          · obtain ⟨v, hv⟩ : ∃ v, v = nv (bl p1) := ⟨_, rfl⟩
            have HTN : Hid (∀ W : World, Calls Try.prog 67 #[.string p1] W fun e w' => e = .returned (.tuple #[.int .i64 v, .bool true]) ∧ Below W.heap.size W w') := fun W => by rw [hv]; exact l03num_yes _ W z1 hn
            have HY : Hid (SibS (bl s) ⟨a, b, v, false⟩) := by show SibS _ _;  rw [ha, hb, hv]; exact (sibS_two HP.out HL.out).2 ⟨⟨hd, hn⟩, rfl⟩
            clear ha hb hv hd hn HP HL
            
            refine (HTD.out _).mono ?_
            rintro e w2 ⟨rfl, hb⟩
            have k1 := cell_next hb K1.out G1.out
            replace HB := bel_next HB hb
            replace r0 := cell_next hb (r0) (by first | omega | (simp; omega))
            replace q0 := frozen_next hb (q0) (by first | omega | (simp; omega))
            replace r1 := cell_next hb (r1) (by first | omega | (simp; omega))
            replace q1 := frozen_next hb (q1) (by first | omega | (simp; omega))
            replace r2 := cell_next hb (r2) (by first | omega | (simp; omega))
            replace q2 := frozen_next hb (q2) (by first | omega | (simp; omega))
            replace r3 := cell_next hb (r3) (by first | omega | (simp; omega))
            replace q3 := frozen_next hb (q3) (by first | omega | (simp; omega))
            replace hz := Nat.lt_of_lt_of_le hz hb.size
            clear hb HTD K0 K1
            have hg2 := World.block_lt_of_cell? _ ⟨g, 1, none⟩ k1
            have k1' : ∀ o, (w2.alloc o).cell? ⟨g, 1, none⟩ = some (.string p1) := fun o => box_a k1 hg2
            clear hg2
            go_wp2_with fail
            clear k1 k1'
            refine (HTN.out _).mono ?_
            rintro e w3 ⟨rfl, hb⟩
            have d0 := cell_next hb (b := w2.heap.size) (o := 0) (v := .int .i64 a) (by go_simp) (by simp)
            have d1 := cell_next hb (b := w2.heap.size) (o := 1) (v := .int .i64 b) (by go_simp) (by simp)
            replace HB := bel_next (bel_next HB (bel_alloc _ _)) hb
            replace r0 := cell_next hb (box_a r0 hz) (by first | omega | (simp; omega))
            replace q0 := frozen_next hb (froz_a q0 hz) (by first | omega | (simp; omega))
            replace r1 := cell_next hb (box_a r1 hz) (by first | omega | (simp; omega))
            replace q1 := frozen_next hb (froz_a q1 hz) (by first | omega | (simp; omega))
            replace r2 := cell_next hb (box_a r2 hz) (by first | omega | (simp; omega))
            replace q2 := frozen_next hb (froz_a q2 hz) (by first | omega | (simp; omega))
            replace r3 := cell_next hb (box_a r3 hz) (by first | omega | (simp; omega))
            replace q3 := frozen_next hb (froz_a q3 hz) (by first | omega | (simp; omega))
            clear hb HTN
            go_wp2
            exact bodyPost_ret (v := .tuple #[.agg #[.int .i64 a, .int .i64 b, .int .i64 v, .bool false], .bool true]) (by simp [results, Try.results55, go_sem, r0, r1, r2, r3, q0, q1, q2, q3, hz]) rfl ⟨true, ⟨a, b, v, false⟩, rfl, (fun _ => HY.out), (fun h => by cases h), bel_s4' HB.out⟩
          · have HTN : Hid (∀ W : World, Calls Try.prog 67 #[.string p1] W fun e w' => N3P W e w') := fun W => l03num_no _ W z1 hn
            have HN : Hid (∀ x', ¬ SibS (bl s) x') := fun x' hx => hn ((sibS_two HP.out HL.out).1 hx).1.2
            clear ha hb hd hn HP HL
            
            refine (HTD.out _).mono ?_
            rintro e w2 ⟨rfl, hb⟩
            have k1 := cell_next hb K1.out G1.out
            replace HB := bel_next HB hb
            replace r0 := cell_next hb (r0) (by first | omega | (simp; omega))
            replace q0 := frozen_next hb (q0) (by first | omega | (simp; omega))
            replace r1 := cell_next hb (r1) (by first | omega | (simp; omega))
            replace q1 := frozen_next hb (q1) (by first | omega | (simp; omega))
            replace r2 := cell_next hb (r2) (by first | omega | (simp; omega))
            replace q2 := frozen_next hb (q2) (by first | omega | (simp; omega))
            replace r3 := cell_next hb (r3) (by first | omega | (simp; omega))
            replace q3 := frozen_next hb (q3) (by first | omega | (simp; omega))
            replace hz := Nat.lt_of_lt_of_le hz hb.size
            clear hb HTD K0 K1
            have hg2 := World.block_lt_of_cell? _ ⟨g, 1, none⟩ k1
            have k1' : ∀ o, (w2.alloc o).cell? ⟨g, 1, none⟩ = some (.string p1) := fun o => box_a k1 hg2
            clear hg2
            go_wp2_with fail
            clear k1 k1'
            refine (HTN.out _).mono ?_
            rintro e w3 ⟨v, rfl, hb⟩
            have d0 := cell_next hb (b := w2.heap.size) (o := 0) (v := .int .i64 a) (by go_simp) (by simp)
            have d1 := cell_next hb (b := w2.heap.size) (o := 1) (v := .int .i64 b) (by go_simp) (by simp)
            replace HB := bel_next (bel_next HB (bel_alloc _ _)) hb
            replace r0 := cell_next hb (box_a r0 hz) (by first | omega | (simp; omega))
            replace q0 := frozen_next hb (froz_a q0 hz) (by first | omega | (simp; omega))
            replace r1 := cell_next hb (box_a r1 hz) (by first | omega | (simp; omega))
            replace q1 := frozen_next hb (froz_a q1 hz) (by first | omega | (simp; omega))
            replace r2 := cell_next hb (box_a r2 hz) (by first | omega | (simp; omega))
            replace q2 := frozen_next hb (froz_a q2 hz) (by first | omega | (simp; omega))
            replace r3 := cell_next hb (box_a r3 hz) (by first | omega | (simp; omega))
            replace q3 := frozen_next hb (froz_a q3 hz) (by first | omega | (simp; omega))
            clear hb HTN
            go_wp2
            exact bodyPost_ret (v := .tuple #[.agg #[.int .i64 a, .int .i64 b, .int .i64 v, .bool false], .bool false]) (by simp [results, Try.results55, go_sem, r0, r1, r2, r3, q0, q1, q2, q3, hz]) rfl ⟨false, ⟨a, b, v, false⟩, rfl, (fun h => by cases h), (fun _ => HN.out), bel_s4' HB.out⟩
        · have HTD : Hid (∀ W : World, Calls Try.prog 68 #[.string p0] W fun e w' => e = .returned (.tuple #[.agg #[.int .i64 0, .int .i64 0], .bool false]) ∧ Below W.heap.size W w') := fun W => toDot_no _ W z0 hd
          have HN : Hid (∀ x', ¬ SibS (bl s) x') := fun x' hx => hd ((sibS_two HP.out HL.out).1 hx).1.1
          by_cases hn : Num (bl p1) ∧ (bl p1).length ≤ 18
          · obtain ⟨v, hv⟩ : ∃ v, v = nv (bl p1) := ⟨_, rfl⟩
            have HTN : Hid (∀ W : World, Calls Try.prog 67 #[.string p1] W fun e w' => e = .returned (.tuple #[.int .i64 v, .bool true]) ∧ Below W.heap.size W w') := fun W => by rw [hv]; exact l03num_yes _ W z1 hn
            clear hv hd hn HP HL
            
            refine (HTD.out _).mono ?_
            rintro e w2 ⟨rfl, hb⟩
            have k1 := cell_next hb K1.out G1.out
            replace HB := bel_next HB hb
            replace r0 := cell_next hb (r0) (by first | omega | (simp; omega))
            replace q0 := frozen_next hb (q0) (by first | omega | (simp; omega))
            replace r1 := cell_next hb (r1) (by first | omega | (simp; omega))
            replace q1 := frozen_next hb (q1) (by first | omega | (simp; omega))
            replace r2 := cell_next hb (r2) (by first | omega | (simp; omega))
            replace q2 := frozen_next hb (q2) (by first | omega | (simp; omega))
            replace r3 := cell_next hb (r3) (by first | omega | (simp; omega))
            replace q3 := frozen_next hb (q3) (by first | omega | (simp; omega))
            replace hz := Nat.lt_of_lt_of_le hz hb.size
            clear hb HTD K0 K1
            have hg2 := World.block_lt_of_cell? _ ⟨g, 1, none⟩ k1
            have k1' : ∀ o, (w2.alloc o).cell? ⟨g, 1, none⟩ = some (.string p1) := fun o => box_a k1 hg2
            clear hg2
            go_wp2_with fail
            clear k1 k1'
            refine (HTN.out _).mono ?_
            rintro e w3 ⟨rfl, hb⟩
            have d0 := cell_next hb (b := w2.heap.size) (o := 0) (v := .int .i64 0) (by go_simp) (by simp)
            have d1 := cell_next hb (b := w2.heap.size) (o := 1) (v := .int .i64 0) (by go_simp) (by simp)
            replace HB := bel_next (bel_next HB (bel_alloc _ _)) hb
            replace r0 := cell_next hb (box_a r0 hz) (by first | omega | (simp; omega))
            replace q0 := frozen_next hb (froz_a q0 hz) (by first | omega | (simp; omega))
            replace r1 := cell_next hb (box_a r1 hz) (by first | omega | (simp; omega))
            replace q1 := frozen_next hb (froz_a q1 hz) (by first | omega | (simp; omega))
            replace r2 := cell_next hb (box_a r2 hz) (by first | omega | (simp; omega))
            replace q2 := frozen_next hb (froz_a q2 hz) (by first | omega | (simp; omega))
            replace r3 := cell_next hb (box_a r3 hz) (by first | omega | (simp; omega))
            replace q3 := frozen_next hb (froz_a q3 hz) (by first | omega | (simp; omega))
            clear hb HTN
            go_wp2
            exact bodyPost_ret (v := .tuple #[.agg #[.int .i64 0, .int .i64 0, .int .i64 v, .bool false], .bool false]) (by simp [results, Try.results55, go_sem, r0, r1, r2, r3, q0, q1, q2, q3, hz]) rfl ⟨false, ⟨0, 0, v, false⟩, rfl, (fun h => by cases h), (fun _ => HN.out), bel_s4' HB.out⟩
          · have HTN : Hid (∀ W : World, Calls Try.prog 67 #[.string p1] W fun e w' => N3P W e w') := fun W => l03num_no _ W z1 hn
            clear hd hn HP HL
            
            refine (HTD.out _).mono ?_
            rintro e w2 ⟨rfl, hb⟩
            have k1 := cell_next hb K1.out G1.out
            replace HB := bel_next HB hb
            replace r0 := cell_next hb (r0) (by first | omega | (simp; omega))
            replace q0 := frozen_next hb (q0) (by first | omega | (simp; omega))
            replace r1 := cell_next hb (r1) (by first | omega | (simp; omega))
            replace q1 := frozen_next hb (q1) (by first | omega | (simp; omega))
            replace r2 := cell_next hb (r2) (by first | omega | (simp; omega))
            replace q2 := frozen_next hb (q2) (by first | omega | (simp; omega))
            replace r3 := cell_next hb (r3) (by first | omega | (simp; omega))
            replace q3 := frozen_next hb (q3) (by first | omega | (simp; omega))
            replace hz := Nat.lt_of_lt_of_le hz hb.size
            clear hb HTD K0 K1
            have hg2 := World.block_lt_of_cell? _ ⟨g, 1, none⟩ k1
            have k1' : ∀ o, (w2.alloc o).cell? ⟨g, 1, none⟩ = some (.string p1) := fun o => box_a k1 hg2
            clear hg2
            go_wp2_with fail
            clear k1 k1'
            refine (HTN.out _).mono ?_
            rintro e w3 ⟨v, rfl, hb⟩
            have d0 := cell_next hb (b := w2.heap.size) (o := 0) (v := .int .i64 0) (by go_simp) (by simp)
            have d1 := cell_next hb (b := w2.heap.size) (o := 1) (v := .int .i64 0) (by go_simp) (by simp)
            replace HB := bel_next (bel_next HB (bel_alloc _ _)) hb
            replace r0 := cell_next hb (box_a r0 hz) (by first | omega | (simp; omega))
            replace q0 := frozen_next hb (froz_a q0 hz) (by first | omega | (simp; omega))
            replace r1 := cell_next hb (box_a r1 hz) (by first | omega | (simp; omega))
            replace q1 := frozen_next hb (froz_a q1 hz) (by first | omega | (simp; omega))
            replace r2 := cell_next hb (box_a r2 hz) (by first | omega | (simp; omega))
            replace q2 := frozen_next hb (froz_a q2 hz) (by first | omega | (simp; omega))
            replace r3 := cell_next hb (box_a r3 hz) (by first | omega | (simp; omega))
            replace q3 := frozen_next hb (froz_a q3 hz) (by first | omega | (simp; omega))
            clear hb HTN
            go_wp2
            exact bodyPost_ret (v := .tuple #[.agg #[.int .i64 0, .int .i64 0, .int .i64 v, .bool false], .bool false]) (by simp [results, Try.results55, go_sem, r0, r1, r2, r3, q0, q1, q2, q3, hz]) rfl ⟨false, ⟨0, 0, v, false⟩, rfl, (fun h => by cases h), (fun _ => HN.out), bel_s4' HB.out⟩
      · have h9 : (cutL 61 (bl s)).length = ps.length := by
          have := congrArg List.length hPS
          rw [List.length_map] at this
          exact this.symm
        have HN : Hid (∀ x', ¬ SibS (bl s) x') := fun x' => sibS_not (by rw [h9]; exact h2) HL.out
        clear h9
        have h2' : ¬ (ps.length : Int) = 2 := by omega
        clear hC hSZ hPS HL h2
        go_wp2
        exact bodyPost_ret (v := .tuple #[.agg #[.int .i64 0, .int .i64 0, .int .i64 0, .bool false], .bool false]) (by simp [results, Try.results55, go_sem, r0, r1, r2, r3, q0, q1, q2, q3, hz]) rfl ⟨false, ⟨0, 0, 0, false⟩, rfl, (fun h => by cases h), fun _ => HN.out, bel_s4' HB.out⟩
end Go.Proofs.Ytodjbkeljfnebaa
