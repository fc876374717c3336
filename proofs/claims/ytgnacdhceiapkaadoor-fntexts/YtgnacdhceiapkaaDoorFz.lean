/- Dots, what is known, and objects are read back from their texts: reading whole texts, the mathematics of round trips, the law's walk. -/
import Derived.Test.YtgnacdhceiapkaaDoorRows
import Derived.WalkKit
import Derived.WalkSpells
import Derived.WalkLawsBesides
import Derived.Deep.QuietTactic
import Derived.BigQuiet
import Derived.Deep.RegionHeld3
import Derived.Test.YtgnacdhceiapkaaDoorVr
import Derived.LoopN
import Derived.Laws.EntriesVeiled
import Derived.Test.YtgnacdhceiapkaaDoorRo
import Derived.Test.YtgnacdhceiapkaaDoorOt
import Derived.Test.YtgnacdhceiapkaaDoorCh
import Derived.Test.YtgnacdhceiapkaaDoorOz
namespace Go.Proofs.YtgnacdhceiapkaaDoor
open Go.RowKit
set_option linter.unusedSimpArgs false
set_option linter.unusedVariables false
theorem sgD_dot (t : List UInt8) : sgD (46 :: t) = some t := rfl
theorem sgD_some {l r : List UInt8} (h : sgD l = some r) : l = 46 :: r := by
  cases l with
  | nil => cases h
  | cons c l =>
    rw [sgD] at h
    by_cases hc : c.toNat = 46
    · rw [if_pos hc] at h
      cases h
      congr 1
      exact UInt8.toNat_inj.1 (by simpa using hc)
    · rw [if_neg hc] at h; cases h
theorem rv1_num {a t : List UInt8} (h : Num a ∧ nv a ≤ 9999) (ht : NoD t) : rv1 (a ++ t) = some (nv a, t) := by
  have := ld_pre (most := 9999) h.1 (by decide) h.2 ht
  rw [rv1_yes this (List.length_pos_iff.2 h.1.1), List.drop_left]
theorem rv1_some {l r : List UInt8} {n : Int} (h : rv1 l = some (n, r)) : ∃ a, l = a ++ r ∧ (Num a ∧ nv a ≤ 9999) ∧ n = nv a := by
  obtain ⟨m, k, hk⟩ : ∃ m k, ld 9999 l = (m, k) := ⟨_, _, rfl⟩
  rw [rv1, hk] at h
  by_cases h0 : 0 < k
  · rw [if_pos h0] at h
    simp only [Option.some.injEq, Prod.mk.injEq] at h
    obtain ⟨rfl, rfl⟩ := h
    obtain ⟨_, h2, h3, h4, _⟩ := ld_cut hk h0
    exact ⟨l.take k, (List.take_append_drop k l).symm, ⟨h2, h4⟩, h3⟩
  · rw [if_neg h0] at h; cases h
theorem rv_yes {l a b c : List UInt8} (h : VvT l a b c) : rvS l 3 = some ((nv a, nv b, nv c), []) := by
  obtain ⟨rfl, ha, hb, hc⟩ := h
  have e1 : rvS (a ++ 46 :: (b ++ 46 :: c)) 1 = some ((nv a, 0, 0), 46 :: (b ++ 46 :: c)) := by rw [rvS_1, rv1_num ha (nod_dot _)]; rfl
  have e2 : rvS (a ++ 46 :: (b ++ 46 :: c)) 2 = some ((nv a, nv b, 0), 46 :: c) := by
    rw [rvS_2, e1]; simp only [Option.bind_some]; rw [sgD_dot]; simp only [Option.bind_some]; rw [rv1_num hb (nod_dot _)]; rfl
  rw [rvS_3, e2]; simp only [Option.bind_some]; rw [sgD_dot]; simp only [Option.bind_some]
  have e3 := rv1_num hc nod_nil
  rw [List.append_nil] at e3
  rw [e3]; rfl
theorem rv_conv {l : List UInt8} {x y z : Int} (h : rvS l 3 = some ((x, y, z), [])) : ∃ a b c, VvT l a b c ∧ x = nv a ∧ y = nv b ∧ z = nv c := by
  rw [rvS_3] at h
  cases h2 : rvS l 2 with
  | none => rw [h2] at h; cases h
  | some p2 =>
    obtain ⟨⟨x2, y2, z2⟩, l2⟩ := p2
    rw [h2] at h
    simp only [Option.bind_some] at h
    cases hs2 : sgD l2 with
    | none => rw [hs2] at h; cases h
    | some r2 =>
      rw [hs2] at h
      simp only [Option.bind_some] at h
      cases hv2 : rv1 r2 with
      | none => rw [hv2] at h; cases h
      | some v2 =>
        obtain ⟨n2, t2⟩ := v2
        rw [hv2] at h
        simp only [Option.map_some, Option.some.injEq, Prod.mk.injEq] at h
        obtain ⟨⟨rfl, rfl, rfl⟩, rfl⟩ := h
        rw [rvS_2] at h2
        cases h1 : rvS l 1 with
        | none => rw [h1] at h2; cases h2
        | some p1 =>
          obtain ⟨⟨x1, y1, z1⟩, l1⟩ := p1
          rw [h1] at h2
          simp only [Option.bind_some] at h2
          cases hs1 : sgD l1 with
          | none => rw [hs1] at h2; cases h2
          | some r1 =>
            rw [hs1] at h2
            simp only [Option.bind_some] at h2
            cases hv1 : rv1 r1 with
            | none => rw [hv1] at h2; cases h2
            | some v1 =>
              obtain ⟨n1, t1⟩ := v1
              rw [hv1] at h2
              simp only [Option.map_some, Option.some.injEq, Prod.mk.injEq] at h2
              obtain ⟨⟨rfl, rfl, rfl⟩, rfl⟩ := h2
              rw [rvS_1] at h1
              cases hv0 : rv1 l with
              | none => rw [hv0] at h1; cases h1
              | some v0 =>
                obtain ⟨n0, t0⟩ := v0
                rw [hv0] at h1
                simp only [Option.map_some, Option.some.injEq, Prod.mk.injEq] at h1
                obtain ⟨⟨rfl, rfl, rfl⟩, rfl⟩ := h1
                obtain ⟨a, ea, ha, na⟩ := rv1_some hv0
                obtain ⟨b, eb, hb, nb⟩ := rv1_some hv1
                obtain ⟨c, ec, hc, nc⟩ := rv1_some hv2
                refine ⟨a, b, c, ⟨?_, ha, hb, hc⟩, na, nb, nc⟩
                rw [ea, sgD_some hs1, eb, sgD_some hs2, ec, List.append_nil]
/-- What ReadVv answers. -/
def RvA (s : ByteArray) (x y z code : Int) : Prop := (65536 < s.size → x = 0 ∧ y = 0 ∧ z = 0 ∧ code = 2) ∧ (¬ 65536 < s.size → ∀ a b c, VvT (bl s) a b c → x = nv a ∧ y = nv b ∧ z = nv c ∧ code = 0) ∧ (¬ 65536 < s.size → ¬ (∃ a b c, VvT (bl s) a b c) → x = 0 ∧ y = 0 ∧ z = 0 ∧ code = 3)
theorem vvT_one {l a b c a' b' c' : List UInt8} (h : VvT l a b c) (h' : VvT l a' b' c') : a = a' ∧ b = b' ∧ c = c' := by
  have e := (vvT_cut h).symm.trans (vvT_cut h')
  simp only [List.cons.injEq, and_true] at e
  exact e
theorem rva_of (s : ByteArray) : ∃ x y z code, Hid (RvA s x y z code) := by
  by_cases h : 65536 < s.size
  · exact ⟨0, 0, 0, 2, fun _ => ⟨rfl, rfl, rfl, rfl⟩, fun h' => (h' h).elim, fun h' => (h' h).elim⟩
  · by_cases h1 : ∃ a b c, VvT (bl s) a b c
    · obtain ⟨a, b, c, hv⟩ := h1
      refine ⟨nv a, nv b, nv c, 0, fun h' => (h h').elim, fun _ a' b' c' hv' => ?_, fun _ h' => (h' ⟨a, b, c, hv⟩).elim⟩
      obtain ⟨rfl, rfl, rfl⟩ := vvT_one hv hv'
      exact ⟨rfl, rfl, rfl, rfl⟩
    · exact ⟨0, 0, 0, 3, fun h' => (h h').elim, fun _ a b c hv => (h1 ⟨a, b, c, hv⟩).elim, fun _ _ => ⟨rfl, rfl, rfl, rfl⟩⟩

set_option maxHeartbeats 4000000 in
theorem wholeV_any (s : ByteArray) (x y z code : Int) (hA : Hid (RvA s x y z code)) (w : World) (hs : s.size ≤ 1048576) :
    Calls Tryd.prog 25 #[.string s, .func (.func 26) #[] #[]] w fun e w' => e = .returned (.tuple #[.agg #[.int .i64 x, .int .i64 y, .int .i64 z], .int .i64 code]) ∧ Below w.heap.size w w' := by
  by_cases hb65 : 65536 < s.size
  · obtain ⟨rfl, rfl, rfl, rfl⟩ := hA.out.1 hb65
    have hb' : (65536 : Int) < (s.size : Int) := by omega
    go_enter Tryd.func25, Tryd.ntmps25
    go_wp2
    refine bodyPost_ret (v := .tuple #[.agg #[.int .i64 0, .int .i64 0, .int .i64 0], .int .i64 2]) (by simp [results, Tryd.results25, go_sem]) rfl ⟨rfl, ?_⟩
    repeat (first | exact Below.refl _ _ | refine Below.drew ?_ | refine below_drewN ?_ _ | refine Below.alloc ?_ (by first | (simp; done) | (simp; omega)) _ | refine Below.setCell ?_ (by first | (simp; done) | (simp; omega)) _)
  have hb' : ¬ (65536 : Int) < (s.size : Int) := by omega
  have R0 : Hid (((((w.alloc (.cells #[.int .i64 0, .int .i64 0, .int .i64 0] 27)).alloc (.cells #[.int .i64 0, .int .i64 0, .int .i64 0] 27))).cell? ⟨w.heap.size, 0, none⟩ = some (.int .i64 0) ∧ (((w.alloc (.cells #[.int .i64 0, .int .i64 0, .int .i64 0] 27)).alloc (.cells #[.int .i64 0, .int .i64 0, .int .i64 0] 27))).cell? ⟨w.heap.size, 1, none⟩ = some (.int .i64 0) ∧ (((w.alloc (.cells #[.int .i64 0, .int .i64 0, .int .i64 0] 27)).alloc (.cells #[.int .i64 0, .int .i64 0, .int .i64 0] 27))).cell? ⟨w.heap.size, 2, none⟩ = some (.int .i64 0)) ∧ ((((w.alloc (.cells #[.int .i64 0, .int .i64 0, .int .i64 0] 27)).alloc (.cells #[.int .i64 0, .int .i64 0, .int .i64 0] 27))).frozen? ⟨w.heap.size, 0, none⟩ = false ∧ (((w.alloc (.cells #[.int .i64 0, .int .i64 0, .int .i64 0] 27)).alloc (.cells #[.int .i64 0, .int .i64 0, .int .i64 0] 27))).frozen? ⟨w.heap.size, 1, none⟩ = false ∧ (((w.alloc (.cells #[.int .i64 0, .int .i64 0, .int .i64 0] 27)).alloc (.cells #[.int .i64 0, .int .i64 0, .int .i64 0] 27))).frozen? ⟨w.heap.size, 2, none⟩ = false) ∧ ((((w.alloc (.cells #[.int .i64 0, .int .i64 0, .int .i64 0] 27)).alloc (.cells #[.int .i64 0, .int .i64 0, .int .i64 0] 27))).cell? ⟨w.heap.size + 1, 0, none⟩ = some (.int .i64 0) ∧ (((w.alloc (.cells #[.int .i64 0, .int .i64 0, .int .i64 0] 27)).alloc (.cells #[.int .i64 0, .int .i64 0, .int .i64 0] 27))).cell? ⟨w.heap.size + 1, 1, none⟩ = some (.int .i64 0) ∧ (((w.alloc (.cells #[.int .i64 0, .int .i64 0, .int .i64 0] 27)).alloc (.cells #[.int .i64 0, .int .i64 0, .int .i64 0] 27))).cell? ⟨w.heap.size + 1, 2, none⟩ = some (.int .i64 0))) := ⟨⟨by go_simp, by go_simp, by go_simp⟩, ⟨by go_simp, by go_simp, by go_simp⟩, ⟨by go_simp, by go_simp, by go_simp⟩⟩
  have HB0 : Hid (Below w.heap.size w ((w.alloc (.cells #[.int .i64 0, .int .i64 0, .int .i64 0] 27)).alloc (.cells #[.int .i64 0, .int .i64 0, .int .i64 0] 27))) := (bel_alloc _ _).trans ((bel_alloc _ _).mono (by simp))
  have HZ : Hid ((((w.alloc (.cells #[.int .i64 0, .int .i64 0, .int .i64 0] 27)).alloc (.cells #[.int .i64 0, .int .i64 0, .int .i64 0] 27))).heap.size = w.heap.size + 1 + 1) := by show _ = _; simp
  go_enter Tryd.func25, Tryd.ntmps25
  go_wp2_with fail
  generalize ((w.alloc (.cells #[.int .i64 0, .int .i64 0, .int .i64 0] 27)).alloc (.cells #[.int .i64 0, .int .i64 0, .int .i64 0] 27)) = W0 at *
  refine (reader_any s W0).mono ?_
  rintro e w1 ⟨rfl, hb, hL, hlt⟩
  obtain ⟨g, hg⟩ : ∃ g, g = W0.heap.size := ⟨_, rfl⟩
  rw [← hg] at hL hlt ⊢
  have hgw : w.heap.size + 1 < g := by have := HZ.out; omega
  have HB1 : Hid (Below w.heap.size w w1) := bel_next HB0 hb
  obtain ⟨⟨R00, R01, R02⟩, ⟨R03, R04, R05⟩, R06, R07, R08⟩ := R0.out
  have hzz : w.heap.size + 1 < W0.heap.size := by have := HZ.out; omega
  have r0 := cell_next hb R00 (by omega)
  have r1 := cell_next hb R01 (by omega)
  have r2 := cell_next hb R02 (by omega)
  have q0 := frozen_next hb R03 (by omega)
  have q1 := frozen_next hb R04 (by omega)
  have q2 := frozen_next hb R05 (by omega)
  have n0 := cell_next hb R06 (by omega)
  have n1 := cell_next hb R07 (by omega)
  have n2 := cell_next hb R08 (by omega)
  have HL1 : Hid (Left w1 g s) := hL
  clear hb hL hg R00 R01 R02 R03 R04 R05 R06 R07 R08 hzz R0 HB0 HZ
  clear W0
  go_wp2_with fail
  refine (readVv_any g s _ (by simp; omega) (left_next HL1.out (bel_alloc _ _) hlt) (by omega)).mono ?_
  rintro e w2 (⟨x', y', z', rest, hS, rfl, s', hL2, hbl, hg2⟩ | ⟨hS, rfl, hg2⟩)
  · have f2 : w2.cell? ⟨w1.heap.size, 2, none⟩ = some (.func (.func 66) #[] #[.pointer (some ⟨g, 0, none⟩)]) := grown_cell hg2 (by go_simp) (by omega)
    replace r0 := grown_cell hg2 (box_a r0 (by omega)) (by omega)
    replace n0 := grown_cell hg2 (box_a n0 (by omega)) (by omega)
    replace q0 := grown_froz hg2 (froz_a q0 (by omega)) (by simp; omega) (by omega)
    replace r1 := grown_cell hg2 (box_a r1 (by omega)) (by omega)
    replace n1 := grown_cell hg2 (box_a n1 (by omega)) (by omega)
    replace q1 := grown_froz hg2 (froz_a q1 (by omega)) (by simp; omega) (by omega)
    replace r2 := grown_cell hg2 (box_a r2 (by omega)) (by omega)
    replace n2 := grown_cell hg2 (box_a n2 (by omega)) (by omega)
    replace q2 := grown_froz hg2 (froz_a q2 (by omega)) (by simp; omega) (by omega)
    have hz2 : w1.heap.size < w2.heap.size := by have := hg2.size; simp at this; omega
    have hz : w.heap.size < w2.heap.size := by omega
    have HB : Hid (Below w.heap.size w w2) := bel_grown (bel_next HB1 (bel_alloc _ _)).out hg2 (by omega)
    have f2' : ∀ o, (w2.alloc o).cell? ⟨w1.heap.size, 2, none⟩ = some (.func (.func 66) #[] #[.pointer (some ⟨g, 0, none⟩)]) := fun o => box_a f2 hz2
    have n0' : ∀ o, (w2.alloc o).cell? ⟨w.heap.size + 1, 0, none⟩ = some (.int .i64 0) := fun o => box_a n0 (by omega)
    have n1' : ∀ o, (w2.alloc o).cell? ⟨w.heap.size + 1, 1, none⟩ = some (.int .i64 0) := fun o => box_a n1 (by omega)
    have n2' : ∀ o, (w2.alloc o).cell? ⟨w.heap.size + 1, 2, none⟩ = some (.int .i64 0) := fun o => box_a n2 (by omega)
    clear hg2 HB1 HL1 f2 n0 n1 n2
    have L2 : Hid (Left w2 g s') := hL2
    have HBL : Hid (bl s' = rest) := hbl
    have HS : Hid (rvS (bl s) 3 = some ((x', y', z'), rest)) := hS
    clear hL2 hbl hS
    by_cases hs' : s'.size = 0
    · have hrest : rest = [] := by rw [← HBL.out]; exact bl_nil hs'
      have hS2 := HS.out
      rw [hrest] at hS2
      obtain ⟨a, b, c, hV, e1, e2, e3⟩ := rv_conv hS2
      obtain ⟨a1, a2, a3, a4⟩ := hA.out.2.1 hb65 a b c hV
      obtain rfl : x' = x := e1.trans a1.symm
      obtain rfl : y' = y := e2.trans a2.symm
      obtain rfl : z' = z := e3.trans a3.symm
      subst a4
      clear a1 a2 a3 e1 e2 e3 hV hS2 hrest HS hA
      go_wp2_with fail
      refine (ended_yes g s' _ (left_next L2.out (bel_alloc _ _) (by omega)).1 hs').mono ?_
      rintro e w' ⟨rfl, rfl⟩
      go_wp2
      refine bodyPost_ret (v := .tuple #[.agg #[.int .i64 x', .int .i64 y', .int .i64 z'], .int .i64 0]) (by simp [results, Tryd.results25, go_sem, r0, r1, r2, q0, q1, q2, hz]) rfl ⟨rfl, ?_⟩
      exact (((HB.out.setCell (by simp) _).setCell (by simp) _).setCell (by simp) _).alloc (by simpa [World.setCell] using Nat.le_of_lt hz) _
    · obtain ⟨rfl, rfl, rfl, rfl⟩ := hA.out.2.2 hb65 (fun ⟨a, b, c, hV⟩ => by
        have h1 := rv_yes hV
        rw [HS.out] at h1
        simp only [Option.some.injEq, Prod.mk.injEq] at h1
        have h3 := h1.2
        rw [← HBL.out] at h3
        have h2 := bl_len s'
        rw [h3] at h2
        simp at h2
        omega)
      go_wp2_with fail
      refine (ended_no g s' _ (left_next L2.out (bel_alloc _ _) (by omega)).1 (by omega)).mono ?_
      rintro e w' ⟨rfl, rfl⟩
      go_wp2
      refine bodyPost_ret (v := .tuple #[.agg #[.int .i64 0, .int .i64 0, .int .i64 0], .int .i64 3]) (by simp [results, Tryd.results25, go_sem, r0, r1, r2, q0, q1, q2, hz]) rfl ⟨rfl, ?_⟩
      exact (((HB.out.setCell (by simp) _).setCell (by simp) _).setCell (by simp) _).alloc (by simpa [World.setCell] using Nat.le_of_lt hz) _
  · have f2 : w2.cell? ⟨w1.heap.size, 2, none⟩ = some (.func (.func 66) #[] #[.pointer (some ⟨g, 0, none⟩)]) := grown_cell hg2 (by go_simp) (by omega)
    replace r0 := grown_cell hg2 (box_a r0 (by omega)) (by omega)
    replace n0 := grown_cell hg2 (box_a n0 (by omega)) (by omega)
    replace q0 := grown_froz hg2 (froz_a q0 (by omega)) (by simp; omega) (by omega)
    replace r1 := grown_cell hg2 (box_a r1 (by omega)) (by omega)
    replace n1 := grown_cell hg2 (box_a n1 (by omega)) (by omega)
    replace q1 := grown_froz hg2 (froz_a q1 (by omega)) (by simp; omega) (by omega)
    replace r2 := grown_cell hg2 (box_a r2 (by omega)) (by omega)
    replace n2 := grown_cell hg2 (box_a n2 (by omega)) (by omega)
    replace q2 := grown_froz hg2 (froz_a q2 (by omega)) (by simp; omega) (by omega)
    have hz2 : w1.heap.size < w2.heap.size := by have := hg2.size; simp at this; omega
    have hz : w.heap.size < w2.heap.size := by omega
    have HB : Hid (Below w.heap.size w w2) := bel_grown (bel_next HB1 (bel_alloc _ _)).out hg2 (by omega)
    have f2' : ∀ o, (w2.alloc o).cell? ⟨w1.heap.size, 2, none⟩ = some (.func (.func 66) #[] #[.pointer (some ⟨g, 0, none⟩)]) := fun o => box_a f2 hz2
    have n0' : ∀ o, (w2.alloc o).cell? ⟨w.heap.size + 1, 0, none⟩ = some (.int .i64 0) := fun o => box_a n0 (by omega)
    have n1' : ∀ o, (w2.alloc o).cell? ⟨w.heap.size + 1, 1, none⟩ = some (.int .i64 0) := fun o => box_a n1 (by omega)
    have n2' : ∀ o, (w2.alloc o).cell? ⟨w.heap.size + 1, 2, none⟩ = some (.int .i64 0) := fun o => box_a n2 (by omega)
    clear hg2 HB1 HL1 f2 n0 n1 n2
    obtain ⟨rfl, rfl, rfl, rfl⟩ := hA.out.2.2 hb65 (fun ⟨a, b, c, hV⟩ => by
      have h1 := rv_yes hV
      rw [hS] at h1
      cases h1)
    clear hS
    go_wp2
    refine bodyPost_ret (v := .tuple #[.agg #[.int .i64 0, .int .i64 0, .int .i64 0], .int .i64 3]) (by simp [results, Tryd.results25, go_sem, r0, r1, r2, q0, q1, q2, hz]) rfl ⟨rfl, ?_⟩
    exact (((HB.out.setCell (by simp) _).setCell (by simp) _).setCell (by simp) _).alloc (by simpa [World.setCell] using Nat.le_of_lt hz) _
set_option maxHeartbeats 1000000 in
theorem implReadV_any (s : ByteArray) (x y z code : Int) (hA : Hid (RvA s x y z code)) (w : World) (hs : s.size ≤ 1048576) :
    Calls Tryd.prog 10 #[.string s] w fun e w' => e = .returned (.tuple #[.agg #[.int .i64 x, .int .i64 y, .int .i64 z], .int .i64 code]) ∧ Below w.heap.size w w' := by
  go_enter Tryd.func10, Tryd.ntmps10
  go_wp2_with fail
  refine (wholeV_any s x y z code hA _ hs).mono ?_
  rintro e w1 ⟨rfl, hb⟩
  have HB : Hid (Below w.heap.size w w1) := (bel_alloc _ _).trans (hb.mono (by simp))
  have r0 := cell_next hb (b := w.heap.size) (o := 0) (v := .int .i64 0) (by go_simp) (by simp)
  have r1 := cell_next hb (b := w.heap.size) (o := 1) (v := .int .i64 0) (by go_simp) (by simp)
  have r2 := cell_next hb (b := w.heap.size) (o := 2) (v := .int .i64 0) (by go_simp) (by simp)
  have q0 := frozen_next hb (b := w.heap.size) (o := 0) (by go_simp) (by simp)
  have q1 := frozen_next hb (b := w.heap.size) (o := 1) (by go_simp) (by simp)
  have q2 := frozen_next hb (b := w.heap.size) (o := 2) (by go_simp) (by simp)
  clear hb hA
  go_wp2
  refine bodyPost_ret (v := .tuple #[.agg #[.int .i64 x, .int .i64 y, .int .i64 z], .int .i64 code]) (by simp [results, Tryd.results10, go_sem, r0, r1, r2, q0, q1, q2]) rfl ⟨rfl, ?_⟩
  exact ((HB.out.setCell (by simp) _).setCell (by simp) _).setCell (by simp) _
/-- What ReadObj answers. -/
def RoA (s : ByteArray) (m : List Sib) (x y z code : Int) : Prop := (65536 < s.size → m = [] ∧ x = 0 ∧ y = 0 ∧ z = 0 ∧ code = 2) ∧ (¬ 65536 < s.size → ∀ x' y' z' m', GoodR (bl s) x' y' z' m' → m = m' ∧ x = x' ∧ y = y' ∧ z = z' ∧ code = 0) ∧ (¬ 65536 < s.size → NoObj (bl s) → m = [] ∧ x = 0 ∧ y = 0 ∧ z = 0 ∧ code = 3)
theorem goodR_one {l : List UInt8} {x y z x' y' z' : Int} {m m' : List Sib} (h : GoodR l x y z m) (h' : GoodR l x' y' z' m') : m = m' ∧ x = x' ∧ y = y' ∧ z = z' := by
  obtain ⟨⟨r, h1, h2⟩, _⟩ := h
  obtain ⟨⟨r', g1, g2⟩, _⟩ := h'
  rw [h1] at g1
  cases g1
  cases h2.det g2
  exact ⟨rfl, rfl, rfl, rfl⟩
theorem roa_of (s : ByteArray) : ∃ m x y z code, Hid (RoA s m x y z code) := by
  by_cases h : 65536 < s.size
  · exact ⟨[], 0, 0, 0, 2, fun _ => ⟨rfl, rfl, rfl, rfl, rfl⟩, fun h' => (h' h).elim, fun h' => (h' h).elim⟩
  · by_cases h1 : ∃ x y z m, GoodR (bl s) x y z m
    · obtain ⟨x, y, z, m, hv⟩ := h1
      refine ⟨m, x, y, z, 0, fun h' => (h h').elim, fun _ x' y' z' m' hv' => ?_, fun _ h' => (h' _ _ _ _ hv).elim⟩
      obtain ⟨rfl, rfl, rfl, rfl⟩ := goodR_one hv hv'
      exact ⟨rfl, rfl, rfl, rfl, rfl⟩
    · exact ⟨[], 0, 0, 0, 3, fun h' => (h h').elim, fun _ x y z m hv => (h1 ⟨x, y, z, m, hv⟩).elim, fun _ _ => ⟨rfl, rfl, rfl, rfl, rfl⟩⟩
/-- An object of one's own and a code. -/
def RoQ (w : World) (m : List Sib) (x y z code : Int) (e : Ending) (w' : World) : Prop :=
  ∃ v : Value, e = .returned (.tuple #[.agg #[v, .int .i64 x, .int .i64 y, .int .i64 z], .int .i64 code]) ∧ w'.ownsRow 0 62 4 v m.length (flat m) ∧ (∀ k, v.ownBlock = some k → w.heap.size < k) ∧ Below w.heap.size w w'
theorem bel_s4 {w W : World} {u0 u1 u2 u3 : Value} (h : Below w.heap.size w W) : Below w.heap.size w ((((W.setCell ⟨w.heap.size, 0, none⟩ u0).setCell ⟨w.heap.size, 1, none⟩ u1).setCell ⟨w.heap.size, 2, none⟩ u2).setCell ⟨w.heap.size, 3, none⟩ u3) :=
  (((h.setCell (by simp) _).setCell (by simp) _).setCell (by simp) _).setCell (by simp) _
theorem own_slcN {W : World} {e : TypeId} {n : Nat} {v : Value} {xs : List Value} (h : W.ownsRow 0 e 4 v n xs) : ∃ vo vc, v = .slice vo n vc := by
  rcases h.2 with ⟨rfl, hn0⟩ | ⟨k, cap, cur, rfl, _⟩
  · exact ⟨none, 0, by rw [hn0]⟩
  · exact ⟨_, cap, rfl⟩
set_option maxHeartbeats 4000000 in
theorem wholeO_any (s : ByteArray) (m : List Sib) (x y z code : Int) (hA : Hid (RoA s m x y z code)) (w : World) (hs : s.size ≤ 1048576) :
    Calls Tryd.prog 30 #[.string s, .func (.func 31) #[] #[]] w fun e w' => RoQ w m x y z code e w' := by
  by_cases hb65 : 65536 < s.size
  · obtain ⟨rfl, rfl, rfl, rfl, rfl⟩ := hA.out.1 hb65
    have hb' : (65536 : Int) < (s.size : Int) := by omega
    go_enter Tryd.func30, Tryd.ntmps30
    go_wp2
    refine bodyPost_ret (v := .tuple #[.agg #[.slice none 0 0, .int .i64 0, .int .i64 0, .int .i64 0], .int .i64 2]) (by simp [results, Tryd.results30, go_sem]) rfl ⟨_, rfl, World.ownsRow_nil _ 0 _ 4, fun k hk => absurd hk Gro.none_ne, ?_⟩
    exact (bel_alloc _ _).trans ((bel_alloc _ _).mono (by simp))
  have hb' : ¬ (65536 : Int) < (s.size : Int) := by omega
  have R0 : Hid (((((w.alloc (.cells #[.slice none 0 0, .int .i64 0, .int .i64 0, .int .i64 0] 31)).alloc (.cells #[.slice none 0 0, .int .i64 0, .int .i64 0, .int .i64 0] 31))).cell? ⟨w.heap.size, 0, none⟩ = some (.slice none 0 0) ∧ (((w.alloc (.cells #[.slice none 0 0, .int .i64 0, .int .i64 0, .int .i64 0] 31)).alloc (.cells #[.slice none 0 0, .int .i64 0, .int .i64 0, .int .i64 0] 31))).cell? ⟨w.heap.size, 1, none⟩ = some (.int .i64 0) ∧ (((w.alloc (.cells #[.slice none 0 0, .int .i64 0, .int .i64 0, .int .i64 0] 31)).alloc (.cells #[.slice none 0 0, .int .i64 0, .int .i64 0, .int .i64 0] 31))).cell? ⟨w.heap.size, 2, none⟩ = some (.int .i64 0) ∧ (((w.alloc (.cells #[.slice none 0 0, .int .i64 0, .int .i64 0, .int .i64 0] 31)).alloc (.cells #[.slice none 0 0, .int .i64 0, .int .i64 0, .int .i64 0] 31))).cell? ⟨w.heap.size, 3, none⟩ = some (.int .i64 0)) ∧ ((((w.alloc (.cells #[.slice none 0 0, .int .i64 0, .int .i64 0, .int .i64 0] 31)).alloc (.cells #[.slice none 0 0, .int .i64 0, .int .i64 0, .int .i64 0] 31))).frozen? ⟨w.heap.size, 0, none⟩ = false ∧ (((w.alloc (.cells #[.slice none 0 0, .int .i64 0, .int .i64 0, .int .i64 0] 31)).alloc (.cells #[.slice none 0 0, .int .i64 0, .int .i64 0, .int .i64 0] 31))).frozen? ⟨w.heap.size, 1, none⟩ = false ∧ (((w.alloc (.cells #[.slice none 0 0, .int .i64 0, .int .i64 0, .int .i64 0] 31)).alloc (.cells #[.slice none 0 0, .int .i64 0, .int .i64 0, .int .i64 0] 31))).frozen? ⟨w.heap.size, 2, none⟩ = false ∧ (((w.alloc (.cells #[.slice none 0 0, .int .i64 0, .int .i64 0, .int .i64 0] 31)).alloc (.cells #[.slice none 0 0, .int .i64 0, .int .i64 0, .int .i64 0] 31))).frozen? ⟨w.heap.size, 3, none⟩ = false) ∧ (((w.alloc (.cells #[.slice none 0 0, .int .i64 0, .int .i64 0, .int .i64 0] 31)).alloc (.cells #[.slice none 0 0, .int .i64 0, .int .i64 0, .int .i64 0] 31))).cell? ⟨w.heap.size + 1, 0, none⟩ = some (.slice none 0 0) ∧ (((w.alloc (.cells #[.slice none 0 0, .int .i64 0, .int .i64 0, .int .i64 0] 31)).alloc (.cells #[.slice none 0 0, .int .i64 0, .int .i64 0, .int .i64 0] 31))).cell? ⟨w.heap.size + 1, 1, none⟩ = some (.int .i64 0) ∧ (((w.alloc (.cells #[.slice none 0 0, .int .i64 0, .int .i64 0, .int .i64 0] 31)).alloc (.cells #[.slice none 0 0, .int .i64 0, .int .i64 0, .int .i64 0] 31))).cell? ⟨w.heap.size + 1, 2, none⟩ = some (.int .i64 0) ∧ (((w.alloc (.cells #[.slice none 0 0, .int .i64 0, .int .i64 0, .int .i64 0] 31)).alloc (.cells #[.slice none 0 0, .int .i64 0, .int .i64 0, .int .i64 0] 31))).cell? ⟨w.heap.size + 1, 3, none⟩ = some (.int .i64 0)) := ⟨⟨by go_simp, by go_simp, by go_simp, by go_simp⟩, ⟨by go_simp, by go_simp, by go_simp, by go_simp⟩, ⟨by go_simp, by go_simp, by go_simp, by go_simp⟩⟩
  have HB0 : Hid (Below w.heap.size w ((w.alloc (.cells #[.slice none 0 0, .int .i64 0, .int .i64 0, .int .i64 0] 31)).alloc (.cells #[.slice none 0 0, .int .i64 0, .int .i64 0, .int .i64 0] 31))) := (bel_alloc _ _).trans ((bel_alloc _ _).mono (by simp))
  have HZ : Hid ((((w.alloc (.cells #[.slice none 0 0, .int .i64 0, .int .i64 0, .int .i64 0] 31)).alloc (.cells #[.slice none 0 0, .int .i64 0, .int .i64 0, .int .i64 0] 31))).heap.size = w.heap.size + 1 + 1) := by show _ = _; simp
  go_enter Tryd.func30, Tryd.ntmps30
  go_wp2_with fail
  generalize ((w.alloc (.cells #[.slice none 0 0, .int .i64 0, .int .i64 0, .int .i64 0] 31)).alloc (.cells #[.slice none 0 0, .int .i64 0, .int .i64 0, .int .i64 0] 31)) = W0 at *
  refine (reader_any s W0).mono ?_
  rintro e w1 ⟨rfl, hb, hL, hlt⟩
  obtain ⟨g, hg⟩ : ∃ g, g = W0.heap.size := ⟨_, rfl⟩
  rw [← hg] at hL hlt ⊢
  have hgw : w.heap.size + 1 < g := by have := HZ.out; omega
  have HB1 : Hid (Below w.heap.size w w1) := bel_next HB0 hb
  obtain ⟨⟨R00, R01, R02, R0a⟩, ⟨R03, R04, R05, R0b⟩, R06, R07, R08, R0c⟩ := R0.out
  have hzz : w.heap.size + 1 < W0.heap.size := by have := HZ.out; omega
  have r0 := cell_next hb R00 (by omega)
  have r1 := cell_next hb R01 (by omega)
  have r2 := cell_next hb R02 (by omega)
  have r3 := cell_next hb R0a (by omega)
  have q0 := frozen_next hb R03 (by omega)
  have q1 := frozen_next hb R04 (by omega)
  have q2 := frozen_next hb R05 (by omega)
  have q3 := frozen_next hb R0b (by omega)
  have n0 := cell_next hb R06 (by omega)
  have n1 := cell_next hb R07 (by omega)
  have n2 := cell_next hb R08 (by omega)
  have n3 := cell_next hb R0c (by omega)
  have HL1 : Hid (Left w1 g s) := hL
  clear hb hL hg R00 R01 R02 R03 R04 R05 R06 R07 R08 R0a R0b R0c hzz R0 HB0 HZ
  clear W0
  go_wp2_with fail
  refine (readObj_any g s _ (by simp; omega) (left_next HL1.out (bel_alloc _ _) hlt) (by omega)).mono ?_
  rintro e w2 (⟨m', x', y', z', v, hS, rfl, hown, hnew, ⟨s', hL2, hbl⟩, hg2⟩ | ⟨hS, vo, n, vc, x', y', z', rfl, hg2⟩)
  · have f2 : w2.cell? ⟨w1.heap.size, 2, none⟩ = some (.func (.func 66) #[] #[.pointer (some ⟨g, 0, none⟩)]) := grown_cell hg2 (by go_simp) (by omega)
    replace r0 := grown_cell hg2 (box_a r0 (by omega)) (by omega)
    replace n0 := grown_cell hg2 (box_a n0 (by omega)) (by omega)
    replace q0 := grown_froz hg2 (froz_a q0 (by omega)) (by simp; omega) (by omega)
    replace r1 := grown_cell hg2 (box_a r1 (by omega)) (by omega)
    replace n1 := grown_cell hg2 (box_a n1 (by omega)) (by omega)
    replace q1 := grown_froz hg2 (froz_a q1 (by omega)) (by simp; omega) (by omega)
    replace r2 := grown_cell hg2 (box_a r2 (by omega)) (by omega)
    replace n2 := grown_cell hg2 (box_a n2 (by omega)) (by omega)
    replace q2 := grown_froz hg2 (froz_a q2 (by omega)) (by simp; omega) (by omega)
    replace r3 := grown_cell hg2 (box_a r3 (by omega)) (by omega)
    replace n3 := grown_cell hg2 (box_a n3 (by omega)) (by omega)
    replace q3 := grown_froz hg2 (froz_a q3 (by omega)) (by simp; omega) (by omega)
    have hz2 : w1.heap.size < w2.heap.size := by have := hg2.size; simp at this; omega
    have hz : w.heap.size < w2.heap.size := by omega
    have HB : Hid (Below w.heap.size w w2) := bel_grown (bel_next HB1 (bel_alloc _ _)).out hg2 (by omega)
    have f2' : ∀ o, (w2.alloc o).cell? ⟨w1.heap.size, 2, none⟩ = some (.func (.func 66) #[] #[.pointer (some ⟨g, 0, none⟩)]) := fun o => box_a f2 hz2
    have n0' : ∀ o, (w2.alloc o).cell? ⟨w.heap.size + 1, 0, none⟩ = some (.slice none 0 0) := fun o => box_a n0 (by omega)
    have n1' : ∀ o, (w2.alloc o).cell? ⟨w.heap.size + 1, 1, none⟩ = some (.int .i64 0) := fun o => box_a n1 (by omega)
    have n2' : ∀ o, (w2.alloc o).cell? ⟨w.heap.size + 1, 2, none⟩ = some (.int .i64 0) := fun o => box_a n2 (by omega)
    have n3' : ∀ o, (w2.alloc o).cell? ⟨w.heap.size + 1, 3, none⟩ = some (.int .i64 0) := fun o => box_a n3 (by omega)
    clear hg2 HB1 HL1 f2 n0 n1 n2 n3
    have L2 : Hid (Left w2 g s') := hL2
    have hs' : s'.size = 0 := by have h := bl_len s'; rw [hbl] at h; simpa using h.symm
    obtain ⟨rfl, rfl, rfl, rfl, rfl⟩ := hA.out.2.1 hb65 _ _ _ _ hS
    obtain ⟨vo, vc, rfl⟩ := own_slcN hown
    have HO : Hid (w2.ownsRow 0 62 4 (.slice vo m.length vc) m.length (flat m)) := hown
    have HN : Hid (∀ k, (Value.slice vo m.length vc).ownBlock = some k → w.heap.size < k) := fun k hk => by have := hnew k hk; simp at this; omega
    clear hL2 hbl hS hA hown hnew
    go_wp2_with fail
    refine (ended_yes g s' _ (left_next L2.out (bel_alloc _ _) (by omega)).1 hs').mono ?_
    rintro e w' ⟨rfl, rfl⟩
    go_wp2
    refine bodyPost_ret (v := .tuple #[.agg #[.slice vo m.length vc, .int .i64 x, .int .i64 y, .int .i64 z], .int .i64 0]) (by simp [results, Tryd.results30, go_sem, r0, r1, r2, r3, q0, q1, q2, q3, hz]) rfl ⟨_, rfl, ?_, ?_, ?_⟩
    · exact own_next (own_set4 (g := w.heap.size) HO.out (fun e => by have := HN.out _ e; omega)) (bel_alloc _ _)
    · exact HN.out
    exact (bel_s4 HB.out).alloc (by simpa [World.setCell] using Nat.le_of_lt hz) _
  · have f2 : w2.cell? ⟨w1.heap.size, 2, none⟩ = some (.func (.func 66) #[] #[.pointer (some ⟨g, 0, none⟩)]) := grown_cell hg2 (by go_simp) (by omega)
    replace r0 := grown_cell hg2 (box_a r0 (by omega)) (by omega)
    replace n0 := grown_cell hg2 (box_a n0 (by omega)) (by omega)
    replace q0 := grown_froz hg2 (froz_a q0 (by omega)) (by simp; omega) (by omega)
    replace r1 := grown_cell hg2 (box_a r1 (by omega)) (by omega)
    replace n1 := grown_cell hg2 (box_a n1 (by omega)) (by omega)
    replace q1 := grown_froz hg2 (froz_a q1 (by omega)) (by simp; omega) (by omega)
    replace r2 := grown_cell hg2 (box_a r2 (by omega)) (by omega)
    replace n2 := grown_cell hg2 (box_a n2 (by omega)) (by omega)
    replace q2 := grown_froz hg2 (froz_a q2 (by omega)) (by simp; omega) (by omega)
    replace r3 := grown_cell hg2 (box_a r3 (by omega)) (by omega)
    replace n3 := grown_cell hg2 (box_a n3 (by omega)) (by omega)
    replace q3 := grown_froz hg2 (froz_a q3 (by omega)) (by simp; omega) (by omega)
    have hz2 : w1.heap.size < w2.heap.size := by have := hg2.size; simp at this; omega
    have hz : w.heap.size < w2.heap.size := by omega
    have HB : Hid (Below w.heap.size w w2) := bel_grown (bel_next HB1 (bel_alloc _ _)).out hg2 (by omega)
    have f2' : ∀ o, (w2.alloc o).cell? ⟨w1.heap.size, 2, none⟩ = some (.func (.func 66) #[] #[.pointer (some ⟨g, 0, none⟩)]) := fun o => box_a f2 hz2
    have n0' : ∀ o, (w2.alloc o).cell? ⟨w.heap.size + 1, 0, none⟩ = some (.slice none 0 0) := fun o => box_a n0 (by omega)
    have n1' : ∀ o, (w2.alloc o).cell? ⟨w.heap.size + 1, 1, none⟩ = some (.int .i64 0) := fun o => box_a n1 (by omega)
    have n2' : ∀ o, (w2.alloc o).cell? ⟨w.heap.size + 1, 2, none⟩ = some (.int .i64 0) := fun o => box_a n2 (by omega)
    have n3' : ∀ o, (w2.alloc o).cell? ⟨w.heap.size + 1, 3, none⟩ = some (.int .i64 0) := fun o => box_a n3 (by omega)
    clear hg2 HB1 HL1 f2 n0 n1 n2 n3
    obtain ⟨rfl, rfl, rfl, rfl, rfl⟩ := hA.out.2.2 hb65 hS
    clear hS hA
    go_wp2
    refine bodyPost_ret (v := .tuple #[.agg #[.slice none 0 0, .int .i64 0, .int .i64 0, .int .i64 0], .int .i64 3]) (by simp [results, Tryd.results30, go_sem, r0, r1, r2, r3, q0, q1, q2, q3, hz]) rfl ⟨_, rfl, ?_, ?_, ?_⟩
    · exact World.ownsRow_nil _ 0 _ 4
    · exact fun k hk => absurd hk Gro.none_ne
    exact (bel_s4 HB.out).alloc (by simpa [World.setCell] using Nat.le_of_lt hz) _
set_option maxHeartbeats 1000000 in
theorem implReadO_any (s : ByteArray) (m : List Sib) (x y z code : Int) (hA : Hid (RoA s m x y z code)) (w : World) (hs : s.size ≤ 1048576) :
    Calls Tryd.prog 12 #[.string s] w fun e w' => RoQ w m x y z code e w' := by
  go_enter Tryd.func12, Tryd.ntmps12
  go_wp2_with fail
  refine (wholeO_any s m x y z code hA _ hs).mono ?_
  rintro e w1 ⟨v, rfl, hO, hN, hb⟩
  have HB : Hid (Below w.heap.size w w1) := (bel_alloc _ _).trans (hb.mono (by simp))
  obtain ⟨vo, vc, rfl⟩ := own_slcN hO
  have HO : Hid (w1.ownsRow 0 62 4 (.slice vo m.length vc) m.length (flat m)) := hO
  have HN : Hid (∀ k, (Value.slice vo m.length vc).ownBlock = some k → w.heap.size < k) := fun k hk => by have := hN k hk; simp at this; omega
  have r0 := cell_next hb (b := w.heap.size) (o := 0) (v := .slice none 0 0) (by go_simp) (by simp)
  have r1 := cell_next hb (b := w.heap.size) (o := 1) (v := .int .i64 0) (by go_simp) (by simp)
  have r2 := cell_next hb (b := w.heap.size) (o := 2) (v := .int .i64 0) (by go_simp) (by simp)
  have r3 := cell_next hb (b := w.heap.size) (o := 3) (v := .int .i64 0) (by go_simp) (by simp)
  have q0 := frozen_next hb (b := w.heap.size) (o := 0) (by go_simp) (by simp)
  have q1 := frozen_next hb (b := w.heap.size) (o := 1) (by go_simp) (by simp)
  have q2 := frozen_next hb (b := w.heap.size) (o := 2) (by go_simp) (by simp)
  have q3 := frozen_next hb (b := w.heap.size) (o := 3) (by go_simp) (by simp)
  clear hb hA hO hN
  go_wp2
  refine bodyPost_ret (v := .tuple #[.agg #[.slice vo m.length vc, .int .i64 x, .int .i64 y, .int .i64 z], .int .i64 code]) (by simp [results, Tryd.results12, go_sem, r0, r1, r2, r3, q0, q1, q2, q3]) rfl ⟨_, rfl, ?_, HN.out, bel_s4 HB.out⟩
  exact own_set4 (g := w.heap.size) HO.out (fun e => by have := HN.out _ e; omega)
theorem dsN_head : ∀ n : Nat, 1 ≤ n → (dsN n).head? ≠ some 48 := by
  intro n
  induction n using Nat.strongRecOn with
  | _ n ih =>
    intro h1
    rw [dsN]
    by_cases h : n < 10
    · rw [dif_pos h]
      intro e
      simp only [List.head?_cons, Option.some.injEq] at e
      have e2 := congrArg UInt8.toNat e
      rw [u8_small _ (by omega)] at e2
      simp at e2
      omega
    · rw [dif_neg h]
      have hne : dsN (n / 10) ≠ [] := by
        rw [dsN]
        split <;> simp
      obtain ⟨c, r, hcr⟩ := List.exists_cons_of_ne_nil hne
      have ih' := ih (n / 10) (by omega) (by omega)
      rw [hcr] at ih' ⊢
      exact ih'
theorem dsN_digs : ∀ n : Nat, dsN n ≠ [] ∧ (∀ c ∈ dsN n, dg c = true) ∧ nv (dsN n) = (n : Int) := by
  intro n
  induction n using Nat.strongRecOn with
  | _ n ih =>
    rw [dsN]
    by_cases h : n < 10
    · rw [dif_pos h]
      refine ⟨by simp, fun c hc => ?_, ?_⟩
      · simp only [List.mem_singleton] at hc
        rw [hc, dg_iff, u8_small _ (by omega)]
        omega
      · unfold nv
        simp only [List.foldl_cons, List.foldl_nil]
        rw [u8_small _ (by omega)]
        omega
    · rw [dif_neg h]
      obtain ⟨h1, h2, h3⟩ := ih (n / 10) (by omega)
      refine ⟨by simp, fun c hc => ?_, ?_⟩
      · rw [List.mem_append, List.mem_singleton] at hc
        rcases hc with hc | hc
        · exact h2 c hc
        · rw [hc, dg_iff, u8_small _ (by omega)]
          omega
      · rw [nv_snoc, h3, u8_small _ (by omega)]
        omega
theorem dsN_one (n : Nat) (h : 1 < (dsN n).length) : 1 ≤ n := by
  by_cases e : n = 0
  · rw [e, dsN] at h
    simp at h
  · omega
theorem dsN_is (n : Nat) : Num (dsN n) := ⟨(dsN_digs n).1, (dsN_digs n).2.1, fun h => dsN_head n (dsN_one n h)⟩
theorem dsN_val (a : Int) (h : 0 ≤ a) : nv (dsN a.toNat) = a := by
  rw [(dsN_digs a.toNat).2.2]
  omega
theorem dsN_short (a : Int) (h : 0 ≤ a) (h1 : a ≤ 9999) : (dsN a.toNat).length ≤ 18 := num_short (dsN_is _) (by rw [dsN_val a h]; exact h1)
theorem nl_nat (p : Int) (h : 0 ≤ p ∧ p < 3) : ((nl p).toNat : Int) = 97 + p := by
  have : p = 0 ∨ p = 1 ∨ p = 2 := by omega
  rcases this with rfl | rfl | rfl <;> rfl
theorem td_dot {p n : Int} (h : dotB p n = true) : tdR (dotT p n) ∧ tdV (dotT p n) = (p, n) := by
  have hd := of_decide_eq_true (show decide _ = true from h)
  have e1 := nl_nat p (by omega)
  have e2 := dsN_val n (by omega)
  unfold dotT tdR tdV
  refine ⟨⟨by omega, ⟨dsN_is _, dsN_short n (by omega) (by omega)⟩, ?_⟩, ?_⟩
  · rw [e1, e2, show (97 : Int) + p - 97 = p by omega]
    exact h
  · show (((nl p).toNat : Int) - 97, nv (dsN n.toNat)) = (p, n)
    rw [e1, e2, show (97 : Int) + p - 97 = p by omega]
theorem sibS_text {s : Sib} (h : sibOK s.p s.n s.v s.d = true) : SibS (sibT s) s := by
  obtain ⟨p, n, v, d⟩ := s
  unfold sibOK at h
  simp only [Bool.and_eq_true, decide_eq_true_eq, Bool.or_eq_true, Bool.not_eq_true', beq_iff_eq] at h
  obtain ⟨⟨hd, hv0, hv1⟩, hz⟩ := h
  obtain ⟨t1, t2⟩ := td_dot hd
  unfold sibT
  cases d with
  | true =>
    have hv : v = 0 := by
      rcases hz with hz | hz
      · cases hz
      · exact hz
    refine .inl ⟨dotT p n, by simp, t1, ?_⟩
    rw [t2, hv]
  | false =>
    refine .inr ⟨dotT p n, dsN v.toNat, by simp, t1, ⟨dsN_is _, dsN_short v hv0 (by omega)⟩, ?_⟩
    rw [t2, dsN_val v hv0]
theorem sibs_text : ∀ (l : List Sib), (∀ s ∈ l, sibOK s.p s.n s.v s.d = true) → SibsS (l.map sibT) l
  | [], _ => .nil
  | s :: l, h => .cons (sibS_text (h s (List.mem_cons_self ..))) (sibs_text l fun t ht => h t (List.mem_cons_of_mem _ ht))
theorem tl_text : ∀ (l : List Sib), tl (l.map sibT) = l.flatMap fun s => 124 :: sibT s
  | [] => rfl
  | s :: l => by
    rw [List.map_cons, tl, List.flatMap_cons, tl_text l]
    rfl
theorem vvT_is {a b c : Int} (h : vvB a b c = true) : VvT (vvT a b c) (dsN a.toNat) (dsN b.toNat) (dsN c.toNat) := by
  have h0 := of_decide_eq_true (show decide _ = true from h)
  refine ⟨by unfold vvT vj; simp, ⟨dsN_is _, ?_⟩, ⟨dsN_is _, ?_⟩, ⟨dsN_is _, ?_⟩⟩
  · rw [dsN_val a (by omega)]; omega
  · rw [dsN_val b (by omega)]; omega
  · rw [dsN_val c (by omega)]; omega
theorem objT_tl (X : List UInt8) (l : List Sib) : objT X l = X ++ tl (l.map sibT) := by rw [tl_text]; rfl
theorem val_le {l : List Sib} (h : ∀ s ∈ l, sibOK s.p s.n s.v s.d = true) : ∀ s ∈ l, s.v ≤ 999 := fun s hs => (sib_bounds (h s hs)).2.2.2.2
theorem rvS_text {a b c : Int} (h : vvB a b c = true) {t : List UInt8} (ht : NoD t) : rvS (vvT a b c ++ t) 3 = some ((a, b, c), t) := by
  have h0 := of_decide_eq_true (show decide _ = true from h)
  have := rvS_pre (vvT_is h) ht
  rw [dsN_val a (by omega), dsN_val b (by omega), dsN_val c (by omega)] at this
  exact this
theorem good_text {l : List Sib} {a b c : Int} (h : OkP l a b c) : GoodR (objT (vvT a b c) l) a b c l := by
  refine ⟨⟨tl (l.map sibT), ?_, sbsR_of (sibs_text l (ok_sibs h)) (val_le (ok_sibs h))⟩, h⟩
  rw [objT_tl]
  exact rvS_text h.2.1 (nod_tl _)
theorem nod_bars (ps : List (List UInt8)) : NoD (tl ps ++ [124]) := by
  cases ps with
  | nil => exact nod_bar []
  | cons p ps =>
    rw [tl, List.cons_append]
    exact nod_bar _
theorem sbs_bar : ∀ (l : List Sib), (∀ s ∈ l, sibOK s.p s.n s.v s.d = true) → SbsR (tl (l.map sibT) ++ [124]) none
  | [], _ => .no (by simp [tl]) (by
      show sibR [124] = none
      rw [sibR_bar]
      rfl)
  | s :: l, h => by
    have ih := sbs_bar l fun t ht => h t (List.mem_cons_of_mem _ ht)
    have hs := h s (List.mem_cons_self ..)
    have e := sibR_pre (t := tl (l.map sibT) ++ [124]) (sibS_text hs) ((sib_bounds hs).2.2.2.2) (nod_bars _)
    rw [List.map_cons, tl, List.cons_append, List.append_assoc]
    exact SbsR.yes e ih
theorem bad_text {l : List Sib} {a b c : Int} (h : OkP l a b c) : NoObj (objT (vvT a b c) l ++ [124]) := by
  rintro x y z m ⟨⟨rest, h1, h2⟩, _⟩
  rw [objT_tl, List.append_assoc, rvS_text h.2.1 (nod_bars _)] at h1
  simp only [Option.some.injEq, Prod.mk.injEq] at h1
  rw [← h1.2] at h2
  have := h2.det (sbs_bar l (ok_sibs h))
  cases this
theorem dot_short {p n : Int} (h : dotB p n = true) : (dotT p n).length ≤ 19 := by
  have hd := of_decide_eq_true (show decide _ = true from h)
  have := dsN_short n (by omega) (by omega)
  unfold dotT
  simp only [List.length_cons]
  omega
theorem sib_short {s : Sib} (h : sibOK s.p s.n s.v s.d = true) : (sibT s).length ≤ 38 := by
  have hb := sib_bounds h
  have h1 := dot_short (p := s.p) (n := s.n) (by
    unfold sibOK at h
    simp only [Bool.and_eq_true] at h
    exact h.1.1)
  have h2 := dsN_short s.v (by omega) (by omega)
  unfold sibT
  rw [List.length_append]
  split <;> simp <;> omega
theorem tl_short : ∀ (l : List Sib), (∀ s ∈ l, sibOK s.p s.n s.v s.d = true) → (tl (l.map sibT)).length ≤ 39 * l.length
  | [], _ => by simp [tl]
  | s :: l, h => by
    have ih := tl_short l fun t ht => h t (List.mem_cons_of_mem _ ht)
    have hs := sib_short (h s (List.mem_cons_self ..))
    rw [List.map_cons, tl, List.length_cons, List.length_append, List.length_cons]
    omega
theorem vv_short {a b c : Int} (h : vvB a b c = true) : (vvT a b c).length ≤ 56 := by
  have h0 := of_decide_eq_true (show decide _ = true from h)
  have h1 := dsN_short a (by omega) (by omega)
  have h2 := dsN_short b (by omega) (by omega)
  have h3 := dsN_short c (by omega) (by omega)
  unfold vvT vj
  simp
  omega
theorem obj_short {l : List Sib} {a b c : Int} (h : OkP l a b c) : (objT (vvT a b c) l).length ≤ 4000 := by
  have h1 := vv_short h.2.1
  have h2 := tl_short l (ok_sibs h)
  have h3 := h.1
  rw [objT_tl, List.length_append]
  omega
theorem bl_of (l : List UInt8) : bl ⟨l.toArray⟩ = l := by simp [bl]
theorem size_of (l : List UInt8) : (⟨l.toArray⟩ : ByteArray).size = l.length := by rw [← bl_len, bl_of]
theorem rda_text {p n : Int} (h : dotB p n = true) : RdA ⟨(dotT p n).toArray⟩ p n 0 := by
  have h1 := dot_short h
  obtain ⟨t1, t2⟩ := td_dot h
  have hz := size_of (dotT p n)
  refine ⟨fun h' => by omega, fun _ _ => ?_, fun _ h' => (h' (by rw [bl_of]; exact t1)).elim⟩
  rw [bl_of, t2]
  exact ⟨rfl, rfl, rfl⟩
theorem rda_none : RdA ⟨#[100, 49]⟩ 0 0 3 := by
  refine ⟨fun h' => absurd h' (by decide), fun _ h' => ?_, fun _ _ => ⟨rfl, rfl, rfl⟩⟩
  exact absurd h'.1.2 (by decide)
theorem rva_text {a b c : Int} (h : vvB a b c = true) : RvA ⟨(vvT a b c).toArray⟩ a b c 0 := by
  have h0 := of_decide_eq_true (show decide _ = true from h)
  have h1 := vv_short h
  have hz := size_of (vvT a b c)
  refine ⟨fun h' => by omega, fun _ x y z hV => ?_, fun _ h' => (h' ⟨_, _, _, by rw [bl_of]; exact vvT_is h⟩).elim⟩
  rw [bl_of] at hV
  obtain ⟨rfl, rfl, rfl⟩ := vvT_one hV (vvT_is h)
  exact ⟨(dsN_val a (by omega)).symm, (dsN_val b (by omega)).symm, (dsN_val c (by omega)).symm, rfl⟩
theorem roa_text {l : List Sib} {a b c : Int} (h : OkP l a b c) : RoA ⟨(objT (vvT a b c) l).toArray⟩ l a b c 0 := by
  have h1 := obj_short h
  have hz := size_of (objT (vvT a b c) l)
  refine ⟨fun h' => by omega, fun _ x y z m hG => ?_, fun _ h' => (h' a b c l (by rw [bl_of]; exact good_text h)).elim⟩
  rw [bl_of] at hG
  obtain ⟨e1, e2, e3, e4⟩ := goodR_one hG (good_text h)
  exact ⟨e1.symm, e2.symm, e3.symm, e4.symm, rfl⟩
theorem roa_bad {l : List Sib} {a b c : Int} (h : OkP l a b c) : RoA ⟨(objT (vvT a b c) l ++ [124]).toArray⟩ [] 0 0 0 3 := by
  have h1 := obj_short h
  have hz := size_of (objT (vvT a b c) l ++ [124])
  rw [List.length_append, List.length_singleton] at hz
  refine ⟨fun h' => by omega, fun _ x y z m hG => ?_, fun _ _ => ⟨rfl, rfl, rfl, rfl, rfl⟩⟩
  rw [bl_of] at hG
  exact (bad_text h _ _ _ _ hG).elim
set_option maxHeartbeats 1000000 in
theorem vv_any (g len cap : Nat) (ao : Option Addr) (zs : List Int) (k s : Int) (w : World) (h : SrcAt w g ao len cap k s) (hr : Gen.IsRow .u8 w ao len cap zs) (hn : ∀ x, ao = some x → 0 < cap → x.block ≠ g) (hl : (len : Int) ≤ 1048576) (hk0 : 0 ≤ k) (hk : k ≤ 999999000) :
    Calls Tryd.prog 17 #[.pointer (some ⟨g, 0, none⟩)] w fun e w' => ∃ a b c t : Int, (0 ≤ a ∧ a < 5) ∧ (0 ≤ b ∧ b < 5) ∧ (0 ≤ c ∧ c < 5) ∧ e = .returned (.agg #[.int .i64 a, .int .i64 b, .int .i64 c]) ∧ SrcAt w' g ao len cap (k + 3) t ∧ w.grownBy w' (some g) := by
  have hgs : g < w.heap.size := h.2.2.2.2.2.1
  have hS0 : Hid (SrcAt (w.alloc (.cells #[.int .i64 0, .int .i64 0, .int .i64 0] 27)) g ao len cap k s) := h.alloc
  have hR0 : Hid (Gen.IsRow .u8 (w.alloc (.cells #[.int .i64 0, .int .i64 0, .int .i64 0] 27)) ao len cap zs) := row_alloc hr
  have HN : Hid (∀ x, ao = some x → 0 < cap → x.block ≠ g) := hn
  clear h hr hn
  have hne : w.heap.size ≠ g := by omega
  go_enter Tryd.func17, Tryd.ntmps17
  go_wp2_with fail
  refine (next_any g len cap ao zs k s 5 (by omega) (by omega) _ hS0.out hR0.out HN.out hl hk0 (by omega)).mono ?_
  rintro e w1 ⟨a, t1, ⟨a0, a1⟩, rfl, hS1', hG1'⟩
  have hS1 : Hid (SrcAt w1 g ao len cap (k + 1) t1) := hS1'
  have hR1 : Hid (Gen.IsRow .u8 w1 ao len cap zs) := row_grown hR0.out HN.out hG1'
  have hG1 : Hid (w.grownBy w1 (some g)) := (World.grownBy_alloc w _ _).trans hG1'
  obtain ⟨x0, y0⟩ := SrcAt.next hG1' (b := w.heap.size) (o := 0) (v := .int .i64 0) (by go_simp) (by go_simp) hne
  obtain ⟨x1, y1⟩ := SrcAt.next hG1' (b := w.heap.size) (o := 1) (v := .int .i64 0) (by go_simp) (by go_simp) hne
  obtain ⟨x2, y2⟩ := SrcAt.next hG1' (b := w.heap.size) (o := 2) (v := .int .i64 0) (by go_simp) (by go_simp) hne
  clear hS0 hR0 hS1' hG1'
  go_wp2_with fail
  refine (next_any g len cap ao zs (k + 1) t1 5 (by omega) (by omega) _ hS1.out hR1.out HN.out hl (by omega) (by omega)).mono ?_
  rintro e w2 ⟨b, t2, ⟨b0, b1⟩, rfl, hS2', hG2'⟩
  have hS2 : Hid (SrcAt w2 g ao len cap (k + 1 + 1) t2) := hS2'
  have hR2 : Hid (Gen.IsRow .u8 w2 ao len cap zs) := row_grown hR1.out HN.out hG2'
  have hG2 : Hid (w.grownBy w2 (some g)) := hG1.out.trans hG2'
  obtain ⟨x3, y3⟩ := SrcAt.next hG2' x0 y0 hne
  obtain ⟨x4, y4⟩ := SrcAt.next hG2' x1 y1 hne
  obtain ⟨x5, y5⟩ := SrcAt.next hG2' x2 y2 hne
  clear hS1 hR1 hS2' hG2' hG1 x0 y0 x1 y1 x2 y2
  go_wp2_with fail
  refine (next_any g len cap ao zs (k + 1 + 1) t2 5 (by omega) (by omega) _ hS2.out hR2.out HN.out hl (by omega) (by omega)).mono ?_
  rintro e w3 ⟨c, t3, ⟨d0, d1⟩, rfl, hS3', hG3'⟩
  have hS3 : Hid (SrcAt w3 g ao len cap (k + 1 + 1 + 1) t3) := hS3'
  have hG3 : Hid (w.grownBy w3 (some g)) := hG2.out.trans hG3'
  obtain ⟨x6, y6⟩ := SrcAt.next hG3' x3 y3 hne
  obtain ⟨x7, y7⟩ := SrcAt.next hG3' x4 y4 hne
  obtain ⟨x8, y8⟩ := SrcAt.next hG3' x5 y5 hne
  clear hS2 hR2 hS3' hG3' hG2 x3 y3 x4 y4 x5 y5
  go_wp2_with fail
  refine bodyPost_ret (v := .agg #[.int .i64 a, .int .i64 b, .int .i64 c]) (by simp [results, Tryd.results17, go_sem, x6, x7, x8, y6, y7, y8]) rfl ⟨a, b, c, t3, ⟨a0, a1⟩, ⟨b0, b1⟩, ⟨d0, d1⟩, rfl, ?_, ?_⟩
  · have hq := hS3.out
    rw [show k + 1 + 1 + 1 = k + 3 from by omega] at hq
    obtain ⟨c0, c1, c2, f1, f2, hg, hs⟩ := hq
    exact ⟨by go_simp, by go_simp, by go_simp, by go_simp, by go_simp, by simpa [World.setCell] using hg, hs⟩
  · refine grown_then (grown_then (grown_then hG3.out (grown_set _ _ _ _) ?_) (grown_set _ _ _ _) ?_) (grown_set _ _ _ _) ?_ <;> (intro j e; cases e; exact Or.inl (Nat.le_refl _))
set_option maxHeartbeats 1000000 in
theorem dot_any (g len cap : Nat) (ao : Option Addr) (zs : List Int) (k s : Int) (w : World) (h : SrcAt w g ao len cap k s) (hr : Gen.IsRow .u8 w ao len cap zs) (hn : ∀ x, ao = some x → 0 < cap → x.block ≠ g) (hl : (len : Int) ≤ 1048576) (hk0 : 0 ≤ k) (hk : k ≤ 999999000) :
    Calls Tryd.prog 16 #[.pointer (some ⟨g, 0, none⟩)] w fun e w' => ∃ p q t : Int, (0 ≤ p ∧ p < 3) ∧ (1 ≤ q ∧ q ≤ 5) ∧ e = .returned (.agg #[.int .i64 p, .int .i64 q]) ∧ SrcAt w' g ao len cap (k + 2) t ∧ w.grownBy w' (some g) := by
  have hgs : g < w.heap.size := h.2.2.2.2.2.1
  have hS0 : Hid (SrcAt (w.alloc (.cells #[.int .i64 0, .int .i64 0] 24)) g ao len cap k s) := h.alloc
  have hR0 : Hid (Gen.IsRow .u8 (w.alloc (.cells #[.int .i64 0, .int .i64 0] 24)) ao len cap zs) := row_alloc hr
  have HN : Hid (∀ x, ao = some x → 0 < cap → x.block ≠ g) := hn
  clear h hr hn
  have hne : w.heap.size ≠ g := by omega
  go_enter Tryd.func16, Tryd.ntmps16
  go_wp2_with fail
  refine (next_any g len cap ao zs k s 3 (by omega) (by omega) _ hS0.out hR0.out HN.out hl hk0 (by omega)).mono ?_
  rintro e w1 ⟨a, t1, ⟨a0, a1⟩, rfl, hS1', hG1'⟩
  have hS1 : Hid (SrcAt w1 g ao len cap (k + 1) t1) := hS1'
  have hR1 : Hid (Gen.IsRow .u8 w1 ao len cap zs) := row_grown hR0.out HN.out hG1'
  have hG1 : Hid (w.grownBy w1 (some g)) := (World.grownBy_alloc w _ _).trans hG1'
  obtain ⟨x0, y0⟩ := SrcAt.next hG1' (b := w.heap.size) (o := 0) (v := .int .i64 0) (by go_simp) (by go_simp) hne
  obtain ⟨x1, y1⟩ := SrcAt.next hG1' (b := w.heap.size) (o := 1) (v := .int .i64 0) (by go_simp) (by go_simp) hne
  clear hS0 hR0 hS1' hG1'
  go_wp2_with fail
  refine (next_any g len cap ao zs (k + 1) t1 5 (by omega) (by omega) _ hS1.out hR1.out HN.out hl (by omega) (by omega)).mono ?_
  rintro e w2 ⟨b, t2, ⟨b0, b1⟩, rfl, hS2', hG2'⟩
  have hS2 : Hid (SrcAt w2 g ao len cap (k + 1 + 1) t2) := hS2'
  have hG2 : Hid (w.grownBy w2 (some g)) := hG1.out.trans hG2'
  obtain ⟨x3, y3⟩ := SrcAt.next hG2' x0 y0 hne
  obtain ⟨x4, y4⟩ := SrcAt.next hG2' x1 y1 hne
  clear hS1 hR1 hS2' hG2' hG1 x0 y0 x1 y1
  go_wp2_with fail
  refine bodyPost_ret (v := .agg #[.int .i64 a, .int .i64 (1 + b)]) (by simp [results, Tryd.results16, go_sem, x3, x4, y3, y4]) rfl ⟨a, 1 + b, t2, ⟨a0, a1⟩, by omega, rfl, ?_, ?_⟩
  · have hq := hS2.out
    rw [show k + 1 + 1 = k + 2 from by omega] at hq
    obtain ⟨c0, c1, c2, f1, f2, hg, hs⟩ := hq
    exact ⟨by go_simp, by go_simp, by go_simp, by go_simp, by go_simp, by simpa [World.setCell] using hg, hs⟩
  · refine grown_then (grown_then hG2.out (grown_set _ _ _ _) ?_) (grown_set _ _ _ _) ?_ <;> (intro j e; cases e; exact Or.inl (Nat.le_refl _))

theorem src_start (len cap : Nat) (ao : Option Addr) (w : World) : SrcAt (w.alloc (.cells #[.slice ao len cap, .int .i64 0, .int .i64 ((len : Int) % 1000)] 69)) w.heap.size ao len cap 0 ((len : Int) % 1000) :=
  ⟨by go_simp, by go_simp, by go_simp, by go_simp, by go_simp, by simp, by omega, by omega⟩


set_option maxHeartbeats 1000000 in
theorem vvDrawn_any (len cap : Nat) (ao : Option Addr) (zs : List Int) (w : World) (hr : Gen.IsRow .u8 w ao len cap zs) (hl : (len : Int) ≤ 1048576) :
    Calls Tryd.prog 5 #[.slice ao len cap] w fun e w' => ∃ a b c : Int, ((0 ≤ a ∧ a < 5) ∧ (0 ≤ b ∧ b < 5) ∧ (0 ≤ c ∧ c < 5)) ∧ e = .returned (.agg #[.int .i64 a, .int .i64 b, .int .i64 c]) ∧ Below w.heap.size w w' := by
  have HR : Hid (Gen.IsRow .u8 ((w.alloc (.cells #[.int .i64 0, .int .i64 0, .int .i64 0] 27)).alloc (.cells #[.slice ao len cap, .int .i64 0, .int .i64 ((len : Int) % 1000)] 69)) ao len cap zs) := row_alloc (row_alloc hr)
  have HS : Hid (SrcAt ((w.alloc (.cells #[.int .i64 0, .int .i64 0, .int .i64 0] 27)).alloc (.cells #[.slice ao len cap, .int .i64 0, .int .i64 ((len : Int) % 1000)] 69)) (w.heap.size + 1) ao len cap 0 ((len : Int) % 1000)) := by
    have := src_start len cap ao (w.alloc (.cells #[.int .i64 0, .int .i64 0, .int .i64 0] 27))
    rwa [World.size_alloc] at this
  have HN : Hid (∀ x, ao = some x → 0 < cap → x.block ≠ w.heap.size + 1) := fun x hx hc => by
    have := row_lt hr x hx hc
    omega
  clear hr
  have hne : w.heap.size ≠ w.heap.size + 1 := by omega
  go_enter Tryd.func5, Tryd.ntmps5
  go_wp2_with fail
  refine (source_any len cap ao _ hl).mono ?_
  rintro e w1 ⟨rfl, rfl⟩
  go_wp2_with fail
  refine (vv_any (w.heap.size + 1) len cap ao zs 0 _ _ HS.out HR.out HN.out hl (by omega) (by omega)).mono ?_
  rintro e w2 ⟨a, b, c, t, ⟨a0, a1⟩, ⟨b0, b1⟩, ⟨c0, c1⟩, rfl, _, hG'⟩
  obtain ⟨x0, y0⟩ := SrcAt.next hG' (b := w.heap.size) (o := 0) (v := .int .i64 0) (by go_simp) (by go_simp) hne
  obtain ⟨x1, y1⟩ := SrcAt.next hG' (b := w.heap.size) (o := 1) (v := .int .i64 0) (by go_simp) (by go_simp) hne
  obtain ⟨x2, y2⟩ := SrcAt.next hG' (b := w.heap.size) (o := 2) (v := .int .i64 0) (by go_simp) (by go_simp) hne
  have hB : Below w.heap.size w w2 := (((Below.refl _ _).alloc (Nat.le_refl _) _).alloc (by simp) _).trans (grown_below hG' (by simp; omega) (by omega))
  clear HR HS HN hG'
  go_wp2_with fail
  refine bodyPost_ret (v := .agg #[.int .i64 a, .int .i64 b, .int .i64 c]) (by simp [results, Tryd.results5, go_sem, x0, y0, x1, y1, x2, y2]) rfl ⟨a, b, c, ⟨⟨a0, a1⟩, ⟨b0, b1⟩, c0, c1⟩, rfl, ?_⟩
  exact (((hB.setCell (Nat.le_refl _) _).setCell (Nat.le_refl _) _).setCell (Nat.le_refl _) _)


set_option maxHeartbeats 1000000 in
theorem dotDrawn_any (len cap : Nat) (ao : Option Addr) (zs : List Int) (w : World) (hr : Gen.IsRow .u8 w ao len cap zs) (hl : (len : Int) ≤ 1048576) :
    Calls Tryd.prog 4 #[.slice ao len cap] w fun e w' => ∃ p q : Int, ((0 ≤ p ∧ p < 3) ∧ (1 ≤ q ∧ q ≤ 5)) ∧ e = .returned (.agg #[.int .i64 p, .int .i64 q]) ∧ Below w.heap.size w w' := by
  have HR : Hid (Gen.IsRow .u8 ((w.alloc (.cells #[.int .i64 0, .int .i64 0] 24)).alloc (.cells #[.slice ao len cap, .int .i64 0, .int .i64 ((len : Int) % 1000)] 69)) ao len cap zs) := row_alloc (row_alloc hr)
  have HS : Hid (SrcAt ((w.alloc (.cells #[.int .i64 0, .int .i64 0] 24)).alloc (.cells #[.slice ao len cap, .int .i64 0, .int .i64 ((len : Int) % 1000)] 69)) (w.heap.size + 1) ao len cap 0 ((len : Int) % 1000)) := by
    have := src_start len cap ao (w.alloc (.cells #[.int .i64 0, .int .i64 0] 24))
    rwa [World.size_alloc] at this
  have HN : Hid (∀ x, ao = some x → 0 < cap → x.block ≠ w.heap.size + 1) := fun x hx hc => by
    have := row_lt hr x hx hc
    omega
  clear hr
  have hne : w.heap.size ≠ w.heap.size + 1 := by omega
  go_enter Tryd.func4, Tryd.ntmps4
  go_wp2_with fail
  refine (source_any len cap ao _ hl).mono ?_
  rintro e w1 ⟨rfl, rfl⟩
  go_wp2_with fail
  refine (dot_any (w.heap.size + 1) len cap ao zs 0 _ _ HS.out HR.out HN.out hl (by omega) (by omega)).mono ?_
  rintro e w2 ⟨p, q, t, ⟨p0, p1⟩, ⟨q0, q1⟩, rfl, _, hG'⟩
  obtain ⟨x0, y0⟩ := SrcAt.next hG' (b := w.heap.size) (o := 0) (v := .int .i64 0) (by go_simp) (by go_simp) hne
  obtain ⟨x1, y1⟩ := SrcAt.next hG' (b := w.heap.size) (o := 1) (v := .int .i64 0) (by go_simp) (by go_simp) hne
  have hB : Below w.heap.size w w2 := (((Below.refl _ _).alloc (Nat.le_refl _) _).alloc (by simp) _).trans (grown_below hG' (by simp; omega) (by omega))
  clear HR HS HN hG'
  go_wp2_with fail
  refine bodyPost_ret (v := .agg #[.int .i64 p, .int .i64 q]) (by simp [results, Tryd.results4, go_sem, x0, y0, x1, y1]) rfl ⟨p, q, ⟨⟨p0, p1⟩, ⟨q0, q1⟩⟩, rfl, ?_⟩
  exact ((hB.setCell (Nat.le_refl _) _).setCell (Nat.le_refl _) _)
def BRow (w : World) (v : Value) : Prop := ∃ ao len cap zs, v = .slice ao len cap ∧ Gen.IsRow .u8 w ao len cap zs
set_option maxHeartbeats 1000000 in
theorem implDT (p n : Int) (h : dotB p n = true) (w : World) (ht0 : TB w) :
    Calls Tryd.prog 7 #[.agg #[.int .i64 p, .int .i64 n]] w fun e w' => e = .returned (.tuple #[.string ⟨(dotT p n).toArray⟩, .int .i64 0]) ∧ Below w.heap.size w w' := by
  have hd := of_decide_eq_true (show decide _ = true from h)
  have B0 : Hid (Below w.heap.size w (w.alloc (.cells #[.int .i64 p, .int .i64 n] 24))) := bel_alloc _ _
  have CD : Hid (∀ W, Calls Tryd.prog 19 #[.agg #[.int .i64 p, .int .i64 n]] W fun e w' => e = .returned (.bool true) ∧ Below W.heap.size W w') := fun W => by
    have := impl_dot p n W
    rw [h] at this
    exact this
  have CT : Hid (∀ W, TB W → Calls Tryd.prog 20 #[.agg #[.int .i64 p, .int .i64 n]] W fun e w' => e = .returned (.string ⟨(dotT p n).toArray⟩) ∧ Below W.heap.size W w') := fun W hW => dotI p n (by omega) (by omega) (by omega) W hW
  have HT : Hid (TB w) := ht0
  clear h hd ht0
  go_enter Tryd.func7, Tryd.ntmps7
  go_wp2_with fail
  refine Calls.mono (CD.out _) ?_
  rintro e w1 ⟨rfl, hb⟩
  have c0 := cell_next hb (b := w.heap.size) (o := 0) (v := .int .i64 p) (by go_simp) (by simp)
  have c1 := cell_next hb (b := w.heap.size) (o := 1) (v := .int .i64 n) (by go_simp) (by simp)
  replace B0 := bel_next B0 hb
  clear hb
  go_wp2_with fail
  refine Calls.mono (CT.out _ (TB.next HT.out B0.out)) ?_
  rintro e w2 ⟨rfl, hb⟩
  replace B0 := bel_next B0 hb
  clear hb
  go_wp2
  go_ret2
  exact ⟨rfl, B0.out⟩
set_option maxHeartbeats 1000000 in
theorem implVT (a b c : Int) (h : vvB a b c = true) (w : World) (ht0 : TB w) :
    Calls Tryd.prog 9 #[.agg #[.int .i64 a, .int .i64 b, .int .i64 c]] w fun e w' => e = .returned (.tuple #[.string ⟨(vvT a b c).toArray⟩, .int .i64 0]) ∧ Below w.heap.size w w' := by
  have B0 : Hid (Below w.heap.size w (w.alloc (.cells #[.int .i64 a, .int .i64 b, .int .i64 c] 27))) := bel_alloc _ _
  have CD : Hid (∀ W, Calls Tryd.prog 23 #[.agg #[.int .i64 a, .int .i64 b, .int .i64 c]] W fun e w' => e = .returned (.bool true) ∧ Below W.heap.size W w') := fun W => by
    have := impl_vv a b c W
    rw [h] at this
    exact this
  have CT : Hid (∀ W, TB W → Calls Tryd.prog 24 #[.agg #[.int .i64 a, .int .i64 b, .int .i64 c]] W fun e w' => e = .returned (.string ⟨(vvT a b c).toArray⟩) ∧ Below W.heap.size W w') := fun W hW => vvI h W hW
  have HT : Hid (TB w) := ht0
  clear h ht0
  go_enter Tryd.func9, Tryd.ntmps9
  go_wp2_with fail
  refine Calls.mono (CD.out _) ?_
  rintro e w1 ⟨rfl, hb⟩
  have c0 := cell_next hb (b := w.heap.size) (o := 0) (v := .int .i64 a) (by go_simp) (by simp)
  have c1 := cell_next hb (b := w.heap.size) (o := 1) (v := .int .i64 b) (by go_simp) (by simp)
  have c2 := cell_next hb (b := w.heap.size) (o := 2) (v := .int .i64 c) (by go_simp) (by simp)
  replace B0 := bel_next B0 hb
  clear hb
  go_wp2_with fail
  refine Calls.mono (CT.out _ (TB.next HT.out B0.out)) ?_
  rintro e w2 ⟨rfl, hb⟩
  replace B0 := bel_next B0 hb
  clear hb
  go_wp2
  go_ret2
  exact ⟨rfl, B0.out⟩
/-- Two cells, three cells. -/
structure B2 (W : World) (g : Nat) (p n : Int) : Prop where
  c : W.cell? ⟨g, 0, none⟩ = some (.int .i64 p) ∧ W.cell? ⟨g, 1, none⟩ = some (.int .i64 n)
theorem b2_next {W W' : World} {g : Nat} {p n : Int} (h : Hid (B2 W g p n)) (hb : Below W.heap.size W W') : Hid (B2 W' g p n) := ⟨cell_next hb h.out.c.1 (cell_lt h.out.c.1), cell_next hb h.out.c.2 (cell_lt h.out.c.1)⟩
theorem b2_new {W : World} {p n : Int} {t : TypeId} : Hid (B2 (W.alloc (.cells #[.int .i64 p, .int .i64 n] t)) W.heap.size p n) := by refine ⟨⟨?_, ?_⟩⟩ <;> go_simp
structure B3 (W : World) (g : Nat) (a b c : Int) : Prop where
  c : W.cell? ⟨g, 0, none⟩ = some (.int .i64 a) ∧ W.cell? ⟨g, 1, none⟩ = some (.int .i64 b) ∧ W.cell? ⟨g, 2, none⟩ = some (.int .i64 c)
theorem b3_next {W W' : World} {g : Nat} {a b c : Int} (h : Hid (B3 W g a b c)) (hb : Below W.heap.size W W') : Hid (B3 W' g a b c) := ⟨cell_next hb h.out.c.1 (cell_lt h.out.c.1), cell_next hb h.out.c.2.1 (cell_lt h.out.c.1), cell_next hb h.out.c.2.2 (cell_lt h.out.c.1)⟩
theorem b3_new {W : World} {a b c : Int} {t : TypeId} : Hid (B3 (W.alloc (.cells #[.int .i64 a, .int .i64 b, .int .i64 c] t)) W.heap.size a b c) := by refine ⟨⟨?_, ?_, ?_⟩⟩ <;> go_simp
theorem roq_ov {w w' : World} {m : List Sib} {x y z code : Int} {e : Ending} (h : RoQ w m x y z code e w') : ∃ u : Ov, (u.l = m ∧ u.a = x ∧ u.b = y ∧ u.c = z) ∧ e = .returned (.tuple #[.agg #[.slice u.ao u.l.length u.cap, .int .i64 u.a, .int .i64 u.b, .int .i64 u.c], .int .i64 code]) ∧ Below w.heap.size w w' ∧ SibRow w' u.ao u.l ∧ u.l.length ≤ u.cap := by
  obtain ⟨v, rfl, hO, _, hb⟩ := h
  obtain ⟨p, q, e, hr, _⟩ := owned_row hO
  subst e
  refine ⟨⟨p, q, m, x, y, z⟩, ⟨rfl, rfl, rfl, rfl⟩, rfl, hb, hr, ?_⟩
  rcases hO.2 with ⟨h0, h1⟩ | ⟨g', cap', cur, h0, hb, hh, hnc, hm, hs, ht⟩
  · show m.length ≤ q
    omega
  · cases h0
    exact hnc

theorem rowh_next {W W' : World} {ao : Option Addr} {len cap : Nat} {zs : List Int} (h : Hid (Gen.IsRow .u8 W ao len cap zs)) (hb : Below W.heap.size W W') : Hid (Gen.IsRow .u8 W' ao len cap zs) := row_below h.out hb
set_option maxRecDepth 100000 in
set_option maxHeartbeats 16000000 in
theorem law_texts (v0 v1 : Value) (w : World) (h0 : BRow w v0) (h1 : BRow w v1) (ht0 : TB w) :
    Calls Tryd.prog 3 #[v0, v1] w fun e w' => e = .returned (.bool true) ∧ Below w.heap.size w w' := by
  obtain ⟨ao, len, cap, zs, rfl, hr0⟩ := h0
  obtain ⟨bo, ln, cp, ys, rfl, hr1⟩ := h1
  by_cases h1 : 1048576 < (len : Int)
  · clear hr0 hr1
    go_enter Tryd.func3, Tryd.ntmps3
    go_wp2
    go_ret
    exact ⟨rfl, Below.refl _ _⟩
  by_cases h2 : 1048576 < (ln : Int)
  · clear hr0 hr1
    go_enter Tryd.func3, Tryd.ntmps3
    go_wp2
    go_ret
    exact ⟨rfl, Below.refl _ _⟩
  have RA : Hid (Gen.IsRow .u8 w ao len cap zs) := hr0
  have RB : Hid (Gen.IsRow .u8 w bo ln cp ys) := hr1
  have HT : Hid (TB w) := ht0
  have hl : (len : Int) ≤ 1048576 := by omega
  have hl2 : (ln : Int) ≤ 1048576 := by omega
  clear hr0 hr1 ht0
  go_enter Tryd.func3, Tryd.ntmps3
  go_wp2_with fail
  refine Calls.mono (dotDrawn_any len cap ao zs w RA.out hl) ?_
  rintro e W1 ⟨p, n, ⟨⟨p0, p1⟩, n0, n1⟩, rfl, hb⟩
  have HD : Hid (dotB p n = true) := decide_eq_true (by omega)
  have HB : Hid (Below w.heap.size w W1) := hb
  replace RA := rowh_next RA hb
  replace RB := rowh_next RB hb
  clear hb p0 p1 n0 n1
  have Bd : Hid (B2 (W1.alloc (.cells #[.int .i64 p, .int .i64 n] 24)) W1.heap.size p n) := b2_new
  have hb := bel_alloc W1 (.cells #[.int .i64 p, .int .i64 n] 24)
  replace RA := rowh_next RA hb
  replace RB := rowh_next RB hb
  replace HB := bel_next HB hb
  clear hb
  go_wp2_with fail
  generalize (W1.alloc (.cells #[.int .i64 p, .int .i64 n] 24)) = V1 at *
  generalize W1.heap.size = bd at *
  refine Calls.mono (vvDrawn_any len cap ao zs _ RA.out hl) ?_
  rintro e W2 ⟨a, b, c, ⟨⟨a0, a1⟩, ⟨b0, b1⟩, c0, c1⟩, rfl, hb⟩
  have HV : Hid (vvB a b c = true) := decide_eq_true (by omega)
  clear a0 a1 b0 b1 c0 c1
  replace RA := rowh_next RA hb
  replace RB := rowh_next RB hb
  replace Bd := b2_next Bd hb
  replace HB := bel_next HB hb
  clear hb RA
  have Bv : Hid (B3 (W2.alloc (.cells #[.int .i64 a, .int .i64 b, .int .i64 c] 27)) W2.heap.size a b c) := b3_new
  have hb := bel_alloc W2 (.cells #[.int .i64 a, .int .i64 b, .int .i64 c] 27)
  replace RB := rowh_next RB hb
  replace Bd := b2_next Bd hb
  replace HB := bel_next HB hb
  clear hb
  go_wp2_with fail
  generalize (W2.alloc (.cells #[.int .i64 a, .int .i64 b, .int .i64 c] 27)) = V2 at *
  generalize W2.heap.size = bv at *
  refine Calls.mono (objsOf_any bo ln cp ys _ hl2 RB.out) ?_
  rintro e W3 ⟨V, m, o, q, rfl, hob, hro, hrp, hm, hb⟩
  have OK : Hid (OkP (o 0).l (o 0).a (o 0).b (o 0).c) := (hrp 0 (by omega)).okP hm.1 hm.2.1 hm.2.2
  have R0 : Hid (SibRow W3 (o 0).ao (o 0).l ∧ (o 0).l.length ≤ (o 0).cap) := hro 0 (by omega)
  obtain ⟨a0, a1, a2, a3, b0, b1, b2, b3, c0, c1, c2, c3⟩ := ll_of hob
  clear hob hro hrp hm b0 b1 b2 b3 c0 c1 c2 c3
  replace RB := rowh_next RB hb
  replace Bd := b2_next Bd hb
  replace Bv := b3_next Bv hb
  replace HB := bel_next HB hb
  clear hb RB
  generalize o 0 = x at *
  have Bo : Hid (Bx (W3.alloc (.cells #[.slice x.ao x.l.length x.cap, .int .i64 x.a, .int .i64 x.b, .int .i64 x.c] 31)) W3.heap.size x) := bx_new R0.out.1 R0.out.2
  have hb := bel_alloc W3 (.cells #[.slice x.ao x.l.length x.cap, .int .i64 x.a, .int .i64 x.b, .int .i64 x.c] 31)
  replace Bd := b2_next Bd hb
  replace Bv := b3_next Bv hb
  replace HB := bel_next HB hb
  clear hb R0
  obtain ⟨d0, d1⟩ := Bd.out.c
  go_wp2_with fail
  clear a0 a1 a2 a3 d0 d1
  generalize (W3.alloc (.cells #[.slice x.ao x.l.length x.cap, .int .i64 x.a, .int .i64 x.b, .int .i64 x.c] 31)) = V3 at *
  generalize W3.heap.size = bo' at *
  refine Calls.mono (implDT p n HD.out _ (TB.next HT.out HB.out)) ?_
  rintro e W4 ⟨rfl, hb⟩
  replace Bd := b2_next Bd hb
  replace Bv := b3_next Bv hb
  replace Bo := bx_next Bo hb
  replace HB := bel_next HB hb
  clear hb
  go_wp2_with fail
  refine Calls.mono (implRead_any _ p n 0 (rda_text HD.out) _ (by have := dot_short HD.out; rw [size_of]; omega)) ?_
  rintro e W5 ⟨rfl, hb⟩
  replace Bd := b2_next Bd hb
  replace Bv := b3_next Bv hb
  replace Bo := bx_next Bo hb
  replace HB := bel_next HB hb
  have Bx1 : Hid (B2 (W5.alloc (.cells #[.int .i64 p, .int .i64 n] 24)) W5.heap.size p n) := b2_new
  clear hb
  have hb := bel_alloc W5 (.cells #[.int .i64 p, .int .i64 n] 24)
  replace Bd := b2_next Bd hb
  replace Bv := b3_next Bv hb
  replace Bo := bx_next Bo hb
  replace HB := bel_next HB hb
  clear hb
  obtain ⟨v0, v1, v2⟩ := Bv.out.c
  go_wp2_with fail
  clear v0 v1 v2
  generalize (W5.alloc (.cells #[.int .i64 p, .int .i64 n] 24)) = V4 at *
  generalize W5.heap.size = bx at *
  refine Calls.mono (implVT a b c HV.out _ (TB.next HT.out HB.out)) ?_
  rintro e W6 ⟨rfl, hb⟩
  replace Bd := b2_next Bd hb
  replace Bv := b3_next Bv hb
  replace Bo := bx_next Bo hb
  replace Bx1 := b2_next Bx1 hb
  replace HB := bel_next HB hb
  clear hb
  go_wp2_with fail
  refine Calls.mono (implReadV_any _ a b c 0 (rva_text HV.out) _ (by have := vv_short HV.out; rw [size_of]; omega)) ?_
  rintro e W7 ⟨rfl, hb⟩
  replace Bd := b2_next Bd hb
  replace Bv := b3_next Bv hb
  replace Bo := bx_next Bo hb
  replace Bx1 := b2_next Bx1 hb
  replace HB := bel_next HB hb
  have By : Hid (B3 (W7.alloc (.cells #[.int .i64 a, .int .i64 b, .int .i64 c] 27)) W7.heap.size a b c) := b3_new
  clear hb
  have hb := bel_alloc W7 (.cells #[.int .i64 a, .int .i64 b, .int .i64 c] 27)
  replace Bd := b2_next Bd hb
  replace Bv := b3_next Bv hb
  replace Bo := bx_next Bo hb
  replace Bx1 := b2_next Bx1 hb
  replace HB := bel_next HB hb
  clear hb
  obtain ⟨o0, o1, o2, o3⟩ := Bo.out.cells
  go_wp2_with fail
  clear o0 o1 o2 o3
  generalize (W7.alloc (.cells #[.int .i64 a, .int .i64 b, .int .i64 c] 27)) = V5 at *
  generalize W7.heap.size = byy at *
  have HTR : Hid (TRel x.l x.a x.b x.c ⟨(objT (vvT x.a x.b x.c) x.l).toArray⟩ 0) := ⟨fun _ => ⟨rfl, rfl⟩, fun h => (h OK.out).elim⟩
  have HL1 : Hid ((x.l.length : Int) ≤ 1048576) := by have := OK.out.1; show _ ≤ _; omega
  obtain ⟨tx, htx⟩ : ∃ tx : List UInt8, tx = objT (vvT x.a x.b x.c) x.l := ⟨_, rfl⟩
  have TXE : Hid (tx = objT (vvT x.a x.b x.c) x.l) := htx
  rw [← htx] at HTR
  have HTS : Hid (tx.length ≤ 4000) := by show _ ≤ _; rw [htx]; exact obj_short OK.out
  have HRT : Hid (RoA ⟨tx.toArray⟩ x.l x.a x.b x.c 0) := by show RoA _ _ _ _ _ _; rw [htx]; exact roa_text OK.out
  have HRB : Hid (RoA ⟨(tx ++ [124]).toArray⟩ [] 0 0 0 3) := by show RoA _ _ _ _ _ _; rw [htx]; exact roa_bad OK.out
  clear htx TXE
  refine Calls.mono (implText_any x.cap x.ao x.l x.a x.b x.c _ 0 HTR _ HL1.out Bo.out.row (TB.next HT.out HB.out)) ?_
  rintro e W8 ⟨rfl, hb⟩
  replace Bd := b2_next Bd hb
  replace Bv := b3_next Bv hb
  replace Bo := bx_next Bo hb
  replace Bx1 := b2_next Bx1 hb
  replace By := b3_next By hb
  replace HB := bel_next HB hb
  clear hb
  go_wp2_with fail
  refine Calls.mono (implReadO_any _ x.l x.a x.b x.c 0 HRT _ (by have := HTS.out; rw [size_of]; omega)) ?_
  intro e W9 hQ
  obtain ⟨u, hE, rfl, hb, hr, hc⟩ := roq_ov hQ
  clear hQ
  have EU : Hid (Al u x) := hE
  clear hE
  replace Bd := b2_next Bd hb
  replace Bv := b3_next Bv hb
  replace Bo := bx_next Bo hb
  replace Bx1 := b2_next Bx1 hb
  replace By := b3_next By hb
  replace HB := bel_next HB hb
  have Bu : Hid (Bx (W9.alloc (.cells #[.slice u.ao u.l.length u.cap, .int .i64 u.a, .int .i64 u.b, .int .i64 u.c] 31)) W9.heap.size u) := bx_new hr hc
  clear hb hr hc
  have hb := bel_alloc W9 (.cells #[.slice u.ao u.l.length u.cap, .int .i64 u.a, .int .i64 u.b, .int .i64 u.c] 31)
  replace Bd := b2_next Bd hb
  replace Bv := b3_next Bv hb
  replace Bo := bx_next Bo hb
  replace Bx1 := b2_next Bx1 hb
  replace By := b3_next By hb
  replace HB := bel_next HB hb
  clear hb
  obtain ⟨o0, o1, o2, o3⟩ := Bo.out.cells
  go_wp2_with fail
  clear o0 o1 o2 o3
  generalize (W9.alloc (.cells #[.slice u.ao u.l.length u.cap, .int .i64 u.a, .int .i64 u.b, .int .i64 u.c] 31)) = V6 at *
  generalize W9.heap.size = bu at *
  refine Calls.mono (specText_any x.cap x.ao x.l x.a x.b x.c _ 0 HTR _ HL1.out Bo.out.row) ?_
  rintro e W10 ⟨rfl, hb⟩
  replace Bd := b2_next Bd hb
  replace Bv := b3_next Bv hb
  replace Bo := bx_next Bo hb
  replace Bx1 := b2_next Bx1 hb
  replace By := b3_next By hb
  replace Bu := bx_next Bu hb
  replace HB := bel_next HB hb
  clear hb
  have QA : (⟨tx.toArray⟩ : ByteArray) ++ ⟨#[124]⟩ = ⟨(tx ++ [124]).toArray⟩ := ba_app tx [124]
  have QL : ¬ 9223372036854775807 < tx.length + 1 := by have := HTS.out; omega
  go_wp2_with fail
  clear QL
  refine Calls.mono (implReadO_any _ [] 0 0 0 3 HRB _ (by have := HTS.out; rw [size_of, List.length_append]; simp; omega)) ?_
  intro e W11 hQ
  obtain ⟨u2, hE, rfl, hb, hr, hc⟩ := roq_ov hQ
  clear hQ hE
  replace Bd := b2_next Bd hb
  replace Bv := b3_next Bv hb
  replace Bo := bx_next Bo hb
  replace Bx1 := b2_next Bx1 hb
  replace By := b3_next By hb
  replace Bu := bx_next Bu hb
  replace HB := bel_next HB hb
  clear hb hr hc
  have hb := bel_alloc W11 (.cells #[.slice u2.ao u2.l.length u2.cap, .int .i64 u2.a, .int .i64 u2.b, .int .i64 u2.c] 31)
  replace Bd := b2_next Bd hb
  replace Bv := b3_next Bv hb
  replace Bo := bx_next Bo hb
  replace Bx1 := b2_next Bx1 hb
  replace By := b3_next By hb
  replace Bu := bx_next Bu hb
  replace HB := bel_next HB hb
  clear hb
  go_wp2_with fail
  generalize (W11.alloc (.cells #[.slice u2.ao u2.l.length u2.cap, .int .i64 u2.a, .int .i64 u2.b, .int .i64 u2.c] 31)) = V7 at *
  generalize W11.heap.size = bz at *
  refine Calls.mono (implRead_any _ 0 0 3 rda_none _ (by decide)) ?_
  rintro e W12 ⟨rfl, hb⟩
  replace Bd := b2_next Bd hb
  replace Bv := b3_next Bv hb
  replace Bo := bx_next Bo hb
  replace Bx1 := b2_next Bx1 hb
  replace By := b3_next By hb
  replace Bu := bx_next Bu hb
  replace HB := bel_next HB hb
  clear hb
  have hb := bel_alloc W12 (.cells #[.int .i64 0, .int .i64 0] 24)
  replace Bd := b2_next Bd hb
  replace Bv := b3_next Bv hb
  replace Bo := bx_next Bo hb
  replace Bx1 := b2_next Bx1 hb
  replace By := b3_next By hb
  replace Bu := bx_next Bu hb
  replace HB := bel_next HB hb
  clear hb
  obtain ⟨d0, d1⟩ := Bd.out.c
  obtain ⟨v0, v1, v2⟩ := Bv.out.c
  obtain ⟨x0, x1⟩ := Bx1.out.c
  obtain ⟨y0, y1, y2⟩ := By.out.c
  obtain ⟨o0, o1, o2, o3⟩ := Bo.out.cells
  obtain ⟨u0, u1, u2', u3⟩ := Bu.out.cells
  have ev := eqv a b c a b c
  go_wp2_with fail
  clear ev d0 d1 v0 v1 v2 x0 x1 y0 y1 y2 o0 o1 o2 o3 u0 u1 u2' u3
  generalize (W12.alloc (.cells #[.int .i64 0, .int .i64 0] 24)) = V8 at *
  generalize W12.heap.size = bn at *
  have HLu : Hid ((u.l.length : Int) ≤ 1048576) := by have h3 := HL1.out; have h4 := EU.out.1; show _ ≤ _; rw [h4]; exact h3
  refine Calls.mono (lsame_any u.cap x.cap u.ao x.ao u.l x.l u.a u.b u.c x.a x.b x.c true ⟨fun _ => same_of EU.out, fun _ => rfl⟩ _ HLu.out HL1.out Bu.out.row Bo.out.row) ?_
  rintro e W13 ⟨rfl, hb⟩
  replace Bd := b2_next Bd hb
  replace Bv := b3_next Bv hb
  replace Bo := bx_next Bo hb
  replace Bx1 := b2_next Bx1 hb
  replace By := b3_next By hb
  replace Bu := bx_next Bu hb
  replace HB := bel_next HB hb
  clear hb
  go_wp2
  go_ret
  exact ⟨rfl, HB.out⟩
end Go.Proofs.YtgnacdhceiapkaaDoor
