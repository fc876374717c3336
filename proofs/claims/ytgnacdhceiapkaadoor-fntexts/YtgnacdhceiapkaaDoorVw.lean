/- readWhole and ReadVv, of the program. -/
import Derived.Test.YtgnacdhceiapkaaDoorRows
import Derived.WalkKit
import Derived.WalkSpells
import Derived.WalkLawsBesides
import Derived.Deep.QuietTactic
import Derived.BigQuiet
import Derived.Deep.RegionHeld3
import Derived.Test.YtgnacdhceiapkaaDoorVr
import Derived.LoopN
import Derived.Laws.EntriesVeiled
namespace Go.Proofs.YtgnacdhceiapkaaDoor
open Go.RowKit
set_option linter.unusedSimpArgs false
set_option linter.unusedVariables false

theorem sgD_dot (t : List UInt8) : sgD (46 :: t) = some t := rfl
theorem sgD_some {l r : List UInt8} (h : sgD l = some r) : l = 46 :: r := by
  cases l with
  | nil => cases h
  | cons c l =>
    rw [sgD] at h
    by_cases hc : c.toNat = 46
    · rw [if_pos hc] at h
      cases h
      congr 1
      exact UInt8.toNat_inj.1 (by simpa using hc)
    · rw [if_neg hc] at h; cases h
theorem rv1_num {a t : List UInt8} (h : Num a ∧ nv a ≤ 9999) (ht : NoD t) : rv1 (a ++ t) = some (nv a, t) := by
  have := ld_pre (most := 9999) h.1 (by decide) h.2 ht
  rw [rv1_yes this (List.length_pos_iff.2 h.1.1), List.drop_left]
theorem rv1_some {l r : List UInt8} {n : Int} (h : rv1 l = some (n, r)) : ∃ a, l = a ++ r ∧ (Num a ∧ nv a ≤ 9999) ∧ n = nv a := by
  obtain ⟨m, k, hk⟩ : ∃ m k, ld 9999 l = (m, k) := ⟨_, _, rfl⟩
  rw [rv1, hk] at h
  by_cases h0 : 0 < k
  · rw [if_pos h0] at h
    simp only [Option.some.injEq, Prod.mk.injEq] at h
    obtain ⟨rfl, rfl⟩ := h
    obtain ⟨_, h2, h3, h4, _⟩ := ld_cut hk h0
    exact ⟨l.take k, (List.take_append_drop k l).symm, ⟨h2, h4⟩, h3⟩
  · rw [if_neg h0] at h; cases h
theorem rv_yes {l a b c : List UInt8} (h : VvT l a b c) : rvS l 3 = some ((nv a, nv b, nv c), []) := by
  obtain ⟨rfl, ha, hb, hc⟩ := h
  have e1 : rvS (a ++ 46 :: (b ++ 46 :: c)) 1 = some ((nv a, 0, 0), 46 :: (b ++ 46 :: c)) := by rw [rvS_1, rv1_num ha (nod_dot _)]; rfl
  have e2 : rvS (a ++ 46 :: (b ++ 46 :: c)) 2 = some ((nv a, nv b, 0), 46 :: c) := by
    rw [rvS_2, e1]; simp only [Option.bind_some]; rw [sgD_dot]; simp only [Option.bind_some]; rw [rv1_num hb (nod_dot _)]; rfl
  rw [rvS_3, e2]; simp only [Option.bind_some]; rw [sgD_dot]; simp only [Option.bind_some]
  have e3 := rv1_num hc nod_nil
  rw [List.append_nil] at e3
  rw [e3]; rfl
theorem rv_conv {l : List UInt8} {x y z : Int} (h : rvS l 3 = some ((x, y, z), [])) : ∃ a b c, VvT l a b c ∧ x = nv a ∧ y = nv b ∧ z = nv c := by
  rw [rvS_3] at h
  cases h2 : rvS l 2 with
  | none => rw [h2] at h; cases h
  | some p2 =>
    obtain ⟨⟨x2, y2, z2⟩, l2⟩ := p2
    rw [h2] at h
    simp only [Option.bind_some] at h
    cases hs2 : sgD l2 with
    | none => rw [hs2] at h; cases h
    | some r2 =>
      rw [hs2] at h
      simp only [Option.bind_some] at h
      cases hv2 : rv1 r2 with
      | none => rw [hv2] at h; cases h
      | some v2 =>
        obtain ⟨n2, t2⟩ := v2
        rw [hv2] at h
        simp only [Option.map_some, Option.some.injEq, Prod.mk.injEq] at h
        obtain ⟨⟨rfl, rfl, rfl⟩, rfl⟩ := h
        rw [rvS_2] at h2
        cases h1 : rvS l 1 with
        | none => rw [h1] at h2; cases h2
        | some p1 =>
          obtain ⟨⟨x1, y1, z1⟩, l1⟩ := p1
          rw [h1] at h2
          simp only [Option.bind_some] at h2
          cases hs1 : sgD l1 with
          | none => rw [hs1] at h2; cases h2
          | some r1 =>
            rw [hs1] at h2
            simp only [Option.bind_some] at h2
            cases hv1 : rv1 r1 with
            | none => rw [hv1] at h2; cases h2
            | some v1 =>
              obtain ⟨n1, t1⟩ := v1
              rw [hv1] at h2
              simp only [Option.map_some, Option.some.injEq, Prod.mk.injEq] at h2
              obtain ⟨⟨rfl, rfl, rfl⟩, rfl⟩ := h2
              rw [rvS_1] at h1
              cases hv0 : rv1 l with
              | none => rw [hv0] at h1; cases h1
              | some v0 =>
                obtain ⟨n0, t0⟩ := v0
                rw [hv0] at h1
                simp only [Option.map_some, Option.some.injEq, Prod.mk.injEq] at h1
                obtain ⟨⟨rfl, rfl, rfl⟩, rfl⟩ := h1
                obtain ⟨a, ea, ha, na⟩ := rv1_some hv0
                obtain ⟨b, eb, hb, nb⟩ := rv1_some hv1
                obtain ⟨c, ec, hc, nc⟩ := rv1_some hv2
                refine ⟨a, b, c, ⟨?_, ha, hb, hc⟩, na, nb, nc⟩
                rw [ea, sgD_some hs1, eb, sgD_some hs2, ec, List.append_nil]
/-- What ReadVv answers. -/
def RvA (s : ByteArray) (x y z code : Int) : Prop := (65536 < s.size → x = 0 ∧ y = 0 ∧ z = 0 ∧ code = 2) ∧ (¬ 65536 < s.size → ∀ a b c, VvT (bl s) a b c → x = nv a ∧ y = nv b ∧ z = nv c ∧ code = 0) ∧ (¬ 65536 < s.size → ¬ (∃ a b c, VvT (bl s) a b c) → x = 0 ∧ y = 0 ∧ z = 0 ∧ code = 3)
theorem vvT_one {l a b c a' b' c' : List UInt8} (h : VvT l a b c) (h' : VvT l a' b' c') : a = a' ∧ b = b' ∧ c = c' := by
  have e := (vvT_cut h).symm.trans (vvT_cut h')
  simp only [List.cons.injEq, and_true] at e
  exact e
theorem rva_of (s : ByteArray) : ∃ x y z code, Hid (RvA s x y z code) := by
  by_cases h : 65536 < s.size
  · exact ⟨0, 0, 0, 2, fun _ => ⟨rfl, rfl, rfl, rfl⟩, fun h' => (h' h).elim, fun h' => (h' h).elim⟩
  · by_cases h1 : ∃ a b c, VvT (bl s) a b c
    · obtain ⟨a, b, c, hv⟩ := h1
      refine ⟨nv a, nv b, nv c, 0, fun h' => (h h').elim, fun _ a' b' c' hv' => ?_, fun _ h' => (h' ⟨a, b, c, hv⟩).elim⟩
      obtain ⟨rfl, rfl, rfl⟩ := vvT_one hv hv'
      exact ⟨rfl, rfl, rfl, rfl⟩
    · exact ⟨0, 0, 0, 3, fun h' => (h h').elim, fun _ a b c hv => (h1 ⟨a, b, c, hv⟩).elim, fun _ _ => ⟨rfl, rfl, rfl, rfl⟩⟩

set_option maxHeartbeats 4000000 in
theorem wholeV_any (s : ByteArray) (x y z code : Int) (hA : Hid (RvA s x y z code)) (w : World) (hs : s.size ≤ 1048576) :
    Calls Tryd.prog 25 #[.string s, .func (.func 26) #[] #[]] w fun e w' => e = .returned (.tuple #[.agg #[.int .i64 x, .int .i64 y, .int .i64 z], .int .i64 code]) ∧ Below w.heap.size w w' := by
  by_cases hb65 : 65536 < s.size
  · obtain ⟨rfl, rfl, rfl, rfl⟩ := hA.out.1 hb65
    have hb' : (65536 : Int) < (s.size : Int) := by omega
    go_enter Tryd.func25, Tryd.ntmps25
    go_wp2
    refine bodyPost_ret (v := .tuple #[.agg #[.int .i64 0, .int .i64 0, .int .i64 0], .int .i64 2]) (by simp [results, Tryd.results25, go_sem]) rfl ⟨rfl, ?_⟩
    repeat (first | exact Below.refl _ _ | refine Below.drew ?_ | refine below_drewN ?_ _ | refine Below.alloc ?_ (by first | (simp; done) | (simp; omega)) _ | refine Below.setCell ?_ (by first | (simp; done) | (simp; omega)) _)
  have hb' : ¬ (65536 : Int) < (s.size : Int) := by omega
  have R0 : Hid (((((w.alloc (.cells #[.int .i64 0, .int .i64 0, .int .i64 0] 27)).alloc (.cells #[.int .i64 0, .int .i64 0, .int .i64 0] 27))).cell? ⟨w.heap.size, 0, none⟩ = some (.int .i64 0) ∧ (((w.alloc (.cells #[.int .i64 0, .int .i64 0, .int .i64 0] 27)).alloc (.cells #[.int .i64 0, .int .i64 0, .int .i64 0] 27))).cell? ⟨w.heap.size, 1, none⟩ = some (.int .i64 0) ∧ (((w.alloc (.cells #[.int .i64 0, .int .i64 0, .int .i64 0] 27)).alloc (.cells #[.int .i64 0, .int .i64 0, .int .i64 0] 27))).cell? ⟨w.heap.size, 2, none⟩ = some (.int .i64 0)) ∧ ((((w.alloc (.cells #[.int .i64 0, .int .i64 0, .int .i64 0] 27)).alloc (.cells #[.int .i64 0, .int .i64 0, .int .i64 0] 27))).frozen? ⟨w.heap.size, 0, none⟩ = false ∧ (((w.alloc (.cells #[.int .i64 0, .int .i64 0, .int .i64 0] 27)).alloc (.cells #[.int .i64 0, .int .i64 0, .int .i64 0] 27))).frozen? ⟨w.heap.size, 1, none⟩ = false ∧ (((w.alloc (.cells #[.int .i64 0, .int .i64 0, .int .i64 0] 27)).alloc (.cells #[.int .i64 0, .int .i64 0, .int .i64 0] 27))).frozen? ⟨w.heap.size, 2, none⟩ = false) ∧ ((((w.alloc (.cells #[.int .i64 0, .int .i64 0, .int .i64 0] 27)).alloc (.cells #[.int .i64 0, .int .i64 0, .int .i64 0] 27))).cell? ⟨w.heap.size + 1, 0, none⟩ = some (.int .i64 0) ∧ (((w.alloc (.cells #[.int .i64 0, .int .i64 0, .int .i64 0] 27)).alloc (.cells #[.int .i64 0, .int .i64 0, .int .i64 0] 27))).cell? ⟨w.heap.size + 1, 1, none⟩ = some (.int .i64 0) ∧ (((w.alloc (.cells #[.int .i64 0, .int .i64 0, .int .i64 0] 27)).alloc (.cells #[.int .i64 0, .int .i64 0, .int .i64 0] 27))).cell? ⟨w.heap.size + 1, 2, none⟩ = some (.int .i64 0))) := ⟨⟨by go_simp, by go_simp, by go_simp⟩, ⟨by go_simp, by go_simp, by go_simp⟩, ⟨by go_simp, by go_simp, by go_simp⟩⟩
  have HB0 : Hid (Below w.heap.size w ((w.alloc (.cells #[.int .i64 0, .int .i64 0, .int .i64 0] 27)).alloc (.cells #[.int .i64 0, .int .i64 0, .int .i64 0] 27))) := (bel_alloc _ _).trans ((bel_alloc _ _).mono (by simp))
  have HZ : Hid ((((w.alloc (.cells #[.int .i64 0, .int .i64 0, .int .i64 0] 27)).alloc (.cells #[.int .i64 0, .int .i64 0, .int .i64 0] 27))).heap.size = w.heap.size + 1 + 1) := by show _ = _; simp
  go_enter Tryd.func25, Tryd.ntmps25
  go_wp2_with fail
  generalize ((w.alloc (.cells #[.int .i64 0, .int .i64 0, .int .i64 0] 27)).alloc (.cells #[.int .i64 0, .int .i64 0, .int .i64 0] 27)) = W0 at *
  refine (reader_any s W0).mono ?_
  rintro e w1 ⟨rfl, hb, hL, hlt⟩
  obtain ⟨g, hg⟩ : ∃ g, g = W0.heap.size := ⟨_, rfl⟩
  rw [← hg] at hL hlt ⊢
  have hgw : w.heap.size + 1 < g := by have := HZ.out; omega
  have HB1 : Hid (Below w.heap.size w w1) := bel_next HB0 hb
  obtain ⟨⟨R00, R01, R02⟩, ⟨R03, R04, R05⟩, R06, R07, R08⟩ := R0.out
  have hzz : w.heap.size + 1 < W0.heap.size := by have := HZ.out; omega
  have r0 := cell_next hb R00 (by omega)
  have r1 := cell_next hb R01 (by omega)
  have r2 := cell_next hb R02 (by omega)
  have q0 := frozen_next hb R03 (by omega)
  have q1 := frozen_next hb R04 (by omega)
  have q2 := frozen_next hb R05 (by omega)
  have n0 := cell_next hb R06 (by omega)
  have n1 := cell_next hb R07 (by omega)
  have n2 := cell_next hb R08 (by omega)
  have HL1 : Hid (Left w1 g s) := hL
  clear hb hL hg R00 R01 R02 R03 R04 R05 R06 R07 R08 hzz R0 HB0 HZ
  clear W0
  go_wp2_with fail
  refine (readVv_any g s _ (by simp; omega) (left_next HL1.out (bel_alloc _ _) hlt) (by omega)).mono ?_
  rintro e w2 (⟨x', y', z', rest, hS, rfl, s', hL2, hbl, hg2⟩ | ⟨hS, rfl, hg2⟩)
  · have f2 : w2.cell? ⟨w1.heap.size, 2, none⟩ = some (.func (.func 66) #[] #[.pointer (some ⟨g, 0, none⟩)]) := grown_cell hg2 (by go_simp) (by omega)
    replace r0 := grown_cell hg2 (box_a r0 (by omega)) (by omega)
    replace n0 := grown_cell hg2 (box_a n0 (by omega)) (by omega)
    replace q0 := grown_froz hg2 (froz_a q0 (by omega)) (by simp; omega) (by omega)
    replace r1 := grown_cell hg2 (box_a r1 (by omega)) (by omega)
    replace n1 := grown_cell hg2 (box_a n1 (by omega)) (by omega)
    replace q1 := grown_froz hg2 (froz_a q1 (by omega)) (by simp; omega) (by omega)
    replace r2 := grown_cell hg2 (box_a r2 (by omega)) (by omega)
    replace n2 := grown_cell hg2 (box_a n2 (by omega)) (by omega)
    replace q2 := grown_froz hg2 (froz_a q2 (by omega)) (by simp; omega) (by omega)
    have hz2 : w1.heap.size < w2.heap.size := by have := hg2.size; simp at this; omega
    have hz : w.heap.size < w2.heap.size := by omega
    have HB : Hid (Below w.heap.size w w2) := bel_grown (bel_next HB1 (bel_alloc _ _)).out hg2 (by omega)
    have f2' : ∀ o, (w2.alloc o).cell? ⟨w1.heap.size, 2, none⟩ = some (.func (.func 66) #[] #[.pointer (some ⟨g, 0, none⟩)]) := fun o => box_a f2 hz2
    have n0' : ∀ o, (w2.alloc o).cell? ⟨w.heap.size + 1, 0, none⟩ = some (.int .i64 0) := fun o => box_a n0 (by omega)
    have n1' : ∀ o, (w2.alloc o).cell? ⟨w.heap.size + 1, 1, none⟩ = some (.int .i64 0) := fun o => box_a n1 (by omega)
    have n2' : ∀ o, (w2.alloc o).cell? ⟨w.heap.size + 1, 2, none⟩ = some (.int .i64 0) := fun o => box_a n2 (by omega)
    clear hg2 HB1 HL1 f2 n0 n1 n2
    have L2 : Hid (Left w2 g s') := hL2
    have HBL : Hid (bl s' = rest) := hbl
    have HS : Hid (rvS (bl s) 3 = some ((x', y', z'), rest)) := hS
    clear hL2 hbl hS
    by_cases hs' : s'.size = 0
    · have hrest : rest = [] := by rw [← HBL.out]; exact bl_nil hs'
      have hS2 := HS.out
      rw [hrest] at hS2
      obtain ⟨a, b, c, hV, e1, e2, e3⟩ := rv_conv hS2
      obtain ⟨a1, a2, a3, a4⟩ := hA.out.2.1 hb65 a b c hV
      obtain rfl : x' = x := e1.trans a1.symm
      obtain rfl : y' = y := e2.trans a2.symm
      obtain rfl : z' = z := e3.trans a3.symm
      subst a4
      clear a1 a2 a3 e1 e2 e3 hV hS2 hrest HS hA
      go_wp2_with fail
      refine (ended_yes g s' _ (left_next L2.out (bel_alloc _ _) (by omega)).1 hs').mono ?_
      rintro e w' ⟨rfl, rfl⟩
      go_wp2
      refine bodyPost_ret (v := .tuple #[.agg #[.int .i64 x', .int .i64 y', .int .i64 z'], .int .i64 0]) (by simp [results, Tryd.results25, go_sem, r0, r1, r2, q0, q1, q2, hz]) rfl ⟨rfl, ?_⟩
      exact (((HB.out.setCell (by simp) _).setCell (by simp) _).setCell (by simp) _).alloc (by simpa [World.setCell] using Nat.le_of_lt hz) _
    · obtain ⟨rfl, rfl, rfl, rfl⟩ := hA.out.2.2 hb65 (fun ⟨a, b, c, hV⟩ => by
        have h1 := rv_yes hV
        rw [HS.out] at h1
        simp only [Option.some.injEq, Prod.mk.injEq] at h1
        have h3 := h1.2
        rw [← HBL.out] at h3
        have h2 := bl_len s'
        rw [h3] at h2
        simp at h2
        omega)
      go_wp2_with fail
      refine (ended_no g s' _ (left_next L2.out (bel_alloc _ _) (by omega)).1 (by omega)).mono ?_
      rintro e w' ⟨rfl, rfl⟩
      go_wp2
      refine bodyPost_ret (v := .tuple #[.agg #[.int .i64 0, .int .i64 0, .int .i64 0], .int .i64 3]) (by simp [results, Tryd.results25, go_sem, r0, r1, r2, q0, q1, q2, hz]) rfl ⟨rfl, ?_⟩
      exact (((HB.out.setCell (by simp) _).setCell (by simp) _).setCell (by simp) _).alloc (by simpa [World.setCell] using Nat.le_of_lt hz) _
  · have f2 : w2.cell? ⟨w1.heap.size, 2, none⟩ = some (.func (.func 66) #[] #[.pointer (some ⟨g, 0, none⟩)]) := grown_cell hg2 (by go_simp) (by omega)
    replace r0 := grown_cell hg2 (box_a r0 (by omega)) (by omega)
    replace n0 := grown_cell hg2 (box_a n0 (by omega)) (by omega)
    replace q0 := grown_froz hg2 (froz_a q0 (by omega)) (by simp; omega) (by omega)
    replace r1 := grown_cell hg2 (box_a r1 (by omega)) (by omega)
    replace n1 := grown_cell hg2 (box_a n1 (by omega)) (by omega)
    replace q1 := grown_froz hg2 (froz_a q1 (by omega)) (by simp; omega) (by omega)
    replace r2 := grown_cell hg2 (box_a r2 (by omega)) (by omega)
    replace n2 := grown_cell hg2 (box_a n2 (by omega)) (by omega)
    replace q2 := grown_froz hg2 (froz_a q2 (by omega)) (by simp; omega) (by omega)
    have hz2 : w1.heap.size < w2.heap.size := by have := hg2.size; simp at this; omega
    have hz : w.heap.size < w2.heap.size := by omega
    have HB : Hid (Below w.heap.size w w2) := bel_grown (bel_next HB1 (bel_alloc _ _)).out hg2 (by omega)
    have f2' : ∀ o, (w2.alloc o).cell? ⟨w1.heap.size, 2, none⟩ = some (.func (.func 66) #[] #[.pointer (some ⟨g, 0, none⟩)]) := fun o => box_a f2 hz2
    have n0' : ∀ o, (w2.alloc o).cell? ⟨w.heap.size + 1, 0, none⟩ = some (.int .i64 0) := fun o => box_a n0 (by omega)
    have n1' : ∀ o, (w2.alloc o).cell? ⟨w.heap.size + 1, 1, none⟩ = some (.int .i64 0) := fun o => box_a n1 (by omega)
    have n2' : ∀ o, (w2.alloc o).cell? ⟨w.heap.size + 1, 2, none⟩ = some (.int .i64 0) := fun o => box_a n2 (by omega)
    clear hg2 HB1 HL1 f2 n0 n1 n2
    obtain ⟨rfl, rfl, rfl, rfl⟩ := hA.out.2.2 hb65 (fun ⟨a, b, c, hV⟩ => by
      have h1 := rv_yes hV
      rw [hS] at h1
      cases h1)
    clear hS
    go_wp2
    refine bodyPost_ret (v := .tuple #[.agg #[.int .i64 0, .int .i64 0, .int .i64 0], .int .i64 3]) (by simp [results, Tryd.results25, go_sem, r0, r1, r2, q0, q1, q2, hz]) rfl ⟨rfl, ?_⟩
    exact (((HB.out.setCell (by simp) _).setCell (by simp) _).setCell (by simp) _).alloc (by simpa [World.setCell] using Nat.le_of_lt hz) _
set_option maxHeartbeats 1000000 in
theorem implReadV_any (s : ByteArray) (x y z code : Int) (hA : Hid (RvA s x y z code)) (w : World) (hs : s.size ≤ 1048576) :
    Calls Tryd.prog 10 #[.string s] w fun e w' => e = .returned (.tuple #[.agg #[.int .i64 x, .int .i64 y, .int .i64 z], .int .i64 code]) ∧ Below w.heap.size w w' := by
  go_enter Tryd.func10, Tryd.ntmps10
  go_wp2_with fail
  refine (wholeV_any s x y z code hA _ hs).mono ?_
  rintro e w1 ⟨rfl, hb⟩
  have HB : Hid (Below w.heap.size w w1) := (bel_alloc _ _).trans (hb.mono (by simp))
  have r0 := cell_next hb (b := w.heap.size) (o := 0) (v := .int .i64 0) (by go_simp) (by simp)
  have r1 := cell_next hb (b := w.heap.size) (o := 1) (v := .int .i64 0) (by go_simp) (by simp)
  have r2 := cell_next hb (b := w.heap.size) (o := 2) (v := .int .i64 0) (by go_simp) (by simp)
  have q0 := frozen_next hb (b := w.heap.size) (o := 0) (by go_simp) (by simp)
  have q1 := frozen_next hb (b := w.heap.size) (o := 1) (by go_simp) (by simp)
  have q2 := frozen_next hb (b := w.heap.size) (o := 2) (by go_simp) (by simp)
  clear hb hA
  go_wp2
  refine bodyPost_ret (v := .tuple #[.agg #[.int .i64 x, .int .i64 y, .int .i64 z], .int .i64 code]) (by simp [results, Tryd.results10, go_sem, r0, r1, r2, q0, q1, q2]) rfl ⟨rfl, ?_⟩
  exact ((HB.out.setCell (by simp) _).setCell (by simp) _).setCell (by simp) _
end Go.Proofs.YtgnacdhceiapkaaDoor
