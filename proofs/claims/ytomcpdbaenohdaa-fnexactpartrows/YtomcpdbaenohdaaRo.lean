/- A row that is right, on the program's side. -/
import Derived.Test.YtomcpdbaenohdaaRows
import Derived.WalkKit
import Derived.WalkSpells
import Derived.WalkLawsBesides
import Derived.Deep.QuietTactic
import Derived.BigQuiet
import Derived.Deep.RegionHeld3
import Derived.Test.YtomcpdbaenohdaaCm
import Derived.LoopN
import Derived.OwnWalk
import Derived.Laws.StructEq
namespace Go.Proofs.Ytomcpdbaenohdaa
open Go.RowKit
set_option linter.unusedSimpArgs false
set_option linter.unusedVariables false

/-- The first k numbers of a row are right. -/
def valsTo (r : Rw) (k : Nat) : Prop := ∀ i (h : i < r.vs.length), i < k → (0 ≤ r.vs[i] ∧ r.vs[i] ≤ 999) ∧ r.vs[i].tmod 4 = r.part ∧ ∀ j (hj : j < r.vs.length), j + 1 = i → r.vs[j] < r.vs[i]
def headP (r : Rw) : Prop := (0 ≤ r.part ∧ r.part ≤ 3) ∧ keyP r.key ∧ 1 ≤ r.vs.length ∧ r.vs.length ≤ 100
/-- A row is right. -/
def rowP (r : Rw) : Prop := headP r ∧ valsTo r r.vs.length
theorem bool_of (P : Prop) : ∃ b : Bool, b = true ↔ P := by
  by_cases h : P
  · exact ⟨true, by simp [h]⟩
  · exact ⟨false, by simp [h]⟩
theorem vals_zero (r : Rw) : valsTo r 0 := fun i _ h => by omega
theorem vals_succ {r : Rw} {k : Nat} (h : valsTo r k) (hk : k < r.vs.length) (h1 : 0 ≤ r.vs[k] ∧ r.vs[k] ≤ 999) (h2 : r.vs[k].tmod 4 = r.part) (h3 : ∀ j (hj : j < r.vs.length), j + 1 = k → r.vs[j] < r.vs[k]) : valsTo r (k + 1) := by
  intro i hi hik
  by_cases e : i = k
  · subst e; exact ⟨h1, h2, h3⟩
  · exact h i hi (by omega)
theorem vals_no1 {r : Rw} {k : Nat} (hk : k < r.vs.length) (h : ¬ (0 ≤ r.vs[k] ∧ r.vs[k] ≤ 999)) : ¬ rowP r := fun q => h (q.2 k hk hk).1
theorem vals_no2 {r : Rw} {k : Nat} (hk : k < r.vs.length) (h : ¬ r.vs[k].tmod 4 = r.part) : ¬ rowP r := fun q => h (q.2 k hk hk).2.1
theorem vals_no3 {r : Rw} {k j : Nat} (hk : k < r.vs.length) (hj : j < r.vs.length) (e : j + 1 = k) (h : ¬ r.vs[j] < r.vs[k]) : ¬ rowP r := fun q => h ((q.2 k hk hk).2.2 j hj e)
theorem rows_yes {r : Rw} {k : Nat} (h : headP r) (hk : r.vs.length ≤ k) (hv : valsTo r k) : rowP r := ⟨h, fun i hi _ => hv i hi (by omega)⟩
theorem tmod_small {v : Int} (h : 0 ≤ v ∧ v ≤ 999) : IntKind.i64.wrap (v.tmod 4) = v.tmod 4 := by
  rw [Int.tmod_eq_emod_of_nonneg h.1, IntKind.wrap_i64]
  omega

set_option maxRecDepth 20000 in
set_option maxHeartbeats 2000000 in
theorem rowOK_any (lo : Nat) (x : Rm) (w : World) (hm : (x.r.vs.length : Int) ≤ 1048576) (hks : x.r.key.size < 1099511627776) (hr0 : GRow lo w x.p (ints x.r.vs)) :
    Calls Try.prog 22 #[.agg #[.int .i64 x.r.part, .string x.r.key, .slice x.p x.r.vs.length x.q]] w (Told (rowP x.r) w) := by
  have hr : Hid (GRow lo w x.p (ints x.r.vs)) := hr0
  clear hr0
  go_enter Try.func22, Try.ntmps22
  go_upto_region 1 with fail
  refine wp_gen (fun W => Box W w.heap.size [.int .i64 x.r.part, .string x.r.key, .slice x.p x.r.vs.length x.q] ∧ Below w.heap.size w W) ⟨box_mk, bel_alloc _ _⟩ (fun W0 hI => ?_)
  have Y : Hid (Box W0 w.heap.size [.int .i64 x.r.part, .string x.r.key, .slice x.p x.r.vs.length x.q] ∧ Below w.heap.size w W0) := hI
  clear hI
  have HG : Hid _ := (hr.out.next Y.out.2).i
  clear hr
  obtain ⟨a0, a1, a2⟩ := Y.out.1.c3
  obtain ⟨bp, hbp⟩ : ∃ b : Bool, b = true ↔ (0 ≤ x.r.part ∧ x.r.part ≤ 3) := ⟨decide _, decide_eq_true_iff⟩
  obtain ⟨bk, hbk⟩ : ∃ b : Bool, b = true ↔ keyP x.r.key := bool_of _
  have HP : Hid (bp = true ↔ (0 ≤ x.r.part ∧ x.r.part ≤ 3)) := hbp
  have HK : Hid (bk = true ↔ keyP x.r.key) := hbk
  clear hbp hbk
  go_wp2_with fail
  refine (part_any x.r.part bp HP _).mono ?_
  rintro e W1 ⟨rfl, rfl⟩
  cases bp
  case false =>
    have HN : Hid (¬ rowP x.r) := fun h => by have := HP.out.2 h.1.1; cases this
    clear HP HK HG
    go_wp2
    go_ret
    exact ⟨false, rfl, by simp [HN.out], Y.out.2⟩
  have HPt : Hid (0 ≤ x.r.part ∧ x.r.part ≤ 3) := HP.out.1 rfl
  clear HP
  go_wp2_with fail
  refine (implKey_any x.r.key bk HK.out _ hks).mono ?_
  rintro e W1 ⟨rfl, rfl⟩
  cases bk
  case false =>
    have HN : Hid (¬ rowP x.r) := fun h => by have := HK.out.2 h.1.2.1; cases this
    clear HK HG
    go_wp2
    go_ret
    exact ⟨false, rfl, by simp [HN.out], Y.out.2⟩
  have HKt : Hid (keyP x.r.key) := HK.out.1 rfl
  clear HK
  by_cases h1 : (x.r.vs.length : Int) < 1
  case pos =>
    have HN : Hid (¬ rowP x.r) := fun h => by have := h.1.2.2.1; omega
    clear HG
    go_wp2
    go_ret
    exact ⟨false, rfl, by simp [HN.out], Y.out.2⟩
  by_cases h2 : 100 < (x.r.vs.length : Int)
  case pos =>
    have HN : Hid (¬ rowP x.r) := fun h => by have := h.1.2.2.2; omega
    clear HG
    go_wp2
    go_ret
    exact ⟨false, rfl, by simp [HN.out], Y.out.2⟩
  have HH : Hid (headP x.r) := ⟨HPt.out, HKt.out, by omega, by omega⟩
  go_wp2
  go_loopw [3, 4, 30] (fun _ _ s30 wr => ∃ k : Nat, k ≤ x.r.vs.length ∧ s30 = .int .i64 k ∧ valsTo x.r k ∧ wr = W1) (fun _ _ s30 _ => x.r.vs.length - (intOf s30).toNat)
  case atStart => exact ⟨0, by omega, rfl, vals_zero _, rfl⟩
  case round =>
    obtain ⟨k, hk, rfl, hV0, rfl⟩ := hrel
    have HV : Hid (valsTo x.r k) := hV0
    clear hV0
    by_cases hkl : k < x.r.vs.length
    · have hkl' : (k : Int) < (x.r.vs.length : Int) := by omega
      have k0 : (0 : Int) ≤ (k : Int) := by omega
      rcases HG.out with h' | ⟨b, off, hp, _, h2'⟩
      · rw [h'] at hkl; simp at hkl
      rw [hp] at a2 ⊢
      have c0 := h2' k hkl
      have HS : Hid ((0 ≤ x.r.vs[k] ∧ x.r.vs[k] ≤ 999) → x.r.vs[k].tmod 4 = x.r.part → (∀ j (hj : j < x.r.vs.length), j + 1 = k → x.r.vs[j] < x.r.vs[k]) → valsTo x.r (k + 1)) := vals_succ HV.out hkl
      have HN1 : Hid (¬ (0 ≤ x.r.vs[k] ∧ x.r.vs[k] ≤ 999) → ¬ rowP x.r) := vals_no1 hkl
      have HN2 : Hid (¬ x.r.vs[k].tmod 4 = x.r.part → ¬ rowP x.r) := vals_no2 hkl
      have HN3 : Hid (∀ j (hj : j < x.r.vs.length), j + 1 = k → ¬ x.r.vs[j] < x.r.vs[k] → ¬ rowP x.r) := fun j hj e h => vals_no3 hkl hj e h
      have HC : Hid (∀ i (h : i < x.r.vs.length), wr.cell? ⟨b, off + i, none⟩ = some (.int .i64 x.r.vs[i])) := h2'
      clear h2' HV
      generalize x.r.vs[k] = v at *
      obtain ⟨bv, hbv⟩ : ∃ b : Bool, b = true ↔ (0 ≤ v ∧ v ≤ 999) := ⟨decide _, decide_eq_true_iff⟩
      have HB : Hid (bv = true ↔ (0 ≤ v ∧ v ≤ 999)) := hbv
      clear hbv
      go_wp2_with fail
      refine (val_any v bv HB _).mono ?_
      rintro e W1 ⟨rfl, rfl⟩
      cases bv
      case false =>
        have HN : Hid (¬ rowP x.r) := HN1.out (fun h => by have := HB.out.2 h; cases this)
        clear HS HN1 HN2 HN3 HC HB
        go_wp2
        go_ret
        exact ⟨false, rfl, by simp [HN.out], Y.out.2⟩
      have HR := tmod_small (HB.out.1 rfl)
      have HB' : Hid (0 ≤ v ∧ v ≤ 999) := HB.out.1 rfl
      clear HB
      obtain ⟨tm, htm⟩ : ∃ t, v.tmod 4 = t := ⟨_, rfl⟩
      rw [htm] at HS HN2 HR
      by_cases h3 : tm = x.r.part
      case neg =>
        have HN : Hid (¬ rowP x.r) := HN2.out h3
        have e3 : (tm == x.r.part) = false := beq_eq_false_iff_ne.2 h3
        clear HS HN1 HN2 HN3 HC HB'
        go_wp2
        go_ret
        exact ⟨false, rfl, by simp [HN.out], Y.out.2⟩
      clear HN1 HN2
      replace HS : Hid ((∀ j (hj : j < x.r.vs.length), j + 1 = k → x.r.vs[j] < v) → valsTo x.r (k + 1)) := HS.out HB'.out h3
      rw [h3] at htm HR
      clear h3
      rcases Nat.eq_zero_or_pos k with hz | hz
      · have HV : Hid (valsTo x.r (k + 1)) := HS.out (fun j hj e => by omega)
        subst hz
        clear HS HN3 HC
        go_wp2
        go_roundw
        case rel => exact ⟨1, by omega, by go_num, HV.out, by first | rfl | trivial⟩
        case measure => simp [intOf]; omega
      · obtain ⟨j, hj⟩ : ∃ j, k = j + 1 := ⟨k - 1, by omega⟩
        have hjl : j < x.r.vs.length := by omega
        have d0 := HC.out j hjl
        have hd : (k : Int) - 1 = (j : Int) := by omega
        have hw : IntKind.i64.wrap (j : Int) = (j : Int) := by rw [IntKind.wrap_i64]; omega
        have hjl' : (j : Int) < (x.r.vs.length : Int) := by omega
        have j0 : (0 : Int) ≤ (j : Int) := by omega
        have HT : Hid (x.r.vs[j] < v → valsTo x.r (k + 1)) := fun h => HS.out (fun i hi e => by
          have : i = j := by omega
          subst this
          exact h)
        have HF : Hid (¬ x.r.vs[j] < v → ¬ rowP x.r) := fun h => HN3.out j hjl hj.symm (by omega)
        clear HS HN3 HC hj
        generalize x.r.vs[j] = u at *
        by_cases huv : v ≤ u
        · have HN : Hid (¬ rowP x.r) := HF.out (by omega)
          clear HT HF
          go_wp2
          go_ret
          exact ⟨false, rfl, by simp [HN.out], Y.out.2⟩
        · have HV : Hid (valsTo x.r (k + 1)) := HT.out (by omega)
          clear HT HF
          go_wp2
          go_roundw
          case rel => exact ⟨k + 1, by omega, by go_num, HV.out, by first | rfl | trivial⟩
          case measure => simp [intOf]; omega
    · have hkl' : ¬ (k : Int) < (x.r.vs.length : Int) := by omega
      have HN : Hid (rowP x.r) := rows_yes HH.out (by omega) HV.out
      clear HG HV
      go_wp2
      go_ret
      exact ⟨true, rfl, by simp [HN.out], Y.out.2⟩
end Go.Proofs.Ytomcpdbaenohdaa
