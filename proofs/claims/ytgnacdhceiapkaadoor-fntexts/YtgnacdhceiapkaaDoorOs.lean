/- The texts of siblings. -/
import Derived.Test.YtgnacdhceiapkaaDoorRows
import Derived.WalkKit
import Derived.WalkSpells
import Derived.WalkLawsBesides
import Derived.Deep.QuietTactic
import Derived.BigQuiet
import Derived.Deep.RegionHeld3
import Derived.Test.YtgnacdhceiapkaaDoorDt
import Derived.Test.YtgnacdhceiapkaaDoorVs
import Derived.LoopN
import Derived.Deep.Cut
namespace Go.Proofs.YtgnacdhceiapkaaDoor
open Go.RowKit
set_option linter.unusedSimpArgs false
set_option linter.unusedVariables false

/-- The letter of a node. -/
def nl (p : Int) : UInt8 := if p = 0 then 97 else if p = 1 then 98 else 99
def dotT (p n : Int) : List UInt8 := nl p :: dsN n.toNat
def sibT (s : Sib) : List UInt8 := dotT s.p s.n ++ (if s.d then [33] else 61 :: dsN s.v.toNat)
theorem dotT_len (p n : Int) (h : n ≤ 9999) : (dotT p n).length ≤ 10001 := by
  unfold dotT
  have := dsN_len n.toNat
  simp
  omega
theorem dotI (p n : Int) (hp : p = 0 ∨ p = 1 ∨ p = 2) (h0 : 0 ≤ n) (h1 : n ≤ 9999) (w : World) (ht : TB w) :
    Calls Tryd.prog 20 #[.agg #[.int .i64 p, .int .i64 n]] w fun e w' => e = .returned (.string ⟨(dotT p n).toArray⟩) ∧ Below w.heap.size w w' := by
  obtain ⟨k, rfl⟩ : ∃ k : Nat, n = k := ⟨n.toNat, by omega⟩
  rcases hp with rfl | rfl | rfl
  · exact impl_text0 k (by omega) w ht
  · exact impl_text1 k (by omega) w ht
  · exact impl_text2 k (by omega) w ht
theorem dotS (p n : Int) (hp : p = 0 ∨ p = 1 ∨ p = 2) (h0 : 0 ≤ n) (h1 : n ≤ 9999) (w : World) :
    Calls Tryd.prog 55 #[.agg #[.int .i64 p, .int .i64 n]] w fun e w' => e = .returned (.string ⟨(dotT p n).toArray⟩) ∧ Below w.heap.size w w' := by
  obtain ⟨k, rfl⟩ : ∃ k : Nat, n = k := ⟨n.toNat, by omega⟩
  refine spec_text p (nl p) k (by omega) (by omega) ?_ (by omega) w
  show ((nl p).toNat : Int) = 97 + p
  rcases hp with rfl | rfl | rfl <;> rfl
theorem sib_bounds {s : Sib} (h : sibOK s.p s.n s.v s.d = true) : (s.p = 0 ∨ s.p = 1 ∨ s.p = 2) ∧ 0 ≤ s.n ∧ s.n ≤ 9999 ∧ 0 ≤ s.v ∧ s.v ≤ 999 := by
  unfold sibOK dotB at h
  simp at h
  omega
theorem sibT_len {s : Sib} (h : sibOK s.p s.n s.v s.d = true) : (sibT s).length ≤ 12000 := by
  have h1 := sib_bounds h
  have h2 := dotT_len s.p s.n h1.2.2.1
  have h3 := dsN_len s.v.toNat
  unfold sibT
  split <;> simp <;> omega
set_option maxHeartbeats 2000000 in
theorem sibI (s : Sib) (hk : sibOK s.p s.n s.v s.d = true) (w : World) (ht0 : TB w) :
    Calls Tryd.prog 28 #[.agg #[.int .i64 s.p, .int .i64 s.n, .int .i64 s.v, .bool s.d]] w fun e w' => e = .returned (.string ⟨(sibT s).toArray⟩) ∧ Below w.heap.size w w' := by
  obtain ⟨hp, n0, n1, v0, v1⟩ := sib_bounds hk
  have ht : Hid (TB w) := ht0
  obtain ⟨D, hD⟩ : ∃ D, D = dotT s.p s.n := ⟨_, rfl⟩
  have hDl : D.length ≤ 10001 := by rw [hD]; exact dotT_len _ _ n1
  have CD : Hid (∀ W, TB W → Calls Tryd.prog 20 #[.agg #[.int .i64 s.p, .int .i64 s.n]] W fun e w' => e = .returned (.string ⟨D.toArray⟩) ∧ Below W.heap.size W w') := fun W h => by rw [hD]; exact dotI s.p s.n hp n0 n1 W h
  obtain ⟨X, hX⟩ : ∃ X, X = dsN s.v.toNat := ⟨_, rfl⟩
  have hXl : X.length ≤ 1000 := by rw [hX]; have := dsN_len s.v.toNat; omega
  have CV : Hid (∀ W, TB W → Calls Tryd.prog 41 #[.int .i64 s.v] W fun e w' => e = .returned (.string ⟨X.toArray⟩) ∧ Below W.heap.size W w') := fun W h => by
    have h1 := itoa_any s.v.toNat (by omega) W h
    rw [Int.toNat_of_nonneg v0] at h1
    rw [hX]; exact h1
  have HS : Hid (sibT s = D ++ (if s.d then [33] else 61 :: X)) := by show _ = _; unfold sibT; rw [hD, hX]
  have B0 : Hid (Below w.heap.size w (w.alloc (.cells #[.int .i64 s.p, .int .i64 s.n, .int .i64 s.v, .bool s.d] 62))) := bel_alloc _ _
  clear hk hp n0 n1 v0 v1 ht0 hD hX
  have e33 : ∀ l : List UInt8, (⟨l.toArray⟩ : ByteArray) ++ ⟨#[33]⟩ = ⟨(l ++ [33]).toArray⟩ := fun l => ba_app l [33]
  have e61 : ∀ l : List UInt8, (⟨l.toArray⟩ : ByteArray) ++ ⟨#[61]⟩ = ⟨(l ++ [61]).toArray⟩ := fun l => ba_app l [61]
  have E33 : Hid _ := e33
  have E61 : Hid _ := e61
  clear e33 e61
  have q1 : ¬ 9223372036854775807 < D.length + 1 := by omega
  have q2 : ¬ 9223372036854775807 < D.length + 1 + X.length := by omega
  cases hd : s.d
  · rw [hd] at HS B0
    go_enter Tryd.func28, Tryd.ntmps28
    go_upto_region 3 with fail
    have c0 : (w.alloc (.cells #[.int .i64 s.p, .int .i64 s.n, .int .i64 s.v, .bool false] 62)).cell? ⟨w.heap.size, 0, none⟩ = some (.int .i64 s.p) := by go_simp
    have c1 : (w.alloc (.cells #[.int .i64 s.p, .int .i64 s.n, .int .i64 s.v, .bool false] 62)).cell? ⟨w.heap.size, 1, none⟩ = some (.int .i64 s.n) := by go_simp
    have c2 : (w.alloc (.cells #[.int .i64 s.p, .int .i64 s.n, .int .i64 s.v, .bool false] 62)).cell? ⟨w.heap.size, 2, none⟩ = some (.int .i64 s.v) := by go_simp
    have c3 : (w.alloc (.cells #[.int .i64 s.p, .int .i64 s.n, .int .i64 s.v, .bool false] 62)).cell? ⟨w.heap.size, 3, none⟩ = some (.bool false) := by go_simp
    have hz : w.heap.size < (w.alloc (.cells #[.int .i64 s.p, .int .i64 s.n, .int .i64 s.v, .bool false] 62)).heap.size := by simp
    have HB0 := B0
    generalize (w.alloc (.cells #[.int .i64 s.p, .int .i64 s.n, .int .i64 s.v, .bool false] 62)) = W0 at *
    refine wp_region_held_drew (S := (fun w' => Below w.heap.size w w' ∧ w'.cell? ⟨w.heap.size, 0, none⟩ = some (.int .i64 s.p) ∧ w'.cell? ⟨w.heap.size, 1, none⟩ = some (.int .i64 s.n) ∧ w'.cell? ⟨w.heap.size, 2, none⟩ = some (.int .i64 s.v) ∧ w'.cell? ⟨w.heap.size, 3, none⟩ = some (.bool false) ∧ w.heap.size < w'.heap.size)) (by kernel_rfl) ?_ (fun hHeld => ?_)
    · (try dsimp only)
      exact ⟨(bel_next HB0 (bel_drew _)).out, c0, c1, c2, c3, hz⟩
    refine wpAnyH_take (i := 0) (v := ?_) rfl (by kernel_rfl) (by kernel_rfl) (by kernel_rfl) (fun _ _ _ h => h) (Or.inl ⟨by rfl, ?_⟩) (by assumption) ?_
    rotate_left
    · intro w' hSw
      (try dsimp only at hSw)
      go_simp
      all_goals (try with_reducible rfl)
    (try simp only [Act.put, List.getElem_toArray, List.getElem_cons_zero, List.getElem_cons_succ, List.setIfInBounds_toArray, List.set_cons_zero, List.set_cons_succ])
    refine wpAnyH_take (i := 1) (v := ?_) rfl (by kernel_rfl) (by kernel_rfl) (by kernel_rfl) (fun _ _ _ h => h) (Or.inl ⟨by rfl, ?_⟩) (by assumption) ?_
    rotate_left
    · intro w' hSw
      (try dsimp only at hSw)
      go_simp
      all_goals (try with_reducible rfl)
    (try simp only [Act.put, List.getElem_toArray, List.getElem_cons_zero, List.getElem_cons_succ, List.setIfInBounds_toArray, List.set_cons_zero, List.set_cons_succ])
    refine wpAnyH_take (i := 4) (v := ?_) rfl (by kernel_rfl) (by kernel_rfl) (by kernel_rfl) (fun _ _ _ h => h) (Or.inl ⟨by rfl, ?_⟩) (by assumption) ?_
    rotate_left
    · intro w' hSw
      (try dsimp only at hSw)
      go_simp
      all_goals (try with_reducible rfl)
    (try simp only [Act.put, List.getElem_toArray, List.getElem_cons_zero, List.getElem_cons_succ, List.setIfInBounds_toArray, List.set_cons_zero, List.set_cons_succ])
    refine wpAnyH_take (i := 5) (v := ?_) rfl (by kernel_rfl) (by kernel_rfl) (by kernel_rfl) (fun _ _ _ h => h) (Or.inl ⟨by rfl, ?_⟩) (by assumption) ?_
    rotate_left
    · intro w' hSw
      (try dsimp only at hSw)
      go_simp
      all_goals (try with_reducible rfl)
    (try simp only [Act.put, List.getElem_toArray, List.getElem_cons_zero, List.getElem_cons_succ, List.setIfInBounds_toArray, List.set_cons_zero, List.set_cons_succ])
    refine wpAnyH_ready (rs := [2]) (by kernel_rfl) (by simp) ?_
    refine AllReadyH.cons rfl (fun K hK => ?_) AllReadyH.nil
    (try simp only [Act.put, List.getElem_toArray, List.getElem_cons_zero, List.getElem_cons_succ, List.setIfInBounds_toArray, List.set_cons_zero, List.set_cons_succ])
    go_simp
    (refine Calls.mono (CD.out _ (ht.out.next hHeld.1)) ?_; rintro e w1 ⟨rfl, hb⟩)
    (try simp only [])
    refine hK.out _ _ ?_ (fun hHeld' => ?_)
    · (try dsimp only)
      exact ⟨hHeld.1.trans (hb.mono hHeld.1.size), cell_next hb hHeld.2.1 hHeld.2.2.2.2.2, cell_next hb hHeld.2.2.1 hHeld.2.2.2.2.2, cell_next hb hHeld.2.2.2.1 hHeld.2.2.2.2.2, cell_next hb hHeld.2.2.2.2.1 hHeld.2.2.2.2.2, Nat.lt_of_lt_of_le hHeld.2.2.2.2.2 hb.size⟩
    clear hK K
    clear hHeld
    have hHeld := hHeld'
    clear hHeld'
    clear hb
    (try simp only [Act.put, List.getElem_toArray, List.getElem_cons_zero, List.getElem_cons_succ, List.setIfInBounds_toArray, List.set_cons_zero, List.set_cons_succ])
    refine wpAnyH_take (i := 3) (v := ?_) rfl (by kernel_rfl) (by kernel_rfl) (by kernel_rfl) (fun _ _ _ h => h) (Or.inl ⟨by rfl, ?_⟩) (by assumption) ?_
    rotate_left
    · intro w' hSw
      (try dsimp only at hSw)
      go_simp
      all_goals (try with_reducible rfl)
    (try simp only [Act.put, List.getElem_toArray, List.getElem_cons_zero, List.getElem_cons_succ, List.setIfInBounds_toArray, List.set_cons_zero, List.set_cons_succ])
    refine wpAnyH_ready (rs := [6]) (by kernel_rfl) (by simp) ?_
    refine AllReadyH.cons rfl (fun K hK => ?_) AllReadyH.nil
    (try simp only [Act.put, List.getElem_toArray, List.getElem_cons_zero, List.getElem_cons_succ, List.setIfInBounds_toArray, List.set_cons_zero, List.set_cons_succ])
    go_simp
    (refine Calls.mono (CV.out _ (ht.out.next hHeld.1)) ?_; rintro e w2 ⟨rfl, hb⟩)
    (try simp only [])
    refine hK.out _ _ ?_ (fun hHeld' => ?_)
    · (try dsimp only)
      exact ⟨hHeld.1.trans (hb.mono hHeld.1.size), cell_next hb hHeld.2.1 hHeld.2.2.2.2.2, cell_next hb hHeld.2.2.1 hHeld.2.2.2.2.2, cell_next hb hHeld.2.2.2.1 hHeld.2.2.2.2.2, cell_next hb hHeld.2.2.2.2.1 hHeld.2.2.2.2.2, Nat.lt_of_lt_of_le hHeld.2.2.2.2.2 hb.size⟩
    clear hK K
    clear hHeld
    have hHeld := hHeld'
    clear hHeld'
    clear hb
    (try simp only [Act.put, List.getElem_toArray, List.getElem_cons_zero, List.getElem_cons_succ, List.setIfInBounds_toArray, List.set_cons_zero, List.set_cons_succ])
    refine wpAnyH_take (i := 7) (v := ?_) rfl (by kernel_rfl) (by kernel_rfl) (by kernel_rfl) (fun _ _ _ h => h) (Or.inl ⟨by rfl, ?_⟩) (by assumption) ?_
    rotate_left
    · intro w' hSw
      (try dsimp only at hSw)
      go_simp
      all_goals (try with_reducible rfl)
    (try simp only [Act.put, List.getElem_toArray, List.getElem_cons_zero, List.getElem_cons_succ, List.setIfInBounds_toArray, List.set_cons_zero, List.set_cons_succ])
    refine wpAnyH_take (i := 8) (v := ?_) rfl (by kernel_rfl) (by kernel_rfl) (by kernel_rfl) (fun _ _ _ h => h) (Or.inl ⟨by rfl, ?_⟩) (by assumption) ?_
    rotate_left
    · intro w' hSw
      (try dsimp only at hSw)
      go_simp
      all_goals (try with_reducible rfl)
    (try simp only [Act.put, List.getElem_toArray, List.getElem_cons_zero, List.getElem_cons_succ, List.setIfInBounds_toArray, List.set_cons_zero, List.set_cons_succ])
    refine wpAnyH_done (by kernel_rfl) ?_ _
    have HB9 : Hid (Below w.heap.size w _) := hHeld.1
    clear hHeld c0 c1 c2 c3 hz HB0 B0
    go_wp2
    go_ret
    refine ⟨?_, HB9.out⟩
    rw [HS.out, E61.out, ba_app]
    simp
  · rw [hd] at HS B0
    go_enter Tryd.func28, Tryd.ntmps28
    go_wp2_with fail
    refine Calls.mono (CD.out _ (ht.out.next B0.out)) ?_
    rintro e w1 ⟨rfl, hb⟩
    replace B0 := bel_next B0 hb
    clear hb
    go_wp2
    go_ret
    refine ⟨?_, B0.out⟩
    rw [HS.out, E33.out]
    simp
end Go.Proofs.YtgnacdhceiapkaaDoor
