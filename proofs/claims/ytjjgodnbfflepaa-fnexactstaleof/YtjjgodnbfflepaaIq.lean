/- Rows of numbers. -/
import Derived.Test.YtjjgodnbfflepaaRows
import Derived.WalkKit
import Derived.WalkSpells
import Derived.WalkLawsBesides
import Derived.Deep.QuietTactic
import Derived.BigQuiet
import Derived.Deep.RegionHeld3
import Derived.Test.YtjjgodnbfflepaaMl
import Derived.Test.YtjjgodnbfflepaaMk
import Derived.LoopN
namespace Go.Proofs.Ytjjgodnbfflepaa
open Go.RowKit
set_option linter.unusedSimpArgs false
set_option linter.unusedVariables false
theorem info_int : (Try.prog.info? 3).map (fun i => (i.zero, i.size, i.bytes)) = some (some (.int .i64 0), 1, 8) := by kernel_rfl

theorem int_lit {W : World} {x : Int} {t : TypeId} : ∀ j u, ([Value.int .i64 x])[j]? = some u → (W.alloc (.cells #[.int .i64 x] t)).cell? ((⟨W.heap.size, 0, none⟩ : Addr).add j) = some u := by
  intro j u hu
  match j, hu with
  | 0, hu => simp at hu; subst hu; simp [Addr.add]
theorem int_lit2 {W : World} {x : Int} {t : TypeId} {g : Nat} (hg : g = W.heap.size) : ∀ j u, ([Value.int .i64 x])[j]? = some u → (W.alloc (.cells #[.int .i64 x] t)).cell? ((⟨g, 0, none⟩ : Addr).add j) = some u := by subst hg; exact int_lit
theorem int_one {x : Int} : ∀ u ∈ [Value.int .i64 x], u.oneCell' = true := by intro u hu; simp at hu; subst hu; rfl
theorem own_isl {w : World} {base e size n : Nat} {v : Value} {xs : List Value} (h : w.ownsRow base e size v n xs) : ∃ ao cap, v = .slice ao n cap := by
  rcases h.2 with ⟨rfl, hn⟩ | ⟨g, cap, cur, rfl, _⟩
  · exact ⟨none, 0, by rw [hn]⟩
  · exact ⟨_, cap, rfl⟩
def IntRow (W : World) (ao : Option Addr) (zs : List Int) : Prop := zs = [] ∨ ∃ b off, ao = some ⟨b, off, none⟩ ∧ ∀ i (h : i < zs.length), W.cell? ⟨b, off + i, none⟩ = some (.int .i64 zs[i])
theorem owned_ints {w : World} {ao : Option Addr} {n cap : Nat} {zs : List Int} (h : w.ownsRow 0 3 1 (.slice ao n cap) n (zs.map (Value.int .i64))) (hn : n = zs.length) : IntRow w ao zs := by
  subst hn
  rcases h.2 with ⟨h', hz⟩ | ⟨g, cap', cur, h', _⟩
  · exact .inl (List.length_eq_zero_iff.1 hz)
  · cases h'
    refine .inr ⟨g, 0, rfl, fun i hi => ?_⟩
    rw [Nat.zero_add, h.cellAt i (by omega)]
    simp [hi]
set_option maxHeartbeats 1000000 in
theorem eqInts_same (cap cp n : Nat) (ao bo : Option Addr) (zs : List Int) (w : World) (hn0 : n = zs.length) (hm : (n : Int) ≤ 1048576) (hr0 : IntRow w ao zs) (hs0 : IntRow w bo zs) :
    Calls Try.prog 16 #[.slice ao n cap, .slice bo n cp] w fun e w' => e = .returned (.bool true) ∧ Below w.heap.size w w' := by
  have hr : Hid (IntRow w ao zs) := hr0
  have hs : Hid (IntRow w bo zs) := hs0
  have hn : Hid (n = zs.length) := hn0
  clear hr0 hs0 hn0
  go_enter Try.func16, Try.ntmps16
  go_wp2
  go_loopw [5] (fun s5 wr => ∃ k : Nat, k ≤ n ∧ s5 = .int .i64 k ∧ Below w.heap.size w wr) (fun s5 _ => n - (intOf s5).toNat)
  case atStart => exact ⟨0, by omega, rfl, Below.refl _ _⟩
  case round =>
    obtain ⟨k, hk, rfl, hB0⟩ := hrel
    have hB : Hid (Below w.heap.size w wr) := hB0
    clear hB0
    by_cases hkl : k < n
    · have hkl' : (k : Int) < (n : Int) := by omega
      have kz : k < zs.length := by have := hn.out; omega
      rcases hr.out with h' | ⟨b, off, rfl, h2⟩
      · rw [h'] at kz; simp at kz
      rcases hs.out with h' | ⟨c, oft, rfl, h3⟩
      · rw [h'] at kz; simp at kz
      have x0 : wr.cell? ⟨b, off + k, none⟩ = some (.int .i64 zs[k]) := (hB.out.cell (p := ⟨b, off + k, none⟩) (cell_lt (x := ⟨b, off + k, none⟩) (h2 k kz))).trans (h2 k kz)
      have y0 : wr.cell? ⟨c, oft + k, none⟩ = some (.int .i64 zs[k]) := (hB.out.cell (p := ⟨c, oft + k, none⟩) (cell_lt (x := ⟨c, oft + k, none⟩) (h3 k kz))).trans (h3 k kz)
      have k0 : (0 : Int) ≤ (k : Int) := by omega
      clear h2 h3
      go_wp2
      go_quiet (fail)
      go_wp2
      go_roundw
      case rel => first | exact ⟨k + 1, by omega, by go_num, below_drewN hB.out _⟩ | ((repeat apply Exists.intro); exact ⟨⟨k + 1, by omega, by go_num, below_drewN hB.out _⟩, rfl⟩)
      case measure => simp [intOf]; omega
    · have hkl' : ¬ (k : Int) < (n : Int) := by omega
      go_wp2
      go_ret
      exact ⟨rfl, hB.out⟩
def seqI (k : Int) (n : Nat) : List Value := (List.range n).map fun (i : Nat) => Value.int .i64 (k + (i : Int))
theorem seqI_len (k : Int) (n : Nat) : (seqI k n).length = n := by simp [seqI]
theorem seqI_at (k : Int) (n i : Nat) (h : i < n) : (seqI k n)[i]? = some (.int .i64 (k + i)) := by simp [seqI, h]
theorem seqI_succ (k : Int) (n : Nat) : seqI k (n + 1) = seqI k n ++ [.int .i64 (k + n)] := by simp [seqI, List.range_succ]
theorem seqI_set (k : Int) (j : Nat) (xs : List Value) (h : j < xs.length) : (seqI k j ++ xs.drop j).set j (.int .i64 (k + j)) = seqI k (j + 1) ++ xs.drop (j + 1) := by
  rw [List.set_append_right _ _ (by rw [seqI_len]; exact Nat.le_refl _), seqI_len, Nat.sub_self, seqI_succ, List.append_assoc, List.drop_eq_getElem_cons h]
  rfl
set_option maxHeartbeats 1000000 in
theorem markInts_any (cap n : Nat) (ao : Option Addr) (k : Int) (xs : List Value) (w : World) (hm : n ≤ 1048576) (h0 : 0 ≤ k) (hk : k ≤ 100000000) (hO0 : w.ownsRow 0 3 1 (.slice ao n cap) n xs) :
    Calls Try.prog 17 #[.slice ao n cap, .int .i64 k] w fun e w' => e = .returned (.int .i64 (k + n)) ∧ w.grownBy w' (Value.ownBlock (.slice ao n cap)) ∧ w'.ownsRow 0 3 1 (.slice ao n cap) n (seqI k n) := by
  have hO : Hid (w.ownsRow 0 3 1 (.slice ao n cap) n xs) := hO0
  have hX : Hid (xs.length = n) := by have := hO0.1; show _ = _; omega
  clear hO0
  go_enter Try.func17, Try.ntmps17
  go_wp2
  go_loopw [1, 5] (fun s1 s5 wr => ∃ j : Nat, j ≤ n ∧ s5 = .int .i64 j ∧ s1 = .int .i64 (k + j) ∧ w.grownBy wr (Value.ownBlock (.slice ao n cap)) ∧ wr.ownsRow 0 3 1 (.slice ao n cap) n (seqI k j ++ xs.drop j)) (fun _ s5 _ => n - (intOf s5).toNat)
  case atStart => exact ⟨0, by omega, rfl, by simp, gb_refl _ _, by simpa [seqI] using hO.out⟩
  case round =>
    obtain ⟨j, hj, rfl, rfl, hG0, hO1⟩ := hrel
    have hG : Hid (w.grownBy wr (Value.ownBlock (.slice ao n cap))) := hG0
    have hP : Hid (wr.ownsRow 0 3 1 (.slice ao n cap) n (seqI k j ++ xs.drop j)) := hO1
    clear hG0 hO1 hO
    by_cases hjn : j < n
    · have hjn' : (j : Int) < (n : Int) := by omega
      have j0 : (0 : Int) ≤ (j : Int) := by omega
      have hxj : j < xs.length := by have := hX.out; omega
      obtain ⟨g, rfl⟩ : ∃ g, ao = some ⟨g, 0, none⟩ := by
        rcases hP.out.2 with ⟨h', hz⟩ | ⟨g, cap', cur, h', _⟩
        · omega
        · cases h'; exact ⟨g, rfl⟩
      obtain ⟨u, y0⟩ : ∃ u, wr.cell? ⟨g, j, none⟩ = some u := by
        rw [hP.out.cellAt j (by omega)]
        have : j < (seqI k j ++ xs.drop j).length := by simp [seqI_len]; omega
        exact ⟨_, List.getElem?_eq_getElem this⟩
      have z0 : wr.frozen? ⟨g, j, none⟩ = false := hP.out.frozenAt j
      have S1 : Hid (wr.setCell ⟨g, j, none⟩ (.int .i64 (k + j)) |>.ownsRow 0 3 1 (.slice (some ⟨g, 0, none⟩) n cap) n (seqI k (j + 1) ++ xs.drop (j + 1))) := by
        have := (hP.out.stored j (.int .i64 (k + j))).1
        rw [seqI_set k j xs hxj] at this
        exact this
      go_wp2
      go_roundw
      case rel => first | exact ⟨j + 1, by omega, by go_num, by go_num, gb_trans hG.out (gb_set _ _ _ _), S1.out⟩ | ((repeat apply Exists.intro); exact ⟨⟨j + 1, by omega, by go_num, by go_num, gb_trans hG.out (gb_set _ _ _ _), S1.out⟩, rfl⟩)
      case measure => simp [intOf]; omega
    · have hjn' : ¬ (j : Int) < (n : Int) := by omega
      have e : j = n := by omega
      subst e
      go_wp2
      go_ret
      refine ⟨rfl, hG.out, ?_⟩
      have := hP.out
      rw [List.drop_of_length_le (by have := hX.out; omega), List.append_nil] at this
      exact this
set_option maxHeartbeats 1000000 in
theorem heldInts_any (cap n : Nat) (ao : Option Addr) (k : Int) (w : World) (hm : n ≤ 1048576) (h0 : 0 ≤ k) (hk : k ≤ 100000000) (hO0 : w.ownsRow 0 3 1 (.slice ao n cap) n (seqI k n)) :
    Calls Try.prog 18 #[.slice ao n cap, .int .i64 k] w fun e w' => e = .returned (.int .i64 (k + n)) ∧ Below w.heap.size w w' := by
  have hO : Hid (w.ownsRow 0 3 1 (.slice ao n cap) n (seqI k n)) := hO0
  clear hO0
  go_enter Try.func18, Try.ntmps18
  go_wp2
  go_loopw [1, 5] (fun s1 s5 wr => ∃ j : Nat, j ≤ n ∧ s5 = .int .i64 j ∧ s1 = .int .i64 (k + j) ∧ wr = w) (fun _ s5 _ => n - (intOf s5).toNat)
  case atStart => exact ⟨0, by omega, rfl, by simp, rfl⟩
  case round =>
    obtain ⟨j, hj, rfl, rfl, rfl⟩ := hrel
    by_cases hjn : j < n
    · have hjn' : (j : Int) < (n : Int) := by omega
      have j0 : (0 : Int) ≤ (j : Int) := by omega
      obtain ⟨g, rfl⟩ : ∃ g, ao = some ⟨g, 0, none⟩ := by
        rcases hO.out.2 with ⟨h', hz⟩ | ⟨g, cap', cur, h', _⟩
        · omega
        · cases h'; exact ⟨g, rfl⟩
      have y0 : wr.cell? ⟨g, j, none⟩ = some (.int .i64 (k + j)) := by
        rw [hO.out.cellAt j (by omega)]
        exact seqI_at k n j hjn
      go_wp2
      go_roundw
      case rel => first | exact ⟨j + 1, by omega, by go_num, by go_num, trivial⟩ | exact ⟨j + 1, by omega, by go_num, by go_num, rfl⟩ | ((repeat apply Exists.intro); exact ⟨⟨j + 1, by omega, by go_num, by go_num, rfl⟩, rfl⟩)
      case measure => simp [intOf]; omega
    · have hjn' : ¬ (j : Int) < (n : Int) := by omega
      have e : j = n := by omega
      subst e
      go_wp2
      go_ret
      exact ⟨rfl, Below.refl _ _⟩

end Go.Proofs.Ytjjgodnbfflepaa
