/- Owners, Fallback and OwnsKey on both sides, and their laws. -/
import Derived.Test.YtmkichdiecpklaaRows
import Derived.WalkKit
import Derived.WalkSpells
import Derived.WalkLawsBesides
import Derived.Deep.QuietTactic
import Derived.BigQuiet
import Derived.Deep.RegionHeld3
import Derived.Test.YtmkichdiecpklaaRg
import Derived.WalkMore
import Derived.LoopN
namespace Go.Proofs.Ytmkichdiecpklaa
open Go.RowKit
set_option linter.unusedSimpArgs false
set_option linter.unusedVariables false

theorem r3_cells {w : World} {g cap : Nat} {x y z : Int} (h : w.ownsRow 0 3 1 (.slice (some ⟨g, 0, none⟩) 3 cap) 3 (r3 x y z)) : w.cell? ⟨g, 0, none⟩ = some (.int .i64 x) ∧ w.cell? ⟨g, 1, none⟩ = some (.int .i64 y) ∧ w.cell? ⟨g, 2, none⟩ = some (.int .i64 z) :=
  ⟨by rw [h.cellAt 0 (by omega)]; rfl, by rw [h.cellAt 1 (by omega)]; rfl, by rw [h.cellAt 2 (by omega)]; rfl⟩
/-- The code that a key is told by: too long, no key, or none. -/
def KCode (s : ByteArray) (c : Int) : Prop := (65536 < s.size ∧ c = 2) ∨ (s.size ≤ 65536 ∧ ¬ keyP s ∧ c = 8) ∨ (s.size ≤ 65536 ∧ keyP s ∧ c = 0)
theorem KCode.is (s : ByteArray) : ∃ c, KCode s c := by
  by_cases h : 65536 < s.size
  · exact ⟨2, .inl ⟨h, rfl⟩⟩
  by_cases k : keyP s
  · exact ⟨0, .inr (.inr ⟨by omega, k, rfl⟩)⟩
  · exact ⟨8, .inr (.inl ⟨by omega, k, rfl⟩)⟩
theorem key_bool (s : ByteArray) : ∃ b : Bool, b = true ↔ keyP s := by
  by_cases h : keyP s
  · exact ⟨true, by simp [h]⟩
  · exact ⟨false, by simp [h]⟩
theorem kf_code {s : ByteArray} {b : Bool} {c : Int} (hb : b = true ↔ keyP s) (h : KCode s c) : KfI s b = c := by
  unfold KfI
  rcases h with ⟨h, rfl⟩ | ⟨h, k, rfl⟩ | ⟨h, k, rfl⟩
  · exact if_pos h
  · rw [if_neg (by omega)]
    cases b
    · rfl
    · exact (k (hb.1 rfl)).elim
  · rw [if_neg (by omega), hb.2 k]; rfl
/-- A row of numbers that a call hands out, with a code. -/
def IntsA (xs : List Int) (c : Int) (w : World) (e : Ending) (w' : World) : Prop := ∃ ao cap, e = .returned (.tuple #[.slice ao xs.length cap, .int .i64 c]) ∧ Below w.heap.size w w' ∧ w'.ownsRow 0 3 1 (.slice ao xs.length cap) xs.length (xs.map (Value.int .i64)) ∧ ∀ k, Value.ownBlock (.slice ao xs.length cap) = some k → w.heap.size ≤ k
theorem rg_open {x y z : Int} {w w' : World} {e : Ending} (h : RgA x y z w e w') : ∃ g cap, e = .returned (.slice (some ⟨g, 0, none⟩) 3 cap) ∧ Below w.heap.size w w' ∧ Hid (w'.ownsRow 0 3 1 (.slice (some ⟨g, 0, none⟩) 3 cap) 3 (r3 x y z)) ∧ Hid (w.heap.size ≤ g ∧ g < w'.heap.size) ∧ 3 ≤ cap := by
  obtain ⟨v, rfl, hg, ho⟩ := h
  obtain ⟨g, cap, rfl, hl, hc⟩ := own_some ho (by omega)
  refine ⟨g, cap, rfl, hg.below (Nat.le_refl _) (fun k hk => by simp [Value.ownBlock] at hk), ho, ⟨?_, hl⟩, hc⟩
  rcases hg.fresh g rfl with h' | h'
  · simp [Value.ownBlock] at h'
  · exact h'

theorem implFault_c (s : ByteArray) (c : Int) (w : World) (hs : s.size < 1099511627776) (h : KCode s c) :
    Calls Try.prog 24 #[.string s] w fun e w' => e = .returned (.int .i64 c) ∧ Below w.heap.size w w' := by
  obtain ⟨b, hb⟩ := key_bool s
  rw [← kf_code hb h]
  exact implFault_any s b hb w hs
set_option maxHeartbeats 1000000 in
theorem preferred_bad (s : ByteArray) (c : Int) (w : World) (hs : s.size < 1099511627776) (h : KCode s c) (hc : c ≠ 0) :
    Calls Try.prog 17 #[.string s] w fun e w' => e = .returned (.tuple #[.slice none 0 0, .int .i64 c]) ∧ Below w.heap.size w w' := by
  have C : Hid _ := fun w => implFault_c s c w hs h
  clear h hs
  go_enter Try.func17, Try.ntmps17
  go_wp2_with fail
  refine (Calls.mono (C.out _) ?_)
  rintro e w1 ⟨rfl, hb1⟩
  go_wp2
  go_ret2
  exact ⟨by first | rfl | simp, hb1⟩
set_option maxHeartbeats 1000000 in
theorem preferred_good (s : ByteArray) (x y z : Int) (w : World) (hs : s.size < 1099511627776) (h : KCode s 0) (hr : RingP (sumTo s s.size * 37 % 360) x y z) :
    Calls Try.prog 17 #[.string s] w fun e w' => ∃ g cap, e = .returned (.tuple #[.slice (some ⟨g, 0, none⟩) 3 cap, .int .i64 0]) ∧ Below w.heap.size w w' ∧ Hid (w'.ownsRow 0 3 1 (.slice (some ⟨g, 0, none⟩) 3 cap) 3 (r3 x y z)) ∧ Hid (w.heap.size ≤ g ∧ g < w'.heap.size) ∧ 3 ≤ cap := by
  have C : Hid _ := fun w => implFault_c s 0 w hs h
  have C2 : Hid _ := fun w => implPlace_any s w hs
  have C3 : Hid _ := fun w => nodesFrom_any (sumTo s s.size * 37 % 360) x y z w (Nat.mod_lt _ (by omega)) hr
  obtain ⟨p, hp⟩ : ∃ p, p = sumTo s s.size * 37 % 360 := ⟨_, rfl⟩
  rw [← hp] at C2 C3
  clear h hs hr hp
  go_enter Try.func17, Try.ntmps17
  go_wp2_with fail
  refine (Calls.mono (C.out _) ?_)
  rintro e w1 ⟨rfl, hb1⟩
  go_wp2_with fail
  refine (Calls.mono (C2.out _) ?_)
  rintro e w2 ⟨rfl, hb2⟩
  go_wp2_with fail
  refine (Calls.mono (C3.out _) ?_)
  rintro e w3 hA
  obtain ⟨g, cap, rfl, hb3, HO, HG, hcap⟩ := rg_open hA
  clear hA
  have HB : Hid (Below w.heap.size w w3) := hb1.trans ((hb2.trans (hb3.mono hb2.size)).mono hb1.size)
  have HG' : Hid (w.heap.size ≤ g ∧ g < w3.heap.size) := ⟨Nat.le_trans hb1.size (Nat.le_trans hb2.size HG.out.1), HG.out.2⟩
  clear hb1 hb2 hb3 HG C C2 C3
  go_wp2
  go_ret2
  exact ⟨g, cap, rfl, HB.out, HO, HG', hcap⟩

def OwL (c x y : Int) : List Int := if c = 0 then [x, y] else []
set_option maxHeartbeats 1000000 in
theorem implOwners_any (s : ByteArray) (c x y z : Int) (w : World) (hs : s.size < 1099511627776) (h : KCode s c) (hr : RingP (sumTo s s.size * 37 % 360) x y z) :
    Calls Try.prog 7 #[.string s] w (IntsA (OwL c x y) c w) := by
  by_cases hc : c = 0
  · subst hc
    have C : Hid _ := fun w => preferred_good s x y z w hs h hr
    have E : OwL 0 x y = [x, y] := rfl
    rw [E]
    clear E h hs hr
    go_enter Try.func7, Try.ntmps7
    go_wp2_with fail
    refine (Calls.mono (C.out _) ?_)
    rintro e w1 ⟨g, cap, rfl, hb1, HO, HG, hcap⟩
    have HB : Hid (Below w.heap.size w w1) := hb1
    have hcap' : (2 : Int) ≤ (cap : Int) := by omega
    clear hb1 C
    go_wp2
    go_ret2
    exact ⟨_, _, rfl, HB.out, own_take HO.out (by simp), fun k hk => by simp [Value.ownBlock] at hk; have := HG.out; omega⟩
  · have C : Hid _ := fun w => preferred_bad s c w hs h hc
    have E : OwL c x y = [] := if_neg hc
    rw [E]
    clear E h hs hr
    go_enter Try.func7, Try.ntmps7
    go_wp2_with fail
    refine (Calls.mono (C.out _) ?_)
    rintro e w1 ⟨rfl, hb1⟩
    go_wp2
    go_ret2
    exact ⟨none, 0, rfl, hb1, World.ownsRow_nil _ _ _ _, fun k hk => by simp [Value.ownBlock] at hk⟩

theorem two_cells {w : World} {g cap : Nat} {x y z : Int} (h : w.ownsRow 0 3 1 (.slice (some ⟨g, 0, none⟩) 3 cap) 3 (r3 x y z)) : ∀ j u, ([Value.int .i64 x, .int .i64 y])[j]? = some u → w.cell? ((⟨g, 0, none⟩ : Addr).add j) = some u := by
  obtain ⟨h0, h1, _⟩ := r3_cells h
  intro j u hu
  match j, hu with
  | 0, hu => simp at hu; subst hu; simpa [Addr.add] using h0
  | 1, hu => simp at hu; subst hu; simpa [Addr.add] using h1
theorem int_two {x y : Int} : ∀ u ∈ [Value.int .i64 x, .int .i64 y], u.oneCell' = true := by
  intro u hu
  simp at hu
  rcases hu with rfl | rfl <;> rfl
theorem specKey_c (s : ByteArray) (w : World) (hs : s.size < 1099511627776) (h : keyP s) :
    Calls Try.prog 15 #[.string s] w fun e w' => e = .returned (.bool true) ∧ Below w.heap.size w w' := specKey_any s true ⟨fun _ => h, fun _ => rfl⟩ w hs
theorem specKey_n (s : ByteArray) (w : World) (hs : s.size < 1099511627776) (h : ¬ keyP s) :
    Calls Try.prog 15 #[.string s] w fun e w' => e = .returned (.bool false) ∧ Below w.heap.size w w' := specKey_any s false ⟨fun e => Bool.noConfusion e, fun e => (h e).elim⟩ w hs
set_option maxHeartbeats 1000000 in
theorem specOwners_any (s : ByteArray) (c x y z : Int) (w : World) (hs : s.size < 1099511627776) (h : KCode s c) (hr : RingP (sumTo s s.size * 37 % 360) x y z) :
    Calls Try.prog 6 #[.string s] w (IntsA (OwL c x y) c w) := by
  rcases h with ⟨h, rfl⟩ | ⟨h, k, rfl⟩ | ⟨h, k, rfl⟩
  · have h' : (65536 : Int) < (s.size : Int) := by omega
    clear hr h
    go_enter Try.func6, Try.ntmps6

    go_wp2
    go_ret2
    refine ⟨some ⟨w.heap.size, 0, none⟩, 0, rfl, ?_, ?_, fun k hk => by simp [Value.ownBlock] at hk; subst hk; exact Nat.le_refl _⟩
    · exact bel_alloc _ _
    · have hq := World.ownsRow_lit (base := 0) (e := 3) (size := 1) w #[] 0 (Nat.zero_le _) (by unfold maxLen; omega) (by simp)
      simpa [OwL] using hq
  · have h' : ¬ (65536 : Int) < (s.size : Int) := by omega
    have C : Hid _ := fun w => specKey_n s w hs k
    clear hr h k hs
    go_enter Try.func6, Try.ntmps6
    go_wp2_with fail
    refine (Calls.mono (C.out _) ?_)
    rintro e w1 ⟨rfl, hb1⟩
    go_wp2
    go_ret2
    refine ⟨some ⟨w1.heap.size, 0, none⟩, 0, rfl, ?_, ?_, fun k hk => by simp [Value.ownBlock] at hk; subst hk; exact hb1.size⟩
    · exact hb1.trans ((bel_alloc _ _).mono hb1.size)
    · have hq := World.ownsRow_lit (base := 0) (e := 3) (size := 1) w1 #[] 0 (Nat.zero_le _) (by unfold maxLen; omega) (by simp)
      simpa [OwL] using hq
  · have h' : ¬ (65536 : Int) < (s.size : Int) := by omega
    have C : Hid _ := fun w => specKey_c s w hs k
    have C2 : Hid _ := fun w => pref_any s x y z w hs hr
    have E : OwL 0 x y = [x, y] := rfl
    rw [E]
    clear E h hs hr k
    obtain ⟨i0, hi, hz0, hz1, hz2⟩ := info_parts info_int
    have HI : Hid (Try.prog.info? 3 = some i0 ∧ i0.zero = some (.int .i64 0) ∧ i0.size = 1 ∧ i0.bytes = 8) := ⟨hi, hz0, hz1, hz2⟩
    clear hi hz0 hz1 hz2
    go_enter Try.func6, Try.ntmps6
    go_wp2_with fail
    refine (Calls.mono (C.out _) ?_)
    rintro e w1 ⟨rfl, hb1⟩
    have OE : Hid ((w1.alloc (.cells #[] 3)).ownsRow 0 3 1 (.slice (some ⟨w1.heap.size, 0, none⟩) 0 0) 0 []) := by
      have hq := World.ownsRow_lit (base := 0) (e := 3) (size := 1) w1 #[] 0 (Nat.zero_le _) (by unfold maxLen; omega) (by simp)
      show World.ownsRow _ _ _ _ _ _ _
      simpa using hq
    go_wp2_with fail
    refine (Calls.mono (C2.out _) ?_)
    rintro e w2 hA
    obtain ⟨g, cap, rfl, hb2, HO, HG, hcap⟩ := rg_open hA
    clear hA C C2
    replace OE := own_hnext OE hb2
    have HB : Hid (Below w.heap.size w w2) := hb1.trans (((bel_alloc _ _).trans (hb2.mono (bel_alloc _ _).size)).mono hb1.size)
    have HS : Hid (w.heap.size ≤ w1.heap.size ∧ w1.heap.size < w2.heap.size) := ⟨hb1.size, Nat.lt_of_lt_of_le (by simp) hb2.size⟩
    have hcap' : (2 : Int) ≤ (cap : Int) := by omega
    clear hb1 hb2
    go_wp2_with (first | (at_builtin; refine wpList_append2 rfl _ _ 22 rfl 3 i0 (.int .i64 0) 1 8 Try.underlying22 HI.out.1 HI.out.2.1 HI.out.2.2.1 HI.out.2.2.2 rfl (by decide) _ _ _ rfl OE.out ⟨g, 0, none⟩ 2 cap [.int .i64 x, .int .i64 y] rfl rfl (two_cells HO.out) int_two (by unfold maxLen; omega) (by omega) ?_) | go_in)
    intro v' w3 hown hgro
    obtain ⟨ao, cp, rfl⟩ := own_slice hown
    have HF : Hid (∀ k, Value.ownBlock (.slice ao 2 cp) = some k → w.heap.size ≤ k) := fun k hk => by
      rcases hgro.fresh k hk with h | h
      · simp [Value.ownBlock] at h; have := HS.out; omega
      · have := HS.out; omega
    have HB3 : Hid (Below w.heap.size w w3) := HB.out.trans (hgro.below (Nat.le_trans HS.out.1 (Nat.le_of_lt HS.out.2)) (fun k hk => by simp [Value.ownBlock] at hk; have := HS.out; omega))
    have HO3 : Hid (w3.ownsRow 0 3 1 (.slice ao 2 cp) 2 [.int .i64 x, .int .i64 y]) := hown
    clear hown hgro
    go_wp2
    go_ret2
    exact ⟨_, _, rfl, HB3.out, HO3.out, HF.out⟩

theorem ints_open {xs : List Int} {c : Int} {w w' : World} {e : Ending} (h : IntsA xs c w e w') : ∃ ao cap, e = .returned (.tuple #[.slice ao xs.length cap, .int .i64 c]) ∧ Below w.heap.size w w' ∧ Hid (w'.ownsRow 0 3 1 (.slice ao xs.length cap) xs.length (xs.map (Value.int .i64))) ∧ Hid (∀ k, Value.ownBlock (.slice ao xs.length cap) = some k → w.heap.size ≤ k ∧ k < w'.heap.size) := by
  obtain ⟨ao, cap, rfl, hb, ho, hk⟩ := h
  exact ⟨ao, cap, rfl, hb, ho, fun k h => ⟨hk k h, (ho.lt k h).2⟩⟩
set_option maxHeartbeats 2000000 in
theorem law_Owners (s : ByteArray) (w : World) (hs : s.size ≤ maxLen) :
    Calls Try.prog 3 #[.string s] w fun e w' => e = .returned (.bool true) ∧ Below w.heap.size w w' := by
  unfold maxLen at hs
  by_cases h : s.size ≤ 1048576
  · have h' : ¬ (1048576 : Int) < (s.size : Int) := by omega
    obtain ⟨x, y, z, hr⟩ := RingP.is (sumTo s s.size * 37 % 360)
    obtain ⟨c, hc⟩ := KCode.is s
    have C1 : Hid _ := fun w => specOwners_any s c x y z w (by omega) hc hr
    have C2 : Hid _ := fun w => implOwners_any s c x y z w (by omega) hc hr
    have hl : (OwL c x y).length ≤ 2 := by unfold OwL; split <;> simp
    obtain ⟨zs, hzs⟩ : ∃ zs, zs = OwL c x y := ⟨_, rfl⟩
    rw [← hzs] at C1 C2 hl
    have hzl : (zs.length : Int) ≤ 1048576 := by omega
    clear hzs hr hc h hs
    go_enter Try.func3, Try.ntmps3
    go_wp2_with fail
    refine (Calls.mono (C1.out _) ?_)
    rintro e w1 hA
    obtain ⟨aw, cw, rfl, hb1, OW, FW⟩ := ints_open hA
    have HB : Hid (Below w.heap.size w w1) := hb1
    have HZ : Hid (w.heap.size ≤ w1.heap.size) := hb1.size
    clear hA hb1 C1
    go_wp2_with fail
    refine (Calls.mono (C2.out _) ?_)
    rintro e w2 hA
    obtain ⟨ag, cg, rfl, hb2, OG, FG⟩ := ints_open hA
    replace HB := bel_next HB hb2
    replace OW := own_hnext OW hb2
    clear hA hb2
    have HW : Hid (∀ k, Value.ownBlock (.slice aw zs.length cw) = some k → w.heap.size ≤ k ∧ k < w1.heap.size) := FW
    have HG : Hid (∀ k, Value.ownBlock (.slice ag zs.length cg) = some k → w.heap.size ≤ k ∧ w1.heap.size ≤ k) := fun k hk => ⟨Nat.le_trans HZ.out (FG.out k hk).1, (FG.out k hk).1⟩
    clear FW FG
    go_wp2_with fail
    refine (eqInts_same cg cw zs.length ag aw zs _ rfl hzl (owned_ints OG.out rfl) (owned_ints OW.out rfl)).mono ?_
    rintro e w3 ⟨rfl, hb⟩
    replace HB := bel_next HB hb
    replace OW := own_hnext OW hb
    replace OG := own_hnext OG hb
    clear hb
    go_wp2_with fail
    refine (markInts_any cg zs.length ag 1 _ _ (by omega) (by omega) (by omega) OG.out).mono ?_
    rintro e w4 ⟨rfl, hg, og⟩
    replace OG : Hid _ := og
    replace OW := own_mark OW hg (fun k hk e => by have := HG.out _ e; have := HW.out _ hk; omega)
    replace HB := bel_mark HB hg (fun k hk => by have := HG.out _ hk; omega)
    clear hg og
    go_wp2_with fail
    refine (heldInts_any cg zs.length ag 1 _ (by omega) (by omega) (by omega) OG.out).mono ?_
    rintro e w5 ⟨rfl, hb⟩
    replace HB := bel_next HB hb
    replace OW := own_hnext OW hb
    replace OG := own_hnext OG hb
    clear hb
    go_wp2_with fail
    refine (Calls.mono (C2.out _) ?_)
    rintro e w6 hA
    obtain ⟨ah, ch, rfl, hb2, OH, FH⟩ := ints_open hA
    replace HB := bel_next HB hb2
    replace OW := own_hnext OW hb2
    replace OG := own_hnext OG hb2
    clear hA hb2 FH
    go_wp2_with fail
    refine (eqInts_same ch cw zs.length ah aw zs _ rfl hzl (owned_ints OH.out rfl) (owned_ints OW.out rfl)).mono ?_
    rintro e w7 ⟨rfl, hb⟩
    replace HB := bel_next HB hb
    replace OG := own_hnext OG hb
    clear hb OH OW
    go_wp2_with fail
    refine (heldInts_any cg zs.length ag 1 _ (by omega) (by omega) (by omega) OG.out).mono ?_
    rintro e w8 ⟨rfl, hb⟩
    replace HB := bel_next HB hb
    clear hb OG
    go_wp2
    go_ret
    exact ⟨rfl, HB.out⟩
  · have h' : (1048576 : Int) < (s.size : Int) := by omega
    go_enter Try.func3, Try.ntmps3
    go_wp2
    go_ret
    exact ⟨rfl, Below.refl _ _⟩

def FbV (c z : Int) : Int := if c = 0 then z else 0
set_option maxHeartbeats 1000000 in
theorem implFallback_any (s : ByteArray) (c x y z : Int) (w : World) (hs : s.size < 1099511627776) (h : KCode s c) (hr : RingP (sumTo s s.size * 37 % 360) x y z) :
    Calls Try.prog 12 #[.string s] w fun e w' => e = .returned (.tuple #[.int .i64 (FbV c z), .int .i64 c]) ∧ Below w.heap.size w w' := by
  by_cases hc : c = 0
  · subst hc
    have C : Hid _ := fun w => preferred_good s x y z w hs h hr
    have E : FbV 0 z = z := rfl
    rw [E]
    clear E h hs hr
    go_enter Try.func12, Try.ntmps12
    go_wp2_with fail
    refine (Calls.mono (C.out _) ?_)
    rintro e w1 ⟨g, cap, rfl, hb1, HO, HG, hcap⟩
    obtain ⟨_, _, c2⟩ := r3_cells HO.out
    clear C HO HG hcap
    go_wp2
    go_ret2
    exact ⟨by first | rfl | simp, hb1⟩
  · have C : Hid _ := fun w => preferred_bad s c w hs h hc
    have E : FbV c z = 0 := if_neg hc
    rw [E]
    clear E h hs hr
    go_enter Try.func12, Try.ntmps12
    go_wp2_with fail
    refine (Calls.mono (C.out _) ?_)
    rintro e w1 ⟨rfl, hb1⟩
    go_wp2
    go_ret2
    exact ⟨by first | rfl | simp, hb1⟩

set_option maxHeartbeats 1000000 in
theorem specFallback_any (s : ByteArray) (c x y z : Int) (w : World) (hs : s.size < 1099511627776) (h : KCode s c) (hr : RingP (sumTo s s.size * 37 % 360) x y z) :
    Calls Try.prog 11 #[.string s] w fun e w' => e = .returned (.tuple #[.int .i64 (FbV c z), .int .i64 c]) ∧ Below w.heap.size w w' := by
  rcases h with ⟨h, rfl⟩ | ⟨h, k, rfl⟩ | ⟨h, k, rfl⟩
  · have h' : (65536 : Int) < (s.size : Int) := by omega
    have E : FbV 2 z = 0 := rfl
    rw [E]
    clear hr h E
    go_enter Try.func11, Try.ntmps11
    go_wp2
    go_ret2
    exact ⟨by first | rfl | simp, Below.refl _ _⟩
  · have h' : ¬ (65536 : Int) < (s.size : Int) := by omega
    have C : Hid _ := fun w => specKey_n s w hs k
    have E : FbV 8 z = 0 := rfl
    rw [E]
    clear hr h k hs E
    go_enter Try.func11, Try.ntmps11
    go_wp2_with fail
    refine (Calls.mono (C.out _) ?_)
    rintro e w1 ⟨rfl, hb1⟩
    go_wp2
    go_ret2
    exact ⟨by first | rfl | simp, hb1⟩
  · have h' : ¬ (65536 : Int) < (s.size : Int) := by omega
    have C : Hid _ := fun w => specKey_c s w hs k
    have C2 : Hid _ := fun w => pref_any s x y z w hs hr
    have E : FbV 0 z = z := rfl
    rw [E]
    clear E h hs hr k
    go_enter Try.func11, Try.ntmps11
    go_wp2_with fail
    refine (Calls.mono (C.out _) ?_)
    rintro e w1 ⟨rfl, hb1⟩
    go_wp2_with fail
    refine (Calls.mono (C2.out _) ?_)
    rintro e w2 hA
    obtain ⟨g, cap, rfl, hb2, HO, HG, hcap⟩ := rg_open hA
    obtain ⟨_, _, c2⟩ := r3_cells HO.out
    have HB : Hid (Below w.heap.size w w2) := hb1.trans (hb2.mono hb1.size)
    clear C C2 HO HG hcap hA hb1 hb2
    go_wp2
    go_ret2
    exact ⟨by first | rfl | simp, HB.out⟩

set_option maxHeartbeats 2000000 in
theorem law_Fallback (s : ByteArray) (w : World) (hs : s.size ≤ maxLen) :
    Calls Try.prog 4 #[.string s] w fun e w' => e = .returned (.bool true) ∧ Below w.heap.size w w' := by
  unfold maxLen at hs
  by_cases h : s.size ≤ 1048576
  · have h' : ¬ (1048576 : Int) < (s.size : Int) := by omega
    obtain ⟨x, y, z, hr⟩ := RingP.is (sumTo s s.size * 37 % 360)
    obtain ⟨c, hc⟩ := KCode.is s
    have C1 : Hid _ := fun w => specFallback_any s c x y z w (by omega) hc hr
    have C2 : Hid _ := fun w => implFallback_any s c x y z w (by omega) hc hr
    generalize FbV c z = v at C1 C2
    clear hr hc h hs
    go_enter Try.func4, Try.ntmps4
    go_wp2_with fail
    refine (Calls.mono (C1.out _) ?_)
    rintro e w1 ⟨rfl, hb1⟩
    go_wp2_with fail
    refine (Calls.mono (C2.out _) ?_)
    rintro e w2 ⟨rfl, hb2⟩
    go_wp2
    go_ret
    exact ⟨rfl, hb1.trans (hb2.mono hb1.size)⟩
  · have h' : (1048576 : Int) < (s.size : Int) := by omega
    go_enter Try.func4, Try.ntmps4
    go_wp2
    go_ret
    exact ⟨rfl, Below.refl _ _⟩

theorem l01Node_any (k : Int) (w : World) :
    Calls Try.prog 18 #[.int .i64 k] w fun e w' => e = .returned (.bool (decide (0 ≤ k) && decide (k ≤ 2))) ∧ Below w.heap.size w w' := by
  go_enter Try.func18, Try.ntmps18
  go_wp2_with fail
  refine (Calls.mono (in_any k 0 2 _) ?_)
  rintro e w1 ⟨rfl, hb1⟩
  go_wp2
  go_ret
  exact ⟨by first | rfl | simp, hb1⟩

theorem isNode_any (k : Int) (w : World) :
    Calls Try.prog 20 #[.int .i64 k] w fun e w' => e = .returned (.bool (decide (0 ≤ k) && decide (k ≤ 2))) ∧ Below w.heap.size w w' := by
  by_cases h1 : 0 ≤ k
  · by_cases h2 : k < 3
    · go_enter Try.func20, Try.ntmps20
      go_wp2
      go_ret
      exact ⟨ret_bool (by simp; omega), Below.refl _ _⟩
    · go_enter Try.func20, Try.ntmps20
      go_wp2
      go_ret
      exact ⟨ret_bool (by simp; omega), Below.refl _ _⟩
  · go_enter Try.func20, Try.ntmps20
    go_wp2
    go_ret
    exact ⟨ret_bool (by simp; omega), Below.refl _ _⟩
def OwB (k x y : Int) : Bool := decide (k = x) || decide (k = y)

set_option maxHeartbeats 1000000 in
theorem l07Owns_any (s : ByteArray) (k x y z : Int) (w : World) (hs : s.size < 1099511627776) (hr : RingP (sumTo s s.size * 37 % 360) x y z) :
    Calls Try.prog 19 #[.int .i64 k, .string s] w fun e w' => e = .returned (.bool (OwB k x y)) ∧ Below w.heap.size w w' := by
  have C2 : Hid _ := fun w => pref_any s x y z w hs hr
  clear hs hr
  by_cases h1 : k = x
  · subst h1
    go_enter Try.func19, Try.ntmps19
    go_wp2_with fail
    refine (Calls.mono (C2.out _) ?_)
    rintro e w2 hA
    obtain ⟨g, cap, rfl, hb2, HO, HG, hcap⟩ := rg_open hA
    obtain ⟨c0, c1, _⟩ := r3_cells HO.out
    clear hA HO HG hcap C2
    go_wp2
    go_ret
    exact ⟨ret_bool (by simp [OwB]), hb2⟩
  · go_enter Try.func19, Try.ntmps19
    go_wp2_with fail
    refine (Calls.mono (C2.out _) ?_)
    rintro e w2 hA
    obtain ⟨g, cap, rfl, hb2, HO, HG, hcap⟩ := rg_open hA
    obtain ⟨c0, c1, _⟩ := r3_cells HO.out
    clear hA HO HG hcap C2
    go_wp2
    go_ret
    exact ⟨ret_bool (by unfold OwB; cases q : (k == y) <;> simp_all), hb2⟩

set_option maxHeartbeats 1000000 in
theorem index_0 (g cap : Nat) (k x y : Int) (w : World) (c0 : w.cell? ⟨g, 0, none⟩ = some (.int .i64 x)) (c1 : w.cell? ⟨g, 1, none⟩ = some (.int .i64 y)) (h : k = x) :
    Calls Try.prog 27 #[.slice (some ⟨g, 0, none⟩) 2 cap, .int .i64 k] w fun e w' => e = .returned (.int .i64 0) ∧ Below w.heap.size w w' := by
  go_enter Try.func27, Try.ntmps27
  go_wp2
  refine wp_loop_rounds 3 ?_
  rw [rounds_succ]
  go_wp2
  go_ret
  exact ⟨by first | rfl | simp, Below.refl _ _⟩

set_option maxHeartbeats 1000000 in
theorem index_1 (g cap : Nat) (k x y : Int) (w : World) (c0 : w.cell? ⟨g, 0, none⟩ = some (.int .i64 x)) (c1 : w.cell? ⟨g, 1, none⟩ = some (.int .i64 y)) (h : ¬ k = x) (h2 : k = y) :
    Calls Try.prog 27 #[.slice (some ⟨g, 0, none⟩) 2 cap, .int .i64 k] w fun e w' => e = .returned (.int .i64 1) ∧ Below w.heap.size w w' := by
  go_enter Try.func27, Try.ntmps27
  go_wp2
  refine wp_loop_rounds 3 ?_
  rw [rounds_succ]
  go_wp2
  rw [rounds_succ]
  go_wp2
  go_ret
  exact ⟨by first | rfl | simp, Below.refl _ _⟩

set_option maxHeartbeats 1000000 in
theorem index_n (g cap : Nat) (k x y : Int) (w : World) (c0 : w.cell? ⟨g, 0, none⟩ = some (.int .i64 x)) (c1 : w.cell? ⟨g, 1, none⟩ = some (.int .i64 y)) (h : ¬ k = x) (h2 : ¬ k = y) :
    Calls Try.prog 27 #[.slice (some ⟨g, 0, none⟩) 2 cap, .int .i64 k] w fun e w' => e = .returned (.int .i64 (-1)) ∧ Below w.heap.size w w' := by
  go_enter Try.func27, Try.ntmps27
  go_wp2
  refine wp_loop_rounds 3 ?_
  rw [rounds_succ]
  go_wp2
  rw [rounds_succ]
  go_wp2
  rw [rounds_succ]
  go_wp2
  go_ret
  exact ⟨by first | rfl | simp, Below.refl _ _⟩

theorem contains_any (g cap : Nat) (k x y : Int) (w : World) (c0 : w.cell? ⟨g, 0, none⟩ = some (.int .i64 x)) (c1 : w.cell? ⟨g, 1, none⟩ = some (.int .i64 y)) :
    Calls Try.prog 21 #[.slice (some ⟨g, 0, none⟩) 2 cap, .int .i64 k] w fun e w' => e = .returned (.bool (OwB k x y)) ∧ Below w.heap.size w w' := by
  by_cases h : k = x
  · have C : Hid _ := index_0 g cap k x y w c0 c1 h
    have E : OwB k x y = true := by simp [OwB, h]
    rw [E]
    clear c0 c1 h E
    go_enter Try.func21, Try.ntmps21
    go_wp2_with fail
    refine (Calls.mono (C.out) ?_)
    rintro e w1 ⟨rfl, hb1⟩
    go_wp2
    go_ret
    exact ⟨by first | rfl | simp, hb1⟩
  by_cases h2 : k = y
  · have C : Hid _ := index_1 g cap k x y w c0 c1 h h2
    have E : OwB k x y = true := by simp [OwB, h2]
    rw [E]
    clear c0 c1 h h2 E
    go_enter Try.func21, Try.ntmps21
    go_wp2_with fail
    refine (Calls.mono (C.out) ?_)
    rintro e w1 ⟨rfl, hb1⟩
    go_wp2
    go_ret
    exact ⟨by first | rfl | simp, hb1⟩
  · have C : Hid _ := index_n g cap k x y w c0 c1 h h2
    have E : OwB k x y = false := by simp [OwB, h, h2]
    rw [E]
    clear c0 c1 h h2 E
    go_enter Try.func21, Try.ntmps21
    go_wp2_with fail
    refine (Calls.mono (C.out) ?_)
    rintro e w1 ⟨rfl, hb1⟩
    go_wp2
    go_ret
    exact ⟨by first | rfl | simp, hb1⟩
/-- What OwnsKey answers. -/
def OkA (s : ByteArray) (k x y : Int) (b : Bool) (r : Int) : Prop := ∃ c, KCode s c ∧ ((c ≠ 0 ∧ b = false ∧ r = c) ∨ (c = 0 ∧ (decide (0 ≤ k) && decide (k ≤ 2)) = false ∧ b = false ∧ r = 4) ∨ (c = 0 ∧ (decide (0 ≤ k) && decide (k ≤ 2)) = true ∧ b = OwB k x y ∧ r = 0))
theorem OkA.is (s : ByteArray) (k x y : Int) : ∃ b r, OkA s k x y b r := by
  obtain ⟨c, hc⟩ := KCode.is s
  by_cases h : c = 0
  · cases q : (decide (0 ≤ k) && decide (k ≤ 2))
    · exact ⟨_, _, c, hc, .inr (.inl ⟨h, q, rfl, rfl⟩)⟩
    · exact ⟨_, _, c, hc, .inr (.inr ⟨h, q, rfl, rfl⟩)⟩
  · exact ⟨_, _, c, hc, .inl ⟨h, rfl, rfl⟩⟩

set_option maxHeartbeats 1000000 in
theorem implOwnsKey_any (s : ByteArray) (k x y z : Int) (b : Bool) (r : Int) (w : World) (hs : s.size < 1099511627776) (h : OkA s k x y b r) (hr : RingP (sumTo s s.size * 37 % 360) x y z) :
    Calls Try.prog 14 #[.int .i64 k, .string s] w fun e w' => e = .returned (.tuple #[.bool b, .int .i64 r]) ∧ Below w.heap.size w w' := by
  obtain ⟨c, hc, h⟩ := h
  have C1 : Hid _ := fun w => implOwners_any s c x y z w hs hc hr
  have C2 : Hid _ := fun w => isNode_any k w
  clear hs hc hr
  rcases h with ⟨h, rfl, rfl⟩ | ⟨rfl, h, rfl, rfl⟩ | ⟨rfl, h, rfl, rfl⟩
  · have E : OwL r x y = [] := if_neg h
    rw [E] at C1
    clear E
    go_enter Try.func14, Try.ntmps14
    go_wp2_with fail
    refine (Calls.mono (C1.out _) ?_)
    rintro e w1 hA
    obtain ⟨ao, cap, rfl, hb1, HO, HF⟩ := ints_open hA
    clear hA C1 C2 HO HF
    go_wp2
    go_ret2
    exact ⟨by first | rfl | simp, hb1⟩
  · have E : OwL 0 x y = [x, y] := rfl
    rw [E] at C1
    rw [h] at C2
    clear E h
    go_enter Try.func14, Try.ntmps14
    go_wp2_with fail
    refine (Calls.mono (C1.out _) ?_)
    rintro e w1 hA
    obtain ⟨ao, cap, rfl, hb1, HO, HF⟩ := ints_open hA
    clear hA C1 HO HF
    go_wp2_with fail
    refine (Calls.mono (C2.out _) ?_)
    rintro e w2 ⟨rfl, hb2⟩
    go_wp2
    go_ret2
    exact ⟨by first | rfl | simp, hb1.trans (hb2.mono hb1.size)⟩
  · have E : OwL 0 x y = [x, y] := rfl
    rw [E] at C1
    rw [h] at C2
    generalize HOB : OwB k x y = ob
    have C3 : Hid _ := fun g cap w c0 c1 => HOB ▸ contains_any g cap k x y w c0 c1
    clear E h HOB
    go_enter Try.func14, Try.ntmps14
    go_wp2_with fail
    refine (Calls.mono (C1.out _) ?_)
    rintro e w1 hA
    obtain ⟨ao, cap, rfl, hb1, HO, HF⟩ := ints_open hA
    clear hA C1 HF
    obtain ⟨g, rfl⟩ : ∃ g, ao = some ⟨g, 0, none⟩ := by
      obtain ⟨g, cp, e, _⟩ := own_some HO.out (by simp)
      cases e
      exact ⟨g, rfl⟩
    go_wp2_with fail
    refine (Calls.mono (C2.out _) ?_)
    rintro e w2 ⟨rfl, hb2⟩
    replace HO := own_hnext HO hb2
    have HB : Hid (Below w.heap.size w w2) := hb1.trans (hb2.mono hb1.size)
    have d0 : Hid (w2.cell? ⟨g, 0, none⟩ = some (.int .i64 x)) := by show _ = _; rw [HO.out.cellAt 0 (by simp)]; rfl
    have d1 : Hid (w2.cell? ⟨g, 1, none⟩ = some (.int .i64 y)) := by show _ = _; rw [HO.out.cellAt 1 (by simp)]; rfl
    clear hb1 hb2 HO
    go_wp2_with fail
    refine (Calls.mono (C3.out g cap _ d0.out d1.out) ?_)
    rintro e w3 ⟨rfl, hb3⟩
    replace HB := bel_next HB hb3
    clear hb3 d0 d1
    go_wp2
    go_ret2
    exact ⟨by first | rfl | simp, HB.out⟩

set_option maxHeartbeats 1000000 in
theorem specOwnsKey_any (s : ByteArray) (k x y z : Int) (b : Bool) (r : Int) (w : World) (hs : s.size < 1099511627776) (h : OkA s k x y b r) (hr : RingP (sumTo s s.size * 37 % 360) x y z) :
    Calls Try.prog 13 #[.int .i64 k, .string s] w fun e w' => e = .returned (.tuple #[.bool b, .int .i64 r]) ∧ Below w.heap.size w w' := by
  obtain ⟨c, hc, h⟩ := h
  have C2 : Hid _ := fun w => l01Node_any k w
  rcases hc with ⟨q, rfl⟩ | ⟨q, kk, rfl⟩ | ⟨q, kk, rfl⟩
  · have h' : (65536 : Int) < (s.size : Int) := by omega
    obtain ⟨rfl, rfl⟩ : b = false ∧ r = 2 := by
      rcases h with ⟨_, h⟩ | ⟨h, _⟩ | ⟨h, _⟩
      · exact h
      · omega
      · omega
    clear h hr hs q C2
    go_enter Try.func13, Try.ntmps13
    go_wp2
    go_ret2
    exact ⟨by first | rfl | simp, Below.refl _ _⟩
  · have h' : ¬ (65536 : Int) < (s.size : Int) := by omega
    obtain ⟨rfl, rfl⟩ : b = false ∧ r = 8 := by
      rcases h with ⟨_, h⟩ | ⟨h, _⟩ | ⟨h, _⟩
      · exact h
      · omega
      · omega
    have C : Hid _ := fun w => specKey_n s w hs kk
    clear h hr hs q C2 kk
    go_enter Try.func13, Try.ntmps13
    go_wp2_with fail
    refine (Calls.mono (C.out _) ?_)
    rintro e w1 ⟨rfl, hb1⟩
    go_wp2
    go_ret2
    exact ⟨by first | rfl | simp, hb1⟩
  · have h' : ¬ (65536 : Int) < (s.size : Int) := by omega
    have C : Hid _ := fun w => specKey_c s w hs kk
    have C3 : Hid _ := fun w => l07Owns_any s k x y z w hs hr
    rcases h with ⟨h, _⟩ | ⟨_, h, rfl, rfl⟩ | ⟨_, h, rfl, rfl⟩
    · omega
    · rw [h] at C2
      clear h hr hs q kk C3
      go_enter Try.func13, Try.ntmps13
      go_wp2_with fail
      refine (Calls.mono (C.out _) ?_)
      rintro e w1 ⟨rfl, hb1⟩
      go_wp2_with fail
      refine (Calls.mono (C2.out _) ?_)
      rintro e w2 ⟨rfl, hb2⟩
      go_wp2
      go_ret2
      exact ⟨by first | rfl | simp, hb1.trans (hb2.mono hb1.size)⟩
    · rw [h] at C2
      generalize OwB k x y = ob at C3 ⊢
      clear h hr hs q kk
      go_enter Try.func13, Try.ntmps13
      go_wp2_with fail
      refine (Calls.mono (C.out _) ?_)
      rintro e w1 ⟨rfl, hb1⟩
      go_wp2_with fail
      refine (Calls.mono (C2.out _) ?_)
      rintro e w2 ⟨rfl, hb2⟩
      go_wp2_with fail
      refine (Calls.mono (C3.out _) ?_)
      rintro e w3 ⟨rfl, hb3⟩
      go_wp2
      go_ret2
      exact ⟨by first | rfl | simp, hb1.trans ((hb2.trans (hb3.mono hb2.size)).mono hb1.size)⟩

set_option maxHeartbeats 2000000 in
theorem law_OwnsKey (k : Int) (hk : (Lit.int .i64 k).wf = true) (s : ByteArray) (hs : s.size ≤ maxLen) (w : World) :
    Calls Try.prog 5 #[.int .i64 k, .string s] w fun e w' => e = .returned (.bool true) ∧ Below w.heap.size w w' := by
  unfold maxLen at hs
  by_cases h : s.size ≤ 1048576
  · have h' : ¬ (1048576 : Int) < (s.size : Int) := by omega
    obtain ⟨x, y, z, hr⟩ := RingP.is (sumTo s s.size * 37 % 360)
    obtain ⟨c, hc⟩ := KCode.is s
    obtain ⟨b, r, ho⟩ := OkA.is s k x y
    have C1 : Hid _ := fun w => specOwnsKey_any s k x y z b r w (by omega) ho hr
    have C2 : Hid _ := fun w => implOwnsKey_any s k x y z b r w (by omega) ho hr
    clear ho hk
    clear hr hc h hs
    go_enter Try.func5, Try.ntmps5
    go_wp2_with fail
    refine (Calls.mono (C1.out _) ?_)
    rintro e w1 ⟨rfl, hb1⟩
    go_wp2_with fail
    refine (Calls.mono (C2.out _) ?_)
    rintro e w2 ⟨rfl, hb2⟩
    cases b
    all_goals
      go_wp2
      go_ret
      exact ⟨rfl, hb1.trans (hb2.mono hb1.size)⟩
  · have h' : (1048576 : Int) < (s.size : Int) := by omega
    go_enter Try.func5, Try.ntmps5
    go_wp2
    go_ret
    exact ⟨rfl, Below.refl _ _⟩

end Go.Proofs.Ytmkichdiecpklaa
