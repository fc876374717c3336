/- ReadDot, of the specification. -/
import Derived.Test.YtfglhjnfhdalnaaRows
import Derived.WalkKit
import Derived.WalkSpells
import Derived.WalkLawsBesides
import Derived.Deep.QuietTactic
import Derived.BigQuiet
import Derived.Deep.RegionHeld3
import Derived.Test.YtfglhjnfhdalnaaSq
import Derived.Test.YtfglhjnfhdalnaaRw
import Derived.LoopN
namespace Go.Proofs.Ytfglhjnfhdalnaa
open Go.RowKit
set_option linter.unusedSimpArgs false
set_option linter.unusedVariables false

theorem ba_bl (s : ByteArray) : (⟨(bl s).toArray⟩ : ByteArray) = s := by
  apply ByteArray.ext
  simp [bl]
theorem box_a {W : World} {b o : Nat} {v : Value} {ob : Obj} (h : W.cell? ⟨b, o, none⟩ = some v) (hb : b < W.heap.size) : (W.alloc ob).cell? ⟨b, o, none⟩ = some v := cell_next (bel_alloc _ _) h hb
theorem froz_a {W : World} {b o : Nat} {ob : Obj} (h : W.frozen? ⟨b, o, none⟩ = false) (hb : b < W.heap.size) : (W.alloc ob).frozen? ⟨b, o, none⟩ = false := frozen_next (bel_alloc _ _) h hb
set_option maxHeartbeats 1000000 in
theorem l03num_yes (s : ByteArray) (w : World) (hs : s.size ≤ 1048576) (h : Num (bl s) ∧ (bl s).length ≤ 18) :
    Calls Try.prog 32 #[.string s] w fun e w' => e = .returned (.tuple #[.int .i64 (nv (bl s)), .bool true]) ∧ Below w.heap.size w w' := by
  obtain ⟨m, hm⟩ : ∃ m : Nat, nv (bl s) = (m : Int) := ⟨(nv (bl s)).toNat, by have := nv_nonneg h.1.2.1; omega⟩
  have hds : (⟨(dsN m).toArray⟩ : ByteArray) = s := by
    have := dsN_num _ (bl s) rfl h.1
    rw [hm] at this
    have e : ((m : Int)).toNat = m := by omega
    rw [e] at this
    rw [this]
    exact ba_bl s
  have hm18 : m < 1000000000000000000 := by have := nv_small h.1.2.1 h.2; omega
  have H : Hid (Num (bl s) ∧ (bl s).length ≤ 18) := h
  have HM : Hid (nv (bl s) = (m : Int)) := hm
  have HDS : Hid ((⟨(dsN m).toArray⟩ : ByteArray) = s) := hds
  rw [hm]
  clear h hm hds
  have hm0 : (0 : Int) ≤ (m : Int) := by omega
  go_enter Try.func32, Try.ntmps32
  go_wp2_with fail
  refine (l00num_any s _ hs).mono ?_
  rintro e w1 ⟨n, ok, rfl, hR, hb⟩
  obtain ⟨rfl, rfl⟩ := hR.1 H.out
  have HB : Hid (Below w.heap.size w w1) := hb
  clear hR hb
  rw [HM.out]
  go_wp2_with fail
  refine (digits_any (m + 1) m (by omega) hm18 _).mono ?_
  rintro e w2 ⟨rfl, hb⟩
  replace HB := bel_next HB hb
  rw [HDS.out]
  clear hb
  go_wp2
  go_ret2
  exact ⟨by simp, HB.out⟩
def N3P (w : World) (e : Ending) (w' : World) : Prop := ∃ n : Int, e = .returned (.tuple #[.int .i64 n, .bool false]) ∧ Below w.heap.size w w'
set_option maxHeartbeats 1000000 in
theorem l03num_no (s : ByteArray) (w : World) (hs : s.size ≤ 1048576) (h : ¬ (Num (bl s) ∧ (bl s).length ≤ 18)) :
    Calls Try.prog 32 #[.string s] w fun e w' => N3P w e w' := by
  have H : Hid (¬ (Num (bl s) ∧ (bl s).length ≤ 18)) := h
  clear h
  go_enter Try.func32, Try.ntmps32
  go_wp2_with fail
  refine (l00num_any s _ hs).mono ?_
  rintro e w1 ⟨n, ok, rfl, hR, hb⟩
  have HB : Hid (Below w.heap.size w w1) := hb
  have HR : Hid (ok = true → n < 0) := hR.2 H.out
  clear hR hb
  cases ok
  · go_wp2
    go_ret2
    exact ⟨n, rfl, HB.out⟩
  · have hn : ¬ 0 ≤ n := by have := HR.out rfl; omega
    go_wp2
    go_ret2
    exact ⟨n, rfl, HB.out⟩
set_option maxHeartbeats 400000 in
theorem l01in_yes (n a b : Int) (w : World) (h1 : a ≤ n) (h2 : n ≤ b) :
    Calls Try.prog 31 #[.int .i64 n, .int .i64 a, .int .i64 b] w fun e w' => e = .returned (.bool true) ∧ w' = w := by
  go_enter Try.func31, Try.ntmps31
  go_wp2
  go_ret
  exact ⟨rfl, rfl⟩
set_option maxHeartbeats 400000 in
theorem l01in_no (n a b : Int) (w : World) (h : n < a ∨ (a ≤ n ∧ b < n)) :
    Calls Try.prog 31 #[.int .i64 n, .int .i64 a, .int .i64 b] w fun e w' => e = .returned (.bool false) ∧ w' = w := by
  rcases h with h | ⟨h1, h⟩
  · have h1 : ¬ a ≤ n := by omega
    go_enter Try.func31, Try.ntmps31
    go_wp2
    go_ret
    exact ⟨rfl, rfl⟩
  · have h2 : ¬ n ≤ b := by omega
    go_enter Try.func31, Try.ntmps31
    go_wp2
    go_ret
    exact ⟨rfl, rfl⟩
/-- What l03ToDot tells. -/
def tdR : List UInt8 → Prop
  | [] => False
  | c :: r => (97 ≤ c.toNat ∧ c.toNat ≤ 99) ∧ (Num r ∧ r.length ≤ 18) ∧ dotB ((c.toNat : Int) - 97) (nv r) = true
def tdV : List UInt8 → Int × Int
  | [] => (0, 0)
  | c :: r => ((c.toNat : Int) - 97, nv r)
set_option maxHeartbeats 4000000 in
theorem toDot_yes (s : ByteArray) (w : World) (hs : s.size ≤ 1048576) (h : tdR (bl s)) :
    Calls Try.prog 19 #[.string s] w fun e w' => e = .returned (.tuple #[.agg #[.int .i64 (tdV (bl s)).1, .int .i64 (tdV (bl s)).2], .bool true]) ∧ Below w.heap.size w w' := by
  have hs0 : 0 < s.size := by
    rcases Nat.eq_zero_or_pos s.size with e | e
    · rw [bl_nil e] at h; exact h.elim
    · exact e
  have e0 := bl_cons hs0
  rw [e0] at h
  obtain ⟨⟨c1, c2⟩, hN, hD⟩ := h
  have HV1 : Hid ((tdV (bl s)).1 = ((s[0]'hs0).toNat : Int) - 97) := by show _ = _; rw [e0]; rfl
  have HV2 : Hid ((tdV (bl s)).2 = nv ((bl s).drop 1)) := by show _ = _; rw [e0]; rfl
  rw [HV1.out, HV2.out]
  rw [← sl_bl s 1 hs0] at hN hD ⊢
  obtain ⟨c, hc⟩ : ∃ c : Nat, c = (s[0]'hs0).toNat := ⟨_, rfl⟩
  have hgi : ∀ h : 0 < s.size, ((s[0]'h).toNat : Int) = (c : Int) := fun h => by rw [hc]
  rw [← hc] at c1 c2 hD ⊢
  clear hc HV1 HV2 e0
  have hE := empty_no s hs0
  have hs0' : (0 : Int) < (s.size : Int) := by omega
  have hs1' : (1 : Int) ≤ (s.size : Int) := by omega
  have c1' : (97 : Int) ≤ (c : Int) := by omega
  have c2' : (c : Int) ≤ 99 := by omega
  obtain ⟨v, hv⟩ : ∃ v, v = nv (bl (s.extract 1 s.size)) := ⟨_, rfl⟩
  have Q := l03num_yes (s.extract 1 s.size)
  rw [← hv] at hD Q ⊢
  have HQ : Hid (∀ W : World, Calls Try.prog 32 #[.string (s.extract 1 s.size)] W fun e w' => e = .returned (.tuple #[.int .i64 v, .bool true]) ∧ Below W.heap.size W w') := fun W => Q W (by rw [sl_size s 1 hs0]; omega) hN
  clear Q hv hN
  have HDD : Hid (dotB ((c : Int) - 97) v = true) := hD
  clear hD
  go_enter Try.func19, Try.ntmps19
  go_wp2_with fail
  refine (l01in_yes _ _ _ _ c1' c2').mono ?_
  rintro e w1 ⟨rfl, rfl⟩
  go_wp2_with fail
  refine (HQ.out _).mono ?_
  rintro e w1 ⟨rfl, hb⟩
  have HB : Hid (Below w.heap.size w w1) := (bel_alloc _ _).trans (hb.mono (by simp))
  have r0 := cell_next hb (b := w.heap.size) (o := 0) (v := .int .i64 0) (by go_simp) (by simp)
  have r1 := cell_next hb (b := w.heap.size) (o := 1) (v := .int .i64 0) (by go_simp) (by simp)
  have q0 := frozen_next hb (b := w.heap.size) (o := 0) (by go_simp) (by simp)
  have q1 := frozen_next hb (b := w.heap.size) (o := 1) (by go_simp) (by simp)
  have hz : w.heap.size < w1.heap.size := by have := hb.size; simp at this; omega
  clear hb
  go_wp2_with fail
  refine (spec_dot _ _ _).mono ?_
  rintro e w2 ⟨rfl, hb⟩
  rw [HDD.out]
  have d0 := cell_next hb (b := w1.heap.size) (o := 0) (v := .int .i64 ((c : Int) - 97)) (by go_simp) (by simp)
  have d1 := cell_next hb (b := w1.heap.size) (o := 1) (v := .int .i64 v) (by go_simp) (by simp)
  replace HB := bel_next (bel_next HB (bel_alloc _ _)) hb
  replace r0 := cell_next hb (box_a r0 hz) (by simp; omega)
  replace r1 := cell_next hb (box_a r1 hz) (by simp; omega)
  replace q0 := frozen_next hb (froz_a q0 hz) (by simp; omega)
  replace q1 := frozen_next hb (froz_a q1 hz) (by simp; omega)
  clear hb
  go_wp2
  refine bodyPost_ret (v := .tuple #[.agg #[.int .i64 ((c : Int) - 97), .int .i64 v], .bool true]) (by simp [results, Try.results19, go_sem, r0, r1, q0, q1]) rfl ⟨rfl, ?_⟩
  exact (HB.out.setCell (by simp) _).setCell (by simp) _
set_option maxHeartbeats 4000000 in
theorem toDot_no (s : ByteArray) (w : World) (hs : s.size ≤ 1048576) (h : ¬ tdR (bl s)) :
    Calls Try.prog 19 #[.string s] w fun e w' => e = .returned (.tuple #[.agg #[.int .i64 0, .int .i64 0], .bool false]) ∧ Below w.heap.size w w' := by
  by_cases hs0 : 0 < s.size
  · have e0 := bl_cons hs0
    rw [e0] at h
    have H : Hid (¬ tdR (s[0] :: (bl s).drop 1)) := h
    clear h
    rw [← sl_bl s 1 hs0] at H
    obtain ⟨c, hc⟩ : ∃ c : Nat, c = (s[0]'hs0).toNat := ⟨_, rfl⟩
    have hgi : ∀ h : 0 < s.size, ((s[0]'h).toNat : Int) = (c : Int) := fun h => by rw [hc]
    have H2 : Hid (¬ ((97 ≤ c ∧ c ≤ 99) ∧ (Num (bl (s.extract 1 s.size)) ∧ (bl (s.extract 1 s.size)).length ≤ 18) ∧ dotB ((c : Int) - 97) (nv (bl (s.extract 1 s.size))) = true)) := by rw [hc]; exact H.out
    have hc256 : c < 256 := by rw [hc]; exact (s[0]'hs0).toNat_lt
    clear hc e0 H
    have hE := empty_no s hs0
    have hs0' : (0 : Int) < (s.size : Int) := by omega
    have hs1' : (1 : Int) ≤ (s.size : Int) := by omega
    by_cases hcc : 97 ≤ c ∧ c ≤ 99
    · obtain ⟨c1, c2⟩ := hcc
      have c1' : (97 : Int) ≤ (c : Int) := by omega
      have c2' : (c : Int) ≤ 99 := by omega
      have hsz : (s.extract 1 s.size).size ≤ 1048576 := by rw [sl_size s 1 hs0]; omega
      by_cases hN : Num (bl (s.extract 1 s.size)) ∧ (bl (s.extract 1 s.size)).length ≤ 18
      · obtain ⟨v, hv⟩ : ∃ v, v = nv (bl (s.extract 1 s.size)) := ⟨_, rfl⟩
        have Q := l03num_yes (s.extract 1 s.size)
        have HDD : Hid (dotB ((c : Int) - 97) v = false) := by
          rw [← Bool.not_eq_true]
          intro h'
          rw [hv] at h'
          exact H2.out ⟨⟨c1, c2⟩, hN, h'⟩
        rw [← hv] at Q
        have HQ : Hid (∀ W : World, Calls Try.prog 32 #[.string (s.extract 1 s.size)] W fun e w' => e = .returned (.tuple #[.int .i64 v, .bool true]) ∧ Below W.heap.size W w') := fun W => Q W hsz hN
        clear Q hv hN H2
        go_enter Try.func19, Try.ntmps19
        go_wp2_with fail
        refine (l01in_yes _ _ _ _ c1' c2').mono ?_
        rintro e w1 ⟨rfl, rfl⟩
        go_wp2_with fail
        refine (HQ.out _).mono ?_
        rintro e w1 ⟨rfl, hb⟩
        have HB : Hid (Below w.heap.size w w1) := (bel_alloc _ _).trans (hb.mono (by simp))
        have r0 := cell_next hb (b := w.heap.size) (o := 0) (v := .int .i64 0) (by go_simp) (by simp)
        have r1 := cell_next hb (b := w.heap.size) (o := 1) (v := .int .i64 0) (by go_simp) (by simp)
        have q0 := frozen_next hb (b := w.heap.size) (o := 0) (by go_simp) (by simp)
        have q1 := frozen_next hb (b := w.heap.size) (o := 1) (by go_simp) (by simp)
        have hz : w.heap.size < w1.heap.size := by have := hb.size; simp at this; omega
        clear hb
        go_wp2_with fail
        refine (spec_dot _ _ _).mono ?_
        rintro e w2 ⟨rfl, hb⟩
        rw [HDD.out]
        replace HB := bel_next (bel_next HB (bel_alloc _ _)) hb
        replace r0 := cell_next hb (box_a r0 hz) (by simp; omega)
        replace r1 := cell_next hb (box_a r1 hz) (by simp; omega)
        replace q0 := frozen_next hb (froz_a q0 hz) (by simp; omega)
        replace q1 := frozen_next hb (froz_a q1 hz) (by simp; omega)
        clear hb
        go_wp2
        refine bodyPost_ret (v := .tuple #[.agg #[.int .i64 0, .int .i64 0], .bool false]) (by simp [results, Try.results19, go_sem, r0, r1, q0, q1]) rfl ⟨rfl, ?_⟩
        exact (HB.out.setCell (by simp) _).setCell (by simp) _
      · have HQ : Hid (∀ W : World, Calls Try.prog 32 #[.string (s.extract 1 s.size)] W fun e w' => N3P W e w') := fun W => l03num_no (s.extract 1 s.size) W hsz hN
        clear hN H2
        go_enter Try.func19, Try.ntmps19
        go_wp2_with fail
        refine (l01in_yes _ _ _ _ c1' c2').mono ?_
        rintro e w1 ⟨rfl, rfl⟩
        go_wp2_with fail
        refine (HQ.out _).mono ?_
        rintro e w1 ⟨v, rfl, hb⟩
        have HB : Hid (Below w.heap.size w w1) := (bel_alloc _ _).trans (hb.mono (by simp))
        have r0 := cell_next hb (b := w.heap.size) (o := 0) (v := .int .i64 0) (by go_simp) (by simp)
        have r1 := cell_next hb (b := w.heap.size) (o := 1) (v := .int .i64 0) (by go_simp) (by simp)
        have q0 := frozen_next hb (b := w.heap.size) (o := 0) (by go_simp) (by simp)
        have q1 := frozen_next hb (b := w.heap.size) (o := 1) (by go_simp) (by simp)
        have hz : w.heap.size < w1.heap.size := by have := hb.size; simp at this; omega
        clear hb
        go_wp2
        refine bodyPost_ret (v := .tuple #[.agg #[.int .i64 0, .int .i64 0], .bool false]) (by simp [results, Try.results19, go_sem, r0, r1, q0, q1, hz]) rfl ⟨rfl, ?_⟩
        exact ((HB.out.setCell (by simp) _).setCell (by simp) _).alloc (by simpa [World.setCell] using Nat.le_of_lt hz) _
    · have hcn : (c : Int) < 97 ∨ ((97 : Int) ≤ (c : Int) ∧ 99 < (c : Int)) := by omega
      clear hcc H2
      go_enter Try.func19, Try.ntmps19
      go_wp2_with fail
      refine (l01in_no _ _ _ _ hcn).mono ?_
      rintro e w1 ⟨rfl, rfl⟩
      go_wp2
      refine bodyPost_ret (v := .tuple #[.agg #[.int .i64 0, .int .i64 0], .bool false]) (by simp [results, Try.results19, go_sem]) rfl ⟨rfl, ?_⟩
      repeat (first | exact Below.refl _ _ | refine Below.drew ?_ | refine below_drewN ?_ _ | refine Below.alloc ?_ (by first | (simp; done) | (simp; omega)) _ | refine Below.setCell ?_ (by first | (simp; done) | (simp; omega)) _)
  · have hE := empty_yes s (by omega)
    go_enter Try.func19, Try.ntmps19
    go_wp2
    refine bodyPost_ret (v := .tuple #[.agg #[.int .i64 0, .int .i64 0], .bool false]) (by simp [results, Try.results19, go_sem]) rfl ⟨rfl, ?_⟩
    repeat (first | exact Below.refl _ _ | refine Below.drew ?_ | refine below_drewN ?_ _ | refine Below.alloc ?_ (by first | (simp; done) | (simp; omega)) _ | refine Below.setCell ?_ (by first | (simp; done) | (simp; omega)) _)
/-- What ReadDot answers. -/
def RdA (s : ByteArray) (p n code : Int) : Prop := (65536 < s.size → p = 0 ∧ n = 0 ∧ code = 2) ∧ (¬ 65536 < s.size → tdR (bl s) → p = (tdV (bl s)).1 ∧ n = (tdV (bl s)).2 ∧ code = 0) ∧ (¬ 65536 < s.size → ¬ tdR (bl s) → p = 0 ∧ n = 0 ∧ code = 3)
theorem rda_of (s : ByteArray) : ∃ p n code, Hid (RdA s p n code) := by
  by_cases h : 65536 < s.size
  · exact ⟨0, 0, 2, fun _ => ⟨rfl, rfl, rfl⟩, fun h' => (h' h).elim, fun h' => (h' h).elim⟩
  · by_cases h1 : tdR (bl s)
    · exact ⟨_, _, 0, fun h' => (h h').elim, fun _ _ => ⟨rfl, rfl, rfl⟩, fun _ h' => (h' h1).elim⟩
    · exact ⟨0, 0, 3, fun h' => (h h').elim, fun _ h' => (h1 h').elim, fun _ _ => ⟨rfl, rfl, rfl⟩⟩
set_option maxHeartbeats 1000000 in
theorem specRead_any (s : ByteArray) (p n code : Int) (hA : Hid (RdA s p n code)) (w : World) (hs : s.size ≤ 1048576) :
    Calls Try.prog 7 #[.string s] w fun e w' => e = .returned (.tuple #[.agg #[.int .i64 p, .int .i64 n], .int .i64 code]) ∧ Below w.heap.size w w' := by
  by_cases hb : 65536 < s.size
  · obtain ⟨rfl, rfl, rfl⟩ := hA.out.1 hb
    have hb' : (65536 : Int) < (s.size : Int) := by omega
    go_enter Try.func7, Try.ntmps7
    go_wp2
    refine bodyPost_ret (v := .tuple #[.agg #[.int .i64 0, .int .i64 0], .int .i64 2]) (by simp [results, Try.results7, go_sem]) rfl ⟨rfl, ?_⟩
    repeat (first | exact Below.refl _ _ | refine Below.drew ?_ | refine below_drewN ?_ _ | refine Below.alloc ?_ (by first | (simp; done) | (simp; omega)) _ | refine Below.setCell ?_ (by first | (simp; done) | (simp; omega)) _)
  have hb' : ¬ (65536 : Int) < (s.size : Int) := by omega
  by_cases ht : tdR (bl s)
  · obtain ⟨rfl, rfl, rfl⟩ := hA.out.2.1 hb ht
    obtain ⟨p, hp⟩ : ∃ p, p = (tdV (bl s)).1 := ⟨_, rfl⟩
    obtain ⟨n, hn⟩ : ∃ n, n = (tdV (bl s)).2 := ⟨_, rfl⟩
    have Q := fun W => toDot_yes s W hs ht
    rw [← hp, ← hn] at Q ⊢
    have HQ : Hid (∀ W : World, _) := Q
    clear Q hp hn hA ht hb
    go_enter Try.func7, Try.ntmps7
    go_wp2_with fail
    refine (HQ.out _).mono ?_
    rintro e w1 ⟨rfl, hb⟩
    have HB : Hid (Below w.heap.size w w1) := (bel_alloc _ _).trans (hb.mono (by simp))
    have r0 := cell_next hb (b := w.heap.size) (o := 0) (v := .int .i64 0) (by go_simp) (by simp)
    have r1 := cell_next hb (b := w.heap.size) (o := 1) (v := .int .i64 0) (by go_simp) (by simp)
    have q0 := frozen_next hb (b := w.heap.size) (o := 0) (by go_simp) (by simp)
    have q1 := frozen_next hb (b := w.heap.size) (o := 1) (by go_simp) (by simp)
    have hz : w.heap.size < w1.heap.size := by have := hb.size; simp at this; omega
    clear hb
    go_wp2
    refine bodyPost_ret (v := .tuple #[.agg #[.int .i64 p, .int .i64 n], .int .i64 0]) (by simp [results, Try.results7, go_sem, r0, r1, q0, q1, hz]) rfl ⟨rfl, ?_⟩
    exact ((HB.out.setCell (by simp) _).setCell (by simp) _).alloc (by simpa [World.setCell] using Nat.le_of_lt hz) _
  · obtain ⟨rfl, rfl, rfl⟩ := hA.out.2.2 hb ht
    have HQ : Hid (∀ W : World, _) := fun W => toDot_no s W hs ht
    clear hA ht hb
    go_enter Try.func7, Try.ntmps7
    go_wp2_with fail
    refine (HQ.out _).mono ?_
    rintro e w1 ⟨rfl, hb⟩
    have HB : Hid (Below w.heap.size w w1) := (bel_alloc _ _).trans (hb.mono (by simp))
    have r0 := cell_next hb (b := w.heap.size) (o := 0) (v := .int .i64 0) (by go_simp) (by simp)
    have r1 := cell_next hb (b := w.heap.size) (o := 1) (v := .int .i64 0) (by go_simp) (by simp)
    have q0 := frozen_next hb (b := w.heap.size) (o := 0) (by go_simp) (by simp)
    have q1 := frozen_next hb (b := w.heap.size) (o := 1) (by go_simp) (by simp)
    have hz : w.heap.size < w1.heap.size := by have := hb.size; simp at this; omega
    clear hb
    go_wp2
    refine bodyPost_ret (v := .tuple #[.agg #[.int .i64 0, .int .i64 0], .int .i64 3]) (by simp [results, Try.results7, go_sem, r0, r1, q0, q1, hz]) rfl ⟨rfl, ?_⟩
    exact ((HB.out.setCell (by simp) _).setCell (by simp) _).alloc (by simpa [World.setCell] using Nat.le_of_lt hz) _
end Go.Proofs.Ytfglhjnfhdalnaa
