/- ReadDot, of the specification. -/
import Derived.Test.YtdepclilngaacaaDoorRows
import Derived.WalkKit
import Derived.WalkSpells
import Derived.WalkLawsBesides
import Derived.Deep.QuietTactic
import Derived.BigQuiet
import Derived.Deep.RegionHeld3
import Derived.Test.YtdepclilngaacaaDoorSq
import Derived.LoopN
namespace Go.Proofs.YtdepclilngaacaaDoor
open Go.RowKit
set_option linter.unusedSimpArgs false
set_option linter.unusedVariables false

theorem ba_bl (s : ByteArray) : (⟨(bl s).toArray⟩ : ByteArray) = s := by
  apply ByteArray.ext
  simp [bl]
theorem box_a {W : World} {b o : Nat} {v : Value} {ob : Obj} (h : W.cell? ⟨b, o, none⟩ = some v) (hb : b < W.heap.size) : (W.alloc ob).cell? ⟨b, o, none⟩ = some v := cell_next (bel_alloc _ _) h hb
theorem froz_a {W : World} {b o : Nat} {ob : Obj} (h : W.frozen? ⟨b, o, none⟩ = false) (hb : b < W.heap.size) : (W.alloc ob).frozen? ⟨b, o, none⟩ = false := frozen_next (bel_alloc _ _) h hb
set_option maxHeartbeats 1000000 in
theorem l03num_yes (s : ByteArray) (w : World) (hs : s.size ≤ 1048576) (h : Num (bl s) ∧ (bl s).length ≤ 18) :
    Calls Tryd.prog 15 #[.string s] w fun e w' => e = .returned (.tuple #[.int .i64 (nv (bl s)), .bool true]) ∧ Below w.heap.size w w' := by
  obtain ⟨m, hm⟩ : ∃ m : Nat, nv (bl s) = (m : Int) := ⟨(nv (bl s)).toNat, by have := nv_nonneg h.1.2.1; omega⟩
  have hds : (⟨(dsN m).toArray⟩ : ByteArray) = s := by
    have := dsN_num _ (bl s) rfl h.1
    rw [hm] at this
    have e : ((m : Int)).toNat = m := by omega
    rw [e] at this
    rw [this]
    exact ba_bl s
  have hm18 : m < 1000000000000000000 := by have := nv_small h.1.2.1 h.2; omega
  have H : Hid (Num (bl s) ∧ (bl s).length ≤ 18) := h
  have HM : Hid (nv (bl s) = (m : Int)) := hm
  have HDS : Hid ((⟨(dsN m).toArray⟩ : ByteArray) = s) := hds
  rw [hm]
  clear h hm hds
  have hm0 : (0 : Int) ≤ (m : Int) := by omega
  go_enter Tryd.func15, Tryd.ntmps15
  go_wp2_with fail
  refine (l00num_any s _ hs).mono ?_
  rintro e w1 ⟨n, ok, rfl, hR, hb⟩
  obtain ⟨rfl, rfl⟩ := hR.1 H.out
  have HB : Hid (Below w.heap.size w w1) := hb
  clear hR hb
  rw [HM.out]
  go_wp2_with fail
  refine (digits_any (m + 1) m (by omega) hm18 _).mono ?_
  rintro e w2 ⟨rfl, hb⟩
  replace HB := bel_next HB hb
  rw [HDS.out]
  clear hb
  go_wp2
  go_ret2
  exact ⟨by simp, HB.out⟩
def N3P (w : World) (e : Ending) (w' : World) : Prop := ∃ n : Int, e = .returned (.tuple #[.int .i64 n, .bool false]) ∧ Below w.heap.size w w'
set_option maxHeartbeats 1000000 in
theorem l03num_no (s : ByteArray) (w : World) (hs : s.size ≤ 1048576) (h : ¬ (Num (bl s) ∧ (bl s).length ≤ 18)) :
    Calls Tryd.prog 15 #[.string s] w fun e w' => N3P w e w' := by
  have H : Hid (¬ (Num (bl s) ∧ (bl s).length ≤ 18)) := h
  clear h
  go_enter Tryd.func15, Tryd.ntmps15
  go_wp2_with fail
  refine (l00num_any s _ hs).mono ?_
  rintro e w1 ⟨n, ok, rfl, hR, hb⟩
  have HB : Hid (Below w.heap.size w w1) := hb
  have HR : Hid (ok = true → n < 0) := hR.2 H.out
  clear hR hb
  cases ok
  · go_wp2
    go_ret2
    exact ⟨n, rfl, HB.out⟩
  · have hn : ¬ 0 ≤ n := by have := HR.out rfl; omega
    go_wp2
    go_ret2
    exact ⟨n, rfl, HB.out⟩
set_option maxHeartbeats 400000 in
theorem l01in_yes (n a b : Int) (w : World) (h1 : a ≤ n) (h2 : n ≤ b) :
    Calls Tryd.prog 16 #[.int .i64 n, .int .i64 a, .int .i64 b] w fun e w' => e = .returned (.bool true) ∧ w' = w := by
  go_enter Tryd.func16, Tryd.ntmps16
  go_wp2
  go_ret
  exact ⟨rfl, rfl⟩
set_option maxHeartbeats 400000 in
theorem l01in_no (n a b : Int) (w : World) (h : n < a ∨ (a ≤ n ∧ b < n)) :
    Calls Tryd.prog 16 #[.int .i64 n, .int .i64 a, .int .i64 b] w fun e w' => e = .returned (.bool false) ∧ w' = w := by
  rcases h with h | ⟨h1, h⟩
  · have h1 : ¬ a ≤ n := by omega
    go_enter Tryd.func16, Tryd.ntmps16
    go_wp2
    go_ret
    exact ⟨rfl, rfl⟩
  · have h2 : ¬ n ≤ b := by omega
    go_enter Tryd.func16, Tryd.ntmps16
    go_wp2
    go_ret
    exact ⟨rfl, rfl⟩
end Go.Proofs.YtdepclilngaacaaDoor
