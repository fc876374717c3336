/- ObjText of both sides, and its law. -/
import Derived.Test.YtgnacdhceiapkaaDoorRows
import Derived.WalkKit
import Derived.WalkSpells
import Derived.WalkLawsBesides
import Derived.Deep.QuietTactic
import Derived.BigQuiet
import Derived.Deep.RegionHeld3
import Derived.Test.YtgnacdhceiapkaaDoorOi
import Derived.Test.YtgnacdhceiapkaaDoorSp
import Derived.Test.YtgnacdhceiapkaaDoorSc
import Derived.Test.YtgnacdhceiapkaaDoorLk
import Derived.LoopN
namespace Go.Proofs.YtgnacdhceiapkaaDoor
open Go.RowKit
set_option linter.unusedSimpArgs false
set_option linter.unusedVariables false

def vvT (a b c : Int) : List UInt8 := vj (dsN a.toNat) (dsN b.toNat) (dsN c.toNat)
theorem vvT_len {a b c : Int} (h : vvB a b c = true) : (vvT a b c).length ≤ 100000 := by
  have h0 := of_decide_eq_true h
  have h1 := dsN_len a.toNat
  have h2 := dsN_len b.toNat
  have h3 := dsN_len c.toNat
  unfold vvT vj
  simp
  omega
theorem dg_int {a : Int} (h0 : 0 ≤ a) (h1 : a ≤ 9999) (W : World) : Calls Tryd.prog 56 #[.int .i64 a] W fun e w' => e = .returned (.string ⟨(dsN a.toNat).toArray⟩) ∧ Below W.heap.size W w' := by
  have h := digits_any (a.toNat + 1) a.toNat (by omega) (by omega) W
  rw [Int.toNat_of_nonneg h0] at h
  exact h
theorem it_int {a : Int} (h0 : 0 ≤ a) (h1 : a ≤ 9999) (W : World) (ht : TB W) : Calls Tryd.prog 41 #[.int .i64 a] W fun e w' => e = .returned (.string ⟨(dsN a.toNat).toArray⟩) ∧ Below W.heap.size W w' := by
  have h := itoa_any a.toNat (by omega) W ht
  rw [Int.toNat_of_nonneg h0] at h
  exact h
theorem ds_len {a : Int} (h1 : a ≤ 9999) : (dsN a.toNat).length ≤ 20000 := by have := dsN_len a.toNat; omega
theorem vvS {a b c : Int} (h : vvB a b c = true) (W : World) : Calls Tryd.prog 54 #[.agg #[.int .i64 a, .int .i64 b, .int .i64 c]] W fun e w' => e = .returned (.string ⟨(vvT a b c).toArray⟩) ∧ Below W.heap.size W w' := by
  have h0 := of_decide_eq_true h
  exact spec_vtext a b c _ _ _ W (dg_int h0.1.1 h0.1.2) (dg_int h0.2.1.1 h0.2.1.2) (dg_int h0.2.2.1 h0.2.2.2) (ds_len h0.1.2) (ds_len h0.2.1.2) (ds_len h0.2.2.2)
theorem vvI {a b c : Int} (h : vvB a b c = true) (W : World) (ht : TB W) : Calls Tryd.prog 24 #[.agg #[.int .i64 a, .int .i64 b, .int .i64 c]] W fun e w' => e = .returned (.string ⟨(vvT a b c).toArray⟩) ∧ Below W.heap.size W w' := by
  have h0 := of_decide_eq_true h
  exact impl_vtext a b c _ _ _ W ht (it_int h0.1.1 h0.1.2) (it_int h0.2.1.1 h0.2.1.2) (it_int h0.2.2.1 h0.2.2.2) (by show _ ≤ _; have := vvT_len h; unfold vvT at this; omega)
/-- What ObjText answers. -/
structure TRel (l : List Sib) (a b c : Int) (t : ByteArray) (code : Int) : Prop where
  ok : OkP l a b c → t = ⟨(objT (vvT a b c) l).toArray⟩ ∧ code = 0
  bad : ¬ OkP l a b c → t = ⟨#[]⟩ ∧ code = 1
theorem trel (l : List Sib) (a b c : Int) : ∃ t code, TRel l a b c t code := by
  by_cases h : OkP l a b c
  · exact ⟨_, _, ⟨fun _ => ⟨rfl, rfl⟩, fun h' => (h' h).elim⟩⟩
  · exact ⟨_, _, ⟨fun h' => (h h').elim, fun _ => ⟨rfl, rfl⟩⟩⟩
theorem ok_sibs {l : List Sib} {a b c : Int} (h : OkP l a b c) : ∀ s ∈ l, sibOK s.p s.n s.v s.d = true := fun s hs => by
  obtain ⟨i, hi, rfl⟩ := List.getElem_of_mem hs
  exact (h.2.2 i hi).1
set_option maxHeartbeats 2000000 in
theorem specText_any (cap : Nat) (ao : Option Addr) (l : List Sib) (a b c : Int) (t : ByteArray) (code : Int) (hT : Hid (TRel l a b c t code)) (w : World) (hm : (l.length : Int) ≤ 1048576) (hr0 : SibRow w ao l) :
    Calls Tryd.prog 13 #[.agg #[.slice ao l.length cap, .int .i64 a, .int .i64 b, .int .i64 c]] w fun e w' => e = .returned (.tuple #[.string t, .int .i64 code]) ∧ Below w.heap.size w w' := by
  have RA : Hid (SibRow w ao l) := hr0
  have B0 : Hid (Below w.heap.size w (w.alloc (.cells #[.slice ao l.length cap, .int .i64 a, .int .i64 b, .int .i64 c] 31))) := bel_alloc _ _
  clear hr0
  by_cases hO : OkP l a b c
  · obtain ⟨rfl, rfl⟩ := hT.out.ok hO
    have HO : Hid (OkP l a b c) := hO
    have COK : Hid (∀ W, SibRow W ao l → Calls Tryd.prog 32 #[.agg #[.slice ao l.length cap, .int .i64 a, .int .i64 b, .int .i64 c]] W fun e w' => e = .returned (.bool true) ∧ Below W.heap.size W w') := fun W h => specOK_any cap ao l a b c true ⟨fun _ => hO, fun _ => rfl⟩ W hm h
    clear hO hT hm
    go_enter Tryd.func13, Tryd.ntmps13
    go_wp2_with fail
    refine Calls.mono (COK.out _ (RA.out.next B0.out)) ?_
    rintro e w1 ⟨rfl, hb⟩
    have c0 := cell_next hb (b := w.heap.size) (o := 0) (v := .slice ao l.length cap) (by go_simp) (by simp)
    have c1 := cell_next hb (b := w.heap.size) (o := 1) (v := .int .i64 a) (by go_simp) (by simp)
    have c2 := cell_next hb (b := w.heap.size) (o := 2) (v := .int .i64 b) (by go_simp) (by simp)
    have c3 := cell_next hb (b := w.heap.size) (o := 3) (v := .int .i64 c) (by go_simp) (by simp)
    replace B0 := bel_next B0 hb
    clear hb
    go_wp2_with fail
    refine (l03obj_any cap ao l a b c (vvT a b c) _ (vvT_len HO.out.2.1) HO.out.1 (ok_sibs HO.out) (RA.out.next B0.out) (vvS HO.out.2.1)).mono ?_
    rintro e w2 ⟨rfl, hb⟩
    replace B0 := bel_next B0 hb
    clear hb c0 c1 c2 c3
    go_wp2
    go_ret2
    exact ⟨rfl, B0.out⟩
  · obtain ⟨rfl, rfl⟩ := hT.out.bad hO
    have COK : Hid (∀ W, SibRow W ao l → Calls Tryd.prog 32 #[.agg #[.slice ao l.length cap, .int .i64 a, .int .i64 b, .int .i64 c]] W fun e w' => e = .returned (.bool false) ∧ Below W.heap.size W w') := fun W h => specOK_any cap ao l a b c false ⟨fun h' => (by cases h'), fun h' => (hO h').elim⟩ W hm h
    clear hO hT hm
    go_enter Tryd.func13, Tryd.ntmps13
    go_wp2_with fail
    refine Calls.mono (COK.out _ (RA.out.next B0.out)) ?_
    rintro e w1 ⟨rfl, hb⟩
    replace B0 := bel_next B0 hb
    clear hb
    go_wp2
    go_ret2
    exact ⟨rfl, B0.out⟩
set_option maxHeartbeats 2000000 in
theorem implText_any (cap : Nat) (ao : Option Addr) (l : List Sib) (a b c : Int) (t : ByteArray) (code : Int) (hT : Hid (TRel l a b c t code)) (w : World) (hm : (l.length : Int) ≤ 1048576) (hr0 : SibRow w ao l) (ht : TB w) :
    Calls Tryd.prog 11 #[.agg #[.slice ao l.length cap, .int .i64 a, .int .i64 b, .int .i64 c]] w fun e w' => e = .returned (.tuple #[.string t, .int .i64 code]) ∧ Below w.heap.size w w' := by
  by_cases hO : OkP l a b c
  · obtain ⟨rfl, rfl⟩ := hT.out.ok hO
    exact implText_ok cap ao l a b c (vvT a b c) w (vvT_len hO.2.1) hO hr0 ht (vvI hO.2.1)
  · obtain ⟨rfl, rfl⟩ := hT.out.bad hO
    have RA : Hid (SibRow w ao l) := hr0
    have B0 : Hid (Below w.heap.size w (w.alloc (.cells #[.slice ao l.length cap, .int .i64 a, .int .i64 b, .int .i64 c] 31))) := bel_alloc _ _
    have COK : Hid (∀ W, SibRow W ao l → Calls Tryd.prog 27 #[.agg #[.slice ao l.length cap, .int .i64 a, .int .i64 b, .int .i64 c]] W fun e w' => e = .returned (.bool false) ∧ Below W.heap.size W w') := fun W h => implOK_any cap ao l a b c false ⟨fun h' => (by cases h'), fun h' => (hO h').elim⟩ W hm h
    clear hO hT hm hr0 ht
    go_enter Tryd.func11, Tryd.ntmps11
    go_wp2_with fail
    refine Calls.mono (COK.out _ (RA.out.next B0.out)) ?_
    rintro e w1 ⟨rfl, hb⟩
    replace B0 := bel_next B0 hb
    clear hb
    go_wp2
    go_ret2
    exact ⟨rfl, B0.out⟩

end Go.Proofs.YtgnacdhceiapkaaDoor
