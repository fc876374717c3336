/- What an act looks like when the call begins, and the law of ActOK. -/
import Derived.Test.YtagmpoakakbeaaaAo
import Derived.LoopN
import Derived.Deep.Cut
import Derived.WalkKit
import Derived.ProofKit
import Derived.OpenShut
import Derived.Lib.SmallJoins
import Derived.Deep.Slices
import Derived.Deep.Strs
namespace Go.Proofs.Ytagmpoakakbeaaa
open Go.RowKit
set_option linter.unusedSimpArgs false
set_option linter.unusedVariables false
section
open Go.ChangeShapes Go.WideShapes Go.ChangeAt Go.Joins Go.Deep
set_option maxRecDepth 100000
theorem trod_struct7 {H : Type} {enc : TypeId × Value → H} {P : Program} {w : World} {base : Nat} {spare : Nat → Bool} {held : Bool} {t : TypeId} {f0 f1 f2 f3 f4 f5 f6 : Field} {fuel : Nat} {cs : List Value} {x : DataW H × List MemPlace} (ht : P.underlying t = some (.struct #[f0, f1, f2, f3, f4, f5, f6])) (h : DataW.trod enc P w base spare held fuel t cs = some x) :
    ∃ y0 y1 y2 y3 y4 y5 y6 n, cs.length = P.cellsOf t ∧ DataW.trod enc P w base spare held n f0.type ((cs.drop f0.offset).take (P.cellsOf f0.type)) = some y0 ∧ DataW.trod enc P w base spare held n f1.type ((cs.drop f1.offset).take (P.cellsOf f1.type)) = some y1 ∧ DataW.trod enc P w base spare held n f2.type ((cs.drop f2.offset).take (P.cellsOf f2.type)) = some y2 ∧ DataW.trod enc P w base spare held n f3.type ((cs.drop f3.offset).take (P.cellsOf f3.type)) = some y3 ∧ DataW.trod enc P w base spare held n f4.type ((cs.drop f4.offset).take (P.cellsOf f4.type)) = some y4 ∧ DataW.trod enc P w base spare held n f5.type ((cs.drop f5.offset).take (P.cellsOf f5.type)) = some y5 ∧ DataW.trod enc P w base spare held n f6.type ((cs.drop f6.offset).take (P.cellsOf f6.type)) = some y6 := by
  obtain ⟨xs, n, _, rfl, hl, hlen, hf⟩ := DataW.trod_struct ht h
  match xs, hlen with
  | [y0, y1, y2, y3, y4, y5, y6], _ => exact ⟨y0, y1, y2, y3, y4, y5, y6, n, hl, by simpa using hf 0 f0 rfl, by simpa using hf 1 f1 rfl, by simpa using hf 2 f2 rfl, by simpa using hf 3 f3 rfl, by simpa using hf 4 f4 rfl, by simpa using hf 5 f5 rfl, by simpa using hf 6 f6 rfl⟩
theorem act_of {H : Type} {enc : TypeId × Value → H} {P : Program} {w : World} {base : Nat} {spare : Nat → Bool} {held : Bool} {tE tI tS tB : TypeId} {f0 f1 f2 f3 f4 f5 f6 : Field} {n : Nat} {cs : List Value} {x : DataW H × List MemPlace}
    (hE : P.underlying tE = some (.struct #[f0, f1, f2, f3, f4, f5, f6])) (hI : P.underlying tI = some (.int .i64)) (hS : P.underlying tS = some .string) (hB : P.underlying tB = some .bool) (k0 : f0.type = tI ∧ f0.offset = 0) (k1 : f1.type = tI ∧ f1.offset = 1) (k2 : f2.type = tI ∧ f2.offset = 2) (k3 : f3.type = tS ∧ f3.offset = 3) (k4 : f4.type = tI ∧ f4.offset = 4) (k5 : f5.type = tI ∧ f5.offset = 5) (k6 : f6.type = tB ∧ f6.offset = 6) (cE : P.cellsOf tE = 7) (cI : P.cellsOf tI = 1) (cS : P.cellsOf tS = 1) (cB : P.cellsOf tB = 1)
    (h : DataW.trod enc P w base spare held n tE cs = some x) : ∃ (k n m : Int) (key : ByteArray) (v p : Int) (bl : Bool), cs = [.int .i64 k, .int .i64 n, .int .i64 m, .string key, .int .i64 v, .int .i64 p, .bool bl] ∧ key.size ≤ maxLen := by
  obtain ⟨y0, y1, y2, y3, y4, y5, y6, m, hl, h0, h1, h2, h3, h4, h5, h6⟩ := trod_struct7 hE h
  rw [cE] at hl
  rw [k0.1, k0.2, cI] at h0
  rw [k1.1, k1.2, cI] at h1
  rw [k2.1, k2.2, cI] at h2
  rw [k3.1, k3.2, cS] at h3
  rw [k4.1, k4.2, cI] at h4
  rw [k5.1, k5.2, cI] at h5
  rw [k6.1, k6.2, cB] at h6
  match cs, hl with
  | [c0, c1, c2, c3, c4, c5, c6], _ =>
    obtain ⟨a0, e0, _, _⟩ := DataW.trod_int hI h0
    obtain ⟨a1, e1, _, _⟩ := DataW.trod_int hI h1
    obtain ⟨a2, e2, _, _⟩ := DataW.trod_int hI h2
    obtain ⟨a4, e4, _, _⟩ := DataW.trod_int hI h4
    obtain ⟨a5, e5, _, _⟩ := DataW.trod_int hI h5
    obtain ⟨s, e3, _, hs⟩ := DataW.trod_string hS h3
    obtain ⟨d, e6, _⟩ := DataW.trod_bool hB h6
    simp at e0 e1 e2 e3 e4 e5 e6
    exact ⟨a0, a1, a2, s, a4, a5, d, by rw [e0, e1, e2, e3, e4, e5, e6], hs⟩
theorem array7 {α : Type} {cs : Array α} (h : cs.size = 7) : ∃ c0 c1 c2 c3 c4 c5 c6, cs = #[c0, c1, c2, c3, c4, c5, c6] := by
  obtain ⟨l⟩ := cs
  match l, h with
  | [c0, c1, c2, c3, c4, c5, c6], _ => exact ⟨c0, c1, c2, c3, c4, c5, c6, rfl⟩
/-- The seat's own types: the laws' act. -/
theorem open_act {H : Type} {enc : TypeId × Value → H} {w : World} {base : Nat} {spare : Nat → Bool} {held : Bool} {r : Reach} {b0 : Nat} {v : Value} {d : DataW H} {p : List MemPlace}
    (hv : Value.okWide Try.prog w r b0 41 v) (h : DataW.Trod enc Try.prog w base spare held 41 v d p) :
    ∃ (k n m : Int) (key : ByteArray) (v' p : Int) (bl : Bool), v = .agg #[.int .i64 k, .int .i64 n, .int .i64 m, .string key, .int .i64 v', .int .i64 p, .bool bl] ∧ key.size ≤ maxLen := by
  obtain ⟨cs, rfl, hsz⟩ := okWide_struct Try.underlying41 hv
  obtain ⟨c0, c1, c2, c3, c4, c5, c6, rfl⟩ := array7 (hsz.trans (by kernel_rfl))
  obtain ⟨fuel, hf⟩ := h
  obtain ⟨k, n, m, key, v', p, bl, e, hk⟩ := act_of Try.underlying41 Try.underlying3 Try.underlying9 Try.underlying4 ⟨rfl, rfl⟩ ⟨rfl, rfl⟩ ⟨rfl, rfl⟩ ⟨rfl, rfl⟩ ⟨rfl, rfl⟩ ⟨rfl, rfl⟩ ⟨rfl, rfl⟩ (by kernel_rfl) (by kernel_rfl) (by kernel_rfl) (by kernel_rfl) hf
  refine ⟨k, n, m, key, v', p, bl, ?_, hk⟩
  simp [Value.cells] at e
  simp [e]
end

set_option maxHeartbeats 2000000 in
theorem sz_ok (k n m v p : Int) (key : ByteArray) (bl : Bool) (hk : Hid (key.size ≤ 1048576)) (w : World) : Calls Try.prog 10 #[.agg #[.int .i64 k, .int .i64 n, .int .i64 m, .string key, .int .i64 v, .int .i64 p, .bool bl], .int .i64 1048576] w fun e w' => ∃ z : Int, e = .returned (.int .i64 z) ∧ ¬ z < 0 ∧ Below w.heap.size w w' := by
  have h1 : ¬ (1048576 - (key.size : Int)) < 0 := by have := hk.out; omega
  have h2 : IntKind.i64.wrap (1048576 - (key.size : Int)) = 1048576 - (key.size : Int) := by have := hk.out; rw [IntKind.wrap_i64]; omega
  have h3 : (key.size : Int) ≤ 1048576 := by have := hk.out; omega
  go_enter Try.func10, Try.ntmps10
  go_wp2
  go_ret
  exact ⟨_, rfl, h1, bel_alloc _ _⟩
set_option maxHeartbeats 2000000 in
theorem sz_big (k n m v p : Int) (key : ByteArray) (bl : Bool) (hk : Hid (1048576 < key.size ∧ key.size ≤ 9223372036854775807)) (w : World) : Calls Try.prog 10 #[.agg #[.int .i64 k, .int .i64 n, .int .i64 m, .string key, .int .i64 v, .int .i64 p, .bool bl], .int .i64 1048576] w fun e w' => e = .returned (.int .i64 (-1)) ∧ Below w.heap.size w w' := by
  have h1 : (1048576 - (key.size : Int)) < 0 := by have := hk.out; omega
  have h2 : IntKind.i64.wrap (1048576 - (key.size : Int)) = 1048576 - (key.size : Int) := by have := hk.out; rw [IntKind.wrap_i64]; omega
  have h3 : 1048576 < (key.size : Int) := by have := hk.out; omega
  go_enter Try.func10, Try.ntmps10
  go_wp2
  go_ret
  exact ⟨rfl, bel_alloc _ _⟩

set_option maxHeartbeats 4000000 in
theorem law_act (k n m v p : Int) (key : ByteArray) (bl : Bool) (w : World) (hm : (key.size : Int) ≤ 9223372036854775807) : Calls Try.prog 4 #[.agg #[.int .i64 k, .int .i64 n, .int .i64 m, .string key, .int .i64 v, .int .i64 p, .bool bl]] w fun e w' => e = .returned (.bool true) ∧ Below w.heap.size w w' := by
  have X : Hid (Box (w.alloc (.cells #[.int .i64 k, .int .i64 n, .int .i64 m, .string key, .int .i64 v, .int .i64 p, .bool bl] 41)) w.heap.size [.int .i64 k, .int .i64 n, .int .i64 m, .string key, .int .i64 v, .int .i64 p, .bool bl] ∧ Below w.heap.size w (w.alloc (.cells #[.int .i64 k, .int .i64 n, .int .i64 m, .string key, .int .i64 v, .int .i64 p, .bool bl] 41))) := ⟨box_mk, bel_alloc _ _⟩
  obtain ⟨r, hr0⟩ : ∃ r : Bool, r = true ↔ actP k n m v p key := by
    by_cases h : actP k n m v p key
    · exact ⟨true, fun _ => h, fun _ => rfl⟩
    · exact ⟨false, fun e => (by cases e), fun e => (h e).elim⟩
  have hr : Hid (r = true ↔ actP k n m v p key) := hr0
  clear hr0
  by_cases hk : 1048576 < key.size
  · have HB : Hid (1048576 < key.size ∧ key.size ≤ 9223372036854775807) := ⟨hk, by omega⟩
    clear hk hm
    go_enter Try.func4, Try.ntmps4
    go_upto_region 1 with fail
    generalize (w.alloc (.cells #[.int .i64 k, .int .i64 n, .int .i64 m, .string key, .int .i64 v, .int .i64 p, .bool bl] 41)) = W0 at *
    obtain ⟨c0, c1, c2, c3, c4, c5, c6⟩ := X.out.1.c7
    go_wp2_with fail
    refine Calls.mono (sz_big _ _ _ _ _ _ _ HB _) ?_
    rintro e W1 ⟨rfl, hb⟩
    clear c0 c1 c2 c3 c4 c5 c6
    go_wp2
    go_ret
    exact ⟨rfl, X.out.2.trans (hb.mono X.out.2.size)⟩
  have HS : Hid (key.size ≤ 1048576) := by show _ ≤ _; omega
  have HS2 : Hid (key.size < 1099511627776) := by show _ < _; omega
  clear hk hm
  go_enter Try.func4, Try.ntmps4
  go_upto_region 1 with fail
  generalize (w.alloc (.cells #[.int .i64 k, .int .i64 n, .int .i64 m, .string key, .int .i64 v, .int .i64 p, .bool bl] 41)) = W0 at *
  obtain ⟨c0, c1, c2, c3, c4, c5, c6⟩ := X.out.1.c7
  go_wp2_with fail
  refine Calls.mono (sz_ok _ _ _ _ _ _ _ HS _) ?_
  rintro e W1 ⟨z, rfl, hz, hb⟩
  replace X : Hid (Box W1 w.heap.size [.int .i64 k, .int .i64 n, .int .i64 m, .string key, .int .i64 v, .int .i64 p, .bool bl] ∧ Below w.heap.size w W1) := ⟨X.out.1.next hb, X.out.2.trans (hb.mono X.out.2.size)⟩
  clear hb c0 c1 c2 c3 c4 c5 c6
  obtain ⟨c0, c1, c2, c3, c4, c5, c6⟩ := X.out.1.c7
  go_wp2_with fail
  refine Calls.mono (toAct_any _ _ _ _ _ _ _ _) ?_
  rintro e W2 ⟨rfl, hb⟩
  replace X : Hid (Box W2 w.heap.size [.int .i64 k, .int .i64 n, .int .i64 m, .string key, .int .i64 v, .int .i64 p, .bool bl] ∧ Below w.heap.size w W2) := ⟨X.out.1.next hb, X.out.2.trans (hb.mono X.out.2.size)⟩
  clear hb c0 c1 c2 c3 c4 c5 c6
  obtain ⟨c0, c1, c2, c3, c4, c5, c6⟩ := X.out.1.c7
  go_wp2_with fail
  refine Calls.mono (specAct k n m v p key bl r hr HS2 _) ?_
  rintro e W3 ⟨rfl, hb⟩
  replace X : Hid (Box W3 w.heap.size [.int .i64 k, .int .i64 n, .int .i64 m, .string key, .int .i64 v, .int .i64 p, .bool bl] ∧ Below w.heap.size w W3) := ⟨X.out.1.next hb, X.out.2.trans (hb.mono X.out.2.size)⟩
  clear hb c0 c1 c2 c3 c4 c5 c6
  obtain ⟨c0, c1, c2, c3, c4, c5, c6⟩ := X.out.1.c7
  go_wp2_with fail
  refine Calls.mono (toAct_any _ _ _ _ _ _ _ _) ?_
  rintro e W4 ⟨rfl, hb⟩
  replace X : Hid (Box W4 w.heap.size [.int .i64 k, .int .i64 n, .int .i64 m, .string key, .int .i64 v, .int .i64 p, .bool bl] ∧ Below w.heap.size w W4) := ⟨X.out.1.next hb, X.out.2.trans (hb.mono X.out.2.size)⟩
  clear hb c0 c1 c2 c3 c4 c5 c6
  obtain ⟨c0, c1, c2, c3, c4, c5, c6⟩ := X.out.1.c7
  go_wp2_with fail
  refine Calls.mono (implAct k n m v p key bl r hr HS2 _) ?_
  rintro e W5 ⟨rfl, hb⟩
  replace X : Hid (Box W5 w.heap.size [.int .i64 k, .int .i64 n, .int .i64 m, .string key, .int .i64 v, .int .i64 p, .bool bl] ∧ Below w.heap.size w W5) := ⟨X.out.1.next hb, X.out.2.trans (hb.mono X.out.2.size)⟩
  clear hb c0 c1 c2 c3 c4 c5 c6
  obtain ⟨c0, c1, c2, c3, c4, c5, c6⟩ := X.out.1.c7
  clear c0 c1 c2 c3 c4 c5 c6 hr
  cases r
  all_goals
    go_wp2
    go_ret
    exact ⟨rfl, X.out.2⟩
end Go.Proofs.Ytagmpoakakbeaaa
