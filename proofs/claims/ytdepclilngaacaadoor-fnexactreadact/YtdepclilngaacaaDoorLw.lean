/- The law: both sides read an act alike. -/
import Derived.Test.YtdepclilngaacaaDoorRows
import Derived.WalkKit
import Derived.WalkSpells
import Derived.WalkLawsBesides
import Derived.Deep.QuietTactic
import Derived.BigQuiet
import Derived.Deep.RegionHeld3
import Derived.Test.YtdepclilngaacaaDoorSl
import Derived.Test.YtdepclilngaacaaDoorIm
import Derived.LoopN
namespace Go.Proofs.YtdepclilngaacaaDoor
open Go.RowKit
set_option linter.unusedSimpArgs false
set_option linter.unusedVariables false

set_option maxHeartbeats 2000000 in
theorem eqAct_same (a : Av) (w : World) : Calls Tryd.prog 6 #[a.val, a.val] w fun e w' => e = .returned (.bool true) ∧ Below w.heap.size w w' := by
  obtain ⟨k, n, m, key, v, p, bl⟩ := a
  have h1 : ∀ x : Int, (x != x) = false := fun x => by simp
  have h2 : (key.toList != key.toList) = false := by simp
  have h2' : (!key.toList == key.toList) = false := by simp
  have h3 : (bl != bl) = false := by simp
  unfold Av.val
  go_enter Tryd.func6, Tryd.ntmps6
  go_wp2
  go_ret
  refine ⟨rfl, ?_⟩
  repeat (first | exact Below.refl _ _ | refine Below.drew ?_ | refine below_drewN ?_ _ | refine Below.alloc ?_ (by first | (simp; done) | (simp; omega)) _ | refine Below.setCell ?_ (by first | (simp; done) | (simp; omega)) _)
set_option maxHeartbeats 4000000 in
theorem specRead (s : ByteArray) (w : World) : Calls Tryd.prog 4 #[.string s] w (RaQ s w) := by
  by_cases hbig : 65536 < s.size
  · have hbig' : 65536 < (s.size : Int) := by omega
    have HR : Hid (RaP s zeroA 2) := .inl ⟨hbig, rfl, rfl⟩
    clear hbig
    go_enter Tryd.func4, Tryd.ntmps4
    go_wp2
    refine bodyPost_ret (v := .tuple #[.agg #[.int .i64 0, .int .i64 0, .int .i64 0, .string ⟨#[]⟩, .int .i64 0, .int .i64 0, .bool false], .int .i64 2]) (by simp [results, Tryd.results4, go_sem]) rfl ⟨zeroA, 2, rfl, HR.out, ?_⟩
    repeat (first | exact Below.refl _ _ | refine Below.drew ?_ | refine below_drewN ?_ _ | refine Below.alloc ?_ (by first | (simp; done) | (simp; omega)) _ | refine Below.setCell ?_ (by first | (simp; done) | (simp; omega)) _)
  have hbig' : ¬ 65536 < (s.size : Int) := by omega
  have hsz : s.size ≤ 65536 := by omega
  have R0 : Hid (Box (w.alloc (.cells #[.int .i64 0, .int .i64 0, .int .i64 0, .string ⟨#[]⟩, .int .i64 0, .int .i64 0, .bool false] 23)) w.heap.size zeroA.cells ∧ Below w.heap.size w (w.alloc (.cells #[.int .i64 0, .int .i64 0, .int .i64 0, .string ⟨#[]⟩, .int .i64 0, .int .i64 0, .bool false] 23))) := ⟨box_mk, bel_alloc _ _⟩
  go_enter Tryd.func4, Tryd.ntmps4
  go_wp2_with fail
  generalize (w.alloc (.cells #[.int .i64 0, .int .i64 0, .int .i64 0, .string ⟨#[]⟩, .int .i64 0, .int .i64 0, .bool false] 23)) = W0 at *
  refine Calls.mono (specL15 s W0 hsz) ?_
  rintro e W1 ⟨a, b, rfl, hb, ha, hB⟩
  have S1 : Hid (Box (W1.alloc (.cells #[.int .i64 a.k, .int .i64 a.n, .int .i64 a.m, .string a.key, .int .i64 a.v, .int .i64 a.p, .bool a.bl] 23)) w.heap.size zeroA.cells ∧ Box (W1.alloc (.cells #[.int .i64 a.k, .int .i64 a.n, .int .i64 a.m, .string a.key, .int .i64 a.v, .int .i64 a.p, .bool a.bl] 23)) W1.heap.size [.int .i64 a.k, .int .i64 a.n, .int .i64 a.m, .string a.key, .int .i64 a.v, .int .i64 a.p, .bool a.bl] ∧ Below w.heap.size w (W1.alloc (.cells #[.int .i64 a.k, .int .i64 a.n, .int .i64 a.m, .string a.key, .int .i64 a.v, .int .i64 a.p, .bool a.bl] 23))) := by
    have hx := R0.out.2.trans (hB.mono R0.out.2.size)
    exact ⟨(R0.out.1.next hB).next (bel_alloc _ _), box_mk, hx.trans ((bel_alloc _ _).mono hx.size)⟩
  have HQ : Hid ((b = true ↔ Good (wordsB s)) ∧ (b = true → a = resA (wordsB s))) := ⟨hb, ha⟩
  clear hb ha hB R0
  unfold Av.val
  cases b
  · have HR : Hid (RaP s zeroA 3) := .inr (.inr ⟨hsz, fun h => by have := HQ.out.1.2 h; (cases this), rfl, rfl⟩)
    go_upto_region 4 with fail
    generalize (W1.alloc (.cells #[.int .i64 a.k, .int .i64 a.n, .int .i64 a.m, .string a.key, .int .i64 a.v, .int .i64 a.p, .bool a.bl] 23)) = W2 at *
    obtain ⟨rc0, rc1, rc2, rc3, rc4, rc5, rc6⟩ := (show Box _ w.heap.size [.int .i64 0, .int .i64 0, .int .i64 0, .string ⟨#[]⟩, .int .i64 0, .int .i64 0, .bool false] from S1.out.1).c7
    obtain ⟨rf0, rf1, rf2, rf3, rf4, rf5, rf6⟩ := (show Box _ w.heap.size [.int .i64 0, .int .i64 0, .int .i64 0, .string ⟨#[]⟩, .int .i64 0, .int .i64 0, .bool false] from S1.out.1).f7
    go_wp2
    refine bodyPost_ret (v := .tuple #[.agg #[.int .i64 0, .int .i64 0, .int .i64 0, .string ⟨#[]⟩, .int .i64 0, .int .i64 0, .bool false], .int .i64 3]) (by simp [results, Tryd.results4, go_sem, rc0, rc1, rc2, rc3, rc4, rc5, rc6, rf0, rf1, rf2, rf3, rf4, rf5, rf6]) rfl ⟨zeroA, 3, rfl, HR.out, ?_⟩
    repeat refine Below.setCell ?_ (by simp) _
    exact S1.out.2.2
  · have HR : Hid (RaP s a 0) := .inr (.inl ⟨hsz, HQ.out.1.1 rfl, HQ.out.2 rfl, rfl⟩)
    go_upto_region 4 with fail
    generalize (W1.alloc (.cells #[.int .i64 a.k, .int .i64 a.n, .int .i64 a.m, .string a.key, .int .i64 a.v, .int .i64 a.p, .bool a.bl] 23)) = W2 at *
    obtain ⟨rc0, rc1, rc2, rc3, rc4, rc5, rc6⟩ := (show Box _ w.heap.size [.int .i64 0, .int .i64 0, .int .i64 0, .string ⟨#[]⟩, .int .i64 0, .int .i64 0, .bool false] from S1.out.1).c7
    obtain ⟨rf0, rf1, rf2, rf3, rf4, rf5, rf6⟩ := (show Box _ w.heap.size [.int .i64 0, .int .i64 0, .int .i64 0, .string ⟨#[]⟩, .int .i64 0, .int .i64 0, .bool false] from S1.out.1).f7
    obtain ⟨ac0, ac1, ac2, ac3, ac4, ac5, ac6⟩ := S1.out.2.1.c7
    go_wp2
    refine bodyPost_ret (v := .tuple #[a.val, .int .i64 0]) (by simp [results, Tryd.results4, go_sem, rc0, rc1, rc2, rc3, rc4, rc5, rc6, rf0, rf1, rf2, rf3, rf4, rf5, rf6, Av.val]) rfl ⟨a, 0, rfl, HR.out, ?_⟩
    repeat refine Below.setCell ?_ (by simp) _
    exact S1.out.2.2
def HoldsB (W : World) : Prop := ∃ t fr, W.heap[0]? = some (.cells arr t fr)
set_option maxHeartbeats 4000000 in
theorem law_readAct (s : ByteArray) (hs : s.size ≤ maxLen) (w : World) (hc0 : HoldsB w) :
    Calls Tryd.prog 3 #[.string s] w fun e w' => e = .returned (.bool true) ∧ Below w.heap.size w w' := by
  have hs' : s.size ≤ 9223372036854775807 := by unfold maxLen at hs; omega
  clear hs
  by_cases hbig : 1048576 < (s.size : Int)
  · clear hc0
    go_enter Tryd.func3, Tryd.ntmps3
    go_wp2
    go_ret
    exact ⟨rfl, Below.refl _ _⟩
  obtain ⟨t, fr, hc1⟩ := hc0
  have hlt : (0 : Nat) < w.heap.size := by
    rcases Nat.lt_or_ge 0 w.heap.size with h' | h'
    · exact h'
    · rw [Array.getElem?_eq_none (show w.heap.size ≤ 0 from h')] at hc1; cases hc1
  have hc : Hid (0 < w.heap.size ∧ w.heap[0]? = some (.cells arr t fr)) := ⟨hlt, hc1⟩
  clear hlt hc1
  go_enter Tryd.func3, Tryd.ntmps3
  go_wp2_with fail
  refine Calls.mono (specRead s w) ?_
  rintro e W1 ⟨a, c, rfl, h1, hb⟩
  have S1 : Hid (Box (W1.alloc (.cells #[.int .i64 a.k, .int .i64 a.n, .int .i64 a.m, .string a.key, .int .i64 a.v, .int .i64 a.p, .bool a.bl] 23)) W1.heap.size [.int .i64 a.k, .int .i64 a.n, .int .i64 a.m, .string a.key, .int .i64 a.v, .int .i64 a.p, .bool a.bl] ∧ Below w.heap.size w (W1.alloc (.cells #[.int .i64 a.k, .int .i64 a.n, .int .i64 a.m, .string a.key, .int .i64 a.v, .int .i64 a.p, .bool a.bl] 23))) := ⟨box_mk, hb.trans ((bel_alloc _ _).mono hb.size)⟩
  have H1 : Hid (RaP s a c) := h1
  clear hb h1
  unfold Av.val
  go_wp2_with fail
  generalize (W1.alloc (.cells #[.int .i64 a.k, .int .i64 a.n, .int .i64 a.m, .string a.key, .int .i64 a.v, .int .i64 a.p, .bool a.bl] 23)) = W2 at *
  generalize W1.heap.size = g1 at *
  refine Calls.mono (implRead s W2 t fr (by have := S1.out.2.block 0 hc.out.1; rw [this]; exact hc.out.2)) ?_
  rintro e W3 ⟨a2, c2, rfl, h2, hb⟩
  obtain ⟨ea, ec⟩ := h2.one H1.out
  subst ea ec
  have S3 : Hid (Box (W3.alloc (.cells #[.int .i64 a2.k, .int .i64 a2.n, .int .i64 a2.m, .string a2.key, .int .i64 a2.v, .int .i64 a2.p, .bool a2.bl] 23)) g1 [.int .i64 a2.k, .int .i64 a2.n, .int .i64 a2.m, .string a2.key, .int .i64 a2.v, .int .i64 a2.p, .bool a2.bl] ∧ Box (W3.alloc (.cells #[.int .i64 a2.k, .int .i64 a2.n, .int .i64 a2.m, .string a2.key, .int .i64 a2.v, .int .i64 a2.p, .bool a2.bl] 23)) W3.heap.size [.int .i64 a2.k, .int .i64 a2.n, .int .i64 a2.m, .string a2.key, .int .i64 a2.v, .int .i64 a2.p, .bool a2.bl] ∧ Below w.heap.size w (W3.alloc (.cells #[.int .i64 a2.k, .int .i64 a2.n, .int .i64 a2.m, .string a2.key, .int .i64 a2.v, .int .i64 a2.p, .bool a2.bl] 23))) := by
    have hx := S1.out.2.trans (hb.mono S1.out.2.size)
    exact ⟨(S1.out.1.next hb).next (bel_alloc _ _), box_mk, hx.trans ((bel_alloc _ _).mono hx.size)⟩
  clear hb h2 H1 S1
  unfold Av.val
  go_upto_region 5 with fail
  generalize (W3.alloc (.cells #[.int .i64 a2.k, .int .i64 a2.n, .int .i64 a2.m, .string a2.key, .int .i64 a2.v, .int .i64 a2.p, .bool a2.bl] 23)) = W4 at *
  obtain ⟨ac0, ac1, ac2, ac3, ac4, ac5, ac6⟩ := S3.out.1.c7
  obtain ⟨bc0, bc1, bc2, bc3, bc4, bc5, bc6⟩ := S3.out.2.1.c7
  have hcc : (c2 != c2) = false := by simp
  go_wp2_with fail
  refine Calls.mono (eqAct_same a2 W4) ?_
  rintro e W5 ⟨rfl, hb⟩
  have HB : Hid (Below w.heap.size w W5) := S3.out.2.2.trans (hb.mono S3.out.2.2.size)
  clear hb S3
  go_wp2
  go_ret
  exact ⟨rfl, HB.out⟩
end Go.Proofs.YtdepclilngaacaaDoor
