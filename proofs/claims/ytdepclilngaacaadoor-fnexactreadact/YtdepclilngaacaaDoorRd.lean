/- The readers of an act's fields, and which kind has which. -/
import Derived.Test.YtdepclilngaacaaDoorRows
import Derived.WalkKit
import Derived.WalkSpells
import Derived.WalkLawsBesides
import Derived.Deep.QuietTactic
import Derived.BigQuiet
import Derived.Deep.RegionHeld3
import Derived.Test.YtdepclilngaacaaDoorNu
import Derived.Test.YtdepclilngaacaaDoorAo
import Derived.Test.YtdepclilngaacaaDoorGk
import Derived.LoopN
namespace Go.Proofs.YtdepclilngaacaaDoor
open Go.RowKit
set_option linter.unusedSimpArgs false
set_option linter.unusedVariables false

structure Av where
  k : Int
  n : Int
  m : Int
  key : ByteArray
  v : Int
  p : Int
  bl : Bool
def Av.cells (a : Av) : List Value := [.int .i64 a.k, .int .i64 a.n, .int .i64 a.m, .string a.key, .int .i64 a.v, .int .i64 a.p, .bool a.bl]
def Av.val (a : Av) : Value := .agg #[.int .i64 a.k, .int .i64 a.n, .int .i64 a.m, .string a.key, .int .i64 a.v, .int .i64 a.p, .bool a.bl]
/-- What each reader asks of its word, and what it makes of it. -/
def rdP (f : Nat) (s : ByteArray) : Prop := if f = 21 then keyP s else nOK s
def rdA (f : Nat) (s : ByteArray) (a : Av) : Av := if f = 20 then { a with n := nv (bl s) } else if f = 21 then { a with key := s } else if f = 22 then { a with v := nv (bl s) } else if f = 23 then { a with m := nv (bl s) } else { a with p := nv (bl s) }
def RdQ (f g : Nat) (s : ByteArray) (a : Av) (w : World) (e : Ending) (w' : World) : Prop := ∃ (r : Bool) (a' : Av), e = .returned (.bool r) ∧ (r = true ↔ rdP f s) ∧ (r = true → a' = rdA f s a) ∧ Box w' g a'.cells ∧ Kp (· = g) w w'

set_option maxHeartbeats 1000000 in
theorem rd_20 (g : Nat) (s : ByteArray) (a : Av) (w : World) (hB : Box w g a.cells) (hs : s.size ≤ 65536) : Calls Tryd.prog 20 #[.pointer (some ⟨g, 0, none⟩), .string s] w (RdQ 20 g s a w) := by
  have HB : Hid (Box w g a.cells) := hB
  clear hB
  go_enter Tryd.func20, Tryd.ntmps20
  go_wp2_with fail
  refine (actNumber_any s w hs).mono ?_
  rintro e w1 ⟨n, r, rfl, hr, hn, hb⟩
  have HQ : Hid ((r = true ↔ nOK s) ∧ (nOK s → n = nv (bl s))) := ⟨hr, hn⟩
  have B1 : Hid (Box w1 g a.cells ∧ Below w.heap.size w w1) := ⟨HB.out.next hb, hb⟩
  clear hr hn hb HB
  have c1 := (B1.out.1.is 1 (by simp [Av.cells])).1
  have f1 := (B1.out.1.is 1 (by simp [Av.cells])).2
  simp only [Av.cells, List.getElem_cons_zero, List.getElem_cons_succ] at c1 f1
  go_wp2
  go_ret
  refine ⟨r, { a with n := n }, rfl, by rw [HQ.out.1]; simp [rdP], fun h => ?_, ?_, ?_⟩
  · have := HQ.out.2 (HQ.out.1.1 h)
    simp [rdA, this]
  · have := B1.out.1.set (i := 1) (u := .int .i64 n) (by simp [Av.cells])
    simpa [Av.cells] using this
  · exact (Kp.of_below (E := (· = g)) B1.out.2).trans Kp.set (fun x _ h => h) (fun x _ h => h)

set_option maxHeartbeats 1000000 in
theorem rd_22 (g : Nat) (s : ByteArray) (a : Av) (w : World) (hB : Box w g a.cells) (hs : s.size ≤ 65536) : Calls Tryd.prog 22 #[.pointer (some ⟨g, 0, none⟩), .string s] w (RdQ 22 g s a w) := by
  have HB : Hid (Box w g a.cells) := hB
  clear hB
  go_enter Tryd.func22, Tryd.ntmps22
  go_wp2_with fail
  refine (actNumber_any s w hs).mono ?_
  rintro e w1 ⟨n, r, rfl, hr, hn, hb⟩
  have HQ : Hid ((r = true ↔ nOK s) ∧ (nOK s → n = nv (bl s))) := ⟨hr, hn⟩
  have B1 : Hid (Box w1 g a.cells ∧ Below w.heap.size w w1) := ⟨HB.out.next hb, hb⟩
  clear hr hn hb HB
  have c4 := (B1.out.1.is 4 (by simp [Av.cells])).1
  have f4 := (B1.out.1.is 4 (by simp [Av.cells])).2
  simp only [Av.cells, List.getElem_cons_zero, List.getElem_cons_succ] at c4 f4
  go_wp2
  go_ret
  refine ⟨r, { a with v := n }, rfl, by rw [HQ.out.1]; simp [rdP], fun h => ?_, ?_, ?_⟩
  · have := HQ.out.2 (HQ.out.1.1 h)
    simp [rdA, this]
  · have := B1.out.1.set (i := 4) (u := .int .i64 n) (by simp [Av.cells])
    simpa [Av.cells] using this
  · exact (Kp.of_below (E := (· = g)) B1.out.2).trans Kp.set (fun x _ h => h) (fun x _ h => h)

set_option maxHeartbeats 1000000 in
theorem rd_23 (g : Nat) (s : ByteArray) (a : Av) (w : World) (hB : Box w g a.cells) (hs : s.size ≤ 65536) : Calls Tryd.prog 23 #[.pointer (some ⟨g, 0, none⟩), .string s] w (RdQ 23 g s a w) := by
  have HB : Hid (Box w g a.cells) := hB
  clear hB
  go_enter Tryd.func23, Tryd.ntmps23
  go_wp2_with fail
  refine (actNumber_any s w hs).mono ?_
  rintro e w1 ⟨n, r, rfl, hr, hn, hb⟩
  have HQ : Hid ((r = true ↔ nOK s) ∧ (nOK s → n = nv (bl s))) := ⟨hr, hn⟩
  have B1 : Hid (Box w1 g a.cells ∧ Below w.heap.size w w1) := ⟨HB.out.next hb, hb⟩
  clear hr hn hb HB
  have c2 := (B1.out.1.is 2 (by simp [Av.cells])).1
  have f2 := (B1.out.1.is 2 (by simp [Av.cells])).2
  simp only [Av.cells, List.getElem_cons_zero, List.getElem_cons_succ] at c2 f2
  go_wp2
  go_ret
  refine ⟨r, { a with m := n }, rfl, by rw [HQ.out.1]; simp [rdP], fun h => ?_, ?_, ?_⟩
  · have := HQ.out.2 (HQ.out.1.1 h)
    simp [rdA, this]
  · have := B1.out.1.set (i := 2) (u := .int .i64 n) (by simp [Av.cells])
    simpa [Av.cells] using this
  · exact (Kp.of_below (E := (· = g)) B1.out.2).trans Kp.set (fun x _ h => h) (fun x _ h => h)

set_option maxHeartbeats 1000000 in
theorem rd_24 (g : Nat) (s : ByteArray) (a : Av) (w : World) (hB : Box w g a.cells) (hs : s.size ≤ 65536) : Calls Tryd.prog 24 #[.pointer (some ⟨g, 0, none⟩), .string s] w (RdQ 24 g s a w) := by
  have HB : Hid (Box w g a.cells) := hB
  clear hB
  go_enter Tryd.func24, Tryd.ntmps24
  go_wp2_with fail
  refine (actNumber_any s w hs).mono ?_
  rintro e w1 ⟨n, r, rfl, hr, hn, hb⟩
  have HQ : Hid ((r = true ↔ nOK s) ∧ (nOK s → n = nv (bl s))) := ⟨hr, hn⟩
  have B1 : Hid (Box w1 g a.cells ∧ Below w.heap.size w w1) := ⟨HB.out.next hb, hb⟩
  clear hr hn hb HB
  have c5 := (B1.out.1.is 5 (by simp [Av.cells])).1
  have f5 := (B1.out.1.is 5 (by simp [Av.cells])).2
  simp only [Av.cells, List.getElem_cons_zero, List.getElem_cons_succ] at c5 f5
  go_wp2
  go_ret
  refine ⟨r, { a with p := n }, rfl, by rw [HQ.out.1]; simp [rdP], fun h => ?_, ?_, ?_⟩
  · have := HQ.out.2 (HQ.out.1.1 h)
    simp [rdA, this]
  · have := B1.out.1.set (i := 5) (u := .int .i64 n) (by simp [Av.cells])
    simpa [Av.cells] using this
  · exact (Kp.of_below (E := (· = g)) B1.out.2).trans Kp.set (fun x _ h => h) (fun x _ h => h)

set_option maxHeartbeats 1000000 in
theorem rd_21 (g : Nat) (s : ByteArray) (a : Av) (w : World) (hB : Box w g a.cells) (hs : s.size ≤ 65536) : Calls Tryd.prog 21 #[.pointer (some ⟨g, 0, none⟩), .string s] w (RdQ 21 g s a w) := by
  have HB : Hid (Box w g a.cells) := hB
  clear hB
  have c3 := (HB.out.is 3 (by simp [Av.cells])).1
  have f3 := (HB.out.is 3 (by simp [Av.cells])).2
  simp only [Av.cells, List.getElem_cons_zero, List.getElem_cons_succ] at c3 f3
  go_enter Tryd.func21, Tryd.ntmps21
  go_wp2_with fail
  refine (imKey s (by show _ < _; omega) _).mono ?_
  rintro e w1 ⟨b, rfl, Hb, rfl⟩
  clear c3 f3
  go_wp2
  go_ret
  refine ⟨b, { a with key := s }, rfl, by rw [Hb.out]; simp [rdP], fun h => by simp [rdA], ?_, Kp.set⟩
  have := HB.out.set (i := 3) (u := .string s) (by simp [Av.cells])
  simpa [Av.cells] using this
/-- The readers of a kind's words. -/
def fs (k : Nat) : List Nat := if k = 1 then [20, 21, 22] else if k = 2 then [20, 21] else if k = 3 then [23] else if k = 4 then [23] else if k = 5 then [23] else if k = 6 then [20] else if k = 7 then [20] else if k = 8 then [20, 21, 22, 24, 23] else if k = 9 then [20, 23] else if k = 10 then [20] else if k = 11 then [20, 23] else if k = 12 then [20] else if k = 13 then [20, 23] else if k = 14 then [20] else []
def fnV (f : Nat) : Value := .func (.func f) #[] #[]
theorem fs_mem : ∀ k, k < 15 → ∀ f ∈ fs k, f = 20 ∨ f = 21 ∨ f = 22 ∨ f = 23 ∨ f = 24 := by decide +kernel
theorem rd_any {f : Nat} (hf : f = 20 ∨ f = 21 ∨ f = 22 ∨ f = 23 ∨ f = 24) (g : Nat) (s : ByteArray) (a : Av) (w : World) (hB : Box w g a.cells) (hs : s.size ≤ 65536) : Calls Tryd.prog f #[.pointer (some ⟨g, 0, none⟩), .string s] w (RdQ f g s a w) := by
  rcases hf with rfl | rfl | rfl | rfl | rfl
  · exact rd_20 g s a w hB hs
  · exact rd_21 g s a w hB hs
  · exact rd_22 g s a w hB hs
  · exact rd_23 g s a w hB hs
  · exact rd_24 g s a w hB hs
/-- The readers, as a row that is read. -/
def FsA (k : Nat) (w : World) (e : Ending) (w' : World) : Prop := ∃ p q, e = .returned (.slice p (fs k).length q) ∧ GRow w.heap.size w' p ((fs k).map fnV) ∧ Below w.heap.size w w'
theorem FsA.of {k : Nat} {w : World} {l : List Nat} {n : Nat} (h : fs k = l) (hn : n = l.length) (ty : TypeId) : FsA k w (.returned (.slice (some ⟨w.heap.size, 0, none⟩) n n)) (w.alloc (.cells (l.map fnV).toArray ty)) := by
  subst hn
  subst h
  exact ⟨_, _, rfl, .inr ⟨_, 0, rfl, Nat.le_refl _, fun j hj => by rw [Nat.zero_add]; exact (box_mk.is j hj).1⟩, bel_alloc _ _⟩
set_option maxHeartbeats 4000000 in
theorem fields_any (k : Nat) (hk : k < 15) (w : World) : Calls Tryd.prog 11 #[.int .i64 (k : Int)] w (FsA k w) := by
  have hc : k = 0 ∨ k = 1 ∨ k = 2 ∨ k = 3 ∨ k = 4 ∨ k = 5 ∨ k = 6 ∨ k = 7 ∨ k = 8 ∨ k = 9 ∨ k = 10 ∨ k = 11 ∨ k = 12 ∨ k = 13 ∨ k = 14 := by omega
  rcases hc with rfl | rfl | rfl | rfl | rfl | rfl | rfl | rfl | rfl | rfl | rfl | rfl | rfl | rfl | rfl
  · go_enter Tryd.func11, Tryd.ntmps11
    go_wp2
    go_ret
    exact ⟨none, 0, rfl, .inl rfl, Below.refl _ _⟩
  · go_enter Tryd.func11, Tryd.ntmps11
    go_wp2
    go_ret
    exact FsA.of (l := [20, 21, 22]) rfl rfl 38
  · go_enter Tryd.func11, Tryd.ntmps11
    go_wp2
    go_ret
    exact FsA.of (l := [20, 21]) rfl rfl 38
  · go_enter Tryd.func11, Tryd.ntmps11
    go_wp2
    go_ret
    exact FsA.of (l := [23]) rfl rfl 38
  · go_enter Tryd.func11, Tryd.ntmps11
    go_wp2
    go_ret
    exact FsA.of (l := [23]) rfl rfl 38
  · go_enter Tryd.func11, Tryd.ntmps11
    go_wp2
    go_ret
    exact FsA.of (l := [23]) rfl rfl 38
  · go_enter Tryd.func11, Tryd.ntmps11
    go_wp2
    go_ret
    exact FsA.of (l := [20]) rfl rfl 38
  · go_enter Tryd.func11, Tryd.ntmps11
    go_wp2
    go_ret
    exact FsA.of (l := [20]) rfl rfl 38
  · go_enter Tryd.func11, Tryd.ntmps11
    go_wp2
    go_ret
    exact FsA.of (l := [20, 21, 22, 24, 23]) rfl rfl 38
  · go_enter Tryd.func11, Tryd.ntmps11
    go_wp2
    go_ret
    exact FsA.of (l := [20, 23]) rfl rfl 38
  · go_enter Tryd.func11, Tryd.ntmps11
    go_wp2
    go_ret
    exact FsA.of (l := [20]) rfl rfl 38
  · go_enter Tryd.func11, Tryd.ntmps11
    go_wp2
    go_ret
    exact FsA.of (l := [20, 23]) rfl rfl 38
  · go_enter Tryd.func11, Tryd.ntmps11
    go_wp2
    go_ret
    exact FsA.of (l := [20]) rfl rfl 38
  · go_enter Tryd.func11, Tryd.ntmps11
    go_wp2
    go_ret
    exact FsA.of (l := [20, 23]) rfl rfl 38
  · go_enter Tryd.func11, Tryd.ntmps11
    go_wp2
    go_ret
    exact FsA.of (l := [20]) rfl rfl 38
end Go.Proofs.YtdepclilngaacaaDoor
