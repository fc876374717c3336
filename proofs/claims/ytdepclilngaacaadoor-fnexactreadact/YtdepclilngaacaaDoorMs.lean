/- The specification's boxes: the answer's, the act's, the words. -/
import Derived.Test.YtdepclilngaacaaDoorRows
import Derived.WalkKit
import Derived.WalkSpells
import Derived.WalkLawsBesides
import Derived.Deep.QuietTactic
import Derived.BigQuiet
import Derived.Deep.RegionHeld3
import Derived.Test.YtdepclilngaacaaDoorMn
import Derived.LoopN
namespace Go.Proofs.YtdepclilngaacaaDoor
open Go.RowKit
set_option linter.unusedSimpArgs false
set_option linter.unusedVariables false

structure SS (w W : World) (R g : Nat) (a : Av) (p : Option Addr) (ws : List ByteArray) : Prop where
  r : Box W R zeroA.cells
  a : Box W g a.cells
  eq : R = w.heap.size
  lt : R < g
  gr : GRow (R + 1) W p (txB ws)
  ap : ∀ x, p = some x → ws ≠ [] → x.block < g
  b : Below w.heap.size w W
theorem txB_nil {ws : List ByteArray} (h : txB ws ≠ []) : ws ≠ [] := fun e => h (by rw [e]; rfl)
theorem SS.next {w W W' : World} {R g : Nat} {a : Av} {p : Option Addr} {ws : List ByteArray} (h : SS w W R g a p ws) (hb : Below W.heap.size W W') : SS w W' R g a p ws := ⟨h.r.next hb, h.a.next hb, h.eq, h.lt, h.gr.next hb, h.ap, h.b.trans (hb.mono h.b.size)⟩
theorem SS.kp {w W W' : World} {R g : Nat} {a a' : Av} {p : Option Addr} {ws : List ByteArray} (h : SS w W R g a p ws) (hk : Kp (· = g) W W') (ha : Box W' g a'.cells) : SS w W' R g a' p ws :=
  ⟨h.r.kp hk (by have := h.lt; omega), ha, h.eq, h.lt, h.gr.kp hk (fun x hx hn e => by have := h.ap x hx (txB_nil hn); have e' : x.block = g := e; omega), h.ap, h.b.trans (hk.below h.b.size (fun b hb e => by have e' : b = g := e; have := h.eq; have := h.lt; omega))⟩
theorem SS.gro {w W W' : World} {R g lo : Nat} {a : Av} {p : Option Addr} {ws : List ByteArray} {u u' : Value} (h : SS w W R g a p ws) (hg : Gro W W' u u') (hu : ∀ k, u.ownBlock = some k → lo ≤ k) (hl : g < lo) : SS w W' R g a p ws := by
  have hk := Kp.of_gro hg
  refine ⟨h.r.kp hk (fun e => ?_), h.a.kp hk (fun e => ?_), h.eq, h.lt, h.gr.kp hk (fun x hx hn e => ?_), h.ap, h.b.trans (hk.below h.b.size (fun b hb e => ?_))⟩
  · have := hu _ e; have := h.lt; omega
  · have := hu _ e; omega
  · have := hu _ e; have := h.ap x hx (txB_nil hn); omega
  · have := hu _ e; have := h.lt; have := h.eq; omega
theorem SS.sub {w W : World} {R g : Nat} {a : Av} {p : Option Addr} {ws : List ByteArray} {j : Nat} (h : SS w W R g a p ws) : SS w W R g a p (ws.take j) :=
  ⟨h.r, h.a, h.eq, h.lt, by
    rcases h.gr with h' | ⟨b', off', hp, hb, hc⟩
    · have : ws = [] := by simpa [txB] using h'
      exact .inl (by simp [txB, this])
    · refine .inr ⟨b', off', hp, hb, fun i hi => ?_⟩
      have h1 : i < (txB ws).length := by simp [txB] at hi ⊢; omega
      rw [hc i h1]
      simp [txB], fun x hx hn => h.ap x hx (fun e => hn (by rw [e]; simp)), h.b⟩
theorem SS.tail2 {w W : World} {R g q : Nat} {a : Av} {b off : Nat} {w0 : ByteArray} {t : List ByteArray} (h : SS w W R g a (some ⟨b, off, none⟩) (w0 :: t)) (hq : t.length + 1 ≤ q) : SS w W R g a (if q = 1 then some (⟨b, off, none⟩ : Addr) else some ⟨b, off + 1, none⟩) t := by
  refine ⟨h.r, h.a, h.eq, h.lt, ?_, fun x hx hn => ?_, h.b⟩
  · by_cases e : q = 1
    · have : t = [] := List.length_eq_zero_iff.1 (by omega)
      subst this
      exact .inl rfl
    · rw [if_neg e]
      rcases h.gr with h' | ⟨b', off', hp, hb, hc⟩
      · simp [txB] at h'
      · cases hp
        refine .inr ⟨b, off + 1, rfl, hb, fun j hj => ?_⟩
        have := hc (j + 1) (by simp [txB] at hj ⊢; omega)
        rw [show off + 1 + j = off + (j + 1) by omega, this]
        simp [txB]
  · have := h.ap ⟨b, off, none⟩ rfl (by simp)
    split at hx <;> (cases hx; exact this)
theorem SS.word {w W : World} {R g : Nat} {a : Av} {p : Option Addr} {ws : List ByteArray} {i : Nat} {s : ByteArray} (h : SS w W R g a p ws) (hi : ws[i]? = some s) : ∃ b off, p = some ⟨b, off, none⟩ ∧ W.cell? ⟨b, off + i, none⟩ = some (.string s) := by
  obtain ⟨b, off, hp, _, hc⟩ := grow_txt h.gr hi
  exact ⟨b, off, hp, hc⟩
/-- What l15Read answers. -/
def LrQ (s : ByteArray) (w : World) (e : Ending) (w' : World) : Prop := ∃ (a : Av) (b : Bool), e = .returned (.tuple #[a.val, .bool b]) ∧ (b = true ↔ Good (wordsB s)) ∧ (b = true → a = resA (wordsB s)) ∧ Below w.heap.size w w'
theorem LrQ.no {s : ByteArray} {w W : World} {a : Av} (h : ¬ Good (wordsB s)) (hb : Below w.heap.size w W) : LrQ s w (.returned (.tuple #[a.val, .bool false])) W := ⟨a, false, rfl, ⟨fun e => (by cases e), fun h' => (h h').elim⟩, fun e => (by cases e), hb⟩
theorem rdA_kind (f : Nat) (s : ByteArray) (a : Av) : (rdA f s a).k = a.k := by
  unfold rdA
  repeat' split
  all_goals rfl
theorem foldA_kind : ∀ (l : List (Nat × ByteArray)) (a : Av), (foldA l a).k = a.k
  | [], a => rfl
  | x :: l, a => (foldA_kind l (rdA x.1 x.2 a)).trans (rdA_kind _ _ _)
theorem good_kind {w0 : ByteArray} {t : List ByteArray} (h : kindN w0 = 0) : ¬ Good (w0 :: t) := by
  rintro ⟨_, h2⟩
  have h3 := h2.1
  unfold actOf at h3
  rw [foldA_kind, h] at h3
  have := h3.1
  simp at this
theorem nk_mem {kd : Bool} {T : List ByteArray} {i : Nat} {x : ByteArray} (h : x ∈ nk kd (T.take i)) : x ∈ nk kd T := by
  cases kd with
  | false => exact List.mem_of_mem_take h
  | true =>
    simp only [nk, if_true] at h ⊢
    obtain ⟨j, hj, hx⟩ := List.mem_eraseIdx_iff_getElem?.1 h
    exact List.mem_eraseIdx_iff_getElem?.2 ⟨j, hj, by rw [List.getElem?_take] at hx; split at hx; exact hx; cases hx⟩
def ints (l : List Int) : List Value := l.map (Value.int .i64)
theorem elI : ElemT Tryd.prog 42 3 1 8 := by
  obtain ⟨i, h1, h2, h3, h4⟩ := info_parts (show (Tryd.prog.info? 3).map (fun i => (i.zero, i.size, i.bytes)) = some (some (.int .i64 0), 1, 8) by kernel_rfl)
  exact ⟨Tryd.underlying42, ⟨i, .int .i64 0, h1, h2, h3, h4, rfl⟩, by decide, by decide⟩
theorem l03_any (s : ByteArray) (w : World) (hs : s.size ≤ 65536) : Calls Tryd.prog 15 #[.string s] w fun e w' => ∃ (n : Int) (r : Bool), e = .returned (.tuple #[.int .i64 n, .bool r]) ∧ Hid (r = true ↔ nOK18 s) ∧ Hid (r = true → n = nv (bl s)) ∧ Below w.heap.size w w' := by
  by_cases h : nOK18 s
  · refine (l03num_yes s w (by omega) h).mono ?_
    rintro e w' ⟨rfl, hb⟩
    exact ⟨_, true, rfl, ⟨fun _ => h, fun _ => rfl⟩, (fun _ => rfl : _ → _), hb⟩
  · refine (l03num_no s w (by omega) h).mono ?_
    rintro e w' ⟨n, rfl, hb⟩
    exact ⟨n, false, rfl, ⟨fun e => (by cases e), fun h' => (h h').elim⟩, (fun e => (by cases e) : _ → _), hb⟩
structure GV (g : Nat) (W : World) (bv ov : Nat) (vs : List Int) : Prop where
  lo : g + 1 ≤ bv
  is : ∀ i v, vs[i]? = some v → W.cell? ⟨bv, ov + i, none⟩ = some (.int .i64 v)
theorem GV.at_int {g : Nat} {W : World} {bv ov i : Nat} {vs : List Int} {v : Int} (h : GV g W bv ov vs) (hi : vs[i]? = some v) : W.cell? ⟨bv, ov + i, none⟩ = some (.int .i64 v) := h.is i v hi
theorem GV.kp {g : Nat} {W W' : World} {bv ov : Nat} {vs : List Int} (h : GV g W bv ov vs) (hk : Kp (· = g) W W') (hn : bv ≠ g) : GV g W' bv ov vs := ⟨h.lo, fun i v hi => by
  have hc := h.is i v hi
  have hl := cell_lt (x := ⟨bv, ov + i, none⟩) hc
  rw [World.cell?_of_block (w := W) (hk.block bv hl (fun e => hn e))]
  exact hc⟩
theorem OwnG.gv {g : Nat} {W : World} {vo : Option Addr} {vn vc : Nat} {vs : List Int} (h : OwnG W 3 1 (.slice vo vn vc) vn (ints vs) (g + 1)) (hne : vs ≠ []) : ∃ bv ov, vo = some ⟨bv, ov, none⟩ ∧ GV g W bv ov vs := by
  obtain ⟨p, c, hv, _, hG⟩ := h.grow
  cases hv
  rcases hG with h' | ⟨b, off, rfl, hb, hc⟩
  · exact (hne (by simpa [ints] using h')).elim
  · refine ⟨b, off, rfl, hb, fun i v hi => ?_⟩
    exact GRow.at (lo := g + 1) hc (by simp [ints, hi])
theorem lst1 {l : List Int} (h : l.length = 1) : ∃ v0, l = [v0] := List.length_eq_one_iff.1 h
theorem lst2 {l : List Int} (h : l.length = 2) : ∃ v0 v1, l = [v0, v1] := by
  match l, h with
  | [a, b], _ => exact ⟨a, b, rfl⟩
theorem lst4 {l : List Int} (h : l.length = 4) : ∃ v0 v1 v2 v3, l = [v0, v1, v2, v3] := by
  match l, h with
  | [a, b, c, d], _ => exact ⟨a, b, c, d, rfl⟩
theorem grp_k {k : Nat} (h1 : 1 ≤ k) (h2 : k < 15) : k = 1 ∨ k = 2 ∨ k = 8 ∨ (k = 3 ∨ k = 4 ∨ k = 5) ∨ (k = 6 ∨ k = 7 ∨ k = 10 ∨ k = 12 ∨ k = 14) ∨ (k = 9 ∨ k = 11 ∨ k = 13) := by omega
def wantV : Array Value := #[.int .i64 0, .int .i64 2, .int .i64 1, .int .i64 1, .int .i64 1, .int .i64 1, .int .i64 1, .int .i64 1, .int .i64 4, .int .i64 2, .int .i64 1, .int .i64 2, .int .i64 1, .int .i64 2, .int .i64 1]
theorem want_at : ∀ k, k < 15 → wantV.toList[k]? = some (.int .i64 (wantN k : Nat)) := by
  intro k hk
  have hc : k = 0 ∨ k = 1 ∨ k = 2 ∨ k = 3 ∨ k = 4 ∨ k = 5 ∨ k = 6 ∨ k = 7 ∨ k = 8 ∨ k = 9 ∨ k = 10 ∨ k = 11 ∨ k = 12 ∨ k = 13 ∨ k = 14 := by omega
  rcases hc with rfl | rfl | rfl | rfl | rfl | rfl | rfl | rfl | rfl | rfl | rfl | rfl | rfl | rfl | rfl <;> rfl
theorem want_cell (W : World) (k : Nat) (hk : k < 15) : (W.alloc (.cells wantV 3)).cell? ⟨W.heap.size, k, none⟩ = some (.int .i64 (wantN k : Nat)) := by
  have h := want_at k hk
  obtain ⟨hl, he⟩ := List.getElem?_eq_some_iff.1 h
  have := ((box_mk (W := W) (t := 3) (vs := wantV.toList)).is k hl).1
  rw [he] at this
  exact this
def k0A (k : Nat) : Av := ⟨k, 0, 0, ⟨#[]⟩, 0, 0, false⟩
end Go.Proofs.YtdepclilngaacaaDoor
