/- Rows of texts, as the laws hand them over. -/
import Derived.Test.YtmogmamijnkpdaaRows
import Derived.WalkKit
import Derived.WalkSpells
import Derived.WalkLawsBesides
import Derived.Deep.QuietTactic
import Derived.BigQuiet
import Derived.Deep.RegionHeld3
import Derived.LoopN
import Derived.OwnWalk
import Derived.Laws.OwnMore
namespace Go.Proofs.Ytmogmamijnkpdaa
open Go.RowKit
set_option linter.unusedSimpArgs false
set_option linter.unusedVariables false

theorem ret_bool {a b : Bool} (h : a = b) : Ending.returned (.bool a) = .returned (.bool b) := by rw [h]
theorem ret_int {k : IntKind} {a b : Int} (h : a = b) : Ending.returned (.int k a) = .returned (.int k b) := by rw [h]
theorem ret_ints {a b c d : Int} (h : a = b) (k : c = d) : Ending.returned (.tuple #[.int .i64 a, .int .i64 c]) = .returned (.tuple #[.int .i64 b, .int .i64 d]) := by rw [h, k]
theorem ret_bint {a b : Bool} {c d : Int} (h : a = b) (k : c = d) : Ending.returned (.tuple #[.bool a, .int .i64 c]) = .returned (.tuple #[.bool b, .int .i64 d]) := by rw [h, k]
theorem ret_vint {a b c a' b' c' : Int} {r r' : Int} (h : a = a') (k : b = b') (l : c = c') (m : r = r') : Ending.returned (.tuple #[.agg #[.int .i64 a, .int .i64 b, .int .i64 c], .int .i64 r]) = .returned (.tuple #[.agg #[.int .i64 a', .int .i64 b', .int .i64 c'], .int .i64 r']) := by rw [h, k, l, m]
theorem ret_v {a b c a' b' c' : Int} (h : a = a') (k : b = b') (l : c = c') : Ending.returned (.agg #[.int .i64 a, .int .i64 b, .int .i64 c]) = .returned (.agg #[.int .i64 a', .int .i64 b', .int .i64 c']) := by rw [h, k, l]
theorem bcell {W w1 : World} (hb : Below W.heap.size W w1) : (∀ b o, b < W.heap.size → w1.cell? ⟨b, o, none⟩ = W.cell? ⟨b, o, none⟩) ∧ (∀ b o, b < W.heap.size → w1.frozen? ⟨b, o, none⟩ = W.frozen? ⟨b, o, none⟩) :=
  ⟨fun b o h => hb.cell (p := ⟨b, o, none⟩) h, fun b o h => hb.frozen (p := ⟨b, o, none⟩) h⟩
theorem cell_next {W w1 : World} (hb : Below W.heap.size W w1) {b o : Nat} {v : Value} (h : W.cell? ⟨b, o, none⟩ = some v) (hs : b < W.heap.size) : w1.cell? ⟨b, o, none⟩ = some v := by
  rw [hb.cell (p := ⟨b, o, none⟩) hs]; exact h
theorem cell_set {W : World} {b o t j : Nat} {v u : Value} (h : W.cell? ⟨b, o, none⟩ = some v) (hne : b ≠ t) : (W.setCell ⟨t, j, none⟩ u).cell? ⟨b, o, none⟩ = some v := by
  rw [World.cell?_of_block (w := W) (Below.heap_setCell W ⟨t, j, none⟩ u b (by simpa using hne))]; exact h
theorem frozen_next {W w1 : World} (hb : Below W.heap.size W w1) {b o : Nat} (h : W.frozen? ⟨b, o, none⟩ = false) (hs : b < W.heap.size) : w1.frozen? ⟨b, o, none⟩ = false := by
  rw [hb.frozen (p := ⟨b, o, none⟩) hs]; exact h

def V (ss : List ByteArray) : List Value := ss.map Value.string
theorem V_len (ss : List ByteArray) : (V ss).length = ss.length := by simp [V]
theorem V_app (a b : List ByteArray) : V (a ++ b) = V a ++ V b := by simp [V]
theorem V_one (ss : List ByteArray) : ∀ v ∈ V ss, v.oneCell' = true := fun v hv => by
  simp [V] at hv
  obtain ⟨s, _, rfl⟩ := hv
  rfl
theorem V_at (ss : List ByteArray) (i : Nat) (h : i < ss.length) : (V ss)[i]? = some (.string ss[i]) := by simp [V, h]
/-- A row of texts in memory. -/
def TRow (W : World) (ao : Option Addr) (ss : List ByteArray) : Prop := ss = [] ∨ ∃ b off, ao = some ⟨b, off, none⟩ ∧ ∀ i (h : i < ss.length), W.cell? ⟨b, off + i, none⟩ = some (.string ss[i])
theorem cell_lt' {W : World} {b o : Nat} {v : Value} (h : W.cell? ⟨b, o, none⟩ = some v) : b < W.heap.size := by
  rcases Nat.lt_or_ge b W.heap.size with q | q
  · exact q
  · simp [World.cell?, Array.getElem?_eq_none q] at h
theorem TRow.next {W W' : World} {ao : Option Addr} {ss : List ByteArray} (h : TRow W ao ss) (hb : Below W.heap.size W W') : TRow W' ao ss := by
  rcases h with h | ⟨b, off, rfl, h2⟩
  · exact .inl h
  · exact .inr ⟨b, off, rfl, fun i hi => cell_next hb (h2 i hi) (cell_lt' (h2 i hi))⟩
theorem TRow.old {w W : World} {ao : Option Addr} {ss : List ByteArray} (h : TRow w ao ss) (hb : Below w.heap.size w W) : TRow W ao ss := h.next hb
/-- A value that is a row of texts. -/
def RowV (W : World) (v : Value) (ss : List ByteArray) : Prop := ∃ ao cap, v = .slice ao ss.length cap ∧ ss.length ≤ cap ∧ TRow W ao ss
theorem RowV.next {W W' : World} {v : Value} {ss : List ByteArray} (h : RowV W v ss) (hb : Below W.heap.size W W') : RowV W' v ss := by
  obtain ⟨ao, cap, h1, h2, h3⟩ := h
  exact ⟨ao, cap, h1, h2, h3.next hb⟩
theorem own_trow {W : World} {e : TypeId} {ao : Option Addr} {cap : Nat} {ss : List ByteArray} (h : W.ownsRow 0 e 1 (.slice ao ss.length cap) ss.length (V ss)) : TRow W ao ss := by
  rcases h.2 with ⟨h', hn⟩ | ⟨g, cap', cur, h', _⟩
  · exact .inl (List.length_eq_zero_iff.1 hn)
  · cases h'
    refine .inr ⟨g, 0, rfl, fun i hi => ?_⟩
    rw [Nat.zero_add, h.cellAt i (by omega)]
    exact V_at ss i hi
theorem own_rowV {W : World} {e : TypeId} {v : Value} {ss : List ByteArray} (h : W.ownsRow 0 e 1 v ss.length (V ss)) : RowV W v ss := by
  have hq := h
  rcases h.2 with ⟨rfl, hn⟩ | ⟨g, cap', cur, rfl, _, _, hc, _⟩
  · exact ⟨none, 0, by rw [hn], by omega, .inl (List.length_eq_zero_iff.1 hn)⟩
  · exact ⟨_, _, rfl, hc, own_trow hq⟩
theorem own_next {w w' : World} {base e size n : Nat} {v : Value} {xs : List Value} (h : w.ownsRow base e size v n xs) (hb : Below w.heap.size w w') : w'.ownsRow base e size v n xs := by
  refine ⟨h.1, ?_⟩
  rcases h.2 with h' | ⟨g, cap, cur, rfl, hg, hh, r⟩
  · exact .inl h'
  · refine .inr ⟨g, cap, cur, rfl, hg, ?_, r⟩
    rw [hb.block g (by
      rcases Nat.lt_or_ge g w.heap.size with h' | h'
      · exact h'
      · rw [Array.getElem?_eq_none h'] at hh; cases hh)]
    exact hh
theorem own_base {w : World} {base base' e size n : Nat} {v : Value} {xs : List Value} (h : w.ownsRow base e size v n xs) (hk : ∀ k, v.ownBlock = some k → base' ≤ k) : w.ownsRow base' e size v n xs := by
  refine ⟨h.1, ?_⟩
  rcases h.2 with h' | ⟨g, cap, cur, rfl, hb, r⟩
  · exact .inl h'
  · exact .inr ⟨g, cap, cur, rfl, hk g rfl, r⟩
theorem bel_alloc (W : World) (o : Obj) : Below W.heap.size W (W.alloc o) := (Below.refl _ _).alloc (Nat.le_refl _) _
theorem bel_drew (W : World) : Below W.heap.size W W.drew := (Below.refl _ _).drew
theorem bel_next {w W W' : World} (h : Hid (Below w.heap.size w W)) (hb : Below W.heap.size W W') : Hid (Below w.heap.size w W') := h.out.trans (hb.mono h.out.size)
theorem lt_next {W W' : World} {g n : Nat} (hl : Hid (g < W.heap.size)) (hb : Below n W W') : Hid (g < W'.heap.size) := Nat.lt_of_lt_of_le hl.out hb.size
theorem lt_new {W : World} {o : Obj} : Hid (W.heap.size < (W.alloc o).heap.size) := by show _ < _; simp
theorem info_parts {i : Option TypeInfo} {z : Option Value} {a b : Nat} (h : i.map (fun i => (i.zero, i.size, i.bytes)) = some (z, a, b)) : ∃ i0, i = some i0 ∧ i0.zero = z ∧ i0.size = a ∧ i0.bytes = b := by
  cases i with
  | none => cases h
  | some i0 => simp at h; exact ⟨i0, rfl, h.1, h.2.1, h.2.2⟩
/-- How many bytes and texts there are. -/
def tot : List ByteArray → Nat
  | [] => 0
  | s :: ss => s.size + tot ss
theorem tot_app (a b : List ByteArray) : tot (a ++ b) = tot a + tot b := by
  induction a with
  | nil => simp [tot]
  | cons s a ih => simp [tot, ih]; omega
theorem tot_take_succ (ss : List ByteArray) (i : Nat) (h : i < ss.length) : tot (ss.take (i + 1)) = tot (ss.take i) + ss[i].size := by
  rw [List.take_succ_eq_append_getElem h, tot_app]; simp [tot]
theorem tot_take_le (ss : List ByteArray) (i : Nat) : tot (ss.take i) ≤ tot ss := by
  conv => rhs; rw [← List.take_append_drop i ss, tot_app]
  omega
theorem tot_mem (ss : List ByteArray) (s : ByteArray) (h : s ∈ ss) : s.size ≤ tot ss := by
  induction ss with
  | nil => cases h
  | cons x ss ih =>
    rcases List.mem_cons.1 h with h | h
    · subst h; simp [tot]
    · have := ih h; simp [tot]; omega
def szR (ss : List ByteArray) (left : Int) : Int := if (ss.length : Int) + (tot ss : Int) ≤ left then left - ss.length - tot ss else -1

set_option maxHeartbeats 2000000 in
theorem szTexts_any (ao : Option Addr) (cap : Nat) (ss : List ByteArray) (left : Int) (w : World) (hl0 : 0 ≤ left) (hl1 : left ≤ 1048576) (hn : ss.length ≤ maxLen) (hw : ∀ s ∈ ss, s.size ≤ maxLen) (hr0 : TRow w ao ss) :
    Calls Try.prog 11 #[.slice ao ss.length cap, .int .i64 left] w fun e w' => e = .returned (.int .i64 (szR ss left)) ∧ Below w.heap.size w w' := by
  have hr : Hid (TRow w ao ss) := hr0
  have HW : Hid (∀ s ∈ ss, s.size ≤ maxLen) := hw
  clear hr0 hw
  unfold maxLen at hn
  obtain ⟨n, hn0⟩ : ∃ n, n = ss.length := ⟨_, rfl⟩
  have HN : Hid (n = ss.length) := hn0
  rw [← hn0]
  rw [← hn0] at hn
  clear hn0
  by_cases h0 : left - (n : Int) < 0
  · have q : IntKind.i64.wrap (left - (n : Int)) = left - (n : Int) := by rw [IntKind.wrap_i64]; omega
    have HR : Hid (szR ss left = -1) := by show _ = _; unfold szR; rw [if_neg (by have := HN.out; omega)]
    go_enter Try.func11, Try.ntmps11
    go_wp2
    go_ret
    exact ⟨ret_int HR.out.symm, Below.refl _ _⟩
  have q : IntKind.i64.wrap (left - (n : Int)) = left - (n : Int) := by rw [IntKind.wrap_i64]; omega
  have hn20 : n ≤ 1048576 := by omega
  go_enter Try.func11, Try.ntmps11
  go_wp2
  clear q
  go_loopw [1, 5] (fun s1 s5 wr => ∃ (i : Nat) (l : Int), i ≤ n ∧ s5 = .int .i64 i ∧ s1 = .int .i64 l ∧ 0 ≤ l ∧ l = left - n - tot (ss.take i) ∧ wr = w) (fun _ s5 _ => n - (intOf s5).toNat)
  case atStart => exact ⟨0, left - n, by omega, rfl, rfl, by omega, by simp [tot], rfl⟩
  case round =>
    clear h0
    obtain ⟨i, l, hi, rfl, rfl, hl, hE0, rfl⟩ := hrel
    have hE : Hid (l = left - n - tot (ss.take i)) := hE0
    have hl2 : l ≤ 1048576 := by omega
    clear hE0
    have kk : (0 : Int) ≤ (i : Int) := by omega
    by_cases hlt : i < n
    · have hlt' : (i : Int) < (n : Int) := by omega
      have his : i < ss.length := by have := HN.out; omega
      rcases hr.out with h' | ⟨b, off, rfl, h2⟩
      · rw [h'] at his; simp at his
      have x0 := h2 i his
      have hsz : (ss[i]).size ≤ 9223372036854775807 := by have := HW.out _ (List.getElem_mem his); unfold maxLen at this; omega
      obtain ⟨s, hs⟩ : ∃ s, s = ss[i] := ⟨_, rfl⟩
      have HS : Hid (s = ss[i]) := hs
      rw [← hs] at x0 hsz
      clear h2 hs
      have q1 : IntKind.i64.wrap (l - (s.size : Int)) = l - (s.size : Int) := by rw [IntKind.wrap_i64]; omega
      have HT := tot_take_succ ss i his
      rw [← HS.out] at HT
      by_cases h0 : l - (s.size : Int) < 0
      · have HR : Hid (szR ss left = -1) := by
          show _ = _
          unfold szR
          rw [if_neg (by have := HN.out; have := hE.out; have := tot_take_le ss (i + 1); omega)]
        clear HT
        go_wp2
        go_ret
        exact ⟨ret_int HR.out.symm, Below.refl _ _⟩
      · have HT' : Hid (tot (ss.take (i + 1)) = tot (ss.take i) + s.size) := HT
        clear HT
        go_wp2
        go_roundw
        case rel => exact ⟨i + 1, l - s.size, by omega, by go_num, rfl, by omega, by have := hE.out; have := HT'.out; omega, by first | rfl | trivial⟩
        case measure => simp [intOf]; omega
    · have hlt' : ¬ (i : Int) < (n : Int) := by omega
      have HR : Hid (szR ss left = l) := by
        show _ = _
        unfold szR
        have h1 := HN.out
        have h2 := hE.out
        rw [List.take_of_length_le (by omega)] at h2
        rw [if_pos (by omega)]
        omega
      go_wp2
      go_ret
      exact ⟨(ret_int HR.out.symm), Below.refl _ _⟩
theorem info_str : (Try.prog.info? 9).map (fun i => (i.zero, i.size, i.bytes)) = some (some (.string ⟨#[]⟩), 1, 16) := by kernel_rfl
set_option maxHeartbeats 2000000 in
theorem toTexts_any (ao : Option Addr) (cap : Nat) (ss : List ByteArray) (w : World) (hn : ss.length ≤ 1048576) (hr0 : TRow w ao ss) :
    Calls Try.prog 15 #[.slice ao ss.length cap] w fun e w' => ∃ g, e = .returned (.slice (some ⟨g, 0, none⟩) ss.length ss.length) ∧ Below w.heap.size w w' ∧ w.heap.size ≤ g ∧ g < w'.heap.size ∧ w'.ownsRow 0 9 1 (.slice (some ⟨g, 0, none⟩) ss.length ss.length) ss.length (V ss) := by
  have hr : Hid (TRow w ao ss) := hr0
  clear hr0
  obtain ⟨n, hn0⟩ : ∃ n, n = ss.length := ⟨_, rfl⟩
  have HN : Hid (n = ss.length) := hn0
  rw [← hn0]
  rw [← hn0] at hn
  clear hn0
  obtain ⟨i0, hi, hz0, hz1, hz2⟩ := info_parts info_str
  obtain ⟨w0, hrun, hown, hgrow⟩ := run_make_full (P := Try.prog) w 0 22 9 i0 (.string ⟨#[]⟩) 1 Try.underlying22 hi hz0 hz1 .i64 .i64 n (by rw [hz2]; omega) (by unfold maxLen; omega) (Nat.zero_le _)
  have hO : Hid (w0.ownsRow 0 9 1 (.slice (some ⟨w.heap.size, 0, none⟩) n n) n (V (ss.take 0) ++ (List.replicate n (Value.string ⟨#[]⟩)).drop 0)) := by
    have := hown
    rw [show (Value.string ⟨#[]⟩).cells = #[.string ⟨#[]⟩] from rfl, toList_madeCells_one, Nat.mul_one] at this
    exact this
  have hB : Hid (Below w.heap.size w w0) := (Below.refl _ _).grown hgrow (Nat.le_refl _) (fun k e => by cases e)
  clear hown hgrow hi hz0 hz1 hz2
  go_enter Try.func15, Try.ntmps15
  go_wp2
  clear hrun
  go_loopw [4] (fun s4 wr => ∃ k : Nat, k ≤ n ∧ s4 = .int .i64 k ∧ Below w.heap.size w wr ∧ wr.ownsRow 0 9 1 (.slice (some ⟨w.heap.size, 0, none⟩) n n) n (V (ss.take k) ++ (List.replicate n (Value.string ⟨#[]⟩)).drop k)) (fun s4 _ => n - (intOf s4).toNat)
  case atStart => exact ⟨0, by omega, rfl, hB.out, hO.out⟩
  case round =>
    clear hO hB
    obtain ⟨k, hk, rfl, hB0, hO0⟩ := hrel
    have hB : Hid (Below w.heap.size w wr) := hB0
    have hO : Hid (wr.ownsRow 0 9 1 (.slice (some ⟨w.heap.size, 0, none⟩) n n) n (V (ss.take k) ++ (List.replicate n (Value.string ⟨#[]⟩)).drop k)) := hO0
    clear hB0 hO0
    have kk : (0 : Int) ≤ (k : Int) := by omega
    by_cases hkl : k < n
    · have hkl' : (k : Int) < (n : Int) := by omega
      have his : k < ss.length := by have := HN.out; omega
      rcases hr.out with h' | ⟨b, off, rfl, h2⟩
      · rw [h'] at his; simp at his
      have x0 := cell_next hB.out (h2 k his) (cell_lt' (h2 k his))
      obtain ⟨s, hs⟩ : ∃ s, s = ss[k] := ⟨_, rfl⟩
      have HS : Hid (s = ss[k]) := hs
      rw [← hs] at x0
      clear h2 hs
      obtain ⟨u, y0⟩ : ∃ u, wr.cell? ⟨w.heap.size, k, none⟩ = some u := by
        rw [hO.out.cellAt k (by omega)]
        have : k < (V (ss.take k) ++ (List.replicate n (Value.string ⟨#[]⟩)).drop k).length := by simp [V]; omega
        exact ⟨_, List.getElem?_eq_getElem this⟩
      have z0 : wr.frozen? ⟨w.heap.size, k, none⟩ = false := hO.out.frozenAt k
      have S1 : Hid ((wr.setCell ⟨w.heap.size, k, none⟩ (.string s)).ownsRow 0 9 1 (.slice (some ⟨w.heap.size, 0, none⟩) n n) n (V (ss.take (k + 1)) ++ (List.replicate n (Value.string ⟨#[]⟩)).drop (k + 1))) := by
        have h1 := (hO.out.stored k (.string s)).1
        have hl : (V (ss.take k)).length = k := by simp [V]; omega
        rw [List.set_append_right _ _ (by omega), hl, Nat.sub_self, List.drop_eq_getElem_cons (by simp; omega)] at h1
        rw [List.take_succ_eq_append_getElem his, V_app, ← HS.out]
        show World.ownsRow _ 0 9 1 _ _ _
        simpa [V] using h1
      have B1 : Hid (Below w.heap.size w (wr.setCell ⟨w.heap.size, k, none⟩ (.string s))) := hB.out.setCell (Nat.le_refl _) _
      go_wp2
      go_roundw
      case rel => first | exact ⟨k + 1, by omega, by go_num, B1.out, S1.out⟩ | ((repeat apply Exists.intro); exact ⟨⟨k + 1, by omega, by go_num, B1.out, S1.out⟩, rfl⟩)
      case measure => simp [intOf]; omega
    · have hkl' : ¬ (k : Int) < (n : Int) := by omega
      have HO : Hid (wr.ownsRow 0 9 1 (.slice (some ⟨w.heap.size, 0, none⟩) n n) n (V ss)) := by
        have h1 := hO.out
        have h2 := HN.out
        rw [List.take_of_length_le (by omega), List.drop_of_length_le (by simp; omega), List.append_nil] at h1
        exact h1
      go_wp2
      go_ret
      exact ⟨_, rfl, hB.out, Nat.le_refl _, (HO.out.lt _ rfl).2, HO.out⟩
set_option maxHeartbeats 2000000 in
theorem eqTexts_same (cap cp : Nat) (ao bo : Option Addr) (ss : List ByteArray) (w : World) (hm : ss.length ≤ 1048576) (hr0 : TRow w ao ss) (hs0 : TRow w bo ss) :
    Calls Try.prog 20 #[.slice ao ss.length cap, .slice bo ss.length cp] w fun e w' => e = .returned (.bool true) ∧ Below w.heap.size w w' := by
  have hr : Hid (TRow w ao ss) := hr0
  have hs : Hid (TRow w bo ss) := hs0
  clear hr0 hs0
  obtain ⟨n, hn0⟩ : ∃ n, n = ss.length := ⟨_, rfl⟩
  have hn : Hid (n = ss.length) := hn0
  rw [← hn0]
  rw [← hn0] at hm
  clear hn0
  go_enter Try.func20, Try.ntmps20
  go_wp2
  go_loopw [5] (fun s5 wr => ∃ k : Nat, k ≤ n ∧ s5 = .int .i64 k ∧ Below w.heap.size w wr) (fun s5 _ => n - (intOf s5).toNat)
  case atStart => exact ⟨0, by omega, rfl, Below.refl _ _⟩
  case round =>
    obtain ⟨k, hk, rfl, hB0⟩ := hrel
    have hB : Hid (Below w.heap.size w wr) := hB0
    clear hB0
    by_cases hkl : k < n
    · have hkl' : (k : Int) < (n : Int) := by omega
      have kz : k < ss.length := by have := hn.out; omega
      rcases hr.out with h' | ⟨b, off, rfl, h2⟩
      · rw [h'] at kz; simp at kz
      rcases hs.out with h' | ⟨c, oft, rfl, h3⟩
      · rw [h'] at kz; simp at kz
      have x0 := cell_next hB.out (h2 k kz) (cell_lt' (h2 k kz))
      have y0 := cell_next hB.out (h3 k kz) (cell_lt' (h3 k kz))
      obtain ⟨s, hs⟩ : ∃ s, s = ss[k] := ⟨_, rfl⟩
      rw [← hs] at x0 y0
      have k0 : (0 : Int) ≤ (k : Int) := by omega
      clear h2 h3 hs
      go_wp2
      go_quiet (fail)
      go_wp2
      go_roundw
      case rel => first | exact ⟨k + 1, by omega, by go_num, below_drewN hB.out _⟩ | ((repeat apply Exists.intro); exact ⟨⟨k + 1, by omega, by go_num, below_drewN hB.out _⟩, rfl⟩)
      case measure => simp [intOf]; omega
    · have hkl' : ¬ (k : Int) < (n : Int) := by omega
      go_wp2
      go_ret
      exact ⟨rfl, hB.out⟩

end Go.Proofs.Ytmogmamijnkpdaa
