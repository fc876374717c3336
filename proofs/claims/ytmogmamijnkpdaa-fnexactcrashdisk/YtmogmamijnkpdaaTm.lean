/- Marks: what is written into rows of texts, and that it is held. -/
import Derived.Test.YtmogmamijnkpdaaRows
import Derived.WalkKit
import Derived.WalkSpells
import Derived.WalkLawsBesides
import Derived.Deep.QuietTactic
import Derived.BigQuiet
import Derived.Deep.RegionHeld3
import Derived.Test.YtmogmamijnkpdaaDk
import Derived.LoopN
import Derived.Lib.ConvBytes
namespace Go.Proofs.Ytmogmamijnkpdaa
open Go.RowKit
set_option linter.unusedSimpArgs false
set_option linter.unusedVariables false

/-- A disk's two cells in its box. -/
def Cb (W : World) (g : Nat) (v0 v1 : Value) : Prop := W.cell? ⟨g, 0, none⟩ = some v0 ∧ W.cell? ⟨g, 1, none⟩ = some v1
theorem cb_next {W W' : World} {g : Nat} {v0 v1 : Value} (h : Hid (Cb W g v0 v1)) (hb : Below W.heap.size W W') (hl : Hid (g < W.heap.size)) : Hid (Cb W' g v0 v1) := ⟨cell_next hb h.out.1 hl.out, cell_next hb h.out.2 hl.out⟩
theorem box_new {W : World} {v0 v1 : Value} {t : TypeId} : Hid (Cb (W.alloc (.cells #[v0, v1] t)) W.heap.size v0 v1) := by
  refine ⟨?_, ?_⟩ <;> go_simp
theorem box_alloc {W : World} {g o : Nat} {v : Value} {b : Obj} (h : W.cell? ⟨g, o, none⟩ = some v) (hl : g < W.heap.size) : (W.alloc b).cell? ⟨g, o, none⟩ = some v := cell_next (bel_alloc _ _) h hl
theorem o2_next {W W' : World} {v0 v1 : Value} {rs ru : List ByteArray} {lo hi : Nat} (h : Hid (Own2 W v0 v1 rs ru lo hi)) (hb : Below W.heap.size W W') : Hid (Own2 W' v0 v1 rs ru lo hi) := h.out.next hb
theorem own_slice {W : World} {e n : Nat} {v : Value} {xs : List Value} (h : W.ownsRow 0 e 1 v n xs) : ∃ ao cap, v = .slice ao n cap := by
  rcases h.2 with ⟨rfl, hn⟩ | ⟨g, cap', cur, rfl, _⟩
  · exact ⟨none, 0, by rw [hn]⟩
  · exact ⟨_, _, rfl⟩
theorem sz_hid {W W' : World} {n : Nat} (hb : Below n W W') : Hid (W.heap.size ≤ W'.heap.size) := hb.size
theorem sz_alloc {W : World} {o : Obj} : Hid (W.heap.size + 1 ≤ (W.alloc o).heap.size) := by show _ ≤ _; simp

/-- The digits of k, none of 0. -/
def mtP (k : Nat) : List UInt8 := if h : k = 0 then [] else mtP (k / 10) ++ [UInt8.ofNat (48 + k % 10)]
termination_by k
decreasing_by omega
/-- The k-th mark. -/
def mt (k : Nat) : ByteArray := ⟨#[109]⟩ ++ ⟨(mtP k).toArray⟩
theorem conv_one (W : World) (b : Nat) (c : UInt8) (h : W.cell? ⟨b, 0, none⟩ = some (.int .u8 (c.toNat : Int))) : Sem.run Try.prog (convert 43 9 (.slice (some ⟨b, 0, none⟩) 1 1)) W = .ok (.string ⟨#[c]⟩) W := by
  have := run_convert_bytes_back (P := Try.prog) W 43 9 5 ⟨b, 0, none⟩ 1 [c] Try.underlying43 Try.underlying5 Try.underlying9 (fun j hj => by
    have hj0 : j = 0 := by simpa using hj
    subst hj0
    exact h)
  exact this
theorem u8_small (n : Nat) (h : n < 256) : (UInt8.ofNat n).toNat = n := by simp; omega
theorem mt_step (j : Nat) (out : ByteArray) (c : UInt8) (hj : 0 < j) (hc : c = UInt8.ofNat (48 + j % 10)) : mtP j ++ out.data.toList = mtP (j / 10) ++ ((⟨#[c]⟩ : ByteArray) ++ out).data.toList := by
  rw [mtP, dif_neg (by omega), hc]
  simp
set_option maxHeartbeats 2000000 in
theorem markText_any (k : Nat) (h1 : 1 ≤ k) (hk : k ≤ 1000000000) (w : World) :
    Calls Try.prog 23 #[.int .i64 k] w fun e w' => e = .returned (.string (mt k)) ∧ Below w.heap.size w w' := by
  have h0 : ¬ (k : Int) ≤ 0 := by omega
  go_enter Try.func23, Try.ntmps23
  go_wp2
  go_loopw [0, 3] (fun s0 s3 wr => ∃ (j : Nat) (out : ByteArray), j ≤ k ∧ s0 = .int .i64 j ∧ s3 = .string out ∧ out.size + j ≤ k ∧ mtP k = mtP j ++ out.data.toList ∧ Below w.heap.size w wr) (fun s0 _ _ => (intOf s0).toNat)
  case atStart => exact ⟨k, ⟨#[]⟩, by omega, rfl, rfl, (show 0 + k ≤ k by omega), by simp, Below.refl _ _⟩
  case round =>
    obtain ⟨j, out, hj, rfl, rfl, hs, hE0, hB0⟩ := hrel
    have hE : Hid (mtP k = mtP j ++ out.data.toList) := hE0
    have hB : Hid (Below w.heap.size w wr) := hB0
    clear hE0 hB0
    by_cases hp : 0 < j
    · have hp' : (0 : Int) < (j : Int) := by omega
      have hp2 : (0 : Int) ≤ (j : Int) := by omega
      have q1 : IntKind.i64.wrap ((j : Int) / 10) = (j : Int) / 10 := by rw [IntKind.wrap_i64]; omega
      have q2 : ((j : Int)).tmod 10 = (j : Int) % 10 := Int.tmod_eq_emod_of_nonneg hp2
      have q3 : IntKind.i64.wrap (48 + (j : Int) % 10) = 48 + (j : Int) % 10 := by rw [IntKind.wrap_i64]; omega
      have q4 : IntKind.u8.wrap (48 + (j : Int) % 10) = 48 + (j : Int) % 10 := by unfold IntKind.wrap; simp [IntKind.bits, IntKind.signed]; omega
      have q5 : ((j : Int)).tdiv 10 = (j : Int) / 10 := Int.tdiv_eq_ediv_of_nonneg hp2
      obtain ⟨c, hc⟩ : ∃ c : UInt8, c = UInt8.ofNat (48 + j % 10) := ⟨_, rfl⟩
      have hcn : (c.toNat : Int) = 48 + (j : Int) % 10 := by rw [hc, u8_small _ (by omega)]; omega
      have hcv := conv_one (wr.alloc (.cells #[.int .u8 (48 + (j : Int) % 10)] 5)) wr.heap.size c (by rw [hcn]; go_simp)
      have HS : Hid (mtP k = mtP (j / 10) ++ ((⟨#[c]⟩ : ByteArray) ++ out).data.toList) := by show _ = _; rw [hE.out, mt_step j out c hp hc]
      have HZ : Hid (((⟨#[c]⟩ : ByteArray) ++ out).size + j / 10 ≤ k) := by
        show _ ≤ _
        rw [ByteArray.size_append, show (⟨#[c]⟩ : ByteArray).size = 1 from rfl]
        omega
      have hov : ¬ 9223372036854775807 < 1 + out.size := by omega
      have hov' : ¬ 9223372036854775807 < out.size + 1 := by omega
      have B1 : Hid (∀ o, Below w.heap.size w (wr.alloc o)) := fun o => (bel_next hB (bel_alloc _ _)).out
      clear hc hcn
      go_wp2
      go_roundw
      case rel => exact ⟨j / 10, ⟨#[c]⟩ ++ out, by omega, by first | rfl | go_num | simp, by first | rfl | simp, HZ.out, HS.out, B1.out _⟩
      case measure => simp [intOf]; omega
    · have hp' : ¬ (0 : Int) < (j : Int) := by omega
      have hov : ¬ 9223372036854775807 < 1 + out.size := by omega
      have hov' : ¬ 9223372036854775807 < out.size + 1 := by omega
      have HR : Hid (mt k = ⟨#[109]⟩ ++ out) := by
        show _ = _
        have e : mtP j = [] := by rw [mtP, dif_pos (by omega)]
        unfold mt
        rw [hE.out, e]
        simp
      go_wp2
      go_ret
      exact ⟨by rw [HR.out]; rfl, hB.out⟩
/-- Marks from k on. -/
def mks (k n : Nat) : List ByteArray := (List.range n).map fun i => mt (k + i)
theorem mks_len (k n : Nat) : (mks k n).length = n := by simp [mks]
theorem mks_at (k n i : Nat) (h : i < n) : (V (mks k n))[i]? = some (.string (mt (k + i))) := by simp [V, mks, h]
theorem mks_succ (k n : Nat) : mks k (n + 1) = mks k n ++ [mt (k + n)] := by simp [mks, List.range_succ]
theorem mks_set (k j : Nat) (xs : List Value) (h : j < xs.length) : (V (mks k j) ++ xs.drop j).set j (.string (mt (k + j))) = V (mks k (j + 1)) ++ xs.drop (j + 1) := by
  have hl : (V (mks k j)).length = j := by rw [V_len, mks_len]
  rw [List.set_append_right _ _ (by omega), hl, Nat.sub_self, mks_succ, V_app, List.append_assoc, List.drop_eq_getElem_cons h]
  rfl
/-- Of what was there only blocks from lo to hi may have changed. -/
structure Chg (lo hi : Nat) (w w' : World) : Prop where
  os : w'.os = w.os
  tape : w'.tape = w.tape
  output : w'.output = w.output
  size : w.heap.size ≤ w'.heap.size
  block : ∀ b, b < w.heap.size → (b < lo ∨ hi ≤ b) → w'.heap[b]? = w.heap[b]?
theorem Chg.refl (lo hi : Nat) (w : World) : Chg lo hi w w := ⟨rfl, rfl, rfl, Nat.le_refl _, fun _ _ _ => rfl⟩
theorem Chg.trans {lo hi : Nat} {w w1 w2 : World} (h : Chg lo hi w w1) (k : Chg lo hi w1 w2) : Chg lo hi w w2 :=
  ⟨k.os.trans h.os, k.tape.trans h.tape, k.output.trans h.output, Nat.le_trans h.size k.size, fun b hb hne => (k.block b (Nat.lt_of_lt_of_le hb h.size) hne).trans (h.block b hb hne)⟩
theorem Chg.of_below {lo hi : Nat} {w w' : World} (h : Below w.heap.size w w') : Chg lo hi w w' := ⟨h.os, h.tape, h.output, h.size, fun b hb _ => h.block b hb⟩
theorem Chg.set {lo hi g o : Nat} {w : World} {u : Value} (h1 : lo ≤ g) (h2 : g < hi) : Chg lo hi w (w.setCell ⟨g, o, none⟩ u) :=
  ⟨by simp [World.setCell], by simp [World.setCell], by simp [World.setCell], by simp [World.setCell], fun b _ hne => Below.heap_setCell w ⟨g, o, none⟩ u b (fun e => by simp at e; omega)⟩
theorem Chg.cell {lo hi b o : Nat} {w w' : World} {v : Value} (h : Chg lo hi w w') (hc : w.cell? ⟨b, o, none⟩ = some v) (hb : b < lo ∨ hi ≤ b) : w'.cell? ⟨b, o, none⟩ = some v := by
  rw [World.cell?_of_block (w := w) (h.block b (cell_lt' hc) hb)]; exact hc
theorem Chg.own {lo hi e n : Nat} {w w' : World} {v : Value} {xs : List Value} (h : Chg lo hi w w') (ho : w.ownsRow 0 e 1 v n xs) (hb : ∀ k, v.ownBlock = some k → k < lo ∨ hi ≤ k) : w'.ownsRow 0 e 1 v n xs := by
  refine ⟨ho.1, ?_⟩
  rcases ho.2 with h' | ⟨g, cap, cur, rfl, hg, hh, r⟩
  · exact .inl h'
  · refine .inr ⟨g, cap, cur, rfl, hg, ?_, r⟩
    rw [h.block g (by
      rcases Nat.lt_or_ge g w.heap.size with h' | h'
      · exact h'
      · rw [Array.getElem?_eq_none h'] at hh; cases hh) (hb g rfl)]
    exact hh
set_option maxHeartbeats 2000000 in
theorem markTexts_any (v : Value) (n k lo hi : Nat) (xs : List Value) (w : World) (hm : n ≤ 1048576) (h1 : 1 ≤ k) (hk : k ≤ 100000000) (hO0 : w.ownsRow 0 9 1 v n xs) (hb0 : ∀ g, v.ownBlock = some g → lo ≤ g ∧ g < hi) :
    Calls Try.prog 21 #[v, .int .i64 k] w fun e w' => e = .returned (.int .i64 (k + n : Nat)) ∧ Chg lo hi w w' ∧ w'.ownsRow 0 9 1 v n (V (mks k n)) := by
  obtain ⟨ao, cap, rfl⟩ := own_slice hO0
  have hO : Hid (w.ownsRow 0 9 1 (.slice ao n cap) n xs) := hO0
  have hX : Hid (xs.length = n) := by have := hO0.1; show _ = _; omega
  have hL : Hid (∀ g, Value.ownBlock (.slice ao n cap) = some g → lo ≤ g ∧ g < hi) := hb0
  clear hO0 hb0
  go_enter Try.func21, Try.ntmps21
  go_wp2
  go_loopw [1, 5] (fun s1 s5 wr => ∃ j : Nat, j ≤ n ∧ s5 = .int .i64 j ∧ s1 = .int .i64 ((k : Int) + j) ∧ Chg lo hi w wr ∧ wr.ownsRow 0 9 1 (.slice ao n cap) n (V (mks k j) ++ xs.drop j)) (fun _ s5 _ => n - (intOf s5).toNat)
  case atStart => exact ⟨0, by omega, rfl, by simp, Chg.refl _ _ _, by simpa [V, mks] using hO.out⟩
  case round =>
    obtain ⟨j, hj, rfl, rfl, hG0, hO1⟩ := hrel
    have hG : Hid (Chg lo hi w wr) := hG0
    have hP : Hid (wr.ownsRow 0 9 1 (.slice ao n cap) n (V (mks k j) ++ xs.drop j)) := hO1
    clear hG0 hO1 hO
    have j0 : (0 : Int) ≤ (j : Int) := by omega
    by_cases hjn : j < n
    · have hjn' : (j : Int) < (n : Int) := by omega
      have hxj : j < xs.length := by have := hX.out; omega
      obtain ⟨g, rfl⟩ : ∃ g, ao = some ⟨g, 0, none⟩ := by
        rcases hP.out.2 with ⟨h', hz⟩ | ⟨g, cap', cur, h', _⟩
        · omega
        · cases h'; exact ⟨g, rfl⟩
      have hkj : (k : Int) + (j : Int) = ((k + j : Nat) : Int) := by omega
      have MT : Hid (∀ W, Calls Try.prog 23 #[.int .i64 ((k : Int) + (j : Int))] W fun e w' => e = .returned (.string (mt (k + j))) ∧ Below W.heap.size W w') := fun W => by rw [hkj]; exact markText_any (k + j) (by omega) (by omega) W
      clear hkj
      go_wp2_with fail
      refine Calls.mono (MT.out _) ?_
      rintro e w1 ⟨rfl, hb⟩
      have hP1 : Hid (w1.ownsRow 0 9 1 (.slice (some ⟨g, 0, none⟩) n cap) n (V (mks k j) ++ xs.drop j)) := own_next hP.out hb
      have hG1 : Hid (Chg lo hi w w1) := hG.out.trans (Chg.of_below hb)
      clear hb hP hG
      obtain ⟨u, y0⟩ : ∃ u, w1.cell? ⟨g, j, none⟩ = some u := by
        rw [hP1.out.cellAt j (by omega)]
        have : j < (V (mks k j) ++ xs.drop j).length := by simp [V_len, mks_len]; omega
        exact ⟨_, List.getElem?_eq_getElem this⟩
      have z0 : w1.frozen? ⟨g, j, none⟩ = false := hP1.out.frozenAt j
      have S1 : Hid ((w1.setCell ⟨g, j, none⟩ (.string (mt (k + j)))).ownsRow 0 9 1 (.slice (some ⟨g, 0, none⟩) n cap) n (V (mks k (j + 1)) ++ xs.drop (j + 1))) := by
        have := (hP1.out.stored j (.string (mt (k + j)))).1
        rw [mks_set k j xs hxj] at this
        exact this
      have G1 : Hid (Chg lo hi w (w1.setCell ⟨g, j, none⟩ (.string (mt (k + j))))) := hG1.out.trans (Chg.set (hL.out g rfl).1 (hL.out g rfl).2)
      generalize mt (k + j) = mm at *
      go_wp2
      go_roundw
      case rel => first | exact ⟨j + 1, by omega, by go_num, by go_num, G1.out, S1.out⟩ | ((repeat apply Exists.intro); exact ⟨⟨j + 1, by omega, by go_num, by go_num, G1.out, S1.out⟩, rfl⟩)
      case measure => simp [intOf]; omega
    · have hjn' : ¬ (j : Int) < (n : Int) := by omega
      have e : j = n := by omega
      subst e
      have O9 : Hid (wr.ownsRow 0 9 1 (.slice ao j cap) j (V (mks k j))) := by
        have := hP.out
        rw [List.drop_of_length_le (by have := hX.out; omega), List.append_nil] at this
        exact this
      go_wp2
      go_ret
      exact ⟨ret_int (by omega), hG.out, O9.out⟩
set_option maxHeartbeats 2000000 in
theorem heldTexts_any (v : Value) (n k : Nat) (w : World) (hm : n ≤ 1048576) (h1 : 1 ≤ k) (hk : k ≤ 100000000) (hO0 : w.ownsRow 0 9 1 v n (V (mks k n))) :
    Calls Try.prog 22 #[v, .int .i64 k] w fun e w' => e = .returned (.int .i64 (k + n : Nat)) ∧ Below w.heap.size w w' := by
  obtain ⟨ao, cap, rfl⟩ := own_slice hO0
  have hO : Hid (w.ownsRow 0 9 1 (.slice ao n cap) n (V (mks k n))) := hO0
  clear hO0
  go_enter Try.func22, Try.ntmps22
  go_wp2
  go_loopw [1, 5] (fun s1 s5 wr => ∃ j : Nat, j ≤ n ∧ s5 = .int .i64 j ∧ s1 = .int .i64 ((k : Int) + j) ∧ Below w.heap.size w wr) (fun _ s5 _ => n - (intOf s5).toNat)
  case atStart => exact ⟨0, by omega, rfl, by simp, Below.refl _ _⟩
  case round =>
    obtain ⟨j, hj, rfl, rfl, hB0⟩ := hrel
    have hB : Hid (Below w.heap.size w wr) := hB0
    clear hB0
    have j0 : (0 : Int) ≤ (j : Int) := by omega
    by_cases hjn : j < n
    · have hjn' : (j : Int) < (n : Int) := by omega
      obtain ⟨g, rfl⟩ : ∃ g, ao = some ⟨g, 0, none⟩ := by
        rcases hO.out.2 with ⟨h', hz⟩ | ⟨g, cap', cur, h', _⟩
        · omega
        · cases h'; exact ⟨g, rfl⟩
      have hO1 := own_next hO.out hB.out
      have x0 : wr.cell? ⟨g, j, none⟩ = some (.string (mt (k + j))) := by
        rw [hO1.cellAt j (by omega)]
        exact mks_at k n j hjn
      have hgl : g < wr.heap.size := cell_lt' x0
      have hkj : (k : Int) + (j : Int) = ((k + j : Nat) : Int) := by omega
      have MT : Hid (∀ W, Calls Try.prog 23 #[.int .i64 ((k : Int) + (j : Int))] W fun e w' => e = .returned (.string (mt (k + j))) ∧ Below W.heap.size W w') := fun W => by rw [hkj]; exact markText_any (k + j) (by omega) (by omega) W
      clear hO1 hkj
      generalize mt (k + j) = mm at *
      go_wp2
      refine wp_region_held_drew (S := (fun w' => w'.cell? ⟨g, j, none⟩ = some (.string mm) ∧ g < w'.heap.size ∧ Below w.heap.size w w')) (by kernel_rfl) ?_ (fun hHeld => ?_)
      · (try dsimp only)
        exact ⟨cell_next (bel_drew _) x0 hgl, Nat.lt_of_lt_of_le hgl (bel_drew _).size, (bel_next (w := w) hB (bel_drew _)).out⟩
      refine wpAnyH_take (i := 0) (v := ?_) rfl (by kernel_rfl) (by kernel_rfl) (by kernel_rfl) (fun _ _ _ h => h) (Or.inl ⟨by rfl, ?_⟩) (by assumption) ?_
      rotate_left
      · intro w' hSw
        (try dsimp only at hSw)
        go_simp
        all_goals (try with_reducible rfl)
      (try simp only [Act.put, List.getElem_toArray, List.getElem_cons_zero, List.getElem_cons_succ, List.setIfInBounds_toArray, List.set_cons_zero, List.set_cons_succ])
      refine wpAnyH_take (i := 1) (v := ?_) rfl (by kernel_rfl) (by kernel_rfl) (by kernel_rfl) (fun _ _ _ h => h) (Or.inl ⟨by rfl, ?_⟩) (by assumption) ?_
      rotate_left
      · intro w' hSw
        (try dsimp only at hSw)
        go_simp
        all_goals (try with_reducible rfl)
      (try simp only [Act.put, List.getElem_toArray, List.getElem_cons_zero, List.getElem_cons_succ, List.setIfInBounds_toArray, List.set_cons_zero, List.set_cons_succ])
      refine wpAnyH_take (i := 4) (v := ?_) rfl (by kernel_rfl) (by kernel_rfl) (by kernel_rfl) (fun _ _ _ h => h) (Or.inl ⟨by rfl, ?_⟩) (by assumption) ?_
      rotate_left
      · intro w' hSw
        (try dsimp only at hSw)
        go_simp
        all_goals (try with_reducible rfl)
      (try simp only [Act.put, List.getElem_toArray, List.getElem_cons_zero, List.getElem_cons_succ, List.setIfInBounds_toArray, List.set_cons_zero, List.set_cons_succ])
      refine wpAnyH_take (i := 2) (v := ?_) rfl (by kernel_rfl) (by kernel_rfl) (by kernel_rfl) (fun _ _ _ h => h) (Or.inl ⟨by rfl, ?_⟩) (by assumption) ?_
      rotate_left
      · intro w' hSw
        (try dsimp only at hSw)
        go_simp
        all_goals (try with_reducible rfl)
      (try simp only [Act.put, List.getElem_toArray, List.getElem_cons_zero, List.getElem_cons_succ, List.setIfInBounds_toArray, List.set_cons_zero, List.set_cons_succ])
      refine wpAnyH_take (i := 3) (v := ?_) rfl (by kernel_rfl) (by kernel_rfl) (by kernel_rfl) (fun _ _ _ h => h) (Or.inl ⟨by rfl, ?_⟩) (by assumption) ?_
      rotate_left
      · intro w' hSw
        (try dsimp only at hSw)
        go_simp
        all_goals (try with_reducible rfl)
      (try simp only [Act.put, List.getElem_toArray, List.getElem_cons_zero, List.getElem_cons_succ, List.setIfInBounds_toArray, List.set_cons_zero, List.set_cons_succ])
      refine wpAnyH_ready (rs := [5]) (by kernel_rfl) (by simp) ?_
      refine AllReadyH.cons rfl (fun K hK => ?_) AllReadyH.nil
      (try simp only [Act.put, List.getElem_toArray, List.getElem_cons_zero, List.getElem_cons_succ, List.setIfInBounds_toArray, List.set_cons_zero, List.set_cons_succ])
      go_simp
      (go_at_call 23; refine Calls.mono (MT.out _) ?_; rintro e w1 ⟨rfl, hb⟩)
      (try simp only [])
      refine hK.out _ _ ?_ (fun hHeld' => ?_)
      · (try dsimp only)
        exact ⟨cell_next hb hHeld.1 hHeld.2.1, Nat.lt_of_lt_of_le hHeld.2.1 hb.size, (bel_next (w := w) hHeld.2.2 hb).out⟩
      clear hK K
      clear hHeld
      have hHeld := hHeld'
      clear hHeld'
      clear hb
      (try simp only [Act.put, List.getElem_toArray, List.getElem_cons_zero, List.getElem_cons_succ, List.setIfInBounds_toArray, List.set_cons_zero, List.set_cons_succ])
      refine wpAnyH_take (i := 6) (v := ?_) rfl (by kernel_rfl) (by kernel_rfl) (by kernel_rfl) (fun _ _ _ h => h) (Or.inl ⟨by rfl, ?_⟩) (by assumption) ?_
      rotate_left
      · intro w' hSw
        (try dsimp only at hSw)
        go_simp
        all_goals (try with_reducible rfl)
      (try simp only [Act.put, List.getElem_toArray, List.getElem_cons_zero, List.getElem_cons_succ, List.setIfInBounds_toArray, List.set_cons_zero, List.set_cons_succ])
      refine wpAnyH_done (by kernel_rfl) ?_ _

      have HB1 : Hid (Below w.heap.size w _) := hHeld.2.2
      clear hHeld x0 hgl
      go_wp2
      go_roundw
      case rel => first | exact ⟨j + 1, by omega, by go_num, by go_num, HB1.out⟩ | ((repeat apply Exists.intro); exact ⟨⟨j + 1, by omega, by go_num, by go_num, HB1.out⟩, rfl⟩)
      case measure => simp [intOf]; omega
    · have hjn' : ¬ (j : Int) < (n : Int) := by omega
      have e : j = n := by omega
      subst e
      go_wp2
      go_ret
      exact ⟨ret_int (by omega), hB.out⟩

/-- Two rows that are marked. -/
structure Mkd (W : World) (v0 v1 : Value) (n m k lo hi : Nat) : Prop where
  r0 : W.ownsRow 0 9 1 v0 n (V (mks k n))
  r1 : W.ownsRow 0 9 1 v1 m (V (mks (k + n) m))
theorem mkd_next {W W' : World} {v0 v1 : Value} {n m k lo hi : Nat} (h : Hid (Mkd W v0 v1 n m k lo hi)) (hb : Below W.heap.size W W') : Hid (Mkd W' v0 v1 n m k lo hi) := ⟨own_next h.out.r0 hb, own_next h.out.r1 hb⟩
theorem Chg.wide {lo hi a b : Nat} {w w' : World} (h : Chg a b w w') (h1 : lo ≤ a) (h2 : b ≤ hi ∨ b ≤ a) : Chg lo hi w w' := ⟨h.os, h.tape, h.output, h.size, fun x hb hne => h.block x hb (by omega)⟩
theorem blk_of {v : Value} {lo hi : Nat} (h : ∀ k, v.ownBlock = some k → lo ≤ k ∧ k < hi) : ∃ a b, lo ≤ a ∧ (b ≤ hi ∨ b ≤ a) ∧ (∀ k, v.ownBlock = some k → a ≤ k ∧ k < b) ∧ (∀ k, v.ownBlock ≠ some k → k < a ∨ b ≤ k) := by
  cases hv : v.ownBlock with
  | none => exact ⟨lo, lo, Nat.le_refl _, .inr (Nat.le_refl _), fun k hk => (by cases hk), fun k _ => by omega⟩
  | some g => exact ⟨g, g + 1, (h g hv).1, .inl (h g hv).2, fun k hk => (by cases hk; omega), fun k hk => by have : g ≠ k := fun e => hk (by rw [e]); omega⟩
set_option maxHeartbeats 1000000 in
theorem markDisk_any (v0 v1 : Value) (rs ru : List ByteArray) (k lo hi : Nat) (w : World) (hn : rs.length ≤ 1048576) (hn' : ru.length ≤ 1048576) (h1 : 1 ≤ k) (hk : k ≤ 10000000) (hO0 : Own2 w v0 v1 rs ru lo hi) (hhi : hi ≤ w.heap.size) :
    Calls Try.prog 9 #[.agg #[v0, v1], .int .i64 k] w fun e w' => e = .returned (.int .i64 (k + rs.length + ru.length : Nat)) ∧ Chg lo hi w w' ∧ Mkd w' v0 v1 rs.length ru.length k lo hi := by
  obtain ⟨p0, c0, e0⟩ := own_slice hO0.r0
  obtain ⟨p1, c1, e1⟩ := own_slice hO0.r1
  have hO : Hid (Own2 w v0 v1 rs ru lo hi) := hO0
  have E1 : Hid (v1 = .slice p1 ru.length c1) := e1
  obtain ⟨n, hn0⟩ : ∃ n, n = rs.length := ⟨_, rfl⟩
  obtain ⟨m, hm0⟩ : ∃ m, m = ru.length := ⟨_, rfl⟩
  have HN : Hid (n = rs.length) := hn0
  have HM : Hid (m = ru.length) := hm0
  rw [← hn0, ← hm0]
  rw [← hn0] at hn e0
  rw [← hm0] at hn' e1
  clear hO0 hn0 hm0 E1
  subst e0
  subst e1
  go_enter Try.func9, Try.ntmps9
  go_wp2_with fail
  have B0 : Hid (∀ o, Below w.heap.size w (w.alloc o)) := fun o => bel_alloc _ _
  obtain ⟨a, b, hla, hab, hin, hout⟩ := blk_of hO.out.b0
  obtain ⟨a', b', hla', hab', hin', hout'⟩ := blk_of hO.out.b1
  have HA : Hid (lo ≤ a ∧ (b ≤ hi ∨ b ≤ a) ∧ (∀ k, (Value.slice p0 n c0).ownBlock = some k → a ≤ k ∧ k < b) ∧ (∀ k, (Value.slice p0 n c0).ownBlock ≠ some k → k < a ∨ b ≤ k)) := ⟨hla, hab, hin, hout⟩
  have HA' : Hid (lo ≤ a' ∧ (b' ≤ hi ∨ b' ≤ a') ∧ (∀ k, (Value.slice p1 m c1).ownBlock = some k → a' ≤ k ∧ k < b') ∧ (∀ k, (Value.slice p1 m c1).ownBlock ≠ some k → k < a' ∨ b' ≤ k)) := ⟨hla', hab', hin', hout'⟩
  clear hla hab hin hout hla' hab' hin' hout'
  refine (markTexts_any (.slice p0 n c0) n k a b (V rs) _ hn h1 (by omega) (by have := own_next hO.out.r0 (B0.out (.cells #[.slice p0 n c0, .slice p1 m c1] 26)); rw [← HN.out] at this; exact this) HA.out.2.2.1).mono ?_
  rintro e w1 ⟨rfl, hg, hM⟩
  have HX : Hid (Chg lo hi w w1) := (Chg.of_below (B0.out _)).trans (hg.wide HA.out.1 HA.out.2.1)
  have y1 : w1.cell? ⟨w.heap.size, 1, none⟩ = some (.slice p1 m c1) := hg.cell (by go_simp) (HA.out.2.2.2 _ (fun e => by have := hO.out.b0 _ e; omega))
  have HU : Hid (w1.ownsRow 0 9 1 (.slice p1 m c1) m (V ru)) := by
    have := hg.own (own_next hO.out.r1 (B0.out (.cells #[.slice p0 n c0, .slice p1 m c1] 26))) (fun k hk => HA.out.2.2.2 k (fun e => hO.out.ne k e hk))
    rw [← HM.out] at this
    exact this
  have HM0 : Hid (w1.ownsRow 0 9 1 (.slice p0 n c0) n (V (mks k n))) := hM
  clear hg hM
  have hkn : (k : Int) + (n : Int) = ((k + n : Nat) : Int) := by omega
  have MT : Hid (∀ W, W.ownsRow 0 9 1 (.slice p1 m c1) m (V ru) → Calls Try.prog 21 #[.slice p1 m c1, .int .i64 ((k : Int) + (n : Int))] W fun e w' => e = .returned (.int .i64 ((k : Int) + n + m)) ∧ Chg a' b' W w' ∧ w'.ownsRow 0 9 1 (.slice p1 m c1) m (V (mks (k + n) m))) := fun W h => by
    rw [hkn]
    exact markTexts_any (.slice p1 m c1) m (k + n) a' b' (V ru) W hn' (by omega) (by omega) h HA'.out.2.2.1
  clear hkn
  go_wp2_with fail
  refine Calls.mono (MT.out _ HU.out) ?_
  rintro e w2 ⟨rfl, hg, hM⟩
  have HX2 : Hid (Chg lo hi w w2) := HX.out.trans (hg.wide HA'.out.1 HA'.out.2.1)
  have HM1 : Hid (w2.ownsRow 0 9 1 (.slice p0 n c0) n (V (mks k n))) := hg.own HM0.out (fun k hk => HA'.out.2.2.2 k (hO.out.ne k hk))
  have HM2 : Hid (w2.ownsRow 0 9 1 (.slice p1 m c1) m (V (mks (k + n) m))) := hM
  clear hg hM HX HU HM0 y1
  go_wp2
  go_ret
  exact ⟨ret_int (by omega), HX2.out, HM1.out, HM2.out⟩
set_option maxHeartbeats 1000000 in
theorem heldDisk_any (v0 v1 : Value) (n m k lo hi : Nat) (w : World) (hn : n ≤ 1048576) (hn' : m ≤ 1048576) (h1 : 1 ≤ k) (hk : k ≤ 10000000) (hO0 : Mkd w v0 v1 n m k lo hi) :
    Calls Try.prog 10 #[.agg #[v0, v1], .int .i64 k] w fun e w' => e = .returned (.int .i64 (k + n + m : Nat)) ∧ Below w.heap.size w w' := by
  obtain ⟨p0, c0, rfl⟩ := own_slice hO0.r0
  obtain ⟨p1, c1, rfl⟩ := own_slice hO0.r1
  have hO : Hid (Mkd w (.slice p0 n c0) (.slice p1 m c1) n m k lo hi) := hO0
  clear hO0
  have hkn : (k : Int) + (n : Int) = ((k + n : Nat) : Int) := by omega
  have MT : Hid (∀ W, W.ownsRow 0 9 1 (.slice p1 m c1) m (V (mks (k + n) m)) → Calls Try.prog 22 #[.slice p1 m c1, .int .i64 ((k : Int) + (n : Int))] W fun e w' => e = .returned (.int .i64 ((k : Int) + n + m)) ∧ Below W.heap.size W w') := fun W h => by
    rw [hkn]
    exact heldTexts_any (.slice p1 m c1) m (k + n) W hn' (by omega) (by omega) h
  clear hkn
  go_enter Try.func10, Try.ntmps10
  go_wp2_with fail
  refine (heldTexts_any (.slice p0 n c0) n k _ hn h1 (by omega) (own_next hO.out.r0 (bel_alloc _ _))).mono ?_
  rintro e w1 ⟨rfl, hb⟩
  have HB : Hid (Below w.heap.size w w1) := (bel_alloc _ _).trans (hb.mono (by simp))
  have y1 : w1.cell? ⟨w.heap.size, 1, none⟩ = some (.slice p1 m c1) := cell_next hb (by go_simp) (by simp)
  have hp1 : ¬ (k : Int) + (n : Int) < 0 := by omega
  have hp2 : ¬ (k : Int) + (n : Int) + (m : Int) < 0 := by omega
  clear hb
  go_wp2_with fail
  refine Calls.mono (MT.out _ (own_next hO.out.r1 HB.out)) ?_
  rintro e w2 ⟨rfl, hb⟩
  have HB2 : Hid (Below w.heap.size w w2) := bel_next HB hb
  clear hb HB y1
  go_wp2
  go_ret
  exact ⟨ret_int (by omega), HB2.out⟩
end Go.Proofs.Ytmogmamijnkpdaa
