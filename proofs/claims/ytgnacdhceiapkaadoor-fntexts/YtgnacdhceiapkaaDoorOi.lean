/- The texts of objects, of the program. -/
import Derived.Test.YtgnacdhceiapkaaDoorRows
import Derived.WalkKit
import Derived.WalkSpells
import Derived.WalkLawsBesides
import Derived.Deep.QuietTactic
import Derived.BigQuiet
import Derived.Deep.RegionHeld3
import Derived.Test.YtgnacdhceiapkaaDoorOj
import Derived.Test.YtgnacdhceiapkaaDoorIo
import Derived.Test.YtgnacdhceiapkaaDoorLk
import Derived.LoopN
namespace Go.Proofs.YtgnacdhceiapkaaDoor
open Go.RowKit
set_option linter.unusedSimpArgs false
set_option linter.unusedVariables false

def V (ss : List ByteArray) : List Value := ss.map Value.string
def parts (X : List UInt8) (l : List Sib) : List ByteArray := ⟨X.toArray⟩ :: l.map fun s => ⟨(sibT s).toArray⟩
theorem parts_succ {X : List UInt8} {l : List Sib} {i : Nat} (h : i < l.length) : parts X (l.take (i + 1)) = parts X (l.take i) ++ [⟨(sibT l[i]).toArray⟩] := by
  unfold parts
  rw [List.take_succ_eq_append_getElem h, List.map_append]
  rfl
theorem parts_len (X : List UInt8) (l : List Sib) : (parts X l).length = l.length + 1 := by simp [parts]
theorem join_parts (X : List UInt8) (l : List Sib) : Lib.join ((parts X l).map (·.data.toList)) (⟨#[124]⟩ : ByteArray).data.toList = objT X l := by
  unfold parts objT
  rw [List.map_cons, Lib.join_cons]
  congr 1
  simp [Lib.joinTail, List.flatMap, Function.comp_def]
theorem rowN {w : World} {v : Value} {n : Nat} {xs : List Value} (h : w.ownsRow 0 9 1 v (n + 1) xs) : ∃ g cap, v = .slice (some ⟨g, 0, none⟩) (n + 1) cap ∧ g < w.heap.size ∧ n + 1 ≤ cap ∧ ∀ j u, xs[j]? = some u → w.cell? ((⟨g, 0, none⟩ : Addr).add j) = some u := by
  have h0 := h
  rcases h.2 with ⟨_, h'⟩ | ⟨g, cap, cur, rfl, hbg, hg, hnc, r⟩
  · cases h'
  · refine ⟨g, cap, rfl, ?_, hnc, h0.cells (g := g) rfl⟩
    rcases Nat.lt_or_ge g w.heap.size with h' | h'
    · exact h'
    · rw [Array.getElem?_eq_none h'] at hg; cases hg
theorem own_one (W : World) (X : ByteArray) : (W.alloc (.cells #[.string X] 9)).ownsRow 0 9 1 (.slice (some ⟨W.heap.size, 0, none⟩) 1 1) 1 [.string X] :=
  ⟨rfl, .inr ⟨W.heap.size, 1, #[.string X], rfl, Nat.zero_le _, heap_alloc_new W _, Nat.le_refl _, by unfold maxLen; omega, rfl, rfl⟩⟩
set_option maxRecDepth 100000 in
set_option maxHeartbeats 4000000 in
theorem implText_ok (cap : Nat) (ao : Option Addr) (l : List Sib) (a b c : Int) (X : List UInt8) (w : World) (hX : X.length ≤ 100000) (hO : OkP l a b c) (hr0 : SibRow w ao l) (ht0 : TB w)
    (CV : Hid (∀ W, TB W → Calls Tryd.prog 24 #[.agg #[.int .i64 a, .int .i64 b, .int .i64 c]] W fun e w' => e = .returned (.string ⟨X.toArray⟩) ∧ Below W.heap.size W w')) :
    Calls Tryd.prog 11 #[.agg #[.slice ao l.length cap, .int .i64 a, .int .i64 b, .int .i64 c]] w fun e w' => e = .returned (.tuple #[.string ⟨(objT X l).toArray⟩, .int .i64 0]) ∧ Below w.heap.size w w' := by
  obtain ⟨i0, hi, hz0, hz1, hz2⟩ := info_parts info_str
  have HI : Hid (Tryd.prog.info? 9 = some i0 ∧ i0.zero = some (.string ⟨#[]⟩) ∧ i0.size = 1 ∧ i0.bytes = 16) := ⟨hi, hz0, hz1, hz2⟩
  clear hi hz0 hz1 hz2
  have RA : Hid (SibRow w ao l) := hr0
  have ht : Hid (TB w) := ht0
  have hl : l.length ≤ 100 := hO.1
  have HK : Hid (∀ i (h : i < l.length), sibOK l[i].p l[i].n l[i].v l[i].d = true) := fun i h => (hO.2.2 i h).1
  have HL : Hid (l.length ≤ 100 ∧ X.length ≤ 100000) := ⟨hl, hX⟩
  have HLEN : Hid ((objT X l).length ≤ 1400000) := by
    have h1 := objT_len (X := X) (l := l) (fun t ht => by obtain ⟨i, hi, rfl⟩ := List.getElem_of_mem ht; exact (hO.2.2 i hi).1)
    show _ ≤ _
    omega
  have B0 : Hid (Below w.heap.size w (w.alloc (.cells #[.slice ao l.length cap, .int .i64 a, .int .i64 b, .int .i64 c] 31))) := bel_alloc _ _
  have COK : Hid (∀ W, SibRow W ao l → Calls Tryd.prog 27 #[.agg #[.slice ao l.length cap, .int .i64 a, .int .i64 b, .int .i64 c]] W fun e w' => e = .returned (.bool true) ∧ Below W.heap.size W w') := fun W h => implOK_any cap ao l a b c true ⟨fun _ => hO, fun _ => rfl⟩ W (by omega) h
  clear hr0 ht0 hX hO
  go_enter Tryd.func11, Tryd.ntmps11
  go_wp2_with fail
  refine Calls.mono (COK.out _ (RA.out.next B0.out)) ?_
  rintro e w1 ⟨rfl, hb⟩
  have c0 := cell_next hb (b := w.heap.size) (o := 0) (v := .slice ao l.length cap) (by go_simp) (by simp)
  have c1 := cell_next hb (b := w.heap.size) (o := 1) (v := .int .i64 a) (by go_simp) (by simp)
  have c2 := cell_next hb (b := w.heap.size) (o := 2) (v := .int .i64 b) (by go_simp) (by simp)
  have c3 := cell_next hb (b := w.heap.size) (o := 3) (v := .int .i64 c) (by go_simp) (by simp)
  replace B0 := bel_next B0 hb
  have hz : w.heap.size < w1.heap.size := Nat.lt_of_lt_of_le (by simp) hb.size
  clear hb COK
  go_wp2_with fail
  refine Calls.mono (CV.out _ (ht.out.next B0.out)) ?_
  rintro e w2 ⟨rfl, hb⟩
  replace c0 := cell_next hb c0 hz
  replace B0 := bel_next B0 hb
  replace hz : w.heap.size < w2.heap.size := Nat.lt_of_lt_of_le hz hb.size
  clear hb CV c1 c2 c3
  have e0 : ∀ o, (w2.alloc o).cell? ⟨w.heap.size, 0, none⟩ = _ := fun o => box_alloc c0 hz
  have O1 : Hid ((w2.alloc (.cells #[.string ⟨X.toArray⟩] 9)).ownsRow 0 9 1 (.slice (some ⟨w2.heap.size, 0, none⟩) 1 1) 1 [.string ⟨X.toArray⟩]) := own_one w2 ⟨X.toArray⟩
  have G1 : Hid (Gro w (w2.alloc (.cells #[.string ⟨X.toArray⟩] 9)) (.slice none 0 0) (.slice (some ⟨w2.heap.size, 0, none⟩) 1 1)) := ⟨(Gro.of_below (v := .slice none 0 0) (bel_next B0 (bel_alloc _ _)).out).grown, fun k hk => .inr (by simp [Value.ownBlock] at hk; have := B0.out.size; omega)⟩
  go_wp2
  clear e0 c0 B0
  generalize (w2.alloc (.cells #[.string ⟨X.toArray⟩] 9)) = W2 at *
  generalize w2.heap.size = g2 at *
  clear hz
  go_loopw [4, 17] (fun s4 s17 wr => ∃ (k : Nat) (ss : List ByteArray), k ≤ l.length ∧ s17 = .int .i64 k ∧ ss = parts X (l.take k) ∧ Gro w wr (.slice none 0 0) s4 ∧ wr.ownsRow 0 9 1 s4 (k + 1) (V ss)) (fun _ s17 _ => l.length - (intOf s17).toNat)
  case atStart => exact ⟨0, _, by omega, rfl, rfl, G1.out, O1.out⟩
  case round =>
    clear O1 G1
    obtain ⟨k, ss, hkl0, rfl, hS0, hG0, hO0⟩ := hrel
    have HS : Hid (ss = parts X (l.take k)) := hS0
    have HG : Hid (Gro w wr (.slice none 0 0) u4) := hG0
    have HO : Hid (wr.ownsRow 0 9 1 u4 (k + 1) (V ss)) := hO0
    have HB : Hid (Below w.heap.size w wr) := nil_below hG0
    clear hS0 hG0 hO0
    by_cases hkl : k < l.length
    · have hkl' : (k : Int) < (l.length : Int) := by omega
      have kk : (0 : Int) ≤ (k : Int) := by omega
      obtain ⟨s, hs⟩ : ∃ s, s = l[k] := ⟨_, rfl⟩
      have HOK : Hid (sibOK s.p s.n s.v s.d = true) := by show _ = _; rw [hs]; exact HK.out k hkl
      rcases RA.out with h' | ⟨p, off, rfl, h2⟩
      · rw [h'] at hkl; simp at hkl
      obtain ⟨x0, x1, x2, x3⟩ := h2 k hkl
      rw [← hs] at x0 x1 x2 x3
      replace x0 := cell_next HB.out x0 (cell_lt x0)
      replace x1 := cell_next HB.out x1 (cell_lt x1)
      replace x2 := cell_next HB.out x2 (cell_lt x2)
      replace x3 := cell_next HB.out x3 (cell_lt x3)
      have HS2 : Hid (ss ++ [⟨(sibT s).toArray⟩] = parts X (l.take (k + 1))) := by show _ = _; rw [HS.out, parts_succ hkl, hs]
      clear h2 hs
      go_wp2_with fail
      refine (sibI s HOK.out _ (ht.out.next (bel_next HB (bel_alloc _ _)).out)).mono ?_
      rintro e w3 ⟨rfl, hb⟩
      have G3 : Hid (Gro w w3 (.slice none 0 0) u4) := HG.out.trans ((Gro.of_below (bel_alloc _ _)).trans (Gro.of_below hb))
      have O3 : Hid (w3.ownsRow 0 9 1 u4 (k + 1) (V ss)) := own_next (own_next HO.out (bel_alloc _ _)) hb
      clear hb x0 x1 x2 x3 HB
      go_wp2_with (first | (at_builtin; refine wpList_append2 rfl _ _ 60 rfl 9 i0 (.string ⟨#[]⟩) 1 16 Tryd.underlying60 HI.out.1 HI.out.2.1 HI.out.2.2.1 HI.out.2.2.2 rfl (by decide) u4 _ _ rfl (O3.out.alloc _) ⟨w3.heap.size, 0, none⟩ 1 1 [.string ⟨(sibT s).toArray⟩] rfl rfl lit_cell (fun u hu => by simp at hu; subst hu; rfl) (by unfold maxLen; omega) (by omega) ?_) | fail)
      intro v1 w4 ho hg
      have O4 : Hid (w4.ownsRow 0 9 1 v1 (k + 1 + 1) (V (ss ++ [⟨(sibT s).toArray⟩]))) := own_cast' ho rfl (by simp [V])
      have G4 : Hid (Gro w w4 (.slice none 0 0) v1) := G3.out.trans ((Gro.of_below (bel_alloc _ _)).trans hg)
      clear ho hg
      go_wp2
      go_roundw
      case rel => first | exact ⟨k + 1, _, by omega, by go_num, HS2.out, G4.out, O4.out⟩ | ((repeat apply Exists.intro); exact ⟨⟨k + 1, _, by omega, by go_num, HS2.out, G4.out, O4.out⟩, rfl⟩)
      case measure => simp [intOf]; omega
    · have hkl' : ¬ (k : Int) < (l.length : Int) := by omega
      have hkk : k = l.length := by omega
      have HE : Hid (ss = parts X l) := by have := HS.out; rw [List.take_of_length_le (by omega)] at this; exact this
      obtain ⟨g, cp, rfl, hgl, hcap, hcs⟩ := rowN HO.out
      have HCS : Hid (∀ (j : Nat) x, ss[j]? = some x → wr.cell? ⟨g, 0 + j, none⟩ = some (.string x)) := fun j x hx => by
        have h1 : (V ss)[j]? = some (.string x) := by unfold V; rw [List.getElem?_map, hx]; rfl
        have h2 := hcs j (.string x) h1
        cases j with
        | zero => exact h2
        | succ j => simpa [Addr.add] using h2
      have hsl : ss.length = k + 1 := by rw [HE.out, parts_len]; omega
      have JN : Hid (Calls Tryd.prog 29 #[.slice (some ⟨g, 0, none⟩) (k + 1) cp, .string ⟨#[124]⟩] wr fun e w' => e = .returned (.string ⟨(objT X l).toArray⟩) ∧ Below wr.heap.size wr w') := by
        have h1 := Any.strings_Join Tryd.lays156 Tryd.Builder_Extra_156 g 0 cp ss ⟨#[124]⟩ wr HCS.out hgl (by omega) (by omega) (by rw [HE.out, join_parts]; have := HLEN.out; omega)
        rw [hsl, HE.out, join_parts] at h1
        exact h1
      clear hgl hcap hcs HCS hsl HS HK HO hkk HE
      go_wp2_with fail
      refine Calls.mono JN.out ?_
      rintro e w7 ⟨rfl, hb⟩
      have HB7 : Hid (Below w.heap.size w w7) := bel_next HB hb
      clear hb
      go_wp2
      go_ret2
      exact ⟨rfl, HB7.out⟩
end Go.Proofs.YtgnacdhceiapkaaDoor
