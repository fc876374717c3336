/- Write of both sides. -/
import Derived.Test.YtcmniplbiliobaaDoorRows
import Derived.WalkKit
import Derived.WalkSpells
import Derived.WalkLawsBesides
import Derived.Deep.QuietTactic
import Derived.BigQuiet
import Derived.Deep.RegionHeld3
import Derived.Test.YtcmniplbiliobaaDoorWs
import Derived.LoopN
import Derived.Deep.Cut
namespace Go.Proofs.YtcmniplbiliobaaDoor
open Go.RowKit
set_option linter.unusedSimpArgs false
set_option linter.unusedVariables false

theorem own_slc {w : World} {base e size n : Nat} {v : Value} {xs : List Value} (h : w.ownsRow base e size v n xs) : ∃ o k c, v = .slice o k c := by
  rcases h.2 with ⟨rfl, _⟩ | ⟨g, cap, cur, rfl, _⟩
  · exact ⟨_, _, _, rfl⟩
  · exact ⟨_, _, _, rfl⟩
set_option maxHeartbeats 2000000 in
theorem l02own_any (cap : Nat) (ao : Option Addr) (l : List Sib) (a b c : Int) (w : World) (hm : l.length ≤ 1048576) (hr0 : SibRow w ao l) :
    Calls Tryd.prog 59 #[.agg #[.slice ao l.length cap, .int .i64 a, .int .i64 b, .int .i64 c]] w fun e w' => ∃ v, e = .returned (.agg #[v, .int .i64 a, .int .i64 b, .int .i64 c]) ∧ Gro w w' (.slice none 0 0) v ∧ w'.ownsRow 0 74 4 v l.length (flat l) := by
  have RA : Hid (SibRow ((w.alloc (.cells #[.slice ao l.length cap, .int .i64 a, .int .i64 b, .int .i64 c] 32)).alloc (.cells #[.slice none 0 0, .int .i64 0, .int .i64 0, .int .i64 0] 32)) ao l) := row_next (row_next hr0 (bel_alloc _ _)) (bel_alloc _ _)
  have C1 : Hid (Cells4 ((w.alloc (.cells #[.slice ao l.length cap, .int .i64 a, .int .i64 b, .int .i64 c] 32)).alloc (.cells #[.slice none 0 0, .int .i64 0, .int .i64 0, .int .i64 0] 32)) w.heap.size (.slice ao l.length cap) a b c) := by refine ⟨?_, ?_, ?_, ?_⟩ <;> go_simp
  have L1 : Hid (w.heap.size < ((w.alloc (.cells #[.slice ao l.length cap, .int .i64 a, .int .i64 b, .int .i64 c] 32)).alloc (.cells #[.slice none 0 0, .int .i64 0, .int .i64 0, .int .i64 0] 32)).heap.size) := by show _ < _; simp; omega
  have T1 : Hid (There ((w.alloc (.cells #[.slice ao l.length cap, .int .i64 a, .int .i64 b, .int .i64 c] 32)).alloc (.cells #[.slice none 0 0, .int .i64 0, .int .i64 0, .int .i64 0] 32)) (w.heap.size + 1) 4) := by
    have := there_new (W := w.alloc (.cells #[.slice ao l.length cap, .int .i64 a, .int .i64 b, .int .i64 c] 32)) (t := 32)
    show There _ _ _
    simpa using this
  have T0 : Hid (There ((w.alloc (.cells #[.slice ao l.length cap, .int .i64 a, .int .i64 b, .int .i64 c] 32)).alloc (.cells #[.slice none 0 0, .int .i64 0, .int .i64 0, .int .i64 0] 32)) w.heap.size 4) := by
    show There _ _ _
    intro j hj
    have hj' : j = 0 ∨ j = 1 ∨ j = 2 ∨ j = 3 := by omega
    rcases hj' with rfl | rfl | rfl | rfl <;> exact ⟨by go_simp, by go_simp⟩
  have L2 : Hid (w.heap.size + 1 < ((w.alloc (.cells #[.slice ao l.length cap, .int .i64 a, .int .i64 b, .int .i64 c] 32)).alloc (.cells #[.slice none 0 0, .int .i64 0, .int .i64 0, .int .i64 0] 32)).heap.size) := by show _ < _; simp
  have GW : Hid (Gro w ((w.alloc (.cells #[.slice ao l.length cap, .int .i64 a, .int .i64 b, .int .i64 c] 32)).alloc (.cells #[.slice none 0 0, .int .i64 0, .int .i64 0, .int .i64 0] 32)) (.slice none 0 0) (.slice none 0 0)) := (Gro.of_below (bel_alloc _ _)).trans (Gro.of_below (bel_alloc _ _))
  have SRC : Hid (SrcRow ((w.alloc (.cells #[.slice ao l.length cap, .int .i64 a, .int .i64 b, .int .i64 c] 32)).alloc (.cells #[.slice none 0 0, .int .i64 0, .int .i64 0, .int .i64 0] 32)) ao l.length l) := ⟨rfl, RA.out⟩
  have HM : Hid (l.length ≤ 1048576) := hm
  clear hr0 hm
  have h63 : l.length ≤ 1048576 := HM.out
  obtain ⟨i0, hi, hz0, hz1, hz2⟩ := info_parts info_sib
  have HI : Hid (Tryd.prog.info? 74 = some i0 ∧ i0.zero = some (.agg #[.int .i64 0, .int .i64 0, .int .i64 0, .bool false]) ∧ i0.size = 4 ∧ i0.bytes = 32) := ⟨hi, hz0, hz1, hz2⟩
  clear hi hz0 hz1 hz2
  go_enter Tryd.func59, Tryd.ntmps59
  go_upto_region 1 with fail
  generalize ((w.alloc (.cells #[.slice ao l.length cap, .int .i64 a, .int .i64 b, .int .i64 c] 32)).alloc (.cells #[.slice none 0 0, .int .i64 0, .int .i64 0, .int .i64 0] 32)) = W0 at *
  obtain ⟨c0, c1, c2, c3⟩ := C1.out
  have e0 := fun o => box_alloc (o := o) c0 L1.out
  clear C1
  have OL : Hid (Own W0 (W0.alloc (.cells #[] 74)) 74 (.slice (some ⟨W0.heap.size, 0, none⟩) 0 0) 0 []) := Own.lit (Below.refl _ _)
  go_wp2_with (first | (at_builtin; refine wpList_append3 rfl _ _ 29 rfl 74 i0 (.agg #[.int .i64 0, .int .i64 0, .int .i64 0, .bool false]) 32 Tryd.underlying29 HI.out.1 HI.out.2.1 HI.out.2.2.1 HI.out.2.2.2 rfl (.slice (some ⟨W0.heap.size, 0, none⟩) 0 0) 0 [] rfl OL.out.1 ao l.length cap l rfl (SRC.out.next (bel_alloc _ _)) ?c3 ?c4 ?_) | go_in)
  case c3 => unfold maxLen; omega
  case c4 => omega
  intro v w2 ho hg
  obtain ⟨vo, vn, vc, rfl⟩ := own_slc ho
  have OV : Hid (Own W0 w2 74 (.slice vo vn vc) (0 + l.length) ([] ++ flat l)) := Own.app (show Own W0 _ 74 _ 0 [] from OL.out) (own_cast ho (by omega) (by simp)) hg
  have hne : Hid (Value.ownBlock (.slice (some ⟨W0.heap.size, 0, none⟩) 0 0) ≠ some w.heap.size) := fun e => by
    simp [Value.ownBlock] at e
    have := L1.out
    omega
  have hne' : Hid (Value.ownBlock (.slice (some ⟨W0.heap.size, 0, none⟩) 0 0) ≠ some (w.heap.size + 1)) := fun e => by
    simp [Value.ownBlock] at e
    have := L2.out
    omega
  have d0 := hg.cell (e0 _) hne.out
  have d1 := hg.cell (box_alloc c1 L1.out) hne.out
  have d2 := hg.cell (box_alloc c2 L1.out) hne.out
  have d3 := hg.cell (box_alloc c3 L1.out) hne.out
  have hTa := th_gro (T0.out.next (bel_alloc _ _) L1.out) hg (Nat.lt_of_lt_of_le L1.out (bel_alloc _ _).size) hne.out
  have f0 := (hTa 0 (by omega)).2
  have hTr := th_gro (T1.out.next (bel_alloc _ _) L2.out) hg (Nat.lt_of_lt_of_le L2.out (bel_alloc _ _).size) hne'.out
  have G2 : Hid (Gro W0 w2 (.slice none 0 0) (.slice vo vn vc)) := Own.gro (show Own W0 w2 74 (.slice vo vn vc) _ _ from OV.out)
  have O2 : Hid (w2.ownsRow 0 74 4 (.slice vo vn vc) l.length (flat l)) := own_cast OV.out.1 (by omega) (by simp)
  clear ho hg hTa e0 c0 c1 c2 c3 OL OV
  have d1' := cell_oth (u := .slice vo vn vc) d1 (show 1 ≠ 0 by omega)
  have d2' := cell_oth (u := .slice vo vn vc) d2 (show 2 ≠ 0 by omega)
  have d3' := cell_oth (u := .slice vo vn vc) d3 (show 3 ≠ 0 by omega)
  have d0' := cell_same (u := .slice vo vn vc) d0
  have hTr' : There (w2.setCell ⟨w.heap.size, 0, none⟩ (.slice vo vn vc)) (w.heap.size + 1) 4 := hTr.set
  have O3 : Hid ((w2.setCell ⟨w.heap.size, 0, none⟩ (.slice vo vn vc)).ownsRow 0 74 4 (.slice vo vn vc) l.length (flat l)) := ownsRow_setCell_other O2.out (nb G2.out L1.out) _
  have G3 : Hid (Gro w (w2.setCell ⟨w.heap.size, 0, none⟩ (.slice vo vn vc)) (.slice none 0 0) (.slice vo vn vc)) := Gro.set1 (GW.out.trans G2.out) (Nat.le_refl _)
  clear hTr O2
  go_upto_region 2 with fail
  generalize w2.setCell ⟨w.heap.size, 0, none⟩ (.slice vo vn vc) = w3 at *
  clear d0 d1 d2 d3 f0
  have hTr := hTr'
  obtain ⟨t0, T0⟩ := Option.isSome_iff_exists.1 (hTr 0 (by omega)).1
  have Z0 := (hTr 0 (by omega)).2
  obtain ⟨t1, T1⟩ := Option.isSome_iff_exists.1 (hTr 1 (by omega)).1
  have Z1 := (hTr 1 (by omega)).2
  obtain ⟨t2, T2⟩ := Option.isSome_iff_exists.1 (hTr 2 (by omega)).1
  have Z2 := (hTr 2 (by omega)).2
  obtain ⟨t3, T3⟩ := Option.isSome_iff_exists.1 (hTr 3 (by omega)).1
  have Z3 := (hTr 3 (by omega)).2
  clear hTr hTr'
  go_wp2
  refine bodyPost_ret (v := .agg #[.slice vo vn vc, .int .i64 a, .int .i64 b, .int .i64 c]) (by simp [results, Tryd.results59, go_sem, T0, T1, T2, T3, Z0, Z1, Z2, Z3]) rfl ⟨_, rfl, ?_, ?_⟩
  · exact Gro.set4 G3.out (by omega)
  · have hne : (Value.slice vo vn vc).ownBlock ≠ some (w.heap.size + 1) := nb G2.out L2.out
    exact own_set4 O3.out hne
end Go.Proofs.YtcmniplbiliobaaDoor
