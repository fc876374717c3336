/- ReplyText of both sides. -/
import Derived.Test.YtcmniplbiliobaaDoorRows
import Derived.WalkKit
import Derived.WalkSpells
import Derived.WalkLawsBesides
import Derived.Deep.QuietTactic
import Derived.BigQuiet
import Derived.Deep.RegionHeld3
import Derived.Test.YtcmniplbiliobaaDoorOt
import Derived.Test.YtcmniplbiliobaaDoorLv
import Derived.Test.YtcmniplbiliobaaDoorSp
import Derived.Test.YtcmniplbiliobaaDoorLk
import Derived.LoopN
namespace Go.Proofs.YtcmniplbiliobaaDoor
open Go.RowKit
set_option linter.unusedSimpArgs false
set_option linter.unusedVariables false

/-- What is replied: what is known, and values with a blank ahead of each. -/
def repT (X : List UInt8) (vs : List Int) : List UInt8 := X ++ vs.flatMap fun v => 32 :: dsN v.toNat
theorem repT_succ {X : List UInt8} {vs : List Int} {i : Nat} (h : i < vs.length) : repT X (vs.take (i + 1)) = repT X (vs.take i) ++ 32 :: dsN vs[i].toNat := by
  unfold repT
  rw [List.take_succ_eq_append_getElem h, List.flatMap_append, List.append_assoc]
  simp
theorem repT_len {X : List UInt8} : ∀ {vs : List Int}, (∀ v ∈ vs, 0 ≤ v ∧ v ≤ 999) → (repT X vs).length ≤ X.length + vs.length * 1001
  | [], _ => by simp [repT]
  | v :: vs, h => by
    have h1 := repT_len (X := X) (vs := vs) (fun t ht => h t (List.mem_cons_of_mem _ ht))
    have h2 := dsN_len v.toNat
    have h3 := h v (by simp)
    unfold repT at *
    simp at *
    omega
def rparts (X : List UInt8) (vs : List Int) : List ByteArray := ⟨X.toArray⟩ :: vs.map fun v => ⟨(dsN v.toNat).toArray⟩
theorem rparts_succ {X : List UInt8} {vs : List Int} {i : Nat} (h : i < vs.length) : rparts X (vs.take (i + 1)) = rparts X (vs.take i) ++ [⟨(dsN vs[i].toNat).toArray⟩] := by
  unfold rparts
  rw [List.take_succ_eq_append_getElem h, List.map_append]
  rfl
theorem rparts_len (X : List UInt8) (vs : List Int) : (rparts X vs).length = vs.length + 1 := by simp [rparts]
theorem join_rparts (X : List UInt8) (vs : List Int) : Lib.join ((rparts X vs).map (·.data.toList)) (⟨#[32]⟩ : ByteArray).data.toList = repT X vs := by
  unfold rparts repT
  rw [List.map_cons, Lib.join_cons]
  congr 1
  simp [Lib.joinTail, List.flatMap, Function.comp_def]
theorem live_vals {l : List Sib} {a b c : Int} (h : OkP l a b c) : (live l).length ≤ 100 ∧ ∀ v ∈ live l, 0 ≤ v ∧ v ≤ 999 := by
  refine ⟨Nat.le_trans (live_len l) h.1, fun v hv => ?_⟩
  unfold live at hv
  obtain ⟨s, hs, rfl⟩ := List.mem_map.1 hv
  have hs' := (List.mem_filter.1 hs).1
  obtain ⟨_, _, _, h1, h2⟩ := sib_bounds (ok_sibs h s hs')
  exact ⟨h1, h2⟩
/-- What ReplyText answers. -/
structure RRel (l : List Sib) (a b c : Int) (t : ByteArray) (code : Int) : Prop where
  ok : OkP l a b c → t = ⟨(repT (vvT a b c) (live l)).toArray⟩ ∧ code = 0
  bad : ¬ OkP l a b c → t = ⟨#[]⟩ ∧ code = 1
theorem rrel (l : List Sib) (a b c : Int) : ∃ t code, RRel l a b c t code := by
  by_cases h : OkP l a b c
  · exact ⟨_, _, ⟨fun _ => ⟨rfl, rfl⟩, fun h' => (h' h).elim⟩⟩
  · exact ⟨_, _, ⟨fun h' => (h h').elim, fun _ => ⟨rfl, rfl⟩⟩⟩
theorem ints_cell {w : World} {v : Value} {zs : List Int} (h : w.ownsRow 0 3 1 v zs.length (zs.map (Value.int .i64))) (i : Nat) (hi : i < zs.length) : ∃ g cap, v = .slice (some ⟨g, 0, none⟩) zs.length cap ∧ w.cell? ⟨g, i, none⟩ = some (.int .i64 zs[i]) := by
  rcases h.2 with ⟨rfl, hn⟩ | ⟨g, cap, cur, rfl, _⟩
  · omega
  · refine ⟨g, cap, rfl, ?_⟩
    rw [h.cellAt i (by omega)]
    simp [hi]
theorem ints_slice {w : World} {v : Value} {zs : List Int} (h : w.ownsRow 0 3 1 v zs.length (zs.map (Value.int .i64))) : ∃ ao cap, v = .slice ao zs.length cap := by
  rcases h.2 with ⟨rfl, hn⟩ | ⟨g, cap, cur, rfl, _⟩
  · exact ⟨none, 0, by rw [hn]⟩
  · exact ⟨_, cap, rfl⟩
set_option maxHeartbeats 4000000 in
theorem l08Reply_any (cap : Nat) (ao : Option Addr) (l : List Sib) (a b c : Int) (hO : OkP l a b c) (w : World) (hr0 : SibRow w ao l) :
    Calls Tryd.prog 20 #[.agg #[.slice ao l.length cap, .int .i64 a, .int .i64 b, .int .i64 c]] w fun e w' => e = .returned (.string ⟨(repT (vvT a b c) (live l)).toArray⟩) ∧ Below w.heap.size w w' := by
  have RA : Hid (SibRow w ao l) := hr0
  have hm : (l.length : Int) ≤ 1048576 := by have := hO.1; omega
  have B0 : Hid (Below w.heap.size w (w.alloc (.cells #[.slice ao l.length cap, .int .i64 a, .int .i64 b, .int .i64 c] 32))) := bel_alloc _ _
  have CV : Hid _ := fun W => vvS hO.2.1 W
  have CL : Hid _ := fun W h => l02live_any cap ao l a b c W hm h
  have HV := live_vals hO
  have HX : (vvT a b c).length ≤ 100000 := vvT_len hO.2.1
  obtain ⟨X, eX⟩ : ∃ X, X = vvT a b c := ⟨_, rfl⟩
  obtain ⟨zs, eZ⟩ : ∃ zs, zs = live l := ⟨_, rfl⟩
  rw [← eX] at CV HX ⊢
  rw [← eZ] at CL HV ⊢
  have HVH : Hid (zs.length ≤ 100 ∧ (∀ v ∈ zs, 0 ≤ v ∧ v ≤ 999) ∧ X.length ≤ 100000) := ⟨HV.1, HV.2, HX⟩
  have hz100 : zs.length ≤ 100 := HV.1
  clear hr0 hO eX eZ HV HX hm
  go_enter Tryd.func20, Tryd.ntmps20
  go_wp2_with fail
  refine Calls.mono (CV.out _) ?_
  rintro e w1 ⟨rfl, hb⟩
  have c0 := cell_next hb (b := w.heap.size) (o := 0) (v := .slice ao l.length cap) (by go_simp) (by simp)
  have c1 := cell_next hb (b := w.heap.size) (o := 1) (v := .int .i64 a) (by go_simp) (by simp)
  have c2 := cell_next hb (b := w.heap.size) (o := 2) (v := .int .i64 b) (by go_simp) (by simp)
  have c3 := cell_next hb (b := w.heap.size) (o := 3) (v := .int .i64 c) (by go_simp) (by simp)
  replace B0 := bel_next B0 hb
  clear hb CV
  go_wp2_with fail
  refine Calls.mono (CL.out _ (RA.out.next B0.out)) ?_
  rintro e w2 ⟨v, rfl, hg, ho⟩
  replace B0 := bel_next B0 (nil_below hg)
  obtain ⟨vo, vc, rfl⟩ := ints_slice ho
  have HO : Hid (w2.ownsRow 0 3 1 (.slice vo zs.length vc) zs.length (zs.map (Value.int .i64))) := ho
  clear hg ho c0 c1 c2 c3 CL RA
  go_wp2
  go_loopw [3, 5] (fun s3 s5 wr => ∃ (i : Nat) (out : ByteArray), i ≤ zs.length ∧ s5 = .int .i64 i ∧ s3 = .string out ∧ out = ⟨(repT X (zs.take i)).toArray⟩ ∧ Below w2.heap.size w2 wr) (fun _ s5 _ => zs.length - (intOf s5).toNat)
  case atStart => exact ⟨0, _, by omega, rfl, rfl, by simp [repT], Below.refl _ _⟩
  case round =>
    obtain ⟨i, out, hil, rfl, rfl, hO0, hB0⟩ := hrel
    have HE : Hid (out = ⟨(repT X (zs.take i)).toArray⟩) := hO0
    have HB : Hid (Below w2.heap.size w2 wr) := hB0
    clear hO0 hB0
    by_cases hkl : i < zs.length
    · have hkl' : (i : Int) < (zs.length : Int) := by omega
      have kk : (0 : Int) ≤ (i : Int) := by omega
      obtain ⟨g, cp, hv, x0⟩ := ints_cell HO.out i hkl
      cases hv
      replace x0 := cell_next HB.out x0 (cell_lt x0)
      obtain ⟨v, hv⟩ : ∃ v, v = zs[i] := ⟨_, rfl⟩
      have hvb : 0 ≤ v ∧ v ≤ 999 := by rw [hv]; exact HVH.out.2.1 _ (List.getElem_mem _)
      rw [← hv] at x0
      have hlen : out.size ≤ 1400000 := by
        rw [HE.out]
        have h1 := repT_len (X := X) (vs := zs.take i) (fun t ht => HVH.out.2.1 t (List.mem_of_mem_take ht))
        have h3 := HVH.out
        have h4 : (zs.take i).length ≤ 100 := by simp; omega
        simp [ByteArray.size]
        omega
      obtain ⟨D, hD⟩ : ∃ D, D = dsN v.toNat := ⟨_, rfl⟩
      have hDl : D.length ≤ 2000 := by rw [hD]; have := dsN_len v.toNat; omega
      have CD : Hid (∀ W, Calls Tryd.prog 47 #[.int .i64 v] W fun e w' => e = .returned (.string ⟨D.toArray⟩) ∧ Below W.heap.size W w') := fun W => by rw [hD]; exact dg_int hvb.1 (by omega) W
      have HM : Hid (out ++ (⟨#[32]⟩ ++ ⟨D.toArray⟩) = ⟨(repT X (zs.take (i + 1))).toArray⟩) := by
        show _ = _
        have e1 : (⟨#[32]⟩ : ByteArray) ++ ⟨D.toArray⟩ = ⟨(32 :: D).toArray⟩ := ba_app [32] D
        rw [e1, HE.out, ba_app, repT_succ hkl, ← hv, hD]
      have q0 : ¬ 9223372036854775807 < 1 + D.length := by omega
      have q1 : ¬ 9223372036854775807 < out.size + (1 + D.length) := by omega
      clear hv hvb hD HE hlen hDl
      go_wp2_with fail
      refine Calls.mono (CD.out _) ?_
      rintro e w3 ⟨rfl, hb⟩
      replace HB := bel_next HB hb
      clear hb x0 CD
      go_wp2
      go_roundw
      case rel => first | exact ⟨i + 1, _, by omega, by go_num, rfl, HM.out, HB.out⟩ | ((repeat apply Exists.intro); exact ⟨⟨i + 1, _, by omega, by go_num, rfl, HM.out, HB.out⟩, rfl⟩)
      case measure => simp [intOf]; omega
    · have hkl' : ¬ (i : Int) < (zs.length : Int) := by omega
      have HE2 : Hid (out = ⟨(repT X zs).toArray⟩) := by have := HE.out; rw [List.take_of_length_le (by omega)] at this; exact this
      clear HE
      replace HB := bel_next B0 HB.out
      go_wp2
      go_ret
      exact ⟨by rw [HE2.out]; rfl, HB.out⟩
set_option maxHeartbeats 2000000 in
theorem specReply_any (cap : Nat) (ao : Option Addr) (l : List Sib) (a b c : Int) (t : ByteArray) (code : Int) (hT : Hid (RRel l a b c t code)) (w : World) (hm : (l.length : Int) ≤ 1048576) (hr0 : SibRow w ao l) :
    Calls Tryd.prog 6 #[.agg #[.slice ao l.length cap, .int .i64 a, .int .i64 b, .int .i64 c]] w fun e w' => e = .returned (.tuple #[.string t, .int .i64 code]) ∧ Below w.heap.size w w' := by
  have RA : Hid (SibRow w ao l) := hr0
  have B0 : Hid (Below w.heap.size w (w.alloc (.cells #[.slice ao l.length cap, .int .i64 a, .int .i64 b, .int .i64 c] 32))) := bel_alloc _ _
  clear hr0
  by_cases hO : OkP l a b c
  · obtain ⟨rfl, rfl⟩ := hT.out.ok hO
    have HO : Hid (OkP l a b c) := hO
    have COK : Hid (∀ W, SibRow W ao l → Calls Tryd.prog 19 #[.agg #[.slice ao l.length cap, .int .i64 a, .int .i64 b, .int .i64 c]] W fun e w' => e = .returned (.bool true) ∧ Below W.heap.size W w') := fun W h => specOK_any cap ao l a b c true ⟨fun _ => hO, fun _ => rfl⟩ W hm h
    clear hO hT hm
    go_enter Tryd.func6, Tryd.ntmps6
    go_wp2_with fail
    refine Calls.mono (COK.out _ (RA.out.next B0.out)) ?_
    rintro e w1 ⟨rfl, hb⟩
    have c0 := cell_next hb (b := w.heap.size) (o := 0) (v := .slice ao l.length cap) (by go_simp) (by simp)
    have c1 := cell_next hb (b := w.heap.size) (o := 1) (v := .int .i64 a) (by go_simp) (by simp)
    have c2 := cell_next hb (b := w.heap.size) (o := 2) (v := .int .i64 b) (by go_simp) (by simp)
    have c3 := cell_next hb (b := w.heap.size) (o := 3) (v := .int .i64 c) (by go_simp) (by simp)
    replace B0 := bel_next B0 hb
    clear hb
    go_wp2_with fail
    refine (l08Reply_any cap ao l a b c HO.out _ (RA.out.next B0.out)).mono ?_
    rintro e w2 ⟨rfl, hb⟩
    replace B0 := bel_next B0 hb
    clear hb c0 c1 c2 c3
    go_wp2
    go_ret2
    exact ⟨rfl, B0.out⟩
  · obtain ⟨rfl, rfl⟩ := hT.out.bad hO
    have COK : Hid (∀ W, SibRow W ao l → Calls Tryd.prog 19 #[.agg #[.slice ao l.length cap, .int .i64 a, .int .i64 b, .int .i64 c]] W fun e w' => e = .returned (.bool false) ∧ Below W.heap.size W w') := fun W h => specOK_any cap ao l a b c false ⟨fun h' => (by cases h'), fun h' => (hO h').elim⟩ W hm h
    clear hO hT hm
    go_enter Tryd.func6, Tryd.ntmps6
    go_wp2_with fail
    refine Calls.mono (COK.out _ (RA.out.next B0.out)) ?_
    rintro e w1 ⟨rfl, hb⟩
    replace B0 := bel_next B0 hb
    clear hb
    go_wp2
    go_ret2
    exact ⟨rfl, B0.out⟩
set_option maxHeartbeats 4000000 in
theorem implReply_any (cap : Nat) (ao : Option Addr) (l : List Sib) (a b c : Int) (t : ByteArray) (code : Int) (hT : Hid (RRel l a b c t code)) (w : World) (hm : (l.length : Int) ≤ 1048576) (hr0 : SibRow w ao l) (ht0 : TB w) :
    Calls Tryd.prog 8 #[.agg #[.slice ao l.length cap, .int .i64 a, .int .i64 b, .int .i64 c]] w fun e w' => e = .returned (.tuple #[.string t, .int .i64 code]) ∧ Below w.heap.size w w' := by
  have RA : Hid (SibRow w ao l) := hr0
  have ht : Hid (TB w) := ht0
  have B0 : Hid (Below w.heap.size w (w.alloc (.cells #[.slice ao l.length cap, .int .i64 a, .int .i64 b, .int .i64 c] 32))) := bel_alloc _ _
  clear hr0 ht0
  by_cases hO : OkP l a b c
  · obtain ⟨rfl, rfl⟩ := hT.out.ok hO
    obtain ⟨i0, hi, hz0, hz1, hz2⟩ := info_parts info_str
    have HI : Hid (Tryd.prog.info? 9 = some i0 ∧ i0.zero = some (.string ⟨#[]⟩) ∧ i0.size = 1 ∧ i0.bytes = 16) := ⟨hi, hz0, hz1, hz2⟩
    clear hi hz0 hz1 hz2
    have CL : Hid (∀ W, SibRow W ao l → _) := fun W h => implLive_any cap ao l a b c true ⟨fun _ => hO, fun _ => rfl⟩ W hm h
    simp only [if_true] at CL
    have CV : Hid _ := fun W h => vvI hO.2.1 W h
    have HV := live_vals hO
    have HX : (vvT a b c).length ≤ 100000 := vvT_len hO.2.1
    obtain ⟨X, eX⟩ : ∃ X, X = vvT a b c := ⟨_, rfl⟩
    obtain ⟨zs, eZ⟩ : ∃ zs, zs = live l := ⟨_, rfl⟩
    rw [← eX] at CV HX ⊢
    rw [← eZ] at CL HV ⊢
    have HVH : Hid (zs.length ≤ 100 ∧ (∀ v ∈ zs, 0 ≤ v ∧ v ≤ 999) ∧ X.length ≤ 100000) := ⟨HV.1, HV.2, HX⟩
    have HLEN : Hid ((repT X zs).length ≤ 1400000) := by
      have h1 := repT_len (X := X) (vs := zs) HV.2
      show _ ≤ _
      have := HV.1
      omega
    have hz100 : zs.length ≤ 100 := HV.1
    clear hO eX eZ HV HX hm hT
    go_enter Tryd.func8, Tryd.ntmps8
    go_wp2_with fail
    refine Calls.mono (CL.out _ (RA.out.next B0.out)) ?_
    rintro e w1 ⟨v, rfl, hg, ho⟩
    have hb := nil_below hg
    have c0 := cell_next hb (b := w.heap.size) (o := 0) (v := .slice ao l.length cap) (by go_simp) (by simp)
    have c1 := cell_next hb (b := w.heap.size) (o := 1) (v := .int .i64 a) (by go_simp) (by simp)
    have c2 := cell_next hb (b := w.heap.size) (o := 2) (v := .int .i64 b) (by go_simp) (by simp)
    have c3 := cell_next hb (b := w.heap.size) (o := 3) (v := .int .i64 c) (by go_simp) (by simp)
    replace B0 := bel_next B0 hb
    obtain ⟨vo, vc, rfl⟩ := ints_slice ho
    have HO : Hid (w1.ownsRow 0 3 1 (.slice vo zs.length vc) zs.length (zs.map (Value.int .i64))) := ho
    clear hg ho hb CL RA
    go_wp2_with fail
    refine Calls.mono (CV.out _ (ht.out.next B0.out)) ?_
    rintro e w2 ⟨rfl, hb⟩
    replace B0 := bel_next B0 hb
    replace HO : Hid _ := own_next HO.out hb
    clear hb CV c0 c1 c2 c3
    have O1 : Hid ((w2.alloc (.cells #[.string ⟨X.toArray⟩] 9)).ownsRow 0 9 1 (.slice (some ⟨w2.heap.size, 0, none⟩) 1 1) 1 [.string ⟨X.toArray⟩]) := own_one w2 ⟨X.toArray⟩
    have G1 : Hid (Gro w2 (w2.alloc (.cells #[.string ⟨X.toArray⟩] 9)) (.slice none 0 0) (.slice (some ⟨w2.heap.size, 0, none⟩) 1 1)) := ⟨(Gro.of_below (v := .slice none 0 0) (bel_alloc _ _)).grown, fun k hk => .inr (by simp [Value.ownBlock] at hk; omega)⟩
    go_wp2
    generalize (w2.alloc (.cells #[.string ⟨X.toArray⟩] 9)) = W2 at *
    go_loopw [6, 23] (fun s6 s23 wr => ∃ (k : Nat) (ss : List ByteArray), k ≤ zs.length ∧ s23 = .int .i64 k ∧ ss = rparts X (zs.take k) ∧ Gro w2 wr (.slice none 0 0) s6 ∧ wr.ownsRow 0 9 1 s6 (k + 1) (V ss)) (fun _ s23 _ => zs.length - (intOf s23).toNat)
    case atStart => exact ⟨0, _, by omega, rfl, rfl, G1.out, O1.out⟩
    case round =>
      clear O1 G1
      obtain ⟨k, ss, hkl0, rfl, hS0, hG0, hO0⟩ := hrel
      have HS : Hid (ss = rparts X (zs.take k)) := hS0
      have HG : Hid (Gro w2 wr (.slice none 0 0) u6) := hG0
      have HR : Hid (wr.ownsRow 0 9 1 u6 (k + 1) (V ss)) := hO0
      have HB : Hid (Below w2.heap.size w2 wr) := nil_below hG0
      clear hS0 hG0 hO0
      by_cases hkl : k < zs.length
      · have hkl' : (k : Int) < (zs.length : Int) := by omega
        have kk : (0 : Int) ≤ (k : Int) := by omega
        obtain ⟨g, cp, hv, x0⟩ := ints_cell HO.out k hkl
        cases hv
        replace x0 := cell_next HB.out x0 (cell_lt x0)
        obtain ⟨v, hv⟩ : ∃ v, v = zs[k] := ⟨_, rfl⟩
        have hvb : 0 ≤ v ∧ v ≤ 999 := by rw [hv]; exact HVH.out.2.1 _ (List.getElem_mem _)
        rw [← hv] at x0
        obtain ⟨D, hD⟩ : ∃ D, D = dsN v.toNat := ⟨_, rfl⟩
        have CD : Hid (∀ W, TB W → Calls Tryd.prog 25 #[.int .i64 v] W fun e w' => e = .returned (.string ⟨D.toArray⟩) ∧ Below W.heap.size W w') := fun W h => by rw [hD]; exact it_int hvb.1 (by omega) W h
        have HS2 : Hid (ss ++ [⟨D.toArray⟩] = rparts X (zs.take (k + 1))) := by show _ = _; rw [HS.out, rparts_succ hkl, ← hv, hD]
        clear hv hvb hD HS
        go_wp2_with fail
        refine Calls.mono (CD.out _ (ht.out.next (bel_next B0 HB.out).out)) ?_
        rintro e w3 ⟨rfl, hb⟩
        have G3 : Hid (Gro w2 w3 (.slice none 0 0) u6) := HG.out.trans (Gro.of_below hb)
        have O3 : Hid (w3.ownsRow 0 9 1 u6 (k + 1) (V ss)) := own_next HR.out hb
        clear hb x0 HB CD
        go_wp2_with (first | (at_builtin; refine wpList_append2 rfl _ _ 55 rfl 9 i0 (.string ⟨#[]⟩) 1 16 Tryd.underlying55 HI.out.1 HI.out.2.1 HI.out.2.2.1 HI.out.2.2.2 rfl (by decide) u6 _ _ rfl (O3.out.alloc _) ⟨w3.heap.size, 0, none⟩ 1 1 [.string ⟨D.toArray⟩] rfl rfl lit_cell (fun u hu => by simp at hu; subst hu; rfl) (by unfold maxLen; omega) (by omega) ?_) | fail)
        intro v1 w4 ho hg
        have O4 : Hid (w4.ownsRow 0 9 1 v1 (k + 1 + 1) (V (ss ++ [⟨D.toArray⟩]))) := own_cast' ho rfl (by simp [V])
        have G4 : Hid (Gro w2 w4 (.slice none 0 0) v1) := G3.out.trans ((Gro.of_below (bel_alloc _ _)).trans hg)
        clear ho hg
        go_wp2
        go_roundw
        case rel => first | exact ⟨k + 1, _, by omega, by go_num, HS2.out, G4.out, O4.out⟩ | ((repeat apply Exists.intro); exact ⟨⟨k + 1, _, by omega, by go_num, HS2.out, G4.out, O4.out⟩, rfl⟩)
        case measure => simp [intOf]; omega
      · have hkl' : ¬ (k : Int) < (zs.length : Int) := by omega
        have hkk : k = zs.length := by omega
        have HE : Hid (ss = rparts X zs) := by have := HS.out; rw [List.take_of_length_le (by omega)] at this; exact this
        obtain ⟨g, cp, rfl, hgl, hcap, hcs⟩ := rowN HR.out
        have HCS : Hid (∀ (j : Nat) x, ss[j]? = some x → wr.cell? ⟨g, 0 + j, none⟩ = some (.string x)) := fun j x hx => by
          have h1 : (V ss)[j]? = some (.string x) := by unfold V; rw [List.getElem?_map, hx]; rfl
          have h2 := hcs j (.string x) h1
          cases j with
          | zero => exact h2
          | succ j => simpa [Addr.add] using h2
        have hsl : ss.length = k + 1 := by rw [HE.out, rparts_len]; omega
        have JN : Hid (Calls Tryd.prog 26 #[.slice (some ⟨g, 0, none⟩) (k + 1) cp, .string ⟨#[32]⟩] wr fun e w' => e = .returned (.string ⟨(repT X zs).toArray⟩) ∧ Below wr.heap.size wr w') := by
          have h1 := Any.strings_Join Tryd.lays156 Tryd.Builder_Extra_156 g 0 cp ss ⟨#[32]⟩ wr HCS.out hgl (by omega) (by omega) (by rw [HE.out, join_rparts]; have := HLEN.out; omega)
          rw [hsl, HE.out, join_rparts] at h1
          exact h1
        clear hgl hcap hcs HCS hsl HS HR hkk HE HO
        go_wp2_with fail
        refine Calls.mono JN.out ?_
        rintro e w7 ⟨rfl, hb⟩
        have HB7 : Hid (Below w.heap.size w w7) := bel_next (bel_next B0 HB.out) hb
        clear hb
        go_wp2
        go_ret2
        exact ⟨rfl, HB7.out⟩
  · obtain ⟨rfl, rfl⟩ := hT.out.bad hO
    have CL : Hid (∀ W, SibRow W ao l → _) := fun W h => implLive_any cap ao l a b c false ⟨fun h' => (by cases h'), fun h' => (hO h').elim⟩ W hm h
    clear hO hT hm
    go_enter Tryd.func8, Tryd.ntmps8
    go_wp2_with fail
    refine Calls.mono (CL.out _ (RA.out.next B0.out)) ?_
    rintro e w1 ⟨v, rfl, hg, ho⟩
    replace B0 := bel_next B0 (nil_below hg)
    obtain ⟨vo, vc, rfl⟩ := ints_slice ho
    clear hg ho
    go_wp2
    go_ret2
    exact ⟨rfl, B0.out⟩
end Go.Proofs.YtcmniplbiliobaaDoor
