/- What is told of a part, on the program's side. -/
import Derived.Test.YtomcpdbaenohdaaRows
import Derived.WalkKit
import Derived.WalkSpells
import Derived.WalkLawsBesides
import Derived.Deep.QuietTactic
import Derived.BigQuiet
import Derived.Deep.RegionHeld3
import Derived.Test.YtomcpdbaenohdaaTd
import Derived.Test.YtomcpdbaenohdaaRq
import Derived.LoopN
import Derived.Carry
namespace Go.Proofs.Ytomcpdbaenohdaa
open Go.RowKit
set_option linter.unusedSimpArgs false
set_option linter.unusedVariables false

theorem less_trans {a b c : Rw} (h : lessP a b) (k : lessP b c) : lessP a c := by
  rcases h with h | ⟨h1, h2⟩ <;> rcases k with k | ⟨k1, k2⟩
  · exact .inl (by omega)
  · exact .inl (by omega)
  · exact .inl (by omega)
  · exact .inr ⟨by omega, List.lt_trans h2 k2⟩
theorem rows_pair {ms : List Rm} (h : rowsP ms) : ms.Pairwise (fun a b => lessP a.r b.r) := by
  rw [List.pairwise_iff_getElem]
  have : ∀ d i j (hi : i < ms.length) (hj : j < ms.length), j = i + 1 + d → lessP ms[i].r ms[j].r := fun d => by
    induction d with
    | zero =>
      intro i j hi hj e
      exact (h.2 j hj hj).2 i hi (by omega)
    | succ d ih =>
      intro i j hi hj e
      have hk : j - 1 < ms.length := by omega
      exact less_trans (ih i (j - 1) hi hk (by omega)) ((h.2 j hj hj).2 (j - 1) hk (by omega))
  intro i j hi hj hij
  exact this (j - i - 1) i j hi hj (by omega)
theorem wf_small {x : Int} (h : 0 ≤ x) (k : x ≤ 3) : (Lit.int .i64 x).wf = true := by
  have : x = 0 ∨ x = 1 ∨ x = 2 ∨ x = 3 := by omega
  rcases this with rfl | rfl | rfl | rfl <;> decide
/-- The rows of a part. -/
def ofP (ms : List Rm) (pt : Int) : List Rm := ms.filter (fun m => decide (m.r.part = pt))
theorem ofP_mem {ms : List Rm} {pt : Int} {x : Rm} : x ∈ ofP ms pt ↔ x ∈ ms ∧ x.r.part = pt := by simp [ofP]
theorem ofP_len (ms : List Rm) (pt : Int) : (ofP ms pt).length ≤ ms.length := List.length_filter_le _ _
theorem ofP_keys {ms : List Rm} (h : rowsP ms) (pt : Int) : (((ofP ms pt).map (·.r.key)).map (fun s => s.data.toList)).Pairwise (fun a b => a < b) := by
  rw [List.map_map, List.pairwise_map]
  have h1 : (ofP ms pt).Pairwise (fun a b => lessP a.r b.r) := (rows_pair h).sublist List.filter_sublist
  refine h1.imp_of_mem (fun {a b} ha hb hab => ?_)
  have e1 := (ofP_mem.1 ha).2
  have e2 := (ofP_mem.1 hb).2
  rcases hab with q | ⟨_, q⟩
  · omega
  · exact q
theorem vat_some {ms : List Rm} {pt : Int} {s : ByteArray} : (vat ms pt s).isSome = true ↔ ∃ m ∈ ms, m.r.part = pt ∧ m.r.key = s := by
  unfold vat
  rw [List.find?_isSome]
  simp
theorem vat_is {ms : List Rm} (h : rowsP ms) {x : Rm} (hx : x ∈ ms) : vat ms x.r.part x.r.key = some x := by
  have h1 : (vat ms x.r.part x.r.key).isSome = true := vat_some.2 ⟨x, hx, rfl, rfl⟩
  obtain ⟨m, hm⟩ := Option.isSome_iff_exists.1 h1
  have h2 := List.find?_some (by unfold vat at hm; exact hm)
  have h3 := List.mem_of_find?_eq_some (by unfold vat at hm; exact hm)
  simp only [Bool.and_eq_true, decide_eq_true_eq] at h2
  rw [List.mem_reverse] at h3
  rw [hm]
  obtain ⟨i, hi, rfl⟩ := List.getElem_of_mem h3
  obtain ⟨j, hj, rfl⟩ := List.getElem_of_mem hx
  have hp := List.pairwise_iff_getElem.1 (rows_pair h)
  rcases Nat.lt_trichotomy i j with q | q | q
  · rcases hp i j hi hj q with r | ⟨_, r⟩
    · omega
    · rw [h2.2] at r; exact absurd r (kb_irr _)
  · subst q; rfl
  · rcases hp j i hj hi q with r | ⟨_, r⟩
    · omega
    · rw [h2.2] at r; exact absurd r (kb_irr _)
/-- What a view has of a part. -/
theorem VI.inn_of {lo vb : Nat} {W : World} {ib : Int → Nat} {ms : List Rm} (h : VI lo W vb ib ms) (hr : rowsP ms) (pt : Int) : InnP (if inB ms pt then some (ib pt) else none) (ofP ms pt) W := by
  cases hi : inB ms pt with
  | false =>
    refine .inl ⟨by simp, ?_⟩
    unfold ofP
    rw [List.filter_eq_nil_iff]
    intro m hm
    have := List.any_eq_false.1 hi m hm
    exact this
  | true =>
    refine .inr ⟨ib pt, ms.length, _, by simp, (h.inn pt hi).2.2, fun s => ?_, fun x hx => ?_⟩
    · rw [Option.isSome_map, vat_some, List.mem_map]
      constructor
      · rintro ⟨m, h1, h2, h3⟩
        exact ⟨m, ofP_mem.2 ⟨h1, h2⟩, h3⟩
      · rintro ⟨m, h1, h2⟩
        exact ⟨m, (ofP_mem.1 h1).1, (ofP_mem.1 h1).2, h2⟩
    · obtain ⟨h1, h2⟩ := ofP_mem.1 hx
      subst h2
      show Option.map rowV (vat ms x.r.part x.r.key) = _
      rw [vat_is hr h1]
      rfl
theorem VI.lookO {lo vb : Nat} {W : World} {ib : Int → Nat} {ms : List Rm} (h : VI lo W vb ib ms) (pt : Int) (hw : (Lit.int .i64 pt).wf = true) : (Instr.lookup 48 (.map (some vb)) (.int .i64 pt) false).run Try.prog W = .ok (.map (if inB ms pt then some (ib pt) else none)) W := by
  have := h.out.look (t := 48) Try.underlying3 Try.underlying48 (zeroMap _) false pt hw
  rw [this]
  cases inB ms pt <;> rfl
/-- What is told of a part: which code, which rows. -/
def PartQ (aa : List Rm) (pt : Int) (c : Int) (L : List Rw) : Prop :=
  (4096 < aa.length ∧ c = 2 ∧ L = []) ∨ (aa.length ≤ 4096 ∧ ¬ rowsP aa ∧ c = 1 ∧ L = []) ∨ (aa.length ≤ 4096 ∧ rowsP aa ∧ ¬ (0 ≤ pt ∧ pt ≤ 3) ∧ c = 4 ∧ L = []) ∨ (aa.length ≤ 4096 ∧ rowsP aa ∧ (0 ≤ pt ∧ pt ≤ 3) ∧ c = 0 ∧ L = (aa.map Rm.r).filter (fun r => decide (r.part = pt)))
theorem PartQ.one {aa : List Rm} {pt c c' : Int} {L L' : List Rw} (h : PartQ aa pt c L) (k : PartQ aa pt c' L') : c = c' ∧ L = L' := by
  rcases h with ⟨h1, rfl, rfl⟩ | ⟨h1, h2, rfl, rfl⟩ | ⟨h1, h2, h3, rfl, rfl⟩ | ⟨h1, h2, h3, rfl, rfl⟩ <;> rcases k with ⟨k1, rfl, rfl⟩ | ⟨k1, k2, rfl, rfl⟩ | ⟨k1, k2, k3, rfl, rfl⟩ | ⟨k1, k2, k3, rfl, rfl⟩ <;> first | exact ⟨rfl, rfl⟩ | (exfalso; omega) | (exfalso; exact h2 k2) | (exfalso; exact k2 h2) | (exfalso; exact h3 k3) | (exfalso; exact k3 h3)
theorem PartQ.same {aa bb : List Rm} {pt c : Int} {L : List Rw} (h : PartQ aa pt c L) (e : aa.map Rm.r = bb.map Rm.r) : PartQ bb pt c L := by
  have hl := len_r e
  have hp := rowsP_same e
  unfold PartQ at *
  rw [← e, ← hp, ← hl]
  exact h
theorem ofP_r (ms : List Rm) (pt : Int) : (ofP ms pt).map Rm.r = (ms.map Rm.r).filter (fun r => decide (r.part = pt)) := by
  unfold ofP
  rw [List.filter_map]
  rfl
def PtP (aa : List Rm) (pt : Int) (w : World) (e : Ending) (w' : World) : Prop := ∃ (c : Int) (L : List Rw) (po : Option Addr) (pc : Nat) (ns : List Rm), PartQ aa pt c L ∧ e = .returned (.tuple #[.slice po ns.length pc, .int .i64 c]) ∧ ns.map Rm.r = L ∧ TI w.heap.size w' po pc ns ∧ Below w.heap.size w w'
set_option maxRecDepth 20000 in
set_option maxHeartbeats 4000000 in
theorem implPart (lo q : Nat) (p : Option Addr) (ms : List Rm) (pt : Int) (w : World) (hm : (ms.length : Int) ≤ 1048576) (hx : ∀ x ∈ ms, (x.r.vs.length : Int) ≤ 1048576) (hks : ∀ x ∈ ms, x.r.key.size < 1099511627776) (hr0 : RR lo w p ms) :
    Calls Try.prog 12 #[.slice p ms.length q, .int .i64 pt] w (PtP ms pt w) := by
  by_cases h1 : 4096 < (ms.length : Int)
  · go_enter Try.func12, Try.ntmps12
    go_wp2
    go_ret2
    exact ⟨2, [], none, 0, [], .inl ⟨by omega, rfl, rfl⟩, rfl, rfl, TI.nil _ _, Below.refl _ _⟩
  have RO := implRows lo q p ms w hm hx hks hr0
  have HR : Hid (RR lo w p ms) := hr0
  clear hr0
  have h1' : ms.length ≤ 4096 := by omega
  by_cases h2 : rowsP ms
  case neg =>
    have HN : Hid (¬ rowsP ms) := h2
    clear h2 hx hks
    go_enter Try.func12, Try.ntmps12
    go_wp2_with fail
    refine RO.mono ?_
    rintro e W1 ⟨r, rfl, hq, hb⟩
    obtain rfl : r = false := bool_no hq HN.out
    have HB : Hid (Below w.heap.size w W1) := hb
    clear hq hb
    go_wp2
    go_ret2
    exact ⟨1, [], none, 0, [], .inr (.inl ⟨h1', HN.out, rfl, rfl⟩), rfl, rfl, TI.nil _ _, HB.out⟩
  have HP : Hid (rowsP ms) := h2
  clear h2
  by_cases h3 : 0 ≤ pt ∧ pt ≤ 3
  case neg =>
    have H3 : Hid (¬ (0 ≤ pt ∧ pt ≤ 3)) := h3
    clear h3 hx hks
    go_enter Try.func12, Try.ntmps12
    go_wp2_with fail
    refine RO.mono ?_
    rintro e W1 ⟨r, rfl, hq, hb⟩
    obtain rfl : r = true := bool_yes hq HP.out
    have HB : Hid (Below w.heap.size w W1) := hb
    clear hq hb
    go_wp2_with fail
    refine (part_any pt false (by show _ ↔ _; simp [H3.out]) _).mono ?_
    rintro e W2 ⟨rfl, rfl⟩
    go_wp2
    go_ret2
    exact ⟨4, [], none, 0, [], .inr (.inr (.inl ⟨h1', HP.out, H3.out, rfl, rfl⟩)), rfl, rfl, TI.nil _ _, HB.out⟩
  have H3 : Hid (0 ≤ pt ∧ pt ≤ 3) := h3
  have hw : (Lit.int .i64 pt).wf = true := wf_small (by omega) (by omega)
  have HX : Hid (∀ x ∈ ms, x.r.vs.length ≤ 1048576 ∧ 0 < x.r.vs.length ∧ (Lit.int .i64 x.r.part).wf = true ∧ x.r.key.size ≤ maxLen) := fun x hxm => by
    obtain ⟨i, hi, rfl⟩ := List.getElem_of_mem hxm
    obtain ⟨⟨h4, h5, h6, h7⟩, _⟩ := (HP.out.2 i hi hi).1
    refine ⟨by omega, by omega, wf_small (by omega) (by omega), ?_⟩
    have := h5.2.1
    unfold maxLen
    omega
  have h400 : ms.length ≤ 400 := HP.out.1
  clear h3 hx hks
  have RM := fun (W : World) => run_makeMap (P := Try.prog) 48 W
  go_enter Try.func12, Try.ntmps12
  go_wp2_with fail
  refine RO.mono ?_
  rintro e W1 ⟨r, rfl, hq, hb⟩
  obtain rfl : r = true := bool_yes hq HP.out
  have HB : Hid (Below w.heap.size w W1) := hb
  clear hq hb RO
  go_wp2_with fail
  refine (part_any pt true (by show _ ↔ _; simp [H3.out]) _).mono ?_
  rintro e W2 ⟨rfl, rfl⟩
  go_wp2_with fail
  refine (viewOf_any lo q p ms _ h400 (fun x h => (HX.out x h).2.2) (HR.out.next HB.out)).mono ?_
  rintro e W3 ⟨vb, ib, hV, hb, rfl⟩
  replace HB : Hid (Below w.heap.size w W3) := bel_next HB hb
  have B4 : Below W3.heap.size W3 (W3.alloc (.map #[] 0)) := bel_alloc _ _
  have lk := (hV.next B4).lookO pt hw
  obtain ⟨W5, hrun, hM, hg⟩ := (mapI_made W3 Try.prog 3).store (t := 48) Try.underlying3 Try.underlying48 (by unfold maxLen; omega) pt hw (.map (if inB ms pt then some (ib pt) else none))
  have K5 : Hid (Kp (· = W3.heap.size) (W3.alloc (.map #[] 0)) W5) := Kp.of_grown hg
  have B5 : Hid (Below W3.heap.size W3 W5) := ((Kp.of_below (E := fun _ => False) B4).trans K5.out (E2 := (· = W3.heap.size)) (fun _ _ h => h.elim) (fun _ _ h => h)).below (Nat.le_refl _) (fun b h e => by omega)
  have HT : Hid (Calls Try.prog 28 #[.map (some W3.heap.size)] W5 (TdP (ofP ms pt) W5)) := told_any lo W3.heap.size pt _ (ofP ms pt) W5 hM hw ((hV.next B5.out).inn_of HP.out pt) (Nat.le_trans (ofP_len ms pt) h400) (ofP_keys HP.out pt) (fun x h => by
    have hxm := (ofP_mem.1 h).1
    exact ⟨((HR.out.next HB.out).next B5.out).sub x hxm, (HX.out x hxm).2.1, (HX.out x hxm).1, (HX.out x hxm).2.2.2⟩)
  clear hV hb B4 hM hg HX HR K5
  replace HB : Hid (Below w.heap.size w W5) := bel_next HB B5.out
  clear B5
  generalize (if inB ms pt then some (ib pt) else none) = ibo at *
  go_wp2_with fail
  refine HT.out.mono ?_
  rintro e W6 ⟨po, pc, ns, rfl, hr, hT, hb⟩
  have HL : Hid ((ofP ms pt).length = ns.length) := (len_r hr).symm
  have HD : Hid (ns.map Rm.r = (ms.map Rm.r).filter (fun r => decide (r.part = pt)) ∧ TI w.heap.size W6 po pc ns ∧ Below w.heap.size w W6) := ⟨hr.trans (ofP_r ms pt), hT.weak HB.out.size, (bel_next HB hb).out⟩
  clear hr hT hb HT lk hrun RM
  generalize (ofP ms pt).length = n at *
  go_wp2
  go_ret2
  exact ⟨0, _, po, pc, ns, .inr (.inr (.inr ⟨h1', HP.out, H3.out, rfl, rfl⟩)), by rw [← HL.out]; rfl, HD.out.1, HD.out.2.1, HD.out.2.2⟩
end Go.Proofs.Ytomcpdbaenohdaa
