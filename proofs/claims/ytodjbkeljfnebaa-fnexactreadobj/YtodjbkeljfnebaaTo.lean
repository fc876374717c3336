/- l03ToObj: an object's text, cut at its bars. -/
import Derived.Test.YtodjbkeljfnebaaRows
import Derived.WalkKit
import Derived.WalkSpells
import Derived.WalkLawsBesides
import Derived.Deep.QuietTactic
import Derived.BigQuiet
import Derived.Deep.RegionHeld3
import Derived.Test.YtodjbkeljfnebaaTs
import Derived.Test.YtodjbkeljfnebaaTv
import Derived.Test.YtodjbkeljfnebaaWo
import Derived.LoopN
import Derived.Deep.Cut
namespace Go.Proofs.Ytodjbkeljfnebaa
open Go.RowKit
set_option linter.unusedSimpArgs false
set_option linter.unusedVariables false

theorem sibS_det {p : List UInt8} {s s' : Sib} (h : SibS p s) (h' : SibS p s') : s = s' := by
  by_cases hd : ∃ C, p = C ++ [33]
  · obtain ⟨C, rfl⟩ := hd
    rw [(sibS_dead.1 h).2, (sibS_dead.1 h').2]
  · have hl : ∀ q, p ≠ q ++ [33] := fun q e => hd ⟨q, e⟩
    have key : ∃ a b, cutL 61 p = [a, b] := by
      rcases h with ⟨C, e, _⟩ | ⟨a, b, e, h1, h2, _⟩
      · exact absurd e (hl C)
      · exact ⟨a, b, by rw [e, cutL_app 61 a b (tdR_free h1 61 (by decide) (by decide)), cutL_none 61 b (num_free h2.1 61 (by decide))]⟩
    obtain ⟨a, b, e⟩ := key
    rw [((sibS_two e hl).1 h).2, ((sibS_two e hl).1 h').2]
theorem SibsS.det {ps : List (List UInt8)} {m : List Sib} (h : SibsS ps m) : ∀ {m'}, SibsS ps m' → m = m' := by
  induction h with
  | nil => intro m' h'; cases h'; rfl
  | cons h1 _ ih => intro m' h'; cases h' with | cons g1 g2 => rw [sibS_det h1 g1, ih g2]
theorem SibsS.snoc {ps : List (List UInt8)} {m : List Sib} (h : SibsS ps m) {p : List UInt8} {s : Sib} (hs : SibS p s) : SibsS (ps ++ [p]) (m ++ [s]) := by
  induction h with
  | nil => exact .cons hs .nil
  | cons h1 _ ih => exact .cons h1 ih
theorem SibsS.all {ps : List (List UInt8)} {m : List Sib} (h : SibsS ps m) : ∀ p ∈ ps, ∃ s, SibS p s := by
  induction h with
  | nil => intro p hp; cases hp
  | cons h1 _ ih =>
    intro p hp
    rcases List.mem_cons.1 hp with rfl | hp
    · exact ⟨_, h1⟩
    · exact ih p hp
def NoO (l : List UInt8) : Prop := ∀ x y z m, ¬ ObjS l x y z m
theorem no_elem {l p q : List UInt8} {qs : List (List UInt8)} (h : cutL 124 l = q :: qs) (hp : p ∈ qs) (hn : ∀ x, ¬ SibS p x) : NoO l := by
  rintro x y z m ⟨q', qs', a, b, c, e, _, _, _, _, hm⟩
  rw [h] at e
  cases e
  obtain ⟨s, hs⟩ := hm.all p hp
  exact hn s hs
theorem no_vv {l q : List UInt8} {qs : List (List UInt8)} (h : cutL 124 l = q :: qs) (hn : ¬ ∃ a b c, VvT q a b c) : NoO l := by
  rintro x y z m ⟨q', qs', a, b, c, e, hv, _⟩
  rw [h] at e
  cases e
  exact hn ⟨a, b, c, hv⟩
theorem okp_v {m : List Sib} {x y z : Int} (h : OkP m x y z) : ∀ s ∈ m, s.v ≤ 999 := fun s hs => by
  obtain ⟨i, hi, rfl⟩ := List.mem_iff_getElem.1 hs
  have h1 := (h.2.2 i hi).1
  unfold sibOK at h1
  simp at h1
  omega
theorem no_obj {l : List UInt8} (h : NoO l) : NoObj l := fun x y z m hg => h x y z m ((objS_iff (okp_v hg.2)).2 hg.1)
theorem objS_det {l : List UInt8} {x y z x' y' z' : Int} {m m' : List Sib} (h : ObjS l x y z m) (h' : ObjS l x' y' z' m') : m = m' ∧ x = x' ∧ y = y' ∧ z = z' := by
  obtain ⟨p, ps, a, b, c, e, hv, rfl, rfl, rfl, hm⟩ := h
  obtain ⟨p', ps', a', b', c', e', hv', rfl, rfl, rfl, hm'⟩ := h'
  rw [e] at e'
  cases e'
  have e1 := (vvT_cut hv).symm.trans (vvT_cut hv')
  simp only [List.cons.injEq, and_true] at e1
  obtain ⟨rfl, rfl, rfl⟩ := e1
  exact ⟨hm.det hm', rfl, rfl, rfl⟩
theorem no_ok {l : List UInt8} {x y z : Int} {m : List Sib} (h : ObjS l x y z m) (hn : ¬ OkP m x y z) : NoObj l := fun x' y' z' m' hg => by
  obtain ⟨rfl, rfl, rfl, rfl⟩ := objS_det h ((objS_iff (okp_v hg.2)).2 hg.1)
  exact hn hg.2
theorem good_of {l : List UInt8} {x y z : Int} {m : List Sib} (h : ObjS l x y z m) (hn : OkP m x y z) : GoodR l x y z m := ⟨(objS_iff (okp_v hn)).1 h, hn⟩
theorem cutL_len (c : UInt8) : ∀ l, (cutL c l).length ≤ l.length + 1
  | [] => by simp [cutL]
  | d :: l => by
    have ih := cutL_len c l
    unfold cutL
    split
    · simp; omega
    · split <;> (rename_i h; simp_all <;> omega)

/-- What the reading keeps. -/
structure TO (w wr : World) (g ob : Nat) (vo : Option Addr) (n vc : Nat) (x y z : Int) (m : List Sib) (ps : List ByteArray) : Prop where
  own : wr.ownsRow 0 46 4 (.slice vo n vc) n (flat m)
  len : n = m.length
  box : OBx wr ob (.slice vo n vc) x y z
  ne : (Value.slice vo n vc).ownBlock ≠ some ob
  new : ∀ k, (Value.slice vo n vc).ownBlock = some k → w.heap.size < k ∧ g < k
  res : OBx wr w.heap.size (.slice none 0 0) 0 0 0
  row : ∀ i (h : i < ps.length), wr.cell? ⟨g, i, none⟩ = some (.string ps[i])
  bel : Below w.heap.size w wr
  ord : w.heap.size < ob ∧ g < ob ∧ g < wr.heap.size
theorem TO.next {w wr wr' : World} {g ob n vc : Nat} {vo : Option Addr} {x y z : Int} {m : List Sib} {ps : List ByteArray} (h : TO w wr g ob vo n vc x y z m ps) (hb : Below wr.heap.size wr wr') : TO w wr' g ob vo n vc x y z m ps :=
  ⟨own_next h.own hb, h.len, h.box.next hb, h.ne, h.new, h.res.next hb, fun i hi => cell_next hb (h.row i hi) h.ord.2.2, h.bel.trans (hb.mono h.bel.size), h.ord.1, h.ord.2.1, Nat.lt_of_lt_of_le h.ord.2.2 hb.size⟩
theorem TO.put {w wr wr' : World} {g ob n vc n' : Nat} {vo : Option Addr} {x y z : Int} {m m' : List Sib} {ps : List ByteArray} {v' : Value} (h : TO w wr g ob vo n vc x y z m ps) (ho : wr'.ownsRow 0 46 4 v' n' (flat m')) (hn : n' = m'.length) (hg : Gro wr wr' (.slice vo n vc) v') : ∃ vo' vc', v' = .slice vo' n' vc' ∧ TO w (wr'.setCell ⟨ob, 0, none⟩ v') g ob vo' n' vc' x y z m' ps := by
  have hvne : v'.ownBlock ≠ some ob := hg.ne h.box.2.2 h.ne
  have hnew : ∀ k, v'.ownBlock = some k → w.heap.size < k ∧ g < k := fun k hk => by
    rcases hg.fresh k hk with h' | h'
    · exact h.new k h'
    · have := h.res.2.2; have := h.ord.2.2; omega
  obtain ⟨vo', vc', rfl⟩ := own_slice ho
  have q0 : (Value.slice vo n vc).ownBlock ≠ some w.heap.size := fun e => by have := (h.new _ e).1; omega
  have q1 : (Value.slice vo n vc).ownBlock ≠ some g := fun e => by have := (h.new _ e).2; omega
  have hr := h.res.gro hg q0
  have ho1 := h.ord.1
  have ho2 := h.ord.2.1
  refine ⟨vo', vc', rfl, ⟨ownsRow_setCell_other ho hvne _, hn, (h.box.gro hg h.ne).set, hvne, hnew, ⟨⟨cell_set hr.1.1 (by omega), cell_set hr.1.2.1 (by omega), cell_set hr.1.2.2.1 (by omega), cell_set hr.1.2.2.2 (by omega)⟩, hr.2.1.set, by simpa [World.setCell] using hr.2.2⟩, fun i hi => cell_set (hg.cell (h.row i hi) q1) (by omega), ?_, h.ord.1, h.ord.2.1, ?_⟩⟩
  · exact ((h.bel.trans ((hg.below h.bel.size (fun k hk => Nat.le_of_lt (h.new k hk).1)))).setCell (by simp; omega) _)
  · have := Nat.lt_of_lt_of_le h.ord.2.2 hg.size
    simpa [World.setCell] using this
/-- What l03ToObj answers. -/
def ToP (w : World) (l : List UInt8) (e : Ending) (w' : World) : Prop :=
  (∃ (m : List Sib) (x y z : Int) (v : Value), GoodR l x y z m ∧ e = .returned (.tuple #[.agg #[v, .int .i64 x, .int .i64 y, .int .i64 z], .bool true]) ∧ w'.ownsRow 0 46 4 v m.length (flat m) ∧ (∀ k, v.ownBlock = some k → w.heap.size < k) ∧ Below w.heap.size w w') ∨
  (NoObj l ∧ e = .returned (.tuple #[.agg #[.slice none 0 0, .int .i64 0, .int .i64 0, .int .i64 0], .bool false]) ∧ Below w.heap.size w w')
theorem tvp_one {w w' : World} {p : ByteArray} {e : Ending} (h : TvP w p e w') : ∃ (ok : Bool) (x y z : Int), e = .returned (.tuple #[.agg #[.int .i64 x, .int .i64 y, .int .i64 z], .bool ok]) ∧ (ok = true → ∃ a b c, VvT (bl p) a b c ∧ x = nv a ∧ y = nv b ∧ z = nv c) ∧ (ok = false → ¬ ∃ a b c, VvT (bl p) a b c) ∧ Below w.heap.size w w' := by
  rcases h with ⟨a, b, c, hv, rfl, hb⟩ | ⟨hn, rfl, hb⟩
  · exact ⟨true, _, _, _, rfl, (fun _ => ⟨a, b, c, hv, rfl, rfl, rfl⟩), (fun h => by cases h), hb⟩
  · exact ⟨false, _, _, _, rfl, (fun h => by cases h), (fun _ => hn), hb⟩
set_option maxRecDepth 100000 in
set_option maxHeartbeats 8000000 in
theorem l03ToObj_any (s : ByteArray) (w : World) (hs : s.size ≤ 65536) :
    Calls Try.prog 36 #[.string s] w fun e w' => ToP w (bl s) e w' := by
  obtain ⟨i0, hi, hz0, hz1, hz2⟩ := info_parts info_sib
  have HI : Hid (Try.prog.info? 46 = some i0 ∧ i0.zero = some (.agg #[.int .i64 0, .int .i64 0, .int .i64 0, .bool false]) ∧ i0.size = 4 ∧ i0.bytes = 32) := ⟨hi, hz0, hz1, hz2⟩
  clear hi hz0 hz1 hz2
  go_enter Try.func36, Try.ntmps36
  go_wp2_with fail
  refine (cut_any s 124 _ (by omega) (by omega)).mono ?_
  rintro e w1 ⟨g, cap, ps, rfl, hPS, hSZ, hC, hb⟩
  have RS : Hid (OBx w1 w.heap.size (.slice none 0 0) 0 0 0) := OBx.next ⟨⟨by go_simp, by go_simp, by go_simp, by go_simp⟩, fun j hj => by
    have hj' : j = 0 ∨ j = 1 ∨ j = 2 ∨ j = 3 := by omega
    rcases hj' with rfl | rfl | rfl | rfl <;> exact ⟨by go_simp, by go_simp⟩, by simp⟩ hb
  have HB : Hid (Below w.heap.size w w1) := (bel_alloc _ _).trans (hb.mono (by simp))
  clear hb
  obtain ⟨p0, qs, rfl⟩ : ∃ p0 qs, ps = p0 :: qs := by
    cases ps with
    | nil => exact absurd hPS.symm (cutL_ne 124 (bl s))
    | cons a b => exact ⟨a, b, rfl⟩
  have HP : Hid (cutL 124 (bl s) = bl p0 :: qs.map bl) := hPS.symm
  have HQ : Hid (qs.length ≤ 65536) := by
    have h1 := cutL_len 124 (bl s)
    rw [HP.out, bl_len] at h1
    show _ ≤ _
    simp at h1
    omega
  have HS : Hid (∀ p ∈ p0 :: qs, p.size ≤ 1048576) := fun p hp => by have := hSZ p hp; omega
  have HC : Hid (∀ i (h : i < (p0 :: qs).length), w1.cell? ⟨g, i, none⟩ = some (.string (p0 :: qs)[i])) := hC
  have G1 : Hid (g < w1.heap.size) := World.block_lt_of_cell? w1 ⟨g, 0, none⟩ (hC 0 (by simp))
  have c0 : w1.cell? ⟨g, 0, none⟩ = some (.string p0) := hC 0 (by simp)
  clear hC hSZ hPS
  simp only [List.length_cons]
  go_wp2_with fail
  clear c0
  refine (l03ToVv_any p0 _ (HS.out p0 (by simp))).mono ?_
  rintro e w2 hP
  obtain ⟨ok0, x, y, z, rfl, hy, hn, hb⟩ := tvp_one hP
  replace RS : Hid (OBx w2 w.heap.size (.slice none 0 0) 0 0 0) := RS.out.next hb
  replace HB := bel_next HB hb
  have HY : Hid (ok0 = true → ∃ a b c, VvT (bl p0) a b c ∧ x = nv a ∧ y = nv b ∧ z = nv c) := hy
  have HN : Hid (ok0 = false → NoO (bl s)) := fun h => no_vv HP.out (hn h)
  replace HC : Hid (∀ i (h : i < (p0 :: qs).length), w2.cell? ⟨g, i, none⟩ = some (.string (p0 :: qs)[i])) := fun i h => cell_next hb (HC.out i h) G1.out
  replace G1 : Hid (g < w2.heap.size) := Nat.lt_of_lt_of_le G1.out hb.size
  clear hb hy hn hP
  go_wp2
  have T0 : Hid (TO w (((w2.alloc (.cells #[.int .i64 x, .int .i64 y, .int .i64 z] 30)).alloc (.cells #[] 46)).alloc (.cells #[.slice (some ⟨w2.heap.size + 1, 0, none⟩) 0 0, .int .i64 x, .int .i64 y, .int .i64 z] 32)) g (w2.heap.size + 1 + 1) (some ⟨w2.heap.size + 1, 0, none⟩) 0 0 x y z [] (p0 :: qs)) := by
    have e1 : (w2.alloc (.cells #[.int .i64 x, .int .i64 y, .int .i64 z] 30)).heap.size = w2.heap.size + 1 := by simp
    have h1 := World.ownsRow_lit (base := 0) (e := 46) (size := 4) (w2.alloc (.cells #[.int .i64 x, .int .i64 y, .int .i64 z] 30)) #[] 0 (Nat.zero_le _) (by unfold maxLen; omega) (by simp)
    rw [e1] at h1
    have hb3 : Below w2.heap.size w2 (((w2.alloc (.cells #[.int .i64 x, .int .i64 y, .int .i64 z] 30)).alloc (.cells #[] 46)).alloc (.cells #[.slice (some ⟨w2.heap.size + 1, 0, none⟩) 0 0, .int .i64 x, .int .i64 y, .int .i64 z] 32)) := (bel_alloc _ _).trans (((bel_alloc _ _).trans ((bel_alloc _ _).mono (by simp))).mono (by simp))
    have hzr := RS.out.2.2
    exact ⟨own_next h1 (bel_alloc _ _), rfl, ⟨⟨by go_simp, by go_simp, by go_simp, by go_simp⟩, fun j hj => by
      have hj' : j = 0 ∨ j = 1 ∨ j = 2 ∨ j = 3 := by omega
      rcases hj' with rfl | rfl | rfl | rfl <;> exact ⟨by go_simp, by go_simp⟩, by simp⟩, by simp [Value.ownBlock], fun k hk => by
      have := G1.out
      simp [Value.ownBlock] at hk
      omega, RS.out.next hb3, fun i h => cell_next hb3 (HC.out i h) G1.out, (bel_next HB hb3).out, by omega, by have := G1.out; omega, Nat.lt_of_lt_of_le G1.out hb3.size⟩
  clear RS HB HC G1
  generalize (((w2.alloc (.cells #[.int .i64 x, .int .i64 y, .int .i64 z] 30)).alloc (.cells #[] 46)).alloc (.cells #[.slice (some ⟨w2.heap.size + 1, 0, none⟩) 0 0, .int .i64 x, .int .i64 y, .int .i64 z] 32)) = W2 at *
  generalize w2.heap.size + 1 + 1 = ob at *
  go_loopw [6, 8] (fun s6 s8 wr => ∃ (ok : Bool) (i : Nat) (m : List Sib) (vo : Option Addr) (n vc : Nat), s6 = .bool ok ∧ s8 = .int .i64 i ∧ TO w wr g ob vo n vc x y z m (p0 :: qs) ∧ m.length + 1 = i ∧ i ≤ qs.length + 1 ∧ Hid (ok = true → (∃ a b c, VvT (bl p0) a b c ∧ x = nv a ∧ y = nv b ∧ z = nv c) ∧ SibsS ((qs.map bl).take m.length) m) ∧ Hid (ok = false → NoO (bl s))) (fun _ s8 _ => qs.length + 1 - (intOf s8).toNat)
  case atStart => exact ⟨ok0, 1, [], _, 0, 0, rfl, rfl, T0.out, rfl, by omega, fun h => ⟨HY.out h, by simpa using SibsS.nil⟩, HN⟩
  case round =>
    clear T0 HY HN
    obtain ⟨ok, i, m, vo, n, vc, rfl, rfl, hTO, hmi, hi, HYY, HNN⟩ := hrel
    have TX : Hid (TO w wr g ob vo n vc x y z m (p0 :: qs)) := hTO
    clear hTO
    have hi0 : (0 : Int) ≤ (i : Int) := by omega
    by_cases hlt : i < qs.length + 1
    · have hlt' : (i : Int) < (qs.length : Int) + 1 := by omega
      cases ok
      · have HNO : Hid (NoObj (bl s)) := no_obj (HNN.out rfl)
        clear HYY HNN
        obtain ⟨_, hTr, hz9⟩ := TX.out.res
        obtain ⟨t0, T0⟩ := Option.isSome_iff_exists.1 (hTr 0 (by omega)).1
        have Z0 := (hTr 0 (by omega)).2
        obtain ⟨t1, T1⟩ := Option.isSome_iff_exists.1 (hTr 1 (by omega)).1
        have Z1 := (hTr 1 (by omega)).2
        obtain ⟨t2, T2⟩ := Option.isSome_iff_exists.1 (hTr 2 (by omega)).1
        have Z2 := (hTr 2 (by omega)).2
        obtain ⟨t3, T3⟩ := Option.isSome_iff_exists.1 (hTr 3 (by omega)).1
        have Z3 := (hTr 3 (by omega)).2
        clear hTr
        go_wp2
        exact bodyPost_ret (v := .tuple #[.agg #[.slice none 0 0, .int .i64 0, .int .i64 0, .int .i64 0], .bool false]) (by simp [results, Try.results36, go_sem, T0, T1, T2, T3, Z0, Z1, Z2, Z3]) rfl (.inr ⟨HNO.out, rfl, bel_s4 TX.out.bel⟩)
      have HV : Hid (∃ a b c, VvT (bl p0) a b c ∧ x = nv a ∧ y = nv b ∧ z = nv c) := (HYY.out rfl).1
      have HM : Hid (SibsS ((qs.map bl).take m.length) m) := (HYY.out rfl).2
      obtain ⟨p, hp⟩ : ∃ p, p = (p0 :: qs)[i]'(by simpa using hlt) := ⟨_, rfl⟩
      have hc0 : wr.cell? ⟨g, i, none⟩ = some (.string p) := by rw [hp]; exact TX.out.row i (by simpa using hlt)
      have hsz : p.size ≤ 1048576 := HS.out p (by rw [hp]; exact List.getElem_mem _)
      have HPQ : Hid (∃ h : m.length < qs.length, p = qs[m.length]'h) := by
        subst hmi
        exact ⟨by omega, by rw [hp]; rfl⟩
      clear hp HYY HNN
      go_wp2_with fail
      clear hc0
      refine (sibling_any p _ hsz).mono ?_
      rintro e w4 ⟨ok, s9, rfl, hy4, hn4, hb⟩
      have HYY : Hid (ok = true → (∃ a b c, VvT (bl p0) a b c ∧ x = nv a ∧ y = nv b ∧ z = nv c) ∧ SibsS ((qs.map bl).take (m ++ [s9]).length) (m ++ [s9])) := fun h => ⟨HV.out, by
        obtain ⟨h1, h2⟩ := HPQ.out
        have e1 : (qs.map bl).take (m ++ [s9]).length = (qs.map bl).take m.length ++ [bl p] := by
          rw [List.length_append, List.length_singleton, List.take_add_one, List.getElem?_map, List.getElem?_eq_getElem h1, ← h2]
          rfl
        rw [e1]
        exact HM.out.snoc (hy4 h)⟩
      have HNN : Hid (ok = false → NoO (bl s)) := fun h => no_elem (p := bl p) HP.out (by
        obtain ⟨h1, h2⟩ := HPQ.out
        rw [h2]
        exact List.mem_map_of_mem (List.getElem_mem _)) (hn4 h)
      replace TX : Hid (TO w w4 g ob vo n vc x y z m (p0 :: qs)) := TX.out.next hb
      clear hb hy4 hn4 HV HM HPQ hsz
      go_upto_region 9 with fail
      have TX5 : Hid (TO w (w4.alloc (.cells #[.int .i64 s9.p, .int .i64 s9.n, .int .i64 s9.v, .bool s9.d] 46)) g ob vo n vc x y z m (p0 :: qs)) := TX.out.next (bel_alloc _ _)
      have S0 : (w4.alloc (.cells #[.int .i64 s9.p, .int .i64 s9.n, .int .i64 s9.v, .bool s9.d] 46)).cell? ⟨w4.heap.size, 0, none⟩ = some (.int .i64 s9.p) := by go_simp
      have S1 : (w4.alloc (.cells #[.int .i64 s9.p, .int .i64 s9.n, .int .i64 s9.v, .bool s9.d] 46)).cell? ⟨w4.heap.size, 1, none⟩ = some (.int .i64 s9.n) := by go_simp
      have S2 : (w4.alloc (.cells #[.int .i64 s9.p, .int .i64 s9.n, .int .i64 s9.v, .bool s9.d] 46)).cell? ⟨w4.heap.size, 2, none⟩ = some (.int .i64 s9.v) := by go_simp
      have S3 : (w4.alloc (.cells #[.int .i64 s9.p, .int .i64 s9.n, .int .i64 s9.v, .bool s9.d] 46)).cell? ⟨w4.heap.size, 3, none⟩ = some (.bool s9.d) := by go_simp
      clear TX
      generalize (w4.alloc (.cells #[.int .i64 s9.p, .int .i64 s9.n, .int .i64 s9.v, .bool s9.d] 46)) = w5 at *
      obtain ⟨⟨o0, _, _, _⟩, hTo, hzo⟩ := TX5.out.box
      have hfo := (hTo 0 (by omega)).2
      clear hTo
      have hn6 : n ≤ 65536 := by have := HQ.out; have := TX5.out.len; omega
      go_wp2_with (first | (at_builtin; refine wpList_append3 rfl _ _ 29 rfl 46 i0 (.agg #[.int .i64 0, .int .i64 0, .int .i64 0, .bool false]) 32 Try.underlying29 HI.out.1 HI.out.2.1 HI.out.2.2.1 HI.out.2.2.2 rfl (.slice vo n vc) n _ rfl (TX5.out.next (bel_alloc _ _)).own _ _ _ [s9] rfl src_one ?c3 ?c4 ?_) | go_in)
      case c3 => unfold maxLen; omega
      case c4 => omega
      intro v' w6 ho6 hg6
      obtain ⟨vo', vc', rfl, hR6⟩ := (TX5.out.next (bel_alloc _ _)).put (m' := m ++ [s9]) (own_cast ho6 rfl (by rw [flat_append])) (by have := TX5.out.len; simp; omega) hg6
      have o6 := hg6.cell (box_alloc o0 hzo) TX5.out.ne
      have f6 := (th_gro ((TX5.out.next (bel_alloc _ _)).box.2.1) hg6 ((TX5.out.next (bel_alloc _ _)).box.2.2) TX5.out.ne 0 (by omega)).2
      have R6 : Hid _ := hR6
      clear ho6 hg6 hR6 S0 S1 S2 S3 o0 hfo TX5
      have hq65 := HQ.out
      have hiw : IntKind.i64.wrap ((i : Int) + 1) = (i : Int) + 1 := by rw [IntKind.wrap_i64]; omega
      go_wp2
      go_roundw
      case rel => first | exact ⟨ok, i + 1, m ++ [s9], vo', n + 1, vc', rfl, by go_num, R6.out, by simp; omega, by omega, HYY, HNN⟩ | ((repeat apply Exists.intro); exact ⟨⟨ok, i + 1, m ++ [s9], vo', n + 1, vc', rfl, by go_num, R6.out, by simp; omega, by omega, HYY, HNN⟩, rfl⟩)
      case measure => simp [intOf]; omega
    · have hlt' : ¬ (i : Int) < (qs.length : Int) + 1 := by omega
      cases ok
      · have HNO : Hid (NoObj (bl s)) := no_obj (HNN.out rfl)
        clear HYY HNN
        obtain ⟨_, hTr, hz9⟩ := TX.out.res
        obtain ⟨t0, T0⟩ := Option.isSome_iff_exists.1 (hTr 0 (by omega)).1
        have Z0 := (hTr 0 (by omega)).2
        obtain ⟨t1, T1⟩ := Option.isSome_iff_exists.1 (hTr 1 (by omega)).1
        have Z1 := (hTr 1 (by omega)).2
        obtain ⟨t2, T2⟩ := Option.isSome_iff_exists.1 (hTr 2 (by omega)).1
        have Z2 := (hTr 2 (by omega)).2
        obtain ⟨t3, T3⟩ := Option.isSome_iff_exists.1 (hTr 3 (by omega)).1
        have Z3 := (hTr 3 (by omega)).2
        clear hTr
        go_wp2
        exact bodyPost_ret (v := .tuple #[.agg #[.slice none 0 0, .int .i64 0, .int .i64 0, .int .i64 0], .bool false]) (by simp [results, Try.results36, go_sem, T0, T1, T2, T3, Z0, Z1, Z2, Z3]) rfl (.inr ⟨HNO.out, rfl, bel_s4 TX.out.bel⟩)
      have HO : Hid (ObjS (bl s) x y z m) := by
        obtain ⟨⟨a, b, c, hv, e1, e2, e3⟩, hm⟩ := HYY.out rfl
        rw [List.take_of_length_le (by simp; omega)] at hm
        exact ⟨_, _, a, b, c, HP.out, hv, e1, e2, e3, hm⟩
      have RW : Hid (SibRow wr vo m) := by
        have hh := TX.out.own
        rw [TX.out.len] at hh
        obtain ⟨o', c', e', hr', _⟩ := owned_row hh
        cases e'
        exact hr'
      obtain ⟨kk, hkk⟩ := bool_of (OkP m x y z)
      have CK : Hid (∀ W, SibRow W vo m → Calls Try.prog 17 #[.agg #[.slice vo n vc, .int .i64 x, .int .i64 y, .int .i64 z]] W fun e w' => e = .returned (.bool kk) ∧ Below W.heap.size W w') := fun W h => by
        have h1 := specOK_any vc vo m x y z kk hkk W (by have := HQ.out; omega) h
        rw [← TX.out.len] at h1
        exact h1
      obtain ⟨⟨o0, o1, o2, o3⟩, _, _⟩ := TX.out.box
      clear HYY HNN
      go_wp2_with fail
      clear o0 o1 o2 o3
      refine (CK.out _ RW.out).mono ?_
      rintro e w9 ⟨rfl, hb⟩
      replace TX : Hid (TO w w9 g ob vo n vc x y z m (p0 :: qs)) := TX.out.next hb
      clear hb CK RW
      obtain ⟨_, hTr, hz9⟩ := TX.out.res
      obtain ⟨t0, T0⟩ := Option.isSome_iff_exists.1 (hTr 0 (by omega)).1
      have Z0 := (hTr 0 (by omega)).2
      obtain ⟨t1, T1⟩ := Option.isSome_iff_exists.1 (hTr 1 (by omega)).1
      have Z1 := (hTr 1 (by omega)).2
      obtain ⟨t2, T2⟩ := Option.isSome_iff_exists.1 (hTr 2 (by omega)).1
      have Z2 := (hTr 2 (by omega)).2
      obtain ⟨t3, T3⟩ := Option.isSome_iff_exists.1 (hTr 3 (by omega)).1
      have Z3 := (hTr 3 (by omega)).2
      clear hTr
      cases kk
      · have HN : Hid (NoObj (bl s)) := no_ok HO.out (fun h => by have := hkk.out.2 h; cases this)
        clear hkk HO
        go_wp2
        exact bodyPost_ret (v := .tuple #[.agg #[.slice none 0 0, .int .i64 0, .int .i64 0, .int .i64 0], .bool false]) (by simp [results, Try.results36, go_sem, T0, T1, T2, T3, Z0, Z1, Z2, Z3]) rfl (.inr ⟨HN.out, rfl, bel_s4 TX.out.bel⟩)
      · have HG2 : Hid (GoodR (bl s) x y z m) := good_of HO.out (hkk.out.1 rfl)
        clear hkk HO
        obtain ⟨⟨o0, o1, o2, o3⟩, _, _⟩ := TX.out.box
        go_wp2
        refine bodyPost_ret (v := .tuple #[.agg #[.slice vo n vc, .int .i64 x, .int .i64 y, .int .i64 z], .bool true]) (by simp [results, Try.results36, go_sem, T0, T1, T2, T3, Z0, Z1, Z2, Z3]) rfl (.inl ⟨m, x, y, z, _, HG2.out, rfl, ?_, fun k hk => (TX.out.new k hk).1, bel_s4 TX.out.bel⟩)
        have ho := own_set4 (g := w.heap.size) (v0 := .slice vo n vc) (v1 := .int .i64 x) (v2 := .int .i64 y) (v3 := .int .i64 z) TX.out.own (fun e => by have := (TX.out.new _ e).1; omega)
        exact own_cast ho TX.out.len rfl
end Go.Proofs.Ytodjbkeljfnebaa
