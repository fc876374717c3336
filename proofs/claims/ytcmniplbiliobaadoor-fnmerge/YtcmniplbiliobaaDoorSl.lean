/- StaleOf of both sides. -/
import Derived.Test.YtcmniplbiliobaaDoorRows
import Derived.WalkKit
import Derived.WalkSpells
import Derived.WalkLawsBesides
import Derived.Deep.QuietTactic
import Derived.BigQuiet
import Derived.Deep.RegionHeld3
import Derived.Test.YtcmniplbiliobaaDoorSt
import Derived.LoopN
namespace Go.Proofs.YtcmniplbiliobaaDoor
open Go.RowKit
set_option linter.unusedSimpArgs false
set_option linter.unusedVariables false

/-- The places below k that are not told alike. -/
def stl (sB : Nat → Bool) (k : Nat) : List Int := ((List.range k).filter fun j => !sB j).map fun (j : Nat) => (j : Int)
theorem stl_hit {sB : Nat → Bool} {k : Nat} (h : sB k = false) : stl sB (k + 1) = stl sB k ++ [(k : Int)] := by simp [stl, List.range_succ, List.filter_append, h]
theorem stl_miss {sB : Nat → Bool} {k : Nat} (h : sB k = true) : stl sB (k + 1) = stl sB k := by simp [stl, List.range_succ, List.filter_append, h]
theorem stl_len (sB : Nat → Bool) (k : Nat) : (stl sB k).length ≤ k := by
  unfold stl
  rw [List.length_map]
  exact Nat.le_trans (List.length_filter_le _ _) (by simp)
theorem stl_lss (sB : Nat → Bool) (k : Nat) : Lss (stl sB k) (k : Int) := fun z hz => by
  unfold stl at hz
  obtain ⟨j, hj, rfl⟩ := List.mem_map.1 hz
  have := List.mem_range.1 (List.mem_filter.1 hj).1
  omega
/-- Which replicas are what is merged. -/
def SmB (os : List Ov) (J : List Sib) (p q r : Int) (sB : Nat → Bool) : Prop := ∀ i (h : i < os.length), sB i = true ↔ Same os[i].l J os[i].a os[i].b os[i].c p q r
open Classical in
theorem smb_is (os : List Ov) (J : List Sib) (p q r : Int) : ∃ sB, SmB os J p q r sB := ⟨fun i => if h : i < os.length then decide (Same os[i].l J os[i].a os[i].b os[i].c p q r) else true, fun i h => by simp [h]⟩
/-- A row of numbers that a call hands out, with a code. -/
def InQ (zs : List Int) (c : Int) (w : World) (e : Ending) (w' : World) : Prop := ∃ ao cap, e = .returned (.tuple #[.slice ao zs.length cap, .int .i64 c]) ∧ Below w.heap.size w w' ∧ Hid (w'.ownsRow 0 3 1 (.slice ao zs.length cap) zs.length (zs.map (Value.int .i64))) ∧ Hid (∀ k, Value.ownBlock (.slice ao zs.length cap) = some k → w.heap.size ≤ k ∧ k < w'.heap.size)
def SrL (sB : Nat → Bool) (os : List Ov) (code : Int) : List Int := if code = 0 then stl sB os.length else []
theorem inq_nil {w w' : World} {c : Int} (hb : Below w.heap.size w w') : InQ [] c w (.returned (.tuple #[.slice none 0 0, .int .i64 c])) w' := ⟨none, 0, rfl, hb, World.ownsRow_nil _ _ _ _, fun k hk => by simp [Value.ownBlock] at hk⟩
theorem row_low {W W' : World} {n : Nat} {ao : Option Addr} {l : List Sib} (h : SibRow W ao l) (hb : Below n W W') (hl : ∀ x, ao = some x → l ≠ [] → x.block < n) : SibRow W' ao l := by
  rcases h with h | ⟨b, off, rfl, h2⟩
  · exact .inl h
  · refine .inr ⟨b, off, rfl, fun i hi => ?_⟩
    have hlt : b < n := hl _ rfl (fun e => by rw [e] at hi; simp at hi)
    obtain ⟨c0, c1, c2, c3⟩ := h2 i hi
    exact ⟨by rw [hb.cell (p := ⟨b, _, none⟩) hlt]; exact c0, by rw [hb.cell (p := ⟨b, _, none⟩) hlt]; exact c1, by rw [hb.cell (p := ⟨b, _, none⟩) hlt]; exact c2, by rw [hb.cell (p := ⟨b, _, none⟩) hlt]; exact c3⟩
theorem cell_low {W W' : World} {n b o : Nat} {v : Value} (h : W.cell? ⟨b, o, none⟩ = some v) (hb : Below n W W') (hl : b < n) : W'.cell? ⟨b, o, none⟩ = some v := by rw [hb.cell (p := ⟨b, o, none⟩) hl]; exact h
theorem own_srow2 {W : World} {e : TypeId} {ao : Option Addr} {cap : Nat} {J : List Sib} (h : W.ownsRow 0 e 4 (.slice ao J.length cap) J.length (flat J)) : SibRow W ao J ∧ ∀ x, ao = some x → J ≠ [] → x.block < W.heap.size := by
  obtain ⟨o, c, e, hr, _⟩ := owned_row h
  cases e
  refine ⟨hr, fun x hx hJ => ?_⟩
  subst hx
  exact (h.lt x.block rfl).2
/-- What the loop over replicas has at hand: what is merged, in its box b4, all of it below q. -/
structure SI2 (W : World) (b4 q0 : Nat) (vo : Option Addr) (vc : Nat) (J : List Sib) (p q r : Int) : Prop where
  box : Cells4 W b4 (.slice vo J.length vc) p q r
  lt : b4 < q0
  row : SibRow W vo J
  low : ∀ x, vo = some x → J ≠ [] → x.block < q0
theorem SI2.low_ {W W' : World} {b4 q0 : Nat} {vo : Option Addr} {vc : Nat} {J : List Sib} {p q r : Int} (h : SI2 W b4 q0 vo vc J p q r) (hb : Below q0 W W') : SI2 W' b4 q0 vo vc J p q r :=
  ⟨⟨cell_low h.box.1 hb h.lt, cell_low h.box.2.1 hb h.lt, cell_low h.box.2.2.1 hb h.lt, cell_low h.box.2.2.2 hb h.lt⟩, h.lt, row_low h.row hb h.low, h.low⟩
set_option maxHeartbeats 4000000 in
theorem implStale_any (cap : Nat) (ao : Option Addr) (os : List Ov) (J : List Sib) (p q r code : Int) (sB : Nat → Bool) (hJ : Hid (MR os J p q r code)) (hS0 : SmB os J p q r sB) (w : World) (hn : os.length ≤ 1048576) (hs : Sml os) (hr0 : ORow w ao os) :
    Calls Tryd.prog 13 #[.slice ao os.length cap] w (InQ (SrL sB os code) code w) := by
  have HR : Hid (ORow w ao os) := hr0
  have C : Hid _ := implMerge_any cap ao os J p q r code hJ w hn hs hr0
  by_cases hc : code = 0
  · subst hc
    have h3 : os.length ≤ 3 := by
      rcases hJ.out with ⟨_, _, e⟩ | ⟨_, _, _, e⟩ | ⟨_, _, _, e⟩ | ⟨_, _, _, _, e⟩ | ⟨h3, _, _, _, _⟩
      · omega
      · omega
      · omega
      · omega
      · exact h3
    have hJ100 : J.length ≤ 100 := by
      rcases hJ.out with ⟨_, _, e⟩ | ⟨_, _, _, e⟩ | ⟨_, _, _, e⟩ | ⟨_, _, _, _, e⟩ | ⟨_, _, h4, h5, _⟩
      · omega
      · omega
      · omega
      · omega
      · rw [h5] at h4; exact h4
    have HS0 : Hid (SmB os J p q r sB) := hS0
    have HSM : Hid (Sml os) := hs
    have E : SrL sB os 0 = stl sB os.length := rfl
    rw [E]
    clear E hr0 hS0 hs hJ
    go_enter Tryd.func13, Tryd.ntmps13
    go_wp2_with fail
    refine Calls.mono C.out ?_
    rintro e w1 ⟨vo, vc, rfl, hg, ho⟩
    have hb1 : Below w.heap.size w w1 := hg.below (Nat.le_refl _) (fun k hk => by simp [Value.ownBlock] at hk)
    have HB1 : Hid (Below w.heap.size w ((w1.alloc (.cells #[.slice vo J.length vc, .int .i64 p, .int .i64 q, .int .i64 r] 32)).alloc (.cells #[.slice none 0 0] 68))) := hb1.trans (((bel_alloc _ _).trans ((bel_alloc _ _).mono (bel_alloc _ _).size)).mono hb1.size)
    have HZ : Hid (w.heap.size ≤ w1.heap.size) := hb1.size
    have S2 : Hid (SI2 ((w1.alloc (.cells #[.slice vo J.length vc, .int .i64 p, .int .i64 q, .int .i64 r] 32)).alloc (.cells #[.slice none 0 0] 68)) w1.heap.size (w1.heap.size + 1) vo vc J p q r) := by
      obtain ⟨hr1, hl1⟩ := own_srow2 ho
      refine ⟨⟨by go_simp, by go_simp, by go_simp, by go_simp⟩, by omega, (hr1.next (bel_alloc _ _)).next (bel_alloc _ _), fun x hx hj => by have := hl1 x hx hj; omega⟩
    have Q2 : Hid (SS ((w1.alloc (.cells #[.slice vo J.length vc, .int .i64 p, .int .i64 q, .int .i64 r] 32)).alloc (.cells #[.slice none 0 0] 68)) (w1.heap.size + 1) none 0 (stl sB 0)) := (show SS ((w1.alloc (.cells #[.slice vo J.length vc, .int .i64 p, .int .i64 q, .int .i64 r] 32)).alloc (.cells #[.slice none 0 0] 68)) (w1.heap.size + 1) none 0 [] from ⟨by go_simp, by go_simp, by simp, World.ownsRow_nil _ _ _ _, fun k hk => by simp [Value.ownBlock] at hk⟩)
    clear hg ho hb1 C
    go_wp2
    generalize ((w1.alloc (.cells #[.slice vo J.length vc, .int .i64 p, .int .i64 q, .int .i64 r] 32)).alloc (.cells #[.slice none 0 0] 68)) = W2 at *
    generalize w1.heap.size = b4 at *
    go_loopw [7, 8, 19] (fun s7 s8 s19 wr => ∃ (k : Nat) (so : Option Addr) (sc : Nat), k ≤ os.length ∧ s19 = .int .i64 k ∧ Below (b4 + 1) W2 wr ∧ SS wr (b4 + 1) so sc (stl sB k)) (fun _ _ s19 _ => os.length - (intOf s19).toNat)
    case atStart => exact ⟨0, none, 0, by omega, rfl, Below.refl _ _, Q2.out⟩
    case round =>
      clear Q2
      obtain ⟨k, so, sc, hk, rfl, hB0, hQ0⟩ := hrel
      have HB : Hid (Below (b4 + 1) W2 wr) := hB0
      have HQ : Hid (SS wr (b4 + 1) so sc (stl sB k)) := hQ0
      have HW : Hid (Below w.heap.size w wr) := HB1.out.trans (HB.out.mono (by have := HZ.out; omega))
      clear hB0 hQ0
      by_cases hlt : k < os.length
      · have hlt' : (k : Int) < (os.length : Int) := by omega
        have kk : (0 : Int) ≤ (k : Int) := by omega
        obtain ⟨b, off, rfl, ⟨x0, x1, x2, x3⟩, hrx, hcx⟩ := (HR.out.next HW.out).at k hlt
        have hxl : (os[k].l.length : Int) ≤ 1048576 := by have := HSM.out _ (List.getElem_mem hlt); omega
        have HRX : Hid (SibRow wr os[k].ao os[k].l) := hrx
        have HD : Hid (sB k = true ↔ Same os[k].l J os[k].a os[k].b os[k].c p q r) := HS0.out k hlt
        have S3 : Hid (SI2 wr b4 (b4 + 1) vo vc J p q r) := S2.out.low_ HB.out
        have hb4 : b4 < wr.heap.size := Nat.lt_trans (Nat.lt_succ_self _) HQ.out.lt
        obtain ⟨c0, c1, c2, c3⟩ := S3.out.box
        have e0 : ∀ o, (wr.alloc o).cell? ⟨b4, 0, none⟩ = _ := fun o => box_alloc c0 hb4
        have e1 : ∀ o, (wr.alloc o).cell? ⟨b4, 1, none⟩ = _ := fun o => box_alloc c1 hb4
        have e2 : ∀ o, (wr.alloc o).cell? ⟨b4, 2, none⟩ = _ := fun o => box_alloc c2 hb4
        have e3 : ∀ o, (wr.alloc o).cell? ⟨b4, 3, none⟩ = _ := fun o => box_alloc c3 hb4
        generalize os[k] = x at *
        clear hrx c0 c1 c2 c3
        go_wp2_with fail
        clear e0 e1 e2 e3 x0 x1 x2 x3
        refine (implSame_any x.cap vc x.ao vo x.l J x.a x.b x.c p q r (sB k) HD _ hxl (by omega) (HRX.out.next (bel_alloc _ _)) (S3.out.row.next (bel_alloc _ _))).mono ?_
        rintro e w3 ⟨rfl, hb⟩
        have HQ3 : Hid (SS w3 (b4 + 1) so sc (stl sB k)) := (HQ.out.next (bel_alloc _ _)).next hb
        have HB3 : Hid (Below (b4 + 1) W2 w3) := HB.out.trans (((bel_alloc _ _).trans (hb.mono (bel_alloc _ _).size)).mono (Nat.le_of_lt HQ.out.lt))
        clear hb HRX S3 HD HQ HB HW hb4
        cases hsb : sB k
        · have HT : Hid (stl sB (k + 1) = stl sB k ++ [(k : Int)]) := stl_hit hsb
          have hz2 : (stl sB k).length ≤ 2 := by have := stl_len sB k; omega
          have HLS : Hid (Lss (stl sB k) (k : Int)) := stl_lss sB k
          clear hsb
          go_wp2_with fail
          refine (radd_any (b4 + 1) sc so (stl sB k) (k : Int) _ hz2 HLS.out HQ3.out).mono ?_
          rintro e w4 ⟨rfl, hb, so', sc', hS⟩
          have HB4 : Hid (Below (b4 + 1) W2 w4) := HB3.out.trans hb
          have HQ4 : Hid (SS w4 (b4 + 1) so' sc' (stl sB (k + 1))) := by rw [HT.out]; exact hS
          clear hb hS HB3 HQ3
          go_wp2
          go_roundw
          case rel => first | exact ⟨k + 1, so', sc', by omega, by go_num, HB4.out, HQ4.out⟩ | ((repeat apply Exists.intro); exact ⟨⟨k + 1, so', sc', by omega, by go_num, HB4.out, HQ4.out⟩, rfl⟩)
          case measure => simp [intOf]; omega
        · have HT : Hid (stl sB (k + 1) = stl sB k) := stl_miss hsb
          have HQ4 : Hid (SS w3 (b4 + 1) so sc (stl sB (k + 1))) := by rw [HT.out]; exact HQ3.out
          clear hsb HQ3
          go_wp2
          go_roundw
          case rel => first | exact ⟨k + 1, so, sc, by omega, by go_num, HB3.out, HQ4.out⟩ | ((repeat apply Exists.intro); exact ⟨⟨k + 1, so, sc, by omega, by go_num, HB3.out, HQ4.out⟩, rfl⟩)
          case measure => simp [intOf]; omega
      · have hlt' : ¬ (k : Int) < (os.length : Int) := by omega
        obtain rfl : k = os.length := by omega
        have c0 := HQ.out.cell
        generalize stl sB os.length = zs at *
        go_wp2
        go_ret2
        exact ⟨so, sc, rfl, HW.out, HQ.out.own, fun j hj => ⟨by have := HQ.out.ge j hj; have := HZ.out; omega, (HQ.out.own.lt j hj).2⟩⟩
  · have E : SrL sB os code = [] := if_neg hc
    have EJ : J = [] ∧ p = 0 ∧ q = 0 ∧ r = 0 := by
      rcases hJ.out with ⟨_, z, _⟩ | ⟨_, _, z, _⟩ | ⟨_, _, z, _⟩ | ⟨_, _, _, z, _⟩ | ⟨_, _, _, _, e⟩
      · exact z
      · exact z
      · exact z
      · exact z
      · exact (hc e).elim
    rw [E]
    clear E hr0 hS0 hs hJ EJ
    go_enter Tryd.func13, Tryd.ntmps13
    go_wp2_with fail
    refine Calls.mono C.out ?_
    rintro e w1 ⟨vo, vc, rfl, hg, ho⟩
    have HB1 : Hid (Below w.heap.size w (w1.alloc (.cells #[.slice vo J.length vc, .int .i64 p, .int .i64 q, .int .i64 r] 32))) := by
      have hb1 : Below w.heap.size w w1 := hg.below (Nat.le_refl _) (fun k hk => by simp [Value.ownBlock] at hk)
      exact hb1.trans ((bel_alloc _ _).mono hb1.size)
    clear hg ho C
    go_wp2
    go_ret2
    exact inq_nil HB1.out

theorem inq_emp {w W : World} {c : Int} (hb : Below w.heap.size w W) : InQ [] c w (.returned (.tuple #[.slice (some ⟨W.heap.size, 0, none⟩) 0 0, .int .i64 c])) (W.alloc (.cells #[] 3)) := by
  refine ⟨some ⟨W.heap.size, 0, none⟩, 0, rfl, hb.trans ((bel_alloc _ _).mono hb.size), ?_, fun k hk => ?_⟩
  · have hq := World.ownsRow_lit (base := 0) (e := 3) (size := 1) W #[] 0 (Nat.zero_le _) (by unfold maxLen; omega) (by simp)
    show World.ownsRow _ _ _ _ _ _ _
    simpa using hq
  · simp [Value.ownBlock] at hk
    have := hb.size
    simp
    omega
/-- The specification's row of places: new since w2. -/
structure SP (w2 wr : World) (v : Value) (zs : List Int) : Prop where
  gro : Gro w2 wr (.slice (some ⟨w2.heap.size - 1, 0, none⟩) 0 0) v
  own : wr.ownsRow 0 3 1 v zs.length (zs.map (Value.int .i64))
set_option maxRecDepth 100000 in
set_option maxHeartbeats 4000000 in
theorem specStale_any (cap : Nat) (ao : Option Addr) (os : List Ov) (J : List Sib) (p q r code : Int) (sB : Nat → Bool) (hJ : Hid (MR os J p q r code)) (hS0 : SmB os J p q r sB) (w : World) (hn : os.length ≤ 1048576) (hs : Sml os) (hr0 : ORow w ao os) :
    Calls Tryd.prog 14 #[.slice ao os.length cap] w (InQ (SrL sB os code) code w) := by
  have HR : Hid (ORow w ao os) := hr0
  by_cases h1 : 4096 < os.length
  · obtain rfl : code = 2 := by
      rcases hJ.out with ⟨h1, z, rfl⟩ | ⟨h1, h2, _, rfl⟩ | ⟨h3, hA, _, rfl⟩ | ⟨h3, hA, h4, _, rfl⟩ | ⟨h3, hA, h4, hE, rfl⟩ <;> omega
    have h1' : (4096 : Int) < (os.length : Int) := by omega
    have E : SrL sB os 2 = [] := rfl
    rw [E]
    clear E hr0 hS0 hs hJ HR
    go_enter Tryd.func14, Tryd.ntmps14
    go_wp2
    go_ret2
    exact inq_emp (Below.refl _ _)
  have h1' : ¬ (4096 : Int) < (os.length : Int) := by omega
  have C : Hid _ := l08Ask_any cap ao os J p q r code hJ w (by omega) hs hr0
  by_cases hc : code = 0
  · subst hc
    obtain ⟨h3, hA, h4, hE⟩ : os.length ≤ 3 ∧ AllOk os ∧ (mgS os).1.length ≤ 100 ∧ mgS os = (J, p, q, r) := by
      rcases hJ.out with ⟨_, _, e⟩ | ⟨_, _, _, e⟩ | ⟨_, _, _, e⟩ | ⟨_, _, _, _, e⟩ | ⟨h3, hA, h4, hE, _⟩
      · omega
      · omega
      · omega
      · omega
      · exact ⟨h3, hA, h4, hE⟩
    have hJ100 : J.length ≤ 100 := by rw [hE] at h4; exact h4
    have C2 : Hid _ := fun W h => l08Merge_any cap ao os W h3 hA h
    rw [hE] at C2
    have HS0 : Hid (SmB os J p q r sB) := hS0
    have HSM : Hid (Sml os) := hs
    have E : SrL sB os 0 = stl sB os.length := rfl
    rw [E]
    clear E hr0 hS0 hs hJ hA h4 hE
    obtain ⟨i0, hi, hz0, hz1, hz2⟩ := info_parts info_int
    have HI : Hid (Tryd.prog.info? 3 = some i0 ∧ i0.zero = some (.int .i64 0) ∧ i0.size = 1 ∧ i0.bytes = 8) := ⟨hi, hz0, hz1, hz2⟩
    clear hi hz0 hz1 hz2
    go_enter Tryd.func14, Tryd.ntmps14
    go_wp2_with fail
    refine Calls.mono C.out ?_
    rintro e w1 ⟨rfl, hb⟩
    have HB : Hid (Below w.heap.size w (w1.alloc (.cells #[] 3))) := hb.trans ((bel_alloc _ _).mono hb.size)
    have HZ1 : Hid (w.heap.size ≤ w1.heap.size) := hb.size
    clear hb C
    go_wp2_with fail
    refine Calls.mono (C2.out _ (HR.out.next HB.out)) ?_
    rintro e w2 ⟨vo, vc, rfl, hg, ho⟩
    have hb2 : Below (w1.alloc (.cells #[] 3)).heap.size (w1.alloc (.cells #[] 3)) w2 := hg.below (Nat.le_refl _) (fun k hk => by simp [Value.ownBlock] at hk)
    have HB2 : Hid (Below w.heap.size w (w2.alloc (.cells #[.slice vo J.length vc, .int .i64 p, .int .i64 q, .int .i64 r] 32))) := bel_next (bel_next HB hb2) (bel_alloc _ _)
    have OE : Hid ((w2.alloc (.cells #[.slice vo J.length vc, .int .i64 p, .int .i64 q, .int .i64 r] 32)).ownsRow 0 3 1 (.slice (some ⟨w1.heap.size, 0, none⟩) 0 0) 0 []) := by
      have hq := World.ownsRow_lit (base := 0) (e := 3) (size := 1) w1 #[] 0 (Nat.zero_le _) (by unfold maxLen; omega) (by simp)
      have hq' : (w1.alloc (.cells #[] 3)).ownsRow 0 3 1 (.slice (some ⟨w1.heap.size, 0, none⟩) 0 0) 0 [] := by simpa using hq
      exact own_next (own_next hq' hb2) (bel_alloc _ _)
    have HJR0 : Hid (SibRow (w2.alloc (.cells #[.slice vo J.length vc, .int .i64 p, .int .i64 q, .int .i64 r] 32)) vo J) := (own_srow2 ho).1.next (bel_alloc _ _)
    have HJL : Hid (∀ x, vo = some x → J ≠ [] → x.block < w2.heap.size ∧ x.block ≠ w1.heap.size) := fun x hx hj => by
      refine ⟨(own_srow2 ho).2 x hx hj, fun e => ?_⟩
      subst hx
      rcases hg.fresh x.block rfl with h | h
      · simp [Value.ownBlock] at h
      · simp at h; omega
    have HC4 : Hid (Cells4 (w2.alloc (.cells #[.slice vo J.length vc, .int .i64 p, .int .i64 q, .int .i64 r] 32)) w2.heap.size (.slice vo J.length vc) p q r) := box_new
    have HZ2 : Hid (w1.heap.size < w2.heap.size) := Nat.lt_of_lt_of_le (by simp) hb2.size
    have HL6 : Hid (w2.heap.size < (w2.alloc (.cells #[.slice vo J.length vc, .int .i64 p, .int .i64 q, .int .i64 r] 32)).heap.size) := lt_new
    clear hg ho hb2 C2 HB
    go_wp2
    generalize w2.alloc (.cells #[.slice vo J.length vc, .int .i64 p, .int .i64 q, .int .i64 r] 32) = W2 at *
    generalize w2.heap.size = b6 at *
    generalize w1.heap.size = b5 at *
    go_loopw [5, 7] (fun s5 s7 wr => ∃ k : Nat, k ≤ os.length ∧ s7 = .int .i64 k ∧ Gro W2 wr (.slice (some ⟨b5, 0, none⟩) 0 0) s5 ∧ wr.ownsRow 0 3 1 s5 (stl sB k).length ((stl sB k).map (Value.int .i64))) (fun _ s7 _ => os.length - (intOf s7).toNat)
    case atStart => exact ⟨0, by omega, rfl, Gro.refl _ _, OE.out⟩
    case round =>
      clear OE
      obtain ⟨k, hk, rfl, hG0, hO0⟩ := hrel
      have HG : Hid (Gro W2 wr (.slice (some ⟨b5, 0, none⟩) 0 0) u5) := hG0
      have HO : Hid (wr.ownsRow 0 3 1 u5 (stl sB k).length ((stl sB k).map (Value.int .i64))) := hO0
      have HW : Hid (Below w.heap.size w wr) := HB2.out.trans (HG.out.below HB2.out.size (fun j hj => by simp [Value.ownBlock] at hj; have := HZ1.out; omega))
      clear hG0 hO0
      by_cases hlt : k < os.length
      · have hlt' : (k : Int) < (os.length : Int) := by omega
        have kk : (0 : Int) ≤ (k : Int) := by omega
        obtain ⟨b, off, rfl, hxx, hrx, hcx⟩ := (HR.out.next HW.out).at k hlt
        have hxl : (os[k].l.length : Int) ≤ 1048576 := by have := HSM.out _ (List.getElem_mem hlt); omega
        have HRX : Hid (SibRow wr os[k].ao os[k].l) := hrx
        have HXX : Hid (ObAt wr b (off + k * 4) os[k]) := hxx
        have HD : Hid (sB k = true ↔ Same os[k].l J os[k].a os[k].b os[k].c p q r) := HS0.out k hlt
        have hb56 : (Value.slice (some ⟨b5, 0, none⟩) 0 0).ownBlock ≠ some b6 := fun e => by simp [Value.ownBlock] at e; have := HZ2.out; omega
        have HC : Hid (Cells4 wr b6 (.slice vo J.length vc) p q r) := ⟨HG.out.cell HC4.out.1 hb56, HG.out.cell HC4.out.2.1 hb56, HG.out.cell HC4.out.2.2.1 hb56, HG.out.cell HC4.out.2.2.2 hb56⟩
        have HB6 : Hid (b6 < wr.heap.size) := Nat.lt_of_lt_of_le HL6.out HG.out.size
        have HJR : Hid (SibRow wr vo J) := by
          rcases HJR0.out with h | ⟨b', off', e, h2⟩
          · exact .inl h
          · by_cases hj : J = []
            · exact .inl hj
            · exact HG.out.row (.inr ⟨b', off', e, h2⟩) (fun x hx e' => by have := HJL.out x hx hj; simp [Value.ownBlock] at e'; omega)
        have hz2 : (stl sB k).length ≤ 3 := by have := stl_len sB k; omega
        generalize os[k] = x at *
        clear hrx hxx hb56
        go_wp2_with fail
        refine wp_region_held_drew (S := (fun w' => (w'.cell? ⟨b, off + k * 4, none⟩ = some (.slice x.ao x.l.length x.cap) ∧ w'.cell? ⟨b, off + k * 4 + 1, none⟩ = some (.int .i64 x.a) ∧ w'.cell? ⟨b, off + k * 4 + 2, none⟩ = some (.int .i64 x.b) ∧ w'.cell? ⟨b, off + k * 4 + 3, none⟩ = some (.int .i64 x.c)) ∧ (w'.cell? ⟨b6, 0, none⟩ = some (.slice vo J.length vc) ∧ w'.cell? ⟨b6, 1, none⟩ = some (.int .i64 p) ∧ w'.cell? ⟨b6, 2, none⟩ = some (.int .i64 q) ∧ w'.cell? ⟨b6, 3, none⟩ = some (.int .i64 r)) ∧ Below wr.heap.size wr w')) (by kernel_rfl) ?_ (fun hHeld => ?_)
        · (try dsimp only)
          exact ⟨HXX.out.next (bel_drew _), (c4_next HC (bel_drew _) HB6).out, bel_drew _⟩
        refine wpAnyH_take (i := 0) (v := ?_) rfl (by kernel_rfl) (by kernel_rfl) (by kernel_rfl) (fun _ _ _ h => h) (Or.inl ⟨by rfl, ?_⟩) (by assumption) ?_
        rotate_left
        · intro w' hSw
          (try dsimp only at hSw)
          go_simp
          all_goals (try with_reducible rfl)
        (try simp only [Act.put, List.getElem_toArray, List.getElem_cons_zero, List.getElem_cons_succ, List.setIfInBounds_toArray, List.set_cons_zero, List.set_cons_succ])
        refine wpAnyH_take (i := 1) (v := ?_) rfl (by kernel_rfl) (by kernel_rfl) (by kernel_rfl) (fun _ _ _ h => h) (Or.inl ⟨by rfl, ?_⟩) (by assumption) ?_
        rotate_left
        · intro w' hSw
          (try dsimp only at hSw)
          go_simp
          all_goals (try with_reducible rfl)
        (try simp only [Act.put, List.getElem_toArray, List.getElem_cons_zero, List.getElem_cons_succ, List.setIfInBounds_toArray, List.set_cons_zero, List.set_cons_succ])
        refine wpAnyH_take (i := 2) (v := ?_) rfl (by kernel_rfl) (by kernel_rfl) (by kernel_rfl) (fun _ _ _ h => h) (Or.inl ⟨by rfl, ?_⟩) (by assumption) ?_
        rotate_left
        · intro w' hSw
          (try dsimp only at hSw)
          go_simp
          all_goals (try with_reducible rfl)
        (try simp only [Act.put, List.getElem_toArray, List.getElem_cons_zero, List.getElem_cons_succ, List.setIfInBounds_toArray, List.set_cons_zero, List.set_cons_succ])
        refine wpAnyH_take (i := 3) (v := ?_) rfl (by kernel_rfl) (by kernel_rfl) (by kernel_rfl) (fun _ _ _ h => h) (Or.inl ⟨by rfl, ?_⟩) (by assumption) ?_
        rotate_left
        · intro w' hSw
          (try dsimp only at hSw)
          go_simp
          all_goals (try with_reducible rfl)
        (try simp only [Act.put, List.getElem_toArray, List.getElem_cons_zero, List.getElem_cons_succ, List.setIfInBounds_toArray, List.set_cons_zero, List.set_cons_succ])
        refine wpAnyH_take (i := 4) (v := ?_) rfl (by kernel_rfl) (by kernel_rfl) (by kernel_rfl) (fun _ _ _ h => h) (Or.inl ⟨by rfl, ?_⟩) (by assumption) ?_
        rotate_left
        · intro w' hSw
          (try dsimp only at hSw)
          go_simp
          all_goals (try with_reducible rfl)
        (try simp only [Act.put, List.getElem_toArray, List.getElem_cons_zero, List.getElem_cons_succ, List.setIfInBounds_toArray, List.set_cons_zero, List.set_cons_succ])
        refine wpAnyH_ready (rs := [5]) (by kernel_rfl) (by simp) ?_
        refine AllReadyH.cons rfl (fun K hK => ?_) AllReadyH.nil
        (try simp only [Act.put, List.getElem_toArray, List.getElem_cons_zero, List.getElem_cons_succ, List.setIfInBounds_toArray, List.set_cons_zero, List.set_cons_succ])
        go_simp
        (go_at_call 39; refine (l02Same_any x.cap vc x.ao vo x.l J x.a x.b x.c p q r (sB k) HD _ hxl (by omega) (HRX.out.next hHeld.2.2) (HJR.out.next hHeld.2.2)).mono ?_; rintro e w8 ⟨rfl, hb⟩)
        (try simp only [])
        refine hK.out _ _ ?_ (fun hHeld' => ?_)
        · (try dsimp only)
          exact ⟨ObAt.next hHeld.1 hb, (c4_next (g := b6) (v0 := .slice vo J.length vc) hHeld.2.1 hb (Nat.lt_of_lt_of_le HB6.out hHeld.2.2.size)).out, hHeld.2.2.trans (hb.mono hHeld.2.2.size)⟩
        clear hK K
        clear hHeld
        have hHeld := hHeld'
        clear hHeld'
        clear hb
        (try simp only [Act.put, List.getElem_toArray, List.getElem_cons_zero, List.getElem_cons_succ, List.setIfInBounds_toArray, List.set_cons_zero, List.set_cons_succ])
        refine wpAnyH_take (i := 6) (v := ?_) rfl (by kernel_rfl) (by kernel_rfl) (by kernel_rfl) (fun _ _ _ h => h) (Or.inl ⟨by rfl, ?_⟩) (by assumption) ?_
        rotate_left
        · intro w' hSw
          (try dsimp only at hSw)
          go_simp
          all_goals (try with_reducible rfl)
        (try simp only [Act.put, List.getElem_toArray, List.getElem_cons_zero, List.getElem_cons_succ, List.setIfInBounds_toArray, List.set_cons_zero, List.set_cons_succ])
        refine wpAnyH_done (by kernel_rfl) ?_ _

        have HG2 : Hid _ := HG.out.trans (Gro.of_below hHeld.2.2)
        have HO2 : Hid (w8.ownsRow 0 3 1 u5 (stl sB k).length ((stl sB k).map (Value.int .i64))) := own_next HO.out hHeld.2.2
        have HBW : Hid (Below wr.heap.size wr _) := hHeld.2.2
        clear hHeld HC HXX HRX HJR HD HO HG
        cases hsb : sB k
        · have HT : Hid (stl sB (k + 1) = stl sB k ++ [(k : Int)]) := stl_hit hsb
          clear hsb
          go_wp2_with (first | (at_builtin; refine wpList_append2 rfl _ _ 41 rfl 3 i0 (.int .i64 0) 1 8 Tryd.underlying41 HI.out.1 HI.out.2.1 HI.out.2.2.1 HI.out.2.2.2 rfl (by decide) _ _ _ rfl (HO2.out.alloc _) ⟨w8.heap.size, 0, none⟩ 1 1 [.int .i64 (k : Int)] rfl rfl int_lit int_one (by unfold maxLen; omega) (by omega) ?_) | go_in)
          intro v' w4 ho hg
          have O4 : Hid (w4.ownsRow 0 3 1 v' (stl sB (k + 1)).length ((stl sB (k + 1)).map (Value.int .i64))) := by rw [HT.out]; show World.ownsRow _ _ _ _ _ _ _; simpa using ho
          have G4 : Hid (Gro W2 w4 (.slice (some ⟨b5, 0, none⟩) 0 0) v') := HG2.out.trans ((Gro.of_below (bel_alloc _ _)).trans hg)
          clear ho hg HG2 HO2
          go_wp2
          go_roundw
          case rel => first | exact ⟨k + 1, by omega, by go_num, G4.out, O4.out⟩ | ((repeat apply Exists.intro); exact ⟨⟨k + 1, by omega, by go_num, G4.out, O4.out⟩, rfl⟩)
          case measure => simp [intOf]; omega
        · have HT : Hid (stl sB (k + 1) = stl sB k) := stl_miss hsb
          clear hsb
          have O4 : Hid (w8.ownsRow 0 3 1 u5 (stl sB (k + 1)).length ((stl sB (k + 1)).map (Value.int .i64))) := by rw [HT.out]; exact HO2.out
          clear HO2
          go_wp2
          go_roundw
          case rel => first | exact ⟨k + 1, by omega, by go_num, HG2.out, O4.out⟩ | ((repeat apply Exists.intro); exact ⟨⟨k + 1, by omega, by go_num, HG2.out, O4.out⟩, rfl⟩)
          case measure => simp [intOf]; omega
      · have hlt' : ¬ (k : Int) < (os.length : Int) := by omega
        obtain rfl : k = os.length := by omega
        obtain ⟨so, sc, rfl⟩ := own_isl HO.out
        have HF : Hid (∀ j, Value.ownBlock (.slice so (stl sB os.length).length sc) = some j → w.heap.size ≤ j ∧ j < wr.heap.size) := fun j hj => by
          refine ⟨?_, (HO.out.lt j hj).2⟩
          rcases HG.out.fresh j hj with h | h
          · simp [Value.ownBlock] at h; have := HZ1.out; omega
          · exact Nat.le_trans HB2.out.size h
        generalize stl sB os.length = zs at *
        go_wp2
        go_ret2
        exact ⟨so, sc, rfl, HW.out, HO, HF⟩
  · have E : SrL sB os code = [] := if_neg hc
    rw [E]
    clear E hr0 hS0 hs hJ HR
    go_enter Tryd.func14, Tryd.ntmps14
    go_wp2_with fail
    refine Calls.mono C.out ?_
    rintro e w1 ⟨rfl, hb⟩
    clear C
    go_wp2
    go_ret2
    exact inq_emp hb
end Go.Proofs.YtcmniplbiliobaaDoor
