/- The law of Write. -/
import Derived.Test.YtodjbkeljfnebaaRows
import Derived.WalkKit
import Derived.WalkSpells
import Derived.WalkLawsBesides
import Derived.Deep.QuietTactic
import Derived.BigQuiet
import Derived.Deep.RegionHeld3
import Derived.Test.YtodjbkeljfnebaaWd
import Derived.Test.YtodjbkeljfnebaaMh
import Derived.Test.YtodjbkeljfnebaaSo
import Derived.LoopN
import Derived.Deep.Cut
namespace Go.Proofs.Ytodjbkeljfnebaa
open Go.RowKit
set_option linter.unusedSimpArgs false
set_option linter.unusedVariables false

theorem join_wrap {F : Nat} {args : Array Value} {w : World} {J : List Sib} {p q r code : Int} {e0 : TypeId} (h : Calls Try.prog F args w fun e w' => ∃ v, e = .returned (.tuple #[.agg #[v, .int .i64 p, .int .i64 q, .int .i64 r], .int .i64 code]) ∧ Gro w w' (.slice none 0 0) v ∧ w'.ownsRow 0 e0 4 v J.length (flat J)) :
    Calls Try.prog F args w fun e w' => ∃ ao' cap', e = .returned (.tuple #[.agg #[.slice ao' J.length cap', .int .i64 p, .int .i64 q, .int .i64 r], .int .i64 code]) ∧ Below w.heap.size w w' ∧ Hid (w'.ownsRow 0 e0 4 (.slice ao' J.length cap') J.length (flat J)) ∧ Hid (∀ k, Value.ownBlock (.slice ao' J.length cap') = some k → w.heap.size ≤ k ∧ k < w'.heap.size) := by
  refine h.mono ?_
  rintro e w' ⟨v, rfl, hg, ho⟩
  obtain ⟨ao', cap', rfl⟩ : ∃ ao' cap', v = .slice ao' J.length cap' := by
    rcases ho.2 with ⟨rfl, hn⟩ | ⟨g, cap', cur, rfl, _⟩
    · exact ⟨none, 0, by rw [hn]⟩
    · exact ⟨_, cap', rfl⟩
  refine ⟨ao', cap', rfl, hg.below (Nat.le_refl _) (fun k hk => absurd hk Gro.none_ne), ho, fun k hk => ⟨?_, (ho.lt k hk).2⟩⟩
  rcases hg.fresh k hk with h' | h'
  · exact absurd h' Gro.none_ne
  · exact h'
theorem row_mark {W W' : World} {ao : Option Addr} {l : List Sib} {r : Option Nat} (h : Hid (SibRow W ao l)) (hg : W.grownBy W' r) (hne : ∀ q, ao = some q → r ≠ some q.block) : Hid (SibRow W' ao l) := by
  rcases h.out with h | ⟨b, off, rfl, h2⟩
  · exact .inl h
  · exact .inr ⟨b, off, rfl, fun i hi => ⟨hg.cell (h2 i hi).1 (fun e => hne _ rfl e.symm), hg.cell (h2 i hi).2.1 (fun e => hne _ rfl e.symm), hg.cell (h2 i hi).2.2.1 (fun e => hne _ rfl e.symm), hg.cell (h2 i hi).2.2.2 (fun e => hne _ rfl e.symm)⟩⟩
theorem own_mrow {W : World} {e : TypeId} {ao : Option Addr} {cap : Nat} {J : List Sib} (h : Hid (W.ownsRow 0 e 4 (.slice ao J.length cap) J.length (flat J))) : Hid (MRow W ao J.length) := by
  rcases h.out.2 with ⟨h', hn⟩ | ⟨g, cap', cur, h', _⟩
  · exact .inl hn
  · cases h'
    refine .inr ⟨g, rfl, (h.out.lt g rfl).2, fun j hj => ?_⟩
    rw [h.out.cellAt j hj]
    refine ⟨?_, h.out.frozenAt j⟩
    have : j < (flat J).length := by rw [flat_length]; exact hj
    simp [this]
theorem own_srow {W : World} {e : TypeId} {ao : Option Addr} {cap : Nat} {J : List Sib} (h : Hid (W.ownsRow 0 e 4 (.slice ao J.length cap) J.length (flat J))) : SibRow W ao J := by
  obtain ⟨o, c, e', hr, _⟩ := owned_row h.out
  cases e'
  exact hr

/-- The boxes of the law's arguments. -/
def LBX (g : Nat) (W : World) (v : Value) (a b c x y z sp sn : Int) : Prop := Cells4 W g v a b c ∧ Cells3 W (g + 1) x y z ∧ Cells2 W (g + 1 + 1) sp sn ∧ g + 1 + 1 < W.heap.size
theorem LBX.next {W W' : World} {g : Nat} {v : Value} {a b c x y z sp sn : Int} (h : LBX g W v a b c x y z sp sn) (hb : Below W.heap.size W W') : LBX g W' v a b c x y z sp sn :=
  ⟨c4_next h.1 hb (Nat.lt_trans (by omega) h.2.2.2), c3_next h.2.1 hb (Nat.lt_trans (by omega) h.2.2.2), c2_next h.2.2.1 hb h.2.2.2, Nat.lt_of_lt_of_le h.2.2.2 hb.size⟩
theorem LBX.new {w : World} {v : Value} {a b c x y z sp sn : Int} {t t1 t2 : TypeId} : LBX w.heap.size (((w.alloc (.cells #[v, .int .i64 a, .int .i64 b, .int .i64 c] t)).alloc (.cells #[.int .i64 x, .int .i64 y, .int .i64 z] t1)).alloc (.cells #[.int .i64 sp, .int .i64 sn] t2)) v a b c x y z sp sn :=
  ⟨⟨by go_simp, by go_simp, by go_simp, by go_simp⟩, ⟨by go_simp, by go_simp, by go_simp⟩, ⟨by go_simp, by go_simp⟩, by simp⟩

set_option maxRecDepth 100000 in
set_option maxHeartbeats 16000000 in
theorem law_write_small (cap : Nat) (ao : Option Addr) (l : List Sib) (a b c x y z sp sn sv : Int) (sd : Bool) (w : World) (hl : l.length ≤ 1048576) (hr0 : SibRow w ao l) :
    Calls Try.prog 3 #[.agg #[.slice ao l.length cap, .int .i64 a, .int .i64 b, .int .i64 c], .agg #[.int .i64 x, .int .i64 y, .int .i64 z], .agg #[.int .i64 sp, .int .i64 sn], .int .i64 sv, .bool sd] w fun e w' => e = .returned (.bool true) ∧ Below w.heap.size w w' := by
  obtain ⟨J, p, q, r, code, hW0, hJ1⟩ := wrel l a b c x y z (⟨sp, sn, sv, sd⟩ : Sib)
  have hW : Hid (WRel l a b c x y z (⟨sp, sn, sv, sd⟩ : Sib) J p q r code) := hW0
  clear hW0
  have hJl : (J.length : Int) ≤ 1048576 := by omega
  have hm : (l.length : Int) ≤ 1048576 := by omega
  have hif : (if (l.length : Int) ≤ 1048576 then 1048576 - (l.length : Int) else -1) = 1048576 - (l.length : Int) := if_pos (by omega)
  have hng : ¬ 1048576 - (l.length : Int) < 0 := by omega
  have hngk : ¬ 1 + 4 * (l.length : Int) < 0 := by omega
  have hngm : ¬ 1 + 4 * (J.length : Int) < 0 := by omega
  have RA : Hid (SibRow w ao l) := hr0
  have B00 : Hid (Below w.heap.size w (((w.alloc (.cells #[.slice ao l.length cap, .int .i64 a, .int .i64 b, .int .i64 c] 25)).alloc (.cells #[.int .i64 x, .int .i64 y, .int .i64 z] 23)).alloc (.cells #[.int .i64 sp, .int .i64 sn] 27))) := (((bel_alloc _ _).trans ((bel_alloc _ _).mono (by simp))).trans ((bel_alloc _ _).mono (by simp; omega)))
  clear hr0
  go_enter Try.func3, Try.ntmps3
  go_wp2_with fail
  refine (szObj_any cap ao l a b c 1048576 _ (by omega) (by omega) (by omega)).mono ?_
  rintro e w1 ⟨rfl, hb⟩
  have B0 : Hid (Below w.heap.size w w1) := B00.out.trans (hb.mono B00.out.size)
  have LB1 : Hid (LBX w.heap.size w1 (Value.slice ao l.length cap) a b c x y z sp sn) := LBX.next LBX.new hb
  have RA1 : Hid (SibRow w1 ao l) := RA.out.next B0.out
  have HB : Hid (Below w1.heap.size w1 w1) := Below.refl _ _
  have LZ : Hid (w.heap.size + 1 + 1 < w1.heap.size) := LB1.out.2.2.2
  clear hb RA B00
  rw [hif]
  clear hif
  go_upto_region 5 with fail
  go_cut [12, 13] from 22 (fun s12 s13 wc => ∃ (gb : Nat) (vo : Option Addr) (vc : Nat), s12 = .pointer (some ⟨gb, 0, none⟩) ∧ s13 = .int .i64 code ∧ Cells4 wc gb (.slice vo J.length vc) p q r ∧ gb < wc.heap.size ∧ w1.heap.size ≤ gb ∧ wc.ownsRow 0 46 4 (.slice vo J.length vc) J.length (flat J) ∧ (∀ k, (Value.slice vo J.length vc).ownBlock = some k → w1.heap.size ≤ k) ∧ (Value.slice vo J.length vc).ownBlock ≠ some gb ∧ Below w1.heap.size w1 wc)
  case first =>
    have AW : Hid (LBX w.heap.size w1 (Value.slice ao l.length cap) a b c x y z sp sn) := LB1.out.next HB.out
    refine wp_region_held_drew (S := (fun w' => (w'.cell? ⟨w.heap.size, 0, none⟩ = some (Value.slice ao l.length cap) ∧ w'.cell? ⟨w.heap.size, 1, none⟩ = some (.int .i64 a) ∧ w'.cell? ⟨w.heap.size, 2, none⟩ = some (.int .i64 b) ∧ w'.cell? ⟨w.heap.size, 3, none⟩ = some (.int .i64 c)) ∧ (w'.cell? ⟨w.heap.size + 1, 0, none⟩ = some (.int .i64 x) ∧ w'.cell? ⟨w.heap.size + 1, 1, none⟩ = some (.int .i64 y) ∧ w'.cell? ⟨w.heap.size + 1, 2, none⟩ = some (.int .i64 z)) ∧ (w'.cell? ⟨w.heap.size + 1 + 1, 0, none⟩ = some (.int .i64 sp) ∧ w'.cell? ⟨w.heap.size + 1 + 1, 1, none⟩ = some (.int .i64 sn)) ∧ Below w1.heap.size w1 w')) (by kernel_rfl) ?_ (fun hHeld => ?_)
    · (try dsimp only)
      have HBn := bel_drew w1
      exact ⟨(AW.out.next HBn).1, (AW.out.next HBn).2.1, (AW.out.next HBn).2.2.1, HBn⟩
    refine wpAnyH_take (i := 0) (v := ?_) rfl (by kernel_rfl) (by kernel_rfl) (by kernel_rfl) (fun _ _ _ h => h) (Or.inl ⟨by rfl, ?_⟩) (by assumption) ?_
    rotate_left
    · intro w' hSw
      (try dsimp only at hSw)
      go_simp
      all_goals (try with_reducible rfl)
    (try simp only [Act.put, List.getElem_toArray, List.getElem_cons_zero, List.getElem_cons_succ, List.setIfInBounds_toArray, List.set_cons_zero, List.set_cons_succ])
    refine wpAnyH_take (i := 2) (v := ?_) rfl (by kernel_rfl) (by kernel_rfl) (by kernel_rfl) (fun _ _ _ h => h) (Or.inl ⟨by rfl, ?_⟩) (by assumption) ?_
    rotate_left
    · intro w' hSw
      (try dsimp only at hSw)
      go_simp
      all_goals (try with_reducible rfl)
    (try simp only [Act.put, List.getElem_toArray, List.getElem_cons_zero, List.getElem_cons_succ, List.setIfInBounds_toArray, List.set_cons_zero, List.set_cons_succ])
    refine wpAnyH_take (i := 4) (v := ?_) rfl (by kernel_rfl) (by kernel_rfl) (by kernel_rfl) (fun _ _ _ h => h) (Or.inl ⟨by rfl, ?_⟩) (by assumption) ?_
    rotate_left
    · intro w' hSw
      (try dsimp only at hSw)
      go_simp
      all_goals (try with_reducible rfl)
    (try simp only [Act.put, List.getElem_toArray, List.getElem_cons_zero, List.getElem_cons_succ, List.setIfInBounds_toArray, List.set_cons_zero, List.set_cons_succ])
    refine wpAnyH_take (i := 6) (v := ?_) rfl (by kernel_rfl) (by kernel_rfl) (by kernel_rfl) (fun _ _ _ h => h) (Or.inl ⟨by rfl, ?_⟩) (by assumption) ?_
    rotate_left
    · intro w' hSw
      (try dsimp only at hSw)
      go_simp
      all_goals (try with_reducible rfl)
    (try simp only [Act.put, List.getElem_toArray, List.getElem_cons_zero, List.getElem_cons_succ, List.setIfInBounds_toArray, List.set_cons_zero, List.set_cons_succ])
    refine wpAnyH_take (i := 7) (v := ?_) rfl (by kernel_rfl) (by kernel_rfl) (by kernel_rfl) (fun _ _ _ h => h) (Or.inl ⟨by rfl, ?_⟩) (by assumption) ?_
    rotate_left
    · intro w' hSw
      (try dsimp only at hSw)
      go_simp
      all_goals (try with_reducible rfl)
    (try simp only [Act.put, List.getElem_toArray, List.getElem_cons_zero, List.getElem_cons_succ, List.setIfInBounds_toArray, List.set_cons_zero, List.set_cons_succ])
    have HBs : Hid (Below w1.heap.size w1 w1.drew) := bel_drew _
    have RAW : Hid (SibRow w1 ao l) := (RA1.out.next HB.out)
    generalize w1.drew = wd at *
    refine wpAnyH_ready (rs := [1, 12]) (by kernel_rfl) (by simp) ?_
    refine AllReadyH.cons rfl (fun K hK => ?_) (AllReadyH.cons rfl (fun K hK => ?_) AllReadyH.nil)
    · (try simp only [Act.put, List.getElem_toArray, List.getElem_cons_zero, List.getElem_cons_succ, List.setIfInBounds_toArray, List.set_cons_zero, List.set_cons_succ])
      go_simp
      refine (toObj_any cap ao l a b c _ hm (RAW.out.next HBs.out)).mono ?_
      rintro e wna1 ⟨g1, rfl, hb, hg, hG, hT, hS⟩
      have HBn : Below w1.heap.size w1 wna1 := HBs.out.trans (hb.mono HBs.out.size)
      have R1 := row_of_at hS
      clear hg hG hT hS
      refine hK.out _ _ ?_ (fun hHeld' => ?_)
      · (try dsimp only)
        exact ⟨(AW.out.next HBn).1, (AW.out.next HBn).2.1, (AW.out.next HBn).2.2.1, HBn⟩
      clear hK K hHeld
      have hHeld := hHeld'
      clear hHeld'
      have HBa1 : Hid (Below w1.heap.size w1 wna1) := HBn
      clear HBn hb
      (try simp only [Act.put, List.getElem_toArray, List.getElem_cons_zero, List.getElem_cons_succ, List.setIfInBounds_toArray, List.set_cons_zero, List.set_cons_succ])
      refine wpAnyH_ready (rs := [3, 12]) (by kernel_rfl) (by simp) ?_
      refine AllReadyH.cons rfl (fun K hK => ?_) (AllReadyH.cons rfl (fun K hK => ?_) AllReadyH.nil)
      · (try simp only [Act.put, List.getElem_toArray, List.getElem_cons_zero, List.getElem_cons_succ, List.setIfInBounds_toArray, List.set_cons_zero, List.set_cons_succ])
        go_simp
        refine (toVv_any x y z _).mono ?_
        rintro e wna2 ⟨rfl, hb⟩
        have HBn : Below w1.heap.size w1 wna2 := HBa1.out.trans (hb.mono HBa1.out.size)
        replace R1 := row_next R1 hb
        refine hK.out _ _ ?_ (fun hHeld' => ?_)
        · (try dsimp only)
          exact ⟨(AW.out.next HBn).1, (AW.out.next HBn).2.1, (AW.out.next HBn).2.2.1, HBn⟩
        clear hK K hHeld
        have hHeld := hHeld'
        clear hHeld'
        have HBa2 : Hid (Below w1.heap.size w1 wna2) := HBn
        clear HBn hb
        (try simp only [Act.put, List.getElem_toArray, List.getElem_cons_zero, List.getElem_cons_succ, List.setIfInBounds_toArray, List.set_cons_zero, List.set_cons_succ])
        refine wpAnyH_ready (rs := [5, 12]) (by kernel_rfl) (by simp) ?_
        refine AllReadyH.cons rfl (fun K hK => ?_) (AllReadyH.cons rfl (fun K hK => ?_) AllReadyH.nil)
        · (try simp only [Act.put, List.getElem_toArray, List.getElem_cons_zero, List.getElem_cons_succ, List.setIfInBounds_toArray, List.set_cons_zero, List.set_cons_succ])
          go_simp
          refine (toDot_any sp sn _).mono ?_
          rintro e wna3 ⟨rfl, hb⟩
          have HBn : Below w1.heap.size w1 wna3 := HBa2.out.trans (hb.mono HBa2.out.size)
          replace R1 := row_next R1 hb
          refine hK.out _ _ ?_ (fun hHeld' => ?_)
          · (try dsimp only)
            exact ⟨(AW.out.next HBn).1, (AW.out.next HBn).2.1, (AW.out.next HBn).2.2.1, HBn⟩
          clear hK K hHeld
          have hHeld := hHeld'
          clear hHeld'
          have HBa3 : Hid (Below w1.heap.size w1 wna3) := HBn
          clear HBn hb
          (try simp only [Act.put, List.getElem_toArray, List.getElem_cons_zero, List.getElem_cons_succ, List.setIfInBounds_toArray, List.set_cons_zero, List.set_cons_succ])
          refine wpAnyH_ready (rs := [8, 12]) (by kernel_rfl) (by simp) ?_
          refine AllReadyH.cons rfl (fun K hK => ?_) (AllReadyH.cons rfl (fun K hK => ?_) AllReadyH.nil)
          · (try simp only [Act.put, List.getElem_toArray, List.getElem_cons_zero, List.getElem_cons_succ, List.setIfInBounds_toArray, List.set_cons_zero, List.set_cons_succ])
            go_simp
            refine (join_wrap (specWrite_any l.length _ l a b c x y z sp sn sv sd J p q r code hW _ hm R1.out)).mono ?_
            rintro e wna4 ⟨vo, vc, rfl, hb, OV, FV⟩
            have FW : Hid (∀ k, (Value.slice vo J.length vc).ownBlock = some k → w1.heap.size ≤ k) := fun k hk => Nat.le_trans HBa3.out.size (FV.out k hk).1
            have HBn : Below w1.heap.size w1 wna4 := HBa3.out.trans (hb.mono HBa3.out.size)
            refine hK.out _ _ ?_ (fun hHeld' => ?_)
            · (try dsimp only)
              exact ⟨(AW.out.next HBn).1, (AW.out.next HBn).2.1, (AW.out.next HBn).2.2.1, HBn⟩
            clear hK K hHeld
            have hHeld := hHeld'
            clear hHeld'
            have HBa4 : Hid (Below w1.heap.size w1 wna4) := HBn
            clear HBn hb
            clear FV R1
            have OL : Hid (∀ k, (Value.slice vo J.length vc).ownBlock = some k → k < wna4.heap.size) := fun k hk => (OV.out.lt k hk).2
            (try simp only [Act.put, List.getElem_toArray, List.getElem_cons_zero, List.getElem_cons_succ, List.setIfInBounds_toArray, List.set_cons_zero, List.set_cons_succ])
            refine wpAnyH_take (i := 9) (v := ?_) rfl (by kernel_rfl) (by kernel_rfl) (by kernel_rfl) (fun _ _ _ h => h) (Or.inl ⟨by rfl, ?_⟩) (by assumption) ?_
            rotate_left
            · intro w' hSw
              (try dsimp only at hSw)
              go_simp
              all_goals (try with_reducible rfl)
            (try simp only [Act.put, List.getElem_toArray, List.getElem_cons_zero, List.getElem_cons_succ, List.setIfInBounds_toArray, List.set_cons_zero, List.set_cons_succ])
            refine wpAnyH_take (i := 10) (v := ?_) rfl (by kernel_rfl) (by kernel_rfl) (by kernel_rfl) (fun _ _ _ h => h) (Or.inl ⟨by rfl, ?_⟩) (by assumption) ?_
            rotate_left
            · intro w' hSw
              (try dsimp only at hSw)
              go_simp
              all_goals (try with_reducible rfl)
            (try simp only [Act.put, List.getElem_toArray, List.getElem_cons_zero, List.getElem_cons_succ, List.setIfInBounds_toArray, List.set_cons_zero, List.set_cons_succ])
            refine wpAnyH_take (i := 11) (v := ?_) rfl (by kernel_rfl) (by kernel_rfl) (by kernel_rfl) (fun _ _ _ h => h) (Or.inl ⟨by rfl, ?_⟩) (by assumption) ?_
            rotate_left
            · intro w' hSw
              (try dsimp only at hSw)
              go_simp
              all_goals (try with_reducible rfl)
            (try simp only [Act.put, List.getElem_toArray, List.getElem_cons_zero, List.getElem_cons_succ, List.setIfInBounds_toArray, List.set_cons_zero, List.set_cons_succ])
            refine wpAnyH_ready (rs := [12]) (by kernel_rfl) (by simp) ?_
            refine AllReadyH.cons rfl (fun K hK => ?_) AllReadyH.nil
            (try simp only [Act.put, List.getElem_toArray, List.getElem_cons_zero, List.getElem_cons_succ, List.setIfInBounds_toArray, List.set_cons_zero, List.set_cons_succ])
            go_simp
            (try simp only [])
            have hb := bel_alloc wna4 (.cells #[.slice none 0 0, .int .i64 0, .int .i64 0, .int .i64 0] 32)
            have HBn : Below w1.heap.size w1 (wna4.alloc (.cells #[.slice none 0 0, .int .i64 0, .int .i64 0, .int .i64 0] 32)) := HBa4.out.trans (hb.mono HBa4.out.size)
            replace OV := own_hnext OV hb
            have TH : Hid (There (wna4.alloc (.cells #[.slice none 0 0, .int .i64 0, .int .i64 0, .int .i64 0] 32)) wna4.heap.size 4) := there_new
            have LG : Hid (wna4.heap.size < (wna4.alloc (.cells #[.slice none 0 0, .int .i64 0, .int .i64 0, .int .i64 0] 32)).heap.size) := lt_new
            have GE : Hid (w1.heap.size ≤ wna4.heap.size) := HBa4.out.size
            have NV : Hid ((Value.slice vo J.length vc).ownBlock ≠ some wna4.heap.size) := fun e => Nat.lt_irrefl _ (OL.out _ e)
            refine hK.out _ _ ?_ (fun hHeld' => ?_)
            · (try dsimp only)
              exact ⟨(AW.out.next HBn).1, (AW.out.next HBn).2.1, (AW.out.next HBn).2.2.1, HBn⟩
            clear hK K hHeld
            have hHeld := hHeld'
            clear hHeld'
            have HBa5 : Hid (Below w1.heap.size w1 (wna4.alloc (.cells #[.slice none 0 0, .int .i64 0, .int .i64 0, .int .i64 0] 32))) := HBn
            clear HBn hb
            generalize (wna4.alloc (.cells #[.slice none 0 0, .int .i64 0, .int .i64 0, .int .i64 0] 32)) = wna5 at *
            have OL : Hid (∀ k, (Value.slice vo J.length vc).ownBlock = some k → k < wna5.heap.size) := fun k hk => (OV.out.lt k hk).2
            (try simp only [Act.put, List.getElem_toArray, List.getElem_cons_zero, List.getElem_cons_succ, List.setIfInBounds_toArray, List.set_cons_zero, List.set_cons_succ])
            obtain ⟨t0, T0⟩ := Option.isSome_iff_exists.1 (TH.out 0 (by omega)).1
            have Z0 := (TH.out 0 (by omega)).2
            obtain ⟨t1, T1⟩ := Option.isSome_iff_exists.1 (TH.out 1 (by omega)).1
            have Z1 := (TH.out 1 (by omega)).2
            obtain ⟨t2, T2⟩ := Option.isSome_iff_exists.1 (TH.out 2 (by omega)).1
            have Z2 := (TH.out 2 (by omega)).2
            obtain ⟨t3, T3⟩ := Option.isSome_iff_exists.1 (TH.out 3 (by omega)).1
            have Z3 := (TH.out 3 (by omega)).2
            refine wpAnyH_ready (rs := [13]) (by kernel_rfl) (by simp) ?_
            refine AllReadyH.cons rfl (fun K hK => ?_) AllReadyH.nil
            (try simp only [Act.put, List.getElem_toArray, List.getElem_cons_zero, List.getElem_cons_succ, List.setIfInBounds_toArray, List.set_cons_zero, List.set_cons_succ])
            go_simp
            (try simp only [])
            have HBn := below_set4 (v0 := .slice vo J.length vc) (v1 := .int .i64 p) (v2 := .int .i64 q) (v3 := .int .i64 r) HBa5.out GE.out
            have C9 : Hid _ := set4_cells (v := .slice vo J.length vc) (p := p) (q := q) (r := r) TH.out
            have O9 : Hid _ := own_set4 (v0 := .slice vo J.length vc) (v1 := .int .i64 p) (v2 := .int .i64 q) (v3 := .int .i64 r) OV.out NV.out
            refine hK.out _ _ ?_ (fun hHeld' => ?_)
            · (try dsimp only)
              exact ⟨(AW.out.next HBn).1, (AW.out.next HBn).2.1, (AW.out.next HBn).2.2.1, HBn⟩
            clear hK K hHeld T0 T1 T2 T3 Z0 Z1 Z2 Z3
            have hHeld := hHeld'
            clear hHeld'
            have B9 : Hid _ := HBn
            clear HBn
            (try simp only [Act.put, List.getElem_toArray, List.getElem_cons_zero, List.getElem_cons_succ, List.setIfInBounds_toArray, List.set_cons_zero, List.set_cons_succ])
            refine wpAnyH_take (i := 14) (v := ?_) rfl (by kernel_rfl) (by kernel_rfl) (by kernel_rfl) (fun _ _ _ h => h) (Or.inl ⟨by rfl, ?_⟩) (by assumption) ?_
            rotate_left
            · intro w' hSw
              (try dsimp only at hSw)
              go_simp
              all_goals (try with_reducible rfl)
            (try simp only [Act.put, List.getElem_toArray, List.getElem_cons_zero, List.getElem_cons_succ, List.setIfInBounds_toArray, List.set_cons_zero, List.set_cons_succ])
            refine wpAnyH_done (by kernel_rfl) ?_ _
            clear hHeld
            go_wp2
            go_meet
            case rel => exact ⟨_, vo, vc, rfl, rfl, C9.out, by simpa [World.setCell] using LG.out, GE.out, O9.out, FW.out, NV.out, B9.out⟩
          · (try simp only [Act.put, List.getElem_toArray, List.getElem_cons_zero, List.getElem_cons_succ, List.setIfInBounds_toArray, List.set_cons_zero, List.set_cons_succ])
            go_simp
            (try simp only [])
            have hb := bel_alloc wna3 (.cells #[.slice none 0 0, .int .i64 0, .int .i64 0, .int .i64 0] 32)
            have HBn : Below w1.heap.size w1 (wna3.alloc (.cells #[.slice none 0 0, .int .i64 0, .int .i64 0, .int .i64 0] 32)) := HBa3.out.trans (hb.mono HBa3.out.size)
            replace R1 := row_next R1 hb
            have TH : Hid (There (wna3.alloc (.cells #[.slice none 0 0, .int .i64 0, .int .i64 0, .int .i64 0] 32)) wna3.heap.size 4) := there_new
            have LG : Hid (wna3.heap.size < (wna3.alloc (.cells #[.slice none 0 0, .int .i64 0, .int .i64 0, .int .i64 0] 32)).heap.size) := lt_new
            have GE : Hid (w1.heap.size ≤ wna3.heap.size) := HBa3.out.size
            refine hK.out _ _ ?_ (fun hHeld' => ?_)
            · (try dsimp only)
              exact ⟨(AW.out.next HBn).1, (AW.out.next HBn).2.1, (AW.out.next HBn).2.2.1, HBn⟩
            clear hK K hHeld
            have hHeld := hHeld'
            clear hHeld'
            have HBa4 : Hid (Below w1.heap.size w1 (wna3.alloc (.cells #[.slice none 0 0, .int .i64 0, .int .i64 0, .int .i64 0] 32))) := HBn
            clear HBn hb
            generalize (wna3.alloc (.cells #[.slice none 0 0, .int .i64 0, .int .i64 0, .int .i64 0] 32)) = wna4 at *
            (try simp only [Act.put, List.getElem_toArray, List.getElem_cons_zero, List.getElem_cons_succ, List.setIfInBounds_toArray, List.set_cons_zero, List.set_cons_succ])
            refine wpAnyH_ready (rs := [8]) (by kernel_rfl) (by simp) ?_
            refine AllReadyH.cons rfl (fun K hK => ?_) AllReadyH.nil
            (try simp only [Act.put, List.getElem_toArray, List.getElem_cons_zero, List.getElem_cons_succ, List.setIfInBounds_toArray, List.set_cons_zero, List.set_cons_succ])
            go_simp
            refine (join_wrap (specWrite_any l.length _ l a b c x y z sp sn sv sd J p q r code hW _ hm R1.out)).mono ?_
            rintro e wna5 ⟨vo, vc, rfl, hb, OV, FV⟩
            have NV : Hid ((Value.slice vo J.length vc).ownBlock ≠ some wna3.heap.size) := fun e => by
              have h1 := (FV.out _ e).1
              have h2 := LG.out
              omega
            have FW : Hid (∀ k, (Value.slice vo J.length vc).ownBlock = some k → w1.heap.size ≤ k) := fun k hk => Nat.le_trans HBa4.out.size (FV.out k hk).1
            have HBn : Below w1.heap.size w1 wna5 := HBa4.out.trans (hb.mono HBa4.out.size)
            replace TH := th_next TH hb LG
            replace LG := lt_next LG hb
            refine hK.out _ _ ?_ (fun hHeld' => ?_)
            · (try dsimp only)
              exact ⟨(AW.out.next HBn).1, (AW.out.next HBn).2.1, (AW.out.next HBn).2.2.1, HBn⟩
            clear hK K hHeld
            have hHeld := hHeld'
            clear hHeld'
            have HBa5 : Hid (Below w1.heap.size w1 wna5) := HBn
            clear HBn hb
            clear FV R1
            have OL : Hid (∀ k, (Value.slice vo J.length vc).ownBlock = some k → k < wna5.heap.size) := fun k hk => (OV.out.lt k hk).2
            (try simp only [Act.put, List.getElem_toArray, List.getElem_cons_zero, List.getElem_cons_succ, List.setIfInBounds_toArray, List.set_cons_zero, List.set_cons_succ])
            refine wpAnyH_take (i := 9) (v := ?_) rfl (by kernel_rfl) (by kernel_rfl) (by kernel_rfl) (fun _ _ _ h => h) (Or.inl ⟨by rfl, ?_⟩) (by assumption) ?_
            rotate_left
            · intro w' hSw
              (try dsimp only at hSw)
              go_simp
              all_goals (try with_reducible rfl)
            (try simp only [Act.put, List.getElem_toArray, List.getElem_cons_zero, List.getElem_cons_succ, List.setIfInBounds_toArray, List.set_cons_zero, List.set_cons_succ])
            refine wpAnyH_take (i := 10) (v := ?_) rfl (by kernel_rfl) (by kernel_rfl) (by kernel_rfl) (fun _ _ _ h => h) (Or.inl ⟨by rfl, ?_⟩) (by assumption) ?_
            rotate_left
            · intro w' hSw
              (try dsimp only at hSw)
              go_simp
              all_goals (try with_reducible rfl)
            (try simp only [Act.put, List.getElem_toArray, List.getElem_cons_zero, List.getElem_cons_succ, List.setIfInBounds_toArray, List.set_cons_zero, List.set_cons_succ])
            refine wpAnyH_take (i := 11) (v := ?_) rfl (by kernel_rfl) (by kernel_rfl) (by kernel_rfl) (fun _ _ _ h => h) (Or.inl ⟨by rfl, ?_⟩) (by assumption) ?_
            rotate_left
            · intro w' hSw
              (try dsimp only at hSw)
              go_simp
              all_goals (try with_reducible rfl)
            (try simp only [Act.put, List.getElem_toArray, List.getElem_cons_zero, List.getElem_cons_succ, List.setIfInBounds_toArray, List.set_cons_zero, List.set_cons_succ])
            obtain ⟨t0, T0⟩ := Option.isSome_iff_exists.1 (TH.out 0 (by omega)).1
            have Z0 := (TH.out 0 (by omega)).2
            obtain ⟨t1, T1⟩ := Option.isSome_iff_exists.1 (TH.out 1 (by omega)).1
            have Z1 := (TH.out 1 (by omega)).2
            obtain ⟨t2, T2⟩ := Option.isSome_iff_exists.1 (TH.out 2 (by omega)).1
            have Z2 := (TH.out 2 (by omega)).2
            obtain ⟨t3, T3⟩ := Option.isSome_iff_exists.1 (TH.out 3 (by omega)).1
            have Z3 := (TH.out 3 (by omega)).2
            refine wpAnyH_ready (rs := [13]) (by kernel_rfl) (by simp) ?_
            refine AllReadyH.cons rfl (fun K hK => ?_) AllReadyH.nil
            (try simp only [Act.put, List.getElem_toArray, List.getElem_cons_zero, List.getElem_cons_succ, List.setIfInBounds_toArray, List.set_cons_zero, List.set_cons_succ])
            go_simp
            (try simp only [])
            have HBn := below_set4 (v0 := .slice vo J.length vc) (v1 := .int .i64 p) (v2 := .int .i64 q) (v3 := .int .i64 r) HBa5.out GE.out
            have C9 : Hid _ := set4_cells (v := .slice vo J.length vc) (p := p) (q := q) (r := r) TH.out
            have O9 : Hid _ := own_set4 (v0 := .slice vo J.length vc) (v1 := .int .i64 p) (v2 := .int .i64 q) (v3 := .int .i64 r) OV.out NV.out
            refine hK.out _ _ ?_ (fun hHeld' => ?_)
            · (try dsimp only)
              exact ⟨(AW.out.next HBn).1, (AW.out.next HBn).2.1, (AW.out.next HBn).2.2.1, HBn⟩
            clear hK K hHeld T0 T1 T2 T3 Z0 Z1 Z2 Z3
            have hHeld := hHeld'
            clear hHeld'
            have B9 : Hid _ := HBn
            clear HBn
            (try simp only [Act.put, List.getElem_toArray, List.getElem_cons_zero, List.getElem_cons_succ, List.setIfInBounds_toArray, List.set_cons_zero, List.set_cons_succ])
            refine wpAnyH_take (i := 14) (v := ?_) rfl (by kernel_rfl) (by kernel_rfl) (by kernel_rfl) (fun _ _ _ h => h) (Or.inl ⟨by rfl, ?_⟩) (by assumption) ?_
            rotate_left
            · intro w' hSw
              (try dsimp only at hSw)
              go_simp
              all_goals (try with_reducible rfl)
            (try simp only [Act.put, List.getElem_toArray, List.getElem_cons_zero, List.getElem_cons_succ, List.setIfInBounds_toArray, List.set_cons_zero, List.set_cons_succ])
            refine wpAnyH_done (by kernel_rfl) ?_ _
            clear hHeld
            go_wp2
            go_meet
            case rel => exact ⟨_, vo, vc, rfl, rfl, C9.out, by simpa [World.setCell] using LG.out, GE.out, O9.out, FW.out, NV.out, B9.out⟩
        · (try simp only [Act.put, List.getElem_toArray, List.getElem_cons_zero, List.getElem_cons_succ, List.setIfInBounds_toArray, List.set_cons_zero, List.set_cons_succ])
          go_simp
          (try simp only [])
          have hb := bel_alloc wna2 (.cells #[.slice none 0 0, .int .i64 0, .int .i64 0, .int .i64 0] 32)
          have HBn : Below w1.heap.size w1 (wna2.alloc (.cells #[.slice none 0 0, .int .i64 0, .int .i64 0, .int .i64 0] 32)) := HBa2.out.trans (hb.mono HBa2.out.size)
          replace R1 := row_next R1 hb
          have TH : Hid (There (wna2.alloc (.cells #[.slice none 0 0, .int .i64 0, .int .i64 0, .int .i64 0] 32)) wna2.heap.size 4) := there_new
          have LG : Hid (wna2.heap.size < (wna2.alloc (.cells #[.slice none 0 0, .int .i64 0, .int .i64 0, .int .i64 0] 32)).heap.size) := lt_new
          have GE : Hid (w1.heap.size ≤ wna2.heap.size) := HBa2.out.size
          refine hK.out _ _ ?_ (fun hHeld' => ?_)
          · (try dsimp only)
            exact ⟨(AW.out.next HBn).1, (AW.out.next HBn).2.1, (AW.out.next HBn).2.2.1, HBn⟩
          clear hK K hHeld
          have hHeld := hHeld'
          clear hHeld'
          have HBa3 : Hid (Below w1.heap.size w1 (wna2.alloc (.cells #[.slice none 0 0, .int .i64 0, .int .i64 0, .int .i64 0] 32))) := HBn
          clear HBn hb
          generalize (wna2.alloc (.cells #[.slice none 0 0, .int .i64 0, .int .i64 0, .int .i64 0] 32)) = wna3 at *
          (try simp only [Act.put, List.getElem_toArray, List.getElem_cons_zero, List.getElem_cons_succ, List.setIfInBounds_toArray, List.set_cons_zero, List.set_cons_succ])
          refine wpAnyH_ready (rs := [5]) (by kernel_rfl) (by simp) ?_
          refine AllReadyH.cons rfl (fun K hK => ?_) AllReadyH.nil
          (try simp only [Act.put, List.getElem_toArray, List.getElem_cons_zero, List.getElem_cons_succ, List.setIfInBounds_toArray, List.set_cons_zero, List.set_cons_succ])
          go_simp
          refine (toDot_any sp sn _).mono ?_
          rintro e wna4 ⟨rfl, hb⟩
          have HBn : Below w1.heap.size w1 wna4 := HBa3.out.trans (hb.mono HBa3.out.size)
          replace R1 := row_next R1 hb
          replace TH := th_next TH hb LG
          replace LG := lt_next LG hb
          refine hK.out _ _ ?_ (fun hHeld' => ?_)
          · (try dsimp only)
            exact ⟨(AW.out.next HBn).1, (AW.out.next HBn).2.1, (AW.out.next HBn).2.2.1, HBn⟩
          clear hK K hHeld
          have hHeld := hHeld'
          clear hHeld'
          have HBa4 : Hid (Below w1.heap.size w1 wna4) := HBn
          clear HBn hb
          (try simp only [Act.put, List.getElem_toArray, List.getElem_cons_zero, List.getElem_cons_succ, List.setIfInBounds_toArray, List.set_cons_zero, List.set_cons_succ])
          refine wpAnyH_ready (rs := [8]) (by kernel_rfl) (by simp) ?_
          refine AllReadyH.cons rfl (fun K hK => ?_) AllReadyH.nil
          (try simp only [Act.put, List.getElem_toArray, List.getElem_cons_zero, List.getElem_cons_succ, List.setIfInBounds_toArray, List.set_cons_zero, List.set_cons_succ])
          go_simp
          refine (join_wrap (specWrite_any l.length _ l a b c x y z sp sn sv sd J p q r code hW _ hm R1.out)).mono ?_
          rintro e wna5 ⟨vo, vc, rfl, hb, OV, FV⟩
          have NV : Hid ((Value.slice vo J.length vc).ownBlock ≠ some wna2.heap.size) := fun e => by
            have h1 := (FV.out _ e).1
            have h2 := LG.out
            omega
          have FW : Hid (∀ k, (Value.slice vo J.length vc).ownBlock = some k → w1.heap.size ≤ k) := fun k hk => Nat.le_trans HBa4.out.size (FV.out k hk).1
          have HBn : Below w1.heap.size w1 wna5 := HBa4.out.trans (hb.mono HBa4.out.size)
          replace TH := th_next TH hb LG
          replace LG := lt_next LG hb
          refine hK.out _ _ ?_ (fun hHeld' => ?_)
          · (try dsimp only)
            exact ⟨(AW.out.next HBn).1, (AW.out.next HBn).2.1, (AW.out.next HBn).2.2.1, HBn⟩
          clear hK K hHeld
          have hHeld := hHeld'
          clear hHeld'
          have HBa5 : Hid (Below w1.heap.size w1 wna5) := HBn
          clear HBn hb
          clear FV R1
          have OL : Hid (∀ k, (Value.slice vo J.length vc).ownBlock = some k → k < wna5.heap.size) := fun k hk => (OV.out.lt k hk).2
          (try simp only [Act.put, List.getElem_toArray, List.getElem_cons_zero, List.getElem_cons_succ, List.setIfInBounds_toArray, List.set_cons_zero, List.set_cons_succ])
          refine wpAnyH_take (i := 9) (v := ?_) rfl (by kernel_rfl) (by kernel_rfl) (by kernel_rfl) (fun _ _ _ h => h) (Or.inl ⟨by rfl, ?_⟩) (by assumption) ?_
          rotate_left
          · intro w' hSw
            (try dsimp only at hSw)
            go_simp
            all_goals (try with_reducible rfl)
          (try simp only [Act.put, List.getElem_toArray, List.getElem_cons_zero, List.getElem_cons_succ, List.setIfInBounds_toArray, List.set_cons_zero, List.set_cons_succ])
          refine wpAnyH_take (i := 10) (v := ?_) rfl (by kernel_rfl) (by kernel_rfl) (by kernel_rfl) (fun _ _ _ h => h) (Or.inl ⟨by rfl, ?_⟩) (by assumption) ?_
          rotate_left
          · intro w' hSw
            (try dsimp only at hSw)
            go_simp
            all_goals (try with_reducible rfl)
          (try simp only [Act.put, List.getElem_toArray, List.getElem_cons_zero, List.getElem_cons_succ, List.setIfInBounds_toArray, List.set_cons_zero, List.set_cons_succ])
          refine wpAnyH_take (i := 11) (v := ?_) rfl (by kernel_rfl) (by kernel_rfl) (by kernel_rfl) (fun _ _ _ h => h) (Or.inl ⟨by rfl, ?_⟩) (by assumption) ?_
          rotate_left
          · intro w' hSw
            (try dsimp only at hSw)
            go_simp
            all_goals (try with_reducible rfl)
          (try simp only [Act.put, List.getElem_toArray, List.getElem_cons_zero, List.getElem_cons_succ, List.setIfInBounds_toArray, List.set_cons_zero, List.set_cons_succ])
          obtain ⟨t0, T0⟩ := Option.isSome_iff_exists.1 (TH.out 0 (by omega)).1
          have Z0 := (TH.out 0 (by omega)).2
          obtain ⟨t1, T1⟩ := Option.isSome_iff_exists.1 (TH.out 1 (by omega)).1
          have Z1 := (TH.out 1 (by omega)).2
          obtain ⟨t2, T2⟩ := Option.isSome_iff_exists.1 (TH.out 2 (by omega)).1
          have Z2 := (TH.out 2 (by omega)).2
          obtain ⟨t3, T3⟩ := Option.isSome_iff_exists.1 (TH.out 3 (by omega)).1
          have Z3 := (TH.out 3 (by omega)).2
          refine wpAnyH_ready (rs := [13]) (by kernel_rfl) (by simp) ?_
          refine AllReadyH.cons rfl (fun K hK => ?_) AllReadyH.nil
          (try simp only [Act.put, List.getElem_toArray, List.getElem_cons_zero, List.getElem_cons_succ, List.setIfInBounds_toArray, List.set_cons_zero, List.set_cons_succ])
          go_simp
          (try simp only [])
          have HBn := below_set4 (v0 := .slice vo J.length vc) (v1 := .int .i64 p) (v2 := .int .i64 q) (v3 := .int .i64 r) HBa5.out GE.out
          have C9 : Hid _ := set4_cells (v := .slice vo J.length vc) (p := p) (q := q) (r := r) TH.out
          have O9 : Hid _ := own_set4 (v0 := .slice vo J.length vc) (v1 := .int .i64 p) (v2 := .int .i64 q) (v3 := .int .i64 r) OV.out NV.out
          refine hK.out _ _ ?_ (fun hHeld' => ?_)
          · (try dsimp only)
            exact ⟨(AW.out.next HBn).1, (AW.out.next HBn).2.1, (AW.out.next HBn).2.2.1, HBn⟩
          clear hK K hHeld T0 T1 T2 T3 Z0 Z1 Z2 Z3
          have hHeld := hHeld'
          clear hHeld'
          have B9 : Hid _ := HBn
          clear HBn
          (try simp only [Act.put, List.getElem_toArray, List.getElem_cons_zero, List.getElem_cons_succ, List.setIfInBounds_toArray, List.set_cons_zero, List.set_cons_succ])
          refine wpAnyH_take (i := 14) (v := ?_) rfl (by kernel_rfl) (by kernel_rfl) (by kernel_rfl) (fun _ _ _ h => h) (Or.inl ⟨by rfl, ?_⟩) (by assumption) ?_
          rotate_left
          · intro w' hSw
            (try dsimp only at hSw)
            go_simp
            all_goals (try with_reducible rfl)
          (try simp only [Act.put, List.getElem_toArray, List.getElem_cons_zero, List.getElem_cons_succ, List.setIfInBounds_toArray, List.set_cons_zero, List.set_cons_succ])
          refine wpAnyH_done (by kernel_rfl) ?_ _
          clear hHeld
          go_wp2
          go_meet
          case rel => exact ⟨_, vo, vc, rfl, rfl, C9.out, by simpa [World.setCell] using LG.out, GE.out, O9.out, FW.out, NV.out, B9.out⟩
      · (try simp only [Act.put, List.getElem_toArray, List.getElem_cons_zero, List.getElem_cons_succ, List.setIfInBounds_toArray, List.set_cons_zero, List.set_cons_succ])
        go_simp
        (try simp only [])
        have hb := bel_alloc wna1 (.cells #[.slice none 0 0, .int .i64 0, .int .i64 0, .int .i64 0] 32)
        have HBn : Below w1.heap.size w1 (wna1.alloc (.cells #[.slice none 0 0, .int .i64 0, .int .i64 0, .int .i64 0] 32)) := HBa1.out.trans (hb.mono HBa1.out.size)
        replace R1 := row_next R1 hb
        have TH : Hid (There (wna1.alloc (.cells #[.slice none 0 0, .int .i64 0, .int .i64 0, .int .i64 0] 32)) wna1.heap.size 4) := there_new
        have LG : Hid (wna1.heap.size < (wna1.alloc (.cells #[.slice none 0 0, .int .i64 0, .int .i64 0, .int .i64 0] 32)).heap.size) := lt_new
        have GE : Hid (w1.heap.size ≤ wna1.heap.size) := HBa1.out.size
        refine hK.out _ _ ?_ (fun hHeld' => ?_)
        · (try dsimp only)
          exact ⟨(AW.out.next HBn).1, (AW.out.next HBn).2.1, (AW.out.next HBn).2.2.1, HBn⟩
        clear hK K hHeld
        have hHeld := hHeld'
        clear hHeld'
        have HBa2 : Hid (Below w1.heap.size w1 (wna1.alloc (.cells #[.slice none 0 0, .int .i64 0, .int .i64 0, .int .i64 0] 32))) := HBn
        clear HBn hb
        generalize (wna1.alloc (.cells #[.slice none 0 0, .int .i64 0, .int .i64 0, .int .i64 0] 32)) = wna2 at *
        (try simp only [Act.put, List.getElem_toArray, List.getElem_cons_zero, List.getElem_cons_succ, List.setIfInBounds_toArray, List.set_cons_zero, List.set_cons_succ])
        refine wpAnyH_ready (rs := [3]) (by kernel_rfl) (by simp) ?_
        refine AllReadyH.cons rfl (fun K hK => ?_) AllReadyH.nil
        (try simp only [Act.put, List.getElem_toArray, List.getElem_cons_zero, List.getElem_cons_succ, List.setIfInBounds_toArray, List.set_cons_zero, List.set_cons_succ])
        go_simp
        refine (toVv_any x y z _).mono ?_
        rintro e wna3 ⟨rfl, hb⟩
        have HBn : Below w1.heap.size w1 wna3 := HBa2.out.trans (hb.mono HBa2.out.size)
        replace R1 := row_next R1 hb
        replace TH := th_next TH hb LG
        replace LG := lt_next LG hb
        refine hK.out _ _ ?_ (fun hHeld' => ?_)
        · (try dsimp only)
          exact ⟨(AW.out.next HBn).1, (AW.out.next HBn).2.1, (AW.out.next HBn).2.2.1, HBn⟩
        clear hK K hHeld
        have hHeld := hHeld'
        clear hHeld'
        have HBa3 : Hid (Below w1.heap.size w1 wna3) := HBn
        clear HBn hb
        (try simp only [Act.put, List.getElem_toArray, List.getElem_cons_zero, List.getElem_cons_succ, List.setIfInBounds_toArray, List.set_cons_zero, List.set_cons_succ])
        refine wpAnyH_ready (rs := [5]) (by kernel_rfl) (by simp) ?_
        refine AllReadyH.cons rfl (fun K hK => ?_) AllReadyH.nil
        (try simp only [Act.put, List.getElem_toArray, List.getElem_cons_zero, List.getElem_cons_succ, List.setIfInBounds_toArray, List.set_cons_zero, List.set_cons_succ])
        go_simp
        refine (toDot_any sp sn _).mono ?_
        rintro e wna4 ⟨rfl, hb⟩
        have HBn : Below w1.heap.size w1 wna4 := HBa3.out.trans (hb.mono HBa3.out.size)
        replace R1 := row_next R1 hb
        replace TH := th_next TH hb LG
        replace LG := lt_next LG hb
        refine hK.out _ _ ?_ (fun hHeld' => ?_)
        · (try dsimp only)
          exact ⟨(AW.out.next HBn).1, (AW.out.next HBn).2.1, (AW.out.next HBn).2.2.1, HBn⟩
        clear hK K hHeld
        have hHeld := hHeld'
        clear hHeld'
        have HBa4 : Hid (Below w1.heap.size w1 wna4) := HBn
        clear HBn hb
        (try simp only [Act.put, List.getElem_toArray, List.getElem_cons_zero, List.getElem_cons_succ, List.setIfInBounds_toArray, List.set_cons_zero, List.set_cons_succ])
        refine wpAnyH_ready (rs := [8]) (by kernel_rfl) (by simp) ?_
        refine AllReadyH.cons rfl (fun K hK => ?_) AllReadyH.nil
        (try simp only [Act.put, List.getElem_toArray, List.getElem_cons_zero, List.getElem_cons_succ, List.setIfInBounds_toArray, List.set_cons_zero, List.set_cons_succ])
        go_simp
        refine (join_wrap (specWrite_any l.length _ l a b c x y z sp sn sv sd J p q r code hW _ hm R1.out)).mono ?_
        rintro e wna5 ⟨vo, vc, rfl, hb, OV, FV⟩
        have NV : Hid ((Value.slice vo J.length vc).ownBlock ≠ some wna1.heap.size) := fun e => by
          have h1 := (FV.out _ e).1
          have h2 := LG.out
          omega
        have FW : Hid (∀ k, (Value.slice vo J.length vc).ownBlock = some k → w1.heap.size ≤ k) := fun k hk => Nat.le_trans HBa4.out.size (FV.out k hk).1
        have HBn : Below w1.heap.size w1 wna5 := HBa4.out.trans (hb.mono HBa4.out.size)
        replace TH := th_next TH hb LG
        replace LG := lt_next LG hb
        refine hK.out _ _ ?_ (fun hHeld' => ?_)
        · (try dsimp only)
          exact ⟨(AW.out.next HBn).1, (AW.out.next HBn).2.1, (AW.out.next HBn).2.2.1, HBn⟩
        clear hK K hHeld
        have hHeld := hHeld'
        clear hHeld'
        have HBa5 : Hid (Below w1.heap.size w1 wna5) := HBn
        clear HBn hb
        clear FV R1
        have OL : Hid (∀ k, (Value.slice vo J.length vc).ownBlock = some k → k < wna5.heap.size) := fun k hk => (OV.out.lt k hk).2
        (try simp only [Act.put, List.getElem_toArray, List.getElem_cons_zero, List.getElem_cons_succ, List.setIfInBounds_toArray, List.set_cons_zero, List.set_cons_succ])
        refine wpAnyH_take (i := 9) (v := ?_) rfl (by kernel_rfl) (by kernel_rfl) (by kernel_rfl) (fun _ _ _ h => h) (Or.inl ⟨by rfl, ?_⟩) (by assumption) ?_
        rotate_left
        · intro w' hSw
          (try dsimp only at hSw)
          go_simp
          all_goals (try with_reducible rfl)
        (try simp only [Act.put, List.getElem_toArray, List.getElem_cons_zero, List.getElem_cons_succ, List.setIfInBounds_toArray, List.set_cons_zero, List.set_cons_succ])
        refine wpAnyH_take (i := 10) (v := ?_) rfl (by kernel_rfl) (by kernel_rfl) (by kernel_rfl) (fun _ _ _ h => h) (Or.inl ⟨by rfl, ?_⟩) (by assumption) ?_
        rotate_left
        · intro w' hSw
          (try dsimp only at hSw)
          go_simp
          all_goals (try with_reducible rfl)
        (try simp only [Act.put, List.getElem_toArray, List.getElem_cons_zero, List.getElem_cons_succ, List.setIfInBounds_toArray, List.set_cons_zero, List.set_cons_succ])
        refine wpAnyH_take (i := 11) (v := ?_) rfl (by kernel_rfl) (by kernel_rfl) (by kernel_rfl) (fun _ _ _ h => h) (Or.inl ⟨by rfl, ?_⟩) (by assumption) ?_
        rotate_left
        · intro w' hSw
          (try dsimp only at hSw)
          go_simp
          all_goals (try with_reducible rfl)
        (try simp only [Act.put, List.getElem_toArray, List.getElem_cons_zero, List.getElem_cons_succ, List.setIfInBounds_toArray, List.set_cons_zero, List.set_cons_succ])
        obtain ⟨t0, T0⟩ := Option.isSome_iff_exists.1 (TH.out 0 (by omega)).1
        have Z0 := (TH.out 0 (by omega)).2
        obtain ⟨t1, T1⟩ := Option.isSome_iff_exists.1 (TH.out 1 (by omega)).1
        have Z1 := (TH.out 1 (by omega)).2
        obtain ⟨t2, T2⟩ := Option.isSome_iff_exists.1 (TH.out 2 (by omega)).1
        have Z2 := (TH.out 2 (by omega)).2
        obtain ⟨t3, T3⟩ := Option.isSome_iff_exists.1 (TH.out 3 (by omega)).1
        have Z3 := (TH.out 3 (by omega)).2
        refine wpAnyH_ready (rs := [13]) (by kernel_rfl) (by simp) ?_
        refine AllReadyH.cons rfl (fun K hK => ?_) AllReadyH.nil
        (try simp only [Act.put, List.getElem_toArray, List.getElem_cons_zero, List.getElem_cons_succ, List.setIfInBounds_toArray, List.set_cons_zero, List.set_cons_succ])
        go_simp
        (try simp only [])
        have HBn := below_set4 (v0 := .slice vo J.length vc) (v1 := .int .i64 p) (v2 := .int .i64 q) (v3 := .int .i64 r) HBa5.out GE.out
        have C9 : Hid _ := set4_cells (v := .slice vo J.length vc) (p := p) (q := q) (r := r) TH.out
        have O9 : Hid _ := own_set4 (v0 := .slice vo J.length vc) (v1 := .int .i64 p) (v2 := .int .i64 q) (v3 := .int .i64 r) OV.out NV.out
        refine hK.out _ _ ?_ (fun hHeld' => ?_)
        · (try dsimp only)
          exact ⟨(AW.out.next HBn).1, (AW.out.next HBn).2.1, (AW.out.next HBn).2.2.1, HBn⟩
        clear hK K hHeld T0 T1 T2 T3 Z0 Z1 Z2 Z3
        have hHeld := hHeld'
        clear hHeld'
        have B9 : Hid _ := HBn
        clear HBn
        (try simp only [Act.put, List.getElem_toArray, List.getElem_cons_zero, List.getElem_cons_succ, List.setIfInBounds_toArray, List.set_cons_zero, List.set_cons_succ])
        refine wpAnyH_take (i := 14) (v := ?_) rfl (by kernel_rfl) (by kernel_rfl) (by kernel_rfl) (fun _ _ _ h => h) (Or.inl ⟨by rfl, ?_⟩) (by assumption) ?_
        rotate_left
        · intro w' hSw
          (try dsimp only at hSw)
          go_simp
          all_goals (try with_reducible rfl)
        (try simp only [Act.put, List.getElem_toArray, List.getElem_cons_zero, List.getElem_cons_succ, List.setIfInBounds_toArray, List.set_cons_zero, List.set_cons_succ])
        refine wpAnyH_done (by kernel_rfl) ?_ _
        clear hHeld
        go_wp2
        go_meet
        case rel => exact ⟨_, vo, vc, rfl, rfl, C9.out, by simpa [World.setCell] using LG.out, GE.out, O9.out, FW.out, NV.out, B9.out⟩
    · (try simp only [Act.put, List.getElem_toArray, List.getElem_cons_zero, List.getElem_cons_succ, List.setIfInBounds_toArray, List.set_cons_zero, List.set_cons_succ])
      go_simp
      (try simp only [])
      have hb := bel_alloc wd (.cells #[.slice none 0 0, .int .i64 0, .int .i64 0, .int .i64 0] 32)
      have HBn : Below w1.heap.size w1 (wd.alloc (.cells #[.slice none 0 0, .int .i64 0, .int .i64 0, .int .i64 0] 32)) := HBs.out.trans (hb.mono HBs.out.size)
      have TH : Hid (There (wd.alloc (.cells #[.slice none 0 0, .int .i64 0, .int .i64 0, .int .i64 0] 32)) wd.heap.size 4) := there_new
      have LG : Hid (wd.heap.size < (wd.alloc (.cells #[.slice none 0 0, .int .i64 0, .int .i64 0, .int .i64 0] 32)).heap.size) := lt_new
      have GE : Hid (w1.heap.size ≤ wd.heap.size) := HBs.out.size
      refine hK.out _ _ ?_ (fun hHeld' => ?_)
      · (try dsimp only)
        exact ⟨(AW.out.next HBn).1, (AW.out.next HBn).2.1, (AW.out.next HBn).2.2.1, HBn⟩
      clear hK K hHeld
      have hHeld := hHeld'
      clear hHeld'
      have HBa1 : Hid (Below w1.heap.size w1 (wd.alloc (.cells #[.slice none 0 0, .int .i64 0, .int .i64 0, .int .i64 0] 32))) := HBn
      clear HBn hb
      generalize (wd.alloc (.cells #[.slice none 0 0, .int .i64 0, .int .i64 0, .int .i64 0] 32)) = wna1 at *
      (try simp only [Act.put, List.getElem_toArray, List.getElem_cons_zero, List.getElem_cons_succ, List.setIfInBounds_toArray, List.set_cons_zero, List.set_cons_succ])
      refine wpAnyH_ready (rs := [1]) (by kernel_rfl) (by simp) ?_
      refine AllReadyH.cons rfl (fun K hK => ?_) AllReadyH.nil
      (try simp only [Act.put, List.getElem_toArray, List.getElem_cons_zero, List.getElem_cons_succ, List.setIfInBounds_toArray, List.set_cons_zero, List.set_cons_succ])
      go_simp
      refine (toObj_any cap ao l a b c _ hm (RAW.out.next HBa1.out)).mono ?_
      rintro e wna2 ⟨g1, rfl, hb, hg, hG, hT, hS⟩
      have HBn : Below w1.heap.size w1 wna2 := HBa1.out.trans (hb.mono HBa1.out.size)
      have R1 := row_of_at hS
      clear hg hG hT hS
      replace TH := th_next TH hb LG
      replace LG := lt_next LG hb
      refine hK.out _ _ ?_ (fun hHeld' => ?_)
      · (try dsimp only)
        exact ⟨(AW.out.next HBn).1, (AW.out.next HBn).2.1, (AW.out.next HBn).2.2.1, HBn⟩
      clear hK K hHeld
      have hHeld := hHeld'
      clear hHeld'
      have HBa2 : Hid (Below w1.heap.size w1 wna2) := HBn
      clear HBn hb
      (try simp only [Act.put, List.getElem_toArray, List.getElem_cons_zero, List.getElem_cons_succ, List.setIfInBounds_toArray, List.set_cons_zero, List.set_cons_succ])
      refine wpAnyH_ready (rs := [3]) (by kernel_rfl) (by simp) ?_
      refine AllReadyH.cons rfl (fun K hK => ?_) AllReadyH.nil
      (try simp only [Act.put, List.getElem_toArray, List.getElem_cons_zero, List.getElem_cons_succ, List.setIfInBounds_toArray, List.set_cons_zero, List.set_cons_succ])
      go_simp
      refine (toVv_any x y z _).mono ?_
      rintro e wna3 ⟨rfl, hb⟩
      have HBn : Below w1.heap.size w1 wna3 := HBa2.out.trans (hb.mono HBa2.out.size)
      replace R1 := row_next R1 hb
      replace TH := th_next TH hb LG
      replace LG := lt_next LG hb
      refine hK.out _ _ ?_ (fun hHeld' => ?_)
      · (try dsimp only)
        exact ⟨(AW.out.next HBn).1, (AW.out.next HBn).2.1, (AW.out.next HBn).2.2.1, HBn⟩
      clear hK K hHeld
      have hHeld := hHeld'
      clear hHeld'
      have HBa3 : Hid (Below w1.heap.size w1 wna3) := HBn
      clear HBn hb
      (try simp only [Act.put, List.getElem_toArray, List.getElem_cons_zero, List.getElem_cons_succ, List.setIfInBounds_toArray, List.set_cons_zero, List.set_cons_succ])
      refine wpAnyH_ready (rs := [5]) (by kernel_rfl) (by simp) ?_
      refine AllReadyH.cons rfl (fun K hK => ?_) AllReadyH.nil
      (try simp only [Act.put, List.getElem_toArray, List.getElem_cons_zero, List.getElem_cons_succ, List.setIfInBounds_toArray, List.set_cons_zero, List.set_cons_succ])
      go_simp
      refine (toDot_any sp sn _).mono ?_
      rintro e wna4 ⟨rfl, hb⟩
      have HBn : Below w1.heap.size w1 wna4 := HBa3.out.trans (hb.mono HBa3.out.size)
      replace R1 := row_next R1 hb
      replace TH := th_next TH hb LG
      replace LG := lt_next LG hb
      refine hK.out _ _ ?_ (fun hHeld' => ?_)
      · (try dsimp only)
        exact ⟨(AW.out.next HBn).1, (AW.out.next HBn).2.1, (AW.out.next HBn).2.2.1, HBn⟩
      clear hK K hHeld
      have hHeld := hHeld'
      clear hHeld'
      have HBa4 : Hid (Below w1.heap.size w1 wna4) := HBn
      clear HBn hb
      (try simp only [Act.put, List.getElem_toArray, List.getElem_cons_zero, List.getElem_cons_succ, List.setIfInBounds_toArray, List.set_cons_zero, List.set_cons_succ])
      refine wpAnyH_ready (rs := [8]) (by kernel_rfl) (by simp) ?_
      refine AllReadyH.cons rfl (fun K hK => ?_) AllReadyH.nil
      (try simp only [Act.put, List.getElem_toArray, List.getElem_cons_zero, List.getElem_cons_succ, List.setIfInBounds_toArray, List.set_cons_zero, List.set_cons_succ])
      go_simp
      refine (join_wrap (specWrite_any l.length _ l a b c x y z sp sn sv sd J p q r code hW _ hm R1.out)).mono ?_
      rintro e wna5 ⟨vo, vc, rfl, hb, OV, FV⟩
      have NV : Hid ((Value.slice vo J.length vc).ownBlock ≠ some wd.heap.size) := fun e => by
        have h1 := (FV.out _ e).1
        have h2 := LG.out
        omega
      have FW : Hid (∀ k, (Value.slice vo J.length vc).ownBlock = some k → w1.heap.size ≤ k) := fun k hk => Nat.le_trans HBa4.out.size (FV.out k hk).1
      have HBn : Below w1.heap.size w1 wna5 := HBa4.out.trans (hb.mono HBa4.out.size)
      replace TH := th_next TH hb LG
      replace LG := lt_next LG hb
      refine hK.out _ _ ?_ (fun hHeld' => ?_)
      · (try dsimp only)
        exact ⟨(AW.out.next HBn).1, (AW.out.next HBn).2.1, (AW.out.next HBn).2.2.1, HBn⟩
      clear hK K hHeld
      have hHeld := hHeld'
      clear hHeld'
      have HBa5 : Hid (Below w1.heap.size w1 wna5) := HBn
      clear HBn hb
      clear FV R1
      have OL : Hid (∀ k, (Value.slice vo J.length vc).ownBlock = some k → k < wna5.heap.size) := fun k hk => (OV.out.lt k hk).2
      (try simp only [Act.put, List.getElem_toArray, List.getElem_cons_zero, List.getElem_cons_succ, List.setIfInBounds_toArray, List.set_cons_zero, List.set_cons_succ])
      refine wpAnyH_take (i := 9) (v := ?_) rfl (by kernel_rfl) (by kernel_rfl) (by kernel_rfl) (fun _ _ _ h => h) (Or.inl ⟨by rfl, ?_⟩) (by assumption) ?_
      rotate_left
      · intro w' hSw
        (try dsimp only at hSw)
        go_simp
        all_goals (try with_reducible rfl)
      (try simp only [Act.put, List.getElem_toArray, List.getElem_cons_zero, List.getElem_cons_succ, List.setIfInBounds_toArray, List.set_cons_zero, List.set_cons_succ])
      refine wpAnyH_take (i := 10) (v := ?_) rfl (by kernel_rfl) (by kernel_rfl) (by kernel_rfl) (fun _ _ _ h => h) (Or.inl ⟨by rfl, ?_⟩) (by assumption) ?_
      rotate_left
      · intro w' hSw
        (try dsimp only at hSw)
        go_simp
        all_goals (try with_reducible rfl)
      (try simp only [Act.put, List.getElem_toArray, List.getElem_cons_zero, List.getElem_cons_succ, List.setIfInBounds_toArray, List.set_cons_zero, List.set_cons_succ])
      refine wpAnyH_take (i := 11) (v := ?_) rfl (by kernel_rfl) (by kernel_rfl) (by kernel_rfl) (fun _ _ _ h => h) (Or.inl ⟨by rfl, ?_⟩) (by assumption) ?_
      rotate_left
      · intro w' hSw
        (try dsimp only at hSw)
        go_simp
        all_goals (try with_reducible rfl)
      (try simp only [Act.put, List.getElem_toArray, List.getElem_cons_zero, List.getElem_cons_succ, List.setIfInBounds_toArray, List.set_cons_zero, List.set_cons_succ])
      obtain ⟨t0, T0⟩ := Option.isSome_iff_exists.1 (TH.out 0 (by omega)).1
      have Z0 := (TH.out 0 (by omega)).2
      obtain ⟨t1, T1⟩ := Option.isSome_iff_exists.1 (TH.out 1 (by omega)).1
      have Z1 := (TH.out 1 (by omega)).2
      obtain ⟨t2, T2⟩ := Option.isSome_iff_exists.1 (TH.out 2 (by omega)).1
      have Z2 := (TH.out 2 (by omega)).2
      obtain ⟨t3, T3⟩ := Option.isSome_iff_exists.1 (TH.out 3 (by omega)).1
      have Z3 := (TH.out 3 (by omega)).2
      refine wpAnyH_ready (rs := [13]) (by kernel_rfl) (by simp) ?_
      refine AllReadyH.cons rfl (fun K hK => ?_) AllReadyH.nil
      (try simp only [Act.put, List.getElem_toArray, List.getElem_cons_zero, List.getElem_cons_succ, List.setIfInBounds_toArray, List.set_cons_zero, List.set_cons_succ])
      go_simp
      (try simp only [])
      have HBn := below_set4 (v0 := .slice vo J.length vc) (v1 := .int .i64 p) (v2 := .int .i64 q) (v3 := .int .i64 r) HBa5.out GE.out
      have C9 : Hid _ := set4_cells (v := .slice vo J.length vc) (p := p) (q := q) (r := r) TH.out
      have O9 : Hid _ := own_set4 (v0 := .slice vo J.length vc) (v1 := .int .i64 p) (v2 := .int .i64 q) (v3 := .int .i64 r) OV.out NV.out
      refine hK.out _ _ ?_ (fun hHeld' => ?_)
      · (try dsimp only)
        exact ⟨(AW.out.next HBn).1, (AW.out.next HBn).2.1, (AW.out.next HBn).2.2.1, HBn⟩
      clear hK K hHeld T0 T1 T2 T3 Z0 Z1 Z2 Z3
      have hHeld := hHeld'
      clear hHeld'
      have B9 : Hid _ := HBn
      clear HBn
      (try simp only [Act.put, List.getElem_toArray, List.getElem_cons_zero, List.getElem_cons_succ, List.setIfInBounds_toArray, List.set_cons_zero, List.set_cons_succ])
      refine wpAnyH_take (i := 14) (v := ?_) rfl (by kernel_rfl) (by kernel_rfl) (by kernel_rfl) (fun _ _ _ h => h) (Or.inl ⟨by rfl, ?_⟩) (by assumption) ?_
      rotate_left
      · intro w' hSw
        (try dsimp only at hSw)
        go_simp
        all_goals (try with_reducible rfl)
      (try simp only [Act.put, List.getElem_toArray, List.getElem_cons_zero, List.getElem_cons_succ, List.setIfInBounds_toArray, List.set_cons_zero, List.set_cons_succ])
      refine wpAnyH_done (by kernel_rfl) ?_ _
      clear hHeld
      go_wp2
      go_meet
      case rel => exact ⟨_, vo, vc, rfl, rfl, C9.out, by simpa [World.setCell] using LG.out, GE.out, O9.out, FW.out, NV.out, B9.out⟩
  case rest =>
    obtain ⟨gb, vo, vc, rfl, rfl, hC, hLb, hge, hOb, hFb, hNb, hb⟩ := hcut
    have BW : Hid (Cells4 wc gb (.slice vo J.length vc) p q r) := hC
    have LW : Hid (gb < wc.heap.size) := hLb
    have EW : Hid (wc.ownsRow 0 46 4 (.slice vo J.length vc) J.length (flat J)) := hOb
    have HX1 : Hid (w1.heap.size ≤ wc.heap.size ∧ gb < wc.heap.size ∧ ∀ k, (Value.slice vo J.length vc).ownBlock = some k → k < wc.heap.size) := ⟨hb.size, hLb, fun k hk => (hOb.lt k hk).2⟩
    replace HB := bel_next HB hb
    clear hb hC hLb hge hOb hFb hNb
    obtain ⟨⟨a0, a1, a2, a3⟩, _, _, _⟩ := LB1.out.next HB.out
    go_wp2_with fail
    clear a0 a1 a2 a3
    refine (toObj_any cap ao l a b c _ hm (RA1.out.next HB.out)).mono ?_
    rintro e w6 ⟨gx, rfl, hb, hg, hG, hT, hS⟩
    replace BW := c4_next BW hb LW
    replace LW := lt_next LW hb
    replace HB := bel_next HB hb
    replace EW := own_hnext EW hb
    have HX2 : Hid (wc.heap.size ≤ gx ∧ gx < w6.heap.size) := ⟨hg, hG⟩
    have ETX : Hid (MRow w6 (some ⟨gx, 0, none⟩) l.length) := .inr ⟨gx, rfl, hG, hT⟩
    have RxA := row_of_at hS
    clear hb hg hG hT hS
    go_upto_region 7 with fail
    replace BW := c4_next BW (bel_alloc w6 (.cells #[.slice (some ⟨gx, 0, none⟩) l.length l.length, .int .i64 a, .int .i64 b, .int .i64 c] 32)) LW
    replace LW := lt_next LW (bel_alloc w6 (.cells #[.slice (some ⟨gx, 0, none⟩) l.length l.length, .int .i64 a, .int .i64 b, .int .i64 c] 32))
    replace RxA := row_next RxA (bel_alloc w6 (.cells #[.slice (some ⟨gx, 0, none⟩) l.length l.length, .int .i64 a, .int .i64 b, .int .i64 c] 32))
    replace HB := bel_next HB (bel_alloc w6 (.cells #[.slice (some ⟨gx, 0, none⟩) l.length l.length, .int .i64 a, .int .i64 b, .int .i64 c] 32))
    replace EW := own_hnext EW (bel_alloc w6 (.cells #[.slice (some ⟨gx, 0, none⟩) l.length l.length, .int .i64 a, .int .i64 b, .int .i64 c] 32))
    replace ETX := mrow_next ETX (bel_alloc w6 (.cells #[.slice (some ⟨gx, 0, none⟩) l.length l.length, .int .i64 a, .int .i64 b, .int .i64 c] 32))
    have BxA : Hid (Cells4 (w6.alloc (.cells #[.slice (some ⟨gx, 0, none⟩) l.length l.length, .int .i64 a, .int .i64 b, .int .i64 c] 32)) w6.heap.size (.slice (some ⟨gx, 0, none⟩) l.length l.length) a b c) := box_new
    have LxA : Hid (w6.heap.size < (w6.alloc (.cells #[.slice (some ⟨gx, 0, none⟩) l.length l.length, .int .i64 a, .int .i64 b, .int .i64 c] 32)).heap.size) := lt_new
    have HX3 : Hid (w6.heap.size < (w6.alloc (.cells #[.slice (some ⟨gx, 0, none⟩) l.length l.length, .int .i64 a, .int .i64 b, .int .i64 c] 32)).heap.size) := lt_new
    generalize (w6.alloc (.cells #[.slice (some ⟨gx, 0, none⟩) l.length l.length, .int .i64 a, .int .i64 b, .int .i64 c] 32)) = wX at *
    go_cut [15, 16] from 22 (fun s15 s16 wc => ∃ (gb : Nat) (vo : Option Addr) (vc : Nat), s15 = .pointer (some ⟨gb, 0, none⟩) ∧ s16 = .int .i64 code ∧ Cells4 wc gb (.slice vo J.length vc) p q r ∧ gb < wc.heap.size ∧ wX.heap.size ≤ gb ∧ wc.ownsRow 0 46 4 (.slice vo J.length vc) J.length (flat J) ∧ (∀ k, (Value.slice vo J.length vc).ownBlock = some k → wX.heap.size ≤ k) ∧ (Value.slice vo J.length vc).ownBlock ≠ some gb ∧ Below wX.heap.size wX wc)
    case first =>
      have AW : Hid (LBX w.heap.size wX (Value.slice ao l.length cap) a b c x y z sp sn) := LB1.out.next HB.out
      have XB := BxA
      have XL := LxA
      refine wp_region_held_drew (S := (fun w' => (w'.cell? ⟨w.heap.size, 0, none⟩ = some (Value.slice ao l.length cap) ∧ w'.cell? ⟨w.heap.size, 1, none⟩ = some (.int .i64 a) ∧ w'.cell? ⟨w.heap.size, 2, none⟩ = some (.int .i64 b) ∧ w'.cell? ⟨w.heap.size, 3, none⟩ = some (.int .i64 c)) ∧ (w'.cell? ⟨w.heap.size + 1, 0, none⟩ = some (.int .i64 x) ∧ w'.cell? ⟨w.heap.size + 1, 1, none⟩ = some (.int .i64 y) ∧ w'.cell? ⟨w.heap.size + 1, 2, none⟩ = some (.int .i64 z)) ∧ (w'.cell? ⟨w.heap.size + 1 + 1, 0, none⟩ = some (.int .i64 sp) ∧ w'.cell? ⟨w.heap.size + 1 + 1, 1, none⟩ = some (.int .i64 sn)) ∧ (w'.cell? ⟨w6.heap.size, 0, none⟩ = some (Value.slice (some ⟨gx, 0, none⟩) l.length l.length) ∧ w'.cell? ⟨w6.heap.size, 1, none⟩ = some (.int .i64 a) ∧ w'.cell? ⟨w6.heap.size, 2, none⟩ = some (.int .i64 b) ∧ w'.cell? ⟨w6.heap.size, 3, none⟩ = some (.int .i64 c)) ∧ Below wX.heap.size wX w')) (by kernel_rfl) ?_ (fun hHeld => ?_)
      · (try dsimp only)
        have HBn := bel_drew wX
        exact ⟨(AW.out.next HBn).1, (AW.out.next HBn).2.1, (AW.out.next HBn).2.2.1, (c4_next XB HBn XL), HBn⟩
      refine wpAnyH_take (i := 0) (v := ?_) rfl (by kernel_rfl) (by kernel_rfl) (by kernel_rfl) (fun _ _ _ h => h) (Or.inl ⟨by rfl, ?_⟩) (by assumption) ?_
      rotate_left
      · intro w' hSw
        (try dsimp only at hSw)
        go_simp
        all_goals (try with_reducible rfl)
      (try simp only [Act.put, List.getElem_toArray, List.getElem_cons_zero, List.getElem_cons_succ, List.setIfInBounds_toArray, List.set_cons_zero, List.set_cons_succ])
      refine wpAnyH_take (i := 1) (v := ?_) rfl (by kernel_rfl) (by kernel_rfl) (by kernel_rfl) (fun _ _ _ h => h) (Or.inl ⟨by rfl, ?_⟩) (by assumption) ?_
      rotate_left
      · intro w' hSw
        (try dsimp only at hSw)
        go_simp
        all_goals (try with_reducible rfl)
      (try simp only [Act.put, List.getElem_toArray, List.getElem_cons_zero, List.getElem_cons_succ, List.setIfInBounds_toArray, List.set_cons_zero, List.set_cons_succ])
      refine wpAnyH_take (i := 3) (v := ?_) rfl (by kernel_rfl) (by kernel_rfl) (by kernel_rfl) (fun _ _ _ h => h) (Or.inl ⟨by rfl, ?_⟩) (by assumption) ?_
      rotate_left
      · intro w' hSw
        (try dsimp only at hSw)
        go_simp
        all_goals (try with_reducible rfl)
      (try simp only [Act.put, List.getElem_toArray, List.getElem_cons_zero, List.getElem_cons_succ, List.setIfInBounds_toArray, List.set_cons_zero, List.set_cons_succ])
      refine wpAnyH_take (i := 5) (v := ?_) rfl (by kernel_rfl) (by kernel_rfl) (by kernel_rfl) (fun _ _ _ h => h) (Or.inl ⟨by rfl, ?_⟩) (by assumption) ?_
      rotate_left
      · intro w' hSw
        (try dsimp only at hSw)
        go_simp
        all_goals (try with_reducible rfl)
      (try simp only [Act.put, List.getElem_toArray, List.getElem_cons_zero, List.getElem_cons_succ, List.setIfInBounds_toArray, List.set_cons_zero, List.set_cons_succ])
      refine wpAnyH_take (i := 6) (v := ?_) rfl (by kernel_rfl) (by kernel_rfl) (by kernel_rfl) (fun _ _ _ h => h) (Or.inl ⟨by rfl, ?_⟩) (by assumption) ?_
      rotate_left
      · intro w' hSw
        (try dsimp only at hSw)
        go_simp
        all_goals (try with_reducible rfl)
      (try simp only [Act.put, List.getElem_toArray, List.getElem_cons_zero, List.getElem_cons_succ, List.setIfInBounds_toArray, List.set_cons_zero, List.set_cons_succ])
      have HBs : Hid (Below wX.heap.size wX wX.drew) := bel_drew _
      have RAW : Hid (SibRow wX ao l) := (RA1.out.next HB.out)
      have R1 : Hid (SibRow wX.drew (some ⟨gx, 0, none⟩) l) := row_next RxA (bel_drew _)
      generalize wX.drew = wd at *
      refine wpAnyH_ready (rs := [2, 11]) (by kernel_rfl) (by simp) ?_
      refine AllReadyH.cons rfl (fun K hK => ?_) (AllReadyH.cons rfl (fun K hK => ?_) AllReadyH.nil)
      · (try simp only [Act.put, List.getElem_toArray, List.getElem_cons_zero, List.getElem_cons_succ, List.setIfInBounds_toArray, List.set_cons_zero, List.set_cons_succ])
        go_simp
        refine (toVv_any x y z _).mono ?_
        rintro e wnb1 ⟨rfl, hb⟩
        have HBn : Below wX.heap.size wX wnb1 := HBs.out.trans (hb.mono HBs.out.size)
        replace R1 := row_next R1 hb
        refine hK.out _ _ ?_ (fun hHeld' => ?_)
        · (try dsimp only)
          exact ⟨(AW.out.next HBn).1, (AW.out.next HBn).2.1, (AW.out.next HBn).2.2.1, (c4_next XB HBn XL), HBn⟩
        clear hK K hHeld
        have hHeld := hHeld'
        clear hHeld'
        have HBb1 : Hid (Below wX.heap.size wX wnb1) := HBn
        clear HBn hb
        (try simp only [Act.put, List.getElem_toArray, List.getElem_cons_zero, List.getElem_cons_succ, List.setIfInBounds_toArray, List.set_cons_zero, List.set_cons_succ])
        refine wpAnyH_ready (rs := [4, 11]) (by kernel_rfl) (by simp) ?_
        refine AllReadyH.cons rfl (fun K hK => ?_) (AllReadyH.cons rfl (fun K hK => ?_) AllReadyH.nil)
        · (try simp only [Act.put, List.getElem_toArray, List.getElem_cons_zero, List.getElem_cons_succ, List.setIfInBounds_toArray, List.set_cons_zero, List.set_cons_succ])
          go_simp
          refine (toDot_any sp sn _).mono ?_
          rintro e wnb2 ⟨rfl, hb⟩
          have HBn : Below wX.heap.size wX wnb2 := HBb1.out.trans (hb.mono HBb1.out.size)
          replace R1 := row_next R1 hb
          refine hK.out _ _ ?_ (fun hHeld' => ?_)
          · (try dsimp only)
            exact ⟨(AW.out.next HBn).1, (AW.out.next HBn).2.1, (AW.out.next HBn).2.2.1, (c4_next XB HBn XL), HBn⟩
          clear hK K hHeld
          have hHeld := hHeld'
          clear hHeld'
          have HBb2 : Hid (Below wX.heap.size wX wnb2) := HBn
          clear HBn hb
          (try simp only [Act.put, List.getElem_toArray, List.getElem_cons_zero, List.getElem_cons_succ, List.setIfInBounds_toArray, List.set_cons_zero, List.set_cons_succ])
          refine wpAnyH_ready (rs := [7, 11]) (by kernel_rfl) (by simp) ?_
          refine AllReadyH.cons rfl (fun K hK => ?_) (AllReadyH.cons rfl (fun K hK => ?_) AllReadyH.nil)
          · (try simp only [Act.put, List.getElem_toArray, List.getElem_cons_zero, List.getElem_cons_succ, List.setIfInBounds_toArray, List.set_cons_zero, List.set_cons_succ])
            go_simp
            refine (join_wrap (implWrite_any l.length _ l a b c x y z sp sn sv sd J p q r code hW _ hm R1.out)).mono ?_
            rintro e wnb3 ⟨vo, vc, rfl, hb, OV, FV⟩
            have FW : Hid (∀ k, (Value.slice vo J.length vc).ownBlock = some k → wX.heap.size ≤ k) := fun k hk => Nat.le_trans HBb2.out.size (FV.out k hk).1
            have HBn : Below wX.heap.size wX wnb3 := HBb2.out.trans (hb.mono HBb2.out.size)
            refine hK.out _ _ ?_ (fun hHeld' => ?_)
            · (try dsimp only)
              exact ⟨(AW.out.next HBn).1, (AW.out.next HBn).2.1, (AW.out.next HBn).2.2.1, (c4_next XB HBn XL), HBn⟩
            clear hK K hHeld
            have hHeld := hHeld'
            clear hHeld'
            have HBb3 : Hid (Below wX.heap.size wX wnb3) := HBn
            clear HBn hb
            clear FV R1
            have OL : Hid (∀ k, (Value.slice vo J.length vc).ownBlock = some k → k < wnb3.heap.size) := fun k hk => (OV.out.lt k hk).2
            (try simp only [Act.put, List.getElem_toArray, List.getElem_cons_zero, List.getElem_cons_succ, List.setIfInBounds_toArray, List.set_cons_zero, List.set_cons_succ])
            refine wpAnyH_take (i := 8) (v := ?_) rfl (by kernel_rfl) (by kernel_rfl) (by kernel_rfl) (fun _ _ _ h => h) (Or.inl ⟨by rfl, ?_⟩) (by assumption) ?_
            rotate_left
            · intro w' hSw
              (try dsimp only at hSw)
              go_simp
              all_goals (try with_reducible rfl)
            (try simp only [Act.put, List.getElem_toArray, List.getElem_cons_zero, List.getElem_cons_succ, List.setIfInBounds_toArray, List.set_cons_zero, List.set_cons_succ])
            refine wpAnyH_take (i := 9) (v := ?_) rfl (by kernel_rfl) (by kernel_rfl) (by kernel_rfl) (fun _ _ _ h => h) (Or.inl ⟨by rfl, ?_⟩) (by assumption) ?_
            rotate_left
            · intro w' hSw
              (try dsimp only at hSw)
              go_simp
              all_goals (try with_reducible rfl)
            (try simp only [Act.put, List.getElem_toArray, List.getElem_cons_zero, List.getElem_cons_succ, List.setIfInBounds_toArray, List.set_cons_zero, List.set_cons_succ])
            refine wpAnyH_take (i := 10) (v := ?_) rfl (by kernel_rfl) (by kernel_rfl) (by kernel_rfl) (fun _ _ _ h => h) (Or.inl ⟨by rfl, ?_⟩) (by assumption) ?_
            rotate_left
            · intro w' hSw
              (try dsimp only at hSw)
              go_simp
              all_goals (try with_reducible rfl)
            (try simp only [Act.put, List.getElem_toArray, List.getElem_cons_zero, List.getElem_cons_succ, List.setIfInBounds_toArray, List.set_cons_zero, List.set_cons_succ])
            refine wpAnyH_ready (rs := [11]) (by kernel_rfl) (by simp) ?_
            refine AllReadyH.cons rfl (fun K hK => ?_) AllReadyH.nil
            (try simp only [Act.put, List.getElem_toArray, List.getElem_cons_zero, List.getElem_cons_succ, List.setIfInBounds_toArray, List.set_cons_zero, List.set_cons_succ])
            go_simp
            (try simp only [])
            have hb := bel_alloc wnb3 (.cells #[.slice none 0 0, .int .i64 0, .int .i64 0, .int .i64 0] 32)
            have HBn : Below wX.heap.size wX (wnb3.alloc (.cells #[.slice none 0 0, .int .i64 0, .int .i64 0, .int .i64 0] 32)) := HBb3.out.trans (hb.mono HBb3.out.size)
            replace OV := own_hnext OV hb
            have TH : Hid (There (wnb3.alloc (.cells #[.slice none 0 0, .int .i64 0, .int .i64 0, .int .i64 0] 32)) wnb3.heap.size 4) := there_new
            have LG : Hid (wnb3.heap.size < (wnb3.alloc (.cells #[.slice none 0 0, .int .i64 0, .int .i64 0, .int .i64 0] 32)).heap.size) := lt_new
            have GE : Hid (wX.heap.size ≤ wnb3.heap.size) := HBb3.out.size
            have NV : Hid ((Value.slice vo J.length vc).ownBlock ≠ some wnb3.heap.size) := fun e => Nat.lt_irrefl _ (OL.out _ e)
            refine hK.out _ _ ?_ (fun hHeld' => ?_)
            · (try dsimp only)
              exact ⟨(AW.out.next HBn).1, (AW.out.next HBn).2.1, (AW.out.next HBn).2.2.1, (c4_next XB HBn XL), HBn⟩
            clear hK K hHeld
            have hHeld := hHeld'
            clear hHeld'
            have HBb4 : Hid (Below wX.heap.size wX (wnb3.alloc (.cells #[.slice none 0 0, .int .i64 0, .int .i64 0, .int .i64 0] 32))) := HBn
            clear HBn hb
            generalize (wnb3.alloc (.cells #[.slice none 0 0, .int .i64 0, .int .i64 0, .int .i64 0] 32)) = wnb4 at *
            have OL : Hid (∀ k, (Value.slice vo J.length vc).ownBlock = some k → k < wnb4.heap.size) := fun k hk => (OV.out.lt k hk).2
            (try simp only [Act.put, List.getElem_toArray, List.getElem_cons_zero, List.getElem_cons_succ, List.setIfInBounds_toArray, List.set_cons_zero, List.set_cons_succ])
            obtain ⟨t0, T0⟩ := Option.isSome_iff_exists.1 (TH.out 0 (by omega)).1
            have Z0 := (TH.out 0 (by omega)).2
            obtain ⟨t1, T1⟩ := Option.isSome_iff_exists.1 (TH.out 1 (by omega)).1
            have Z1 := (TH.out 1 (by omega)).2
            obtain ⟨t2, T2⟩ := Option.isSome_iff_exists.1 (TH.out 2 (by omega)).1
            have Z2 := (TH.out 2 (by omega)).2
            obtain ⟨t3, T3⟩ := Option.isSome_iff_exists.1 (TH.out 3 (by omega)).1
            have Z3 := (TH.out 3 (by omega)).2
            refine wpAnyH_ready (rs := [12]) (by kernel_rfl) (by simp) ?_
            refine AllReadyH.cons rfl (fun K hK => ?_) AllReadyH.nil
            (try simp only [Act.put, List.getElem_toArray, List.getElem_cons_zero, List.getElem_cons_succ, List.setIfInBounds_toArray, List.set_cons_zero, List.set_cons_succ])
            go_simp
            (try simp only [])
            have HBn := below_set4 (v0 := .slice vo J.length vc) (v1 := .int .i64 p) (v2 := .int .i64 q) (v3 := .int .i64 r) HBb4.out GE.out
            have C9 : Hid _ := set4_cells (v := .slice vo J.length vc) (p := p) (q := q) (r := r) TH.out
            have O9 : Hid _ := own_set4 (v0 := .slice vo J.length vc) (v1 := .int .i64 p) (v2 := .int .i64 q) (v3 := .int .i64 r) OV.out NV.out
            refine hK.out _ _ ?_ (fun hHeld' => ?_)
            · (try dsimp only)
              exact ⟨(AW.out.next HBn).1, (AW.out.next HBn).2.1, (AW.out.next HBn).2.2.1, (c4_next XB HBn XL), HBn⟩
            clear hK K hHeld T0 T1 T2 T3 Z0 Z1 Z2 Z3
            have hHeld := hHeld'
            clear hHeld'
            have B9 : Hid _ := HBn
            clear HBn
            (try simp only [Act.put, List.getElem_toArray, List.getElem_cons_zero, List.getElem_cons_succ, List.setIfInBounds_toArray, List.set_cons_zero, List.set_cons_succ])
            refine wpAnyH_take (i := 13) (v := ?_) rfl (by kernel_rfl) (by kernel_rfl) (by kernel_rfl) (fun _ _ _ h => h) (Or.inl ⟨by rfl, ?_⟩) (by assumption) ?_
            rotate_left
            · intro w' hSw
              (try dsimp only at hSw)
              go_simp
              all_goals (try with_reducible rfl)
            (try simp only [Act.put, List.getElem_toArray, List.getElem_cons_zero, List.getElem_cons_succ, List.setIfInBounds_toArray, List.set_cons_zero, List.set_cons_succ])
            refine wpAnyH_done (by kernel_rfl) ?_ _
            clear hHeld
            go_wp2
            go_meet
            case rel => exact ⟨_, vo, vc, rfl, rfl, C9.out, by simpa [World.setCell] using LG.out, GE.out, O9.out, FW.out, NV.out, B9.out⟩
          · (try simp only [Act.put, List.getElem_toArray, List.getElem_cons_zero, List.getElem_cons_succ, List.setIfInBounds_toArray, List.set_cons_zero, List.set_cons_succ])
            go_simp
            (try simp only [])
            have hb := bel_alloc wnb2 (.cells #[.slice none 0 0, .int .i64 0, .int .i64 0, .int .i64 0] 32)
            have HBn : Below wX.heap.size wX (wnb2.alloc (.cells #[.slice none 0 0, .int .i64 0, .int .i64 0, .int .i64 0] 32)) := HBb2.out.trans (hb.mono HBb2.out.size)
            replace R1 := row_next R1 hb
            have TH : Hid (There (wnb2.alloc (.cells #[.slice none 0 0, .int .i64 0, .int .i64 0, .int .i64 0] 32)) wnb2.heap.size 4) := there_new
            have LG : Hid (wnb2.heap.size < (wnb2.alloc (.cells #[.slice none 0 0, .int .i64 0, .int .i64 0, .int .i64 0] 32)).heap.size) := lt_new
            have GE : Hid (wX.heap.size ≤ wnb2.heap.size) := HBb2.out.size
            refine hK.out _ _ ?_ (fun hHeld' => ?_)
            · (try dsimp only)
              exact ⟨(AW.out.next HBn).1, (AW.out.next HBn).2.1, (AW.out.next HBn).2.2.1, (c4_next XB HBn XL), HBn⟩
            clear hK K hHeld
            have hHeld := hHeld'
            clear hHeld'
            have HBb3 : Hid (Below wX.heap.size wX (wnb2.alloc (.cells #[.slice none 0 0, .int .i64 0, .int .i64 0, .int .i64 0] 32))) := HBn
            clear HBn hb
            generalize (wnb2.alloc (.cells #[.slice none 0 0, .int .i64 0, .int .i64 0, .int .i64 0] 32)) = wnb3 at *
            (try simp only [Act.put, List.getElem_toArray, List.getElem_cons_zero, List.getElem_cons_succ, List.setIfInBounds_toArray, List.set_cons_zero, List.set_cons_succ])
            refine wpAnyH_ready (rs := [7]) (by kernel_rfl) (by simp) ?_
            refine AllReadyH.cons rfl (fun K hK => ?_) AllReadyH.nil
            (try simp only [Act.put, List.getElem_toArray, List.getElem_cons_zero, List.getElem_cons_succ, List.setIfInBounds_toArray, List.set_cons_zero, List.set_cons_succ])
            go_simp
            refine (join_wrap (implWrite_any l.length _ l a b c x y z sp sn sv sd J p q r code hW _ hm R1.out)).mono ?_
            rintro e wnb4 ⟨vo, vc, rfl, hb, OV, FV⟩
            have NV : Hid ((Value.slice vo J.length vc).ownBlock ≠ some wnb2.heap.size) := fun e => by
              have h1 := (FV.out _ e).1
              have h2 := LG.out
              omega
            have FW : Hid (∀ k, (Value.slice vo J.length vc).ownBlock = some k → wX.heap.size ≤ k) := fun k hk => Nat.le_trans HBb3.out.size (FV.out k hk).1
            have HBn : Below wX.heap.size wX wnb4 := HBb3.out.trans (hb.mono HBb3.out.size)
            replace TH := th_next TH hb LG
            replace LG := lt_next LG hb
            refine hK.out _ _ ?_ (fun hHeld' => ?_)
            · (try dsimp only)
              exact ⟨(AW.out.next HBn).1, (AW.out.next HBn).2.1, (AW.out.next HBn).2.2.1, (c4_next XB HBn XL), HBn⟩
            clear hK K hHeld
            have hHeld := hHeld'
            clear hHeld'
            have HBb4 : Hid (Below wX.heap.size wX wnb4) := HBn
            clear HBn hb
            clear FV R1
            have OL : Hid (∀ k, (Value.slice vo J.length vc).ownBlock = some k → k < wnb4.heap.size) := fun k hk => (OV.out.lt k hk).2
            (try simp only [Act.put, List.getElem_toArray, List.getElem_cons_zero, List.getElem_cons_succ, List.setIfInBounds_toArray, List.set_cons_zero, List.set_cons_succ])
            refine wpAnyH_take (i := 8) (v := ?_) rfl (by kernel_rfl) (by kernel_rfl) (by kernel_rfl) (fun _ _ _ h => h) (Or.inl ⟨by rfl, ?_⟩) (by assumption) ?_
            rotate_left
            · intro w' hSw
              (try dsimp only at hSw)
              go_simp
              all_goals (try with_reducible rfl)
            (try simp only [Act.put, List.getElem_toArray, List.getElem_cons_zero, List.getElem_cons_succ, List.setIfInBounds_toArray, List.set_cons_zero, List.set_cons_succ])
            refine wpAnyH_take (i := 9) (v := ?_) rfl (by kernel_rfl) (by kernel_rfl) (by kernel_rfl) (fun _ _ _ h => h) (Or.inl ⟨by rfl, ?_⟩) (by assumption) ?_
            rotate_left
            · intro w' hSw
              (try dsimp only at hSw)
              go_simp
              all_goals (try with_reducible rfl)
            (try simp only [Act.put, List.getElem_toArray, List.getElem_cons_zero, List.getElem_cons_succ, List.setIfInBounds_toArray, List.set_cons_zero, List.set_cons_succ])
            refine wpAnyH_take (i := 10) (v := ?_) rfl (by kernel_rfl) (by kernel_rfl) (by kernel_rfl) (fun _ _ _ h => h) (Or.inl ⟨by rfl, ?_⟩) (by assumption) ?_
            rotate_left
            · intro w' hSw
              (try dsimp only at hSw)
              go_simp
              all_goals (try with_reducible rfl)
            (try simp only [Act.put, List.getElem_toArray, List.getElem_cons_zero, List.getElem_cons_succ, List.setIfInBounds_toArray, List.set_cons_zero, List.set_cons_succ])
            obtain ⟨t0, T0⟩ := Option.isSome_iff_exists.1 (TH.out 0 (by omega)).1
            have Z0 := (TH.out 0 (by omega)).2
            obtain ⟨t1, T1⟩ := Option.isSome_iff_exists.1 (TH.out 1 (by omega)).1
            have Z1 := (TH.out 1 (by omega)).2
            obtain ⟨t2, T2⟩ := Option.isSome_iff_exists.1 (TH.out 2 (by omega)).1
            have Z2 := (TH.out 2 (by omega)).2
            obtain ⟨t3, T3⟩ := Option.isSome_iff_exists.1 (TH.out 3 (by omega)).1
            have Z3 := (TH.out 3 (by omega)).2
            refine wpAnyH_ready (rs := [12]) (by kernel_rfl) (by simp) ?_
            refine AllReadyH.cons rfl (fun K hK => ?_) AllReadyH.nil
            (try simp only [Act.put, List.getElem_toArray, List.getElem_cons_zero, List.getElem_cons_succ, List.setIfInBounds_toArray, List.set_cons_zero, List.set_cons_succ])
            go_simp
            (try simp only [])
            have HBn := below_set4 (v0 := .slice vo J.length vc) (v1 := .int .i64 p) (v2 := .int .i64 q) (v3 := .int .i64 r) HBb4.out GE.out
            have C9 : Hid _ := set4_cells (v := .slice vo J.length vc) (p := p) (q := q) (r := r) TH.out
            have O9 : Hid _ := own_set4 (v0 := .slice vo J.length vc) (v1 := .int .i64 p) (v2 := .int .i64 q) (v3 := .int .i64 r) OV.out NV.out
            refine hK.out _ _ ?_ (fun hHeld' => ?_)
            · (try dsimp only)
              exact ⟨(AW.out.next HBn).1, (AW.out.next HBn).2.1, (AW.out.next HBn).2.2.1, (c4_next XB HBn XL), HBn⟩
            clear hK K hHeld T0 T1 T2 T3 Z0 Z1 Z2 Z3
            have hHeld := hHeld'
            clear hHeld'
            have B9 : Hid _ := HBn
            clear HBn
            (try simp only [Act.put, List.getElem_toArray, List.getElem_cons_zero, List.getElem_cons_succ, List.setIfInBounds_toArray, List.set_cons_zero, List.set_cons_succ])
            refine wpAnyH_take (i := 13) (v := ?_) rfl (by kernel_rfl) (by kernel_rfl) (by kernel_rfl) (fun _ _ _ h => h) (Or.inl ⟨by rfl, ?_⟩) (by assumption) ?_
            rotate_left
            · intro w' hSw
              (try dsimp only at hSw)
              go_simp
              all_goals (try with_reducible rfl)
            (try simp only [Act.put, List.getElem_toArray, List.getElem_cons_zero, List.getElem_cons_succ, List.setIfInBounds_toArray, List.set_cons_zero, List.set_cons_succ])
            refine wpAnyH_done (by kernel_rfl) ?_ _
            clear hHeld
            go_wp2
            go_meet
            case rel => exact ⟨_, vo, vc, rfl, rfl, C9.out, by simpa [World.setCell] using LG.out, GE.out, O9.out, FW.out, NV.out, B9.out⟩
        · (try simp only [Act.put, List.getElem_toArray, List.getElem_cons_zero, List.getElem_cons_succ, List.setIfInBounds_toArray, List.set_cons_zero, List.set_cons_succ])
          go_simp
          (try simp only [])
          have hb := bel_alloc wnb1 (.cells #[.slice none 0 0, .int .i64 0, .int .i64 0, .int .i64 0] 32)
          have HBn : Below wX.heap.size wX (wnb1.alloc (.cells #[.slice none 0 0, .int .i64 0, .int .i64 0, .int .i64 0] 32)) := HBb1.out.trans (hb.mono HBb1.out.size)
          replace R1 := row_next R1 hb
          have TH : Hid (There (wnb1.alloc (.cells #[.slice none 0 0, .int .i64 0, .int .i64 0, .int .i64 0] 32)) wnb1.heap.size 4) := there_new
          have LG : Hid (wnb1.heap.size < (wnb1.alloc (.cells #[.slice none 0 0, .int .i64 0, .int .i64 0, .int .i64 0] 32)).heap.size) := lt_new
          have GE : Hid (wX.heap.size ≤ wnb1.heap.size) := HBb1.out.size
          refine hK.out _ _ ?_ (fun hHeld' => ?_)
          · (try dsimp only)
            exact ⟨(AW.out.next HBn).1, (AW.out.next HBn).2.1, (AW.out.next HBn).2.2.1, (c4_next XB HBn XL), HBn⟩
          clear hK K hHeld
          have hHeld := hHeld'
          clear hHeld'
          have HBb2 : Hid (Below wX.heap.size wX (wnb1.alloc (.cells #[.slice none 0 0, .int .i64 0, .int .i64 0, .int .i64 0] 32))) := HBn
          clear HBn hb
          generalize (wnb1.alloc (.cells #[.slice none 0 0, .int .i64 0, .int .i64 0, .int .i64 0] 32)) = wnb2 at *
          (try simp only [Act.put, List.getElem_toArray, List.getElem_cons_zero, List.getElem_cons_succ, List.setIfInBounds_toArray, List.set_cons_zero, List.set_cons_succ])
          refine wpAnyH_ready (rs := [4]) (by kernel_rfl) (by simp) ?_
          refine AllReadyH.cons rfl (fun K hK => ?_) AllReadyH.nil
          (try simp only [Act.put, List.getElem_toArray, List.getElem_cons_zero, List.getElem_cons_succ, List.setIfInBounds_toArray, List.set_cons_zero, List.set_cons_succ])
          go_simp
          refine (toDot_any sp sn _).mono ?_
          rintro e wnb3 ⟨rfl, hb⟩
          have HBn : Below wX.heap.size wX wnb3 := HBb2.out.trans (hb.mono HBb2.out.size)
          replace R1 := row_next R1 hb
          replace TH := th_next TH hb LG
          replace LG := lt_next LG hb
          refine hK.out _ _ ?_ (fun hHeld' => ?_)
          · (try dsimp only)
            exact ⟨(AW.out.next HBn).1, (AW.out.next HBn).2.1, (AW.out.next HBn).2.2.1, (c4_next XB HBn XL), HBn⟩
          clear hK K hHeld
          have hHeld := hHeld'
          clear hHeld'
          have HBb3 : Hid (Below wX.heap.size wX wnb3) := HBn
          clear HBn hb
          (try simp only [Act.put, List.getElem_toArray, List.getElem_cons_zero, List.getElem_cons_succ, List.setIfInBounds_toArray, List.set_cons_zero, List.set_cons_succ])
          refine wpAnyH_ready (rs := [7]) (by kernel_rfl) (by simp) ?_
          refine AllReadyH.cons rfl (fun K hK => ?_) AllReadyH.nil
          (try simp only [Act.put, List.getElem_toArray, List.getElem_cons_zero, List.getElem_cons_succ, List.setIfInBounds_toArray, List.set_cons_zero, List.set_cons_succ])
          go_simp
          refine (join_wrap (implWrite_any l.length _ l a b c x y z sp sn sv sd J p q r code hW _ hm R1.out)).mono ?_
          rintro e wnb4 ⟨vo, vc, rfl, hb, OV, FV⟩
          have NV : Hid ((Value.slice vo J.length vc).ownBlock ≠ some wnb1.heap.size) := fun e => by
            have h1 := (FV.out _ e).1
            have h2 := LG.out
            omega
          have FW : Hid (∀ k, (Value.slice vo J.length vc).ownBlock = some k → wX.heap.size ≤ k) := fun k hk => Nat.le_trans HBb3.out.size (FV.out k hk).1
          have HBn : Below wX.heap.size wX wnb4 := HBb3.out.trans (hb.mono HBb3.out.size)
          replace TH := th_next TH hb LG
          replace LG := lt_next LG hb
          refine hK.out _ _ ?_ (fun hHeld' => ?_)
          · (try dsimp only)
            exact ⟨(AW.out.next HBn).1, (AW.out.next HBn).2.1, (AW.out.next HBn).2.2.1, (c4_next XB HBn XL), HBn⟩
          clear hK K hHeld
          have hHeld := hHeld'
          clear hHeld'
          have HBb4 : Hid (Below wX.heap.size wX wnb4) := HBn
          clear HBn hb
          clear FV R1
          have OL : Hid (∀ k, (Value.slice vo J.length vc).ownBlock = some k → k < wnb4.heap.size) := fun k hk => (OV.out.lt k hk).2
          (try simp only [Act.put, List.getElem_toArray, List.getElem_cons_zero, List.getElem_cons_succ, List.setIfInBounds_toArray, List.set_cons_zero, List.set_cons_succ])
          refine wpAnyH_take (i := 8) (v := ?_) rfl (by kernel_rfl) (by kernel_rfl) (by kernel_rfl) (fun _ _ _ h => h) (Or.inl ⟨by rfl, ?_⟩) (by assumption) ?_
          rotate_left
          · intro w' hSw
            (try dsimp only at hSw)
            go_simp
            all_goals (try with_reducible rfl)
          (try simp only [Act.put, List.getElem_toArray, List.getElem_cons_zero, List.getElem_cons_succ, List.setIfInBounds_toArray, List.set_cons_zero, List.set_cons_succ])
          refine wpAnyH_take (i := 9) (v := ?_) rfl (by kernel_rfl) (by kernel_rfl) (by kernel_rfl) (fun _ _ _ h => h) (Or.inl ⟨by rfl, ?_⟩) (by assumption) ?_
          rotate_left
          · intro w' hSw
            (try dsimp only at hSw)
            go_simp
            all_goals (try with_reducible rfl)
          (try simp only [Act.put, List.getElem_toArray, List.getElem_cons_zero, List.getElem_cons_succ, List.setIfInBounds_toArray, List.set_cons_zero, List.set_cons_succ])
          refine wpAnyH_take (i := 10) (v := ?_) rfl (by kernel_rfl) (by kernel_rfl) (by kernel_rfl) (fun _ _ _ h => h) (Or.inl ⟨by rfl, ?_⟩) (by assumption) ?_
          rotate_left
          · intro w' hSw
            (try dsimp only at hSw)
            go_simp
            all_goals (try with_reducible rfl)
          (try simp only [Act.put, List.getElem_toArray, List.getElem_cons_zero, List.getElem_cons_succ, List.setIfInBounds_toArray, List.set_cons_zero, List.set_cons_succ])
          obtain ⟨t0, T0⟩ := Option.isSome_iff_exists.1 (TH.out 0 (by omega)).1
          have Z0 := (TH.out 0 (by omega)).2
          obtain ⟨t1, T1⟩ := Option.isSome_iff_exists.1 (TH.out 1 (by omega)).1
          have Z1 := (TH.out 1 (by omega)).2
          obtain ⟨t2, T2⟩ := Option.isSome_iff_exists.1 (TH.out 2 (by omega)).1
          have Z2 := (TH.out 2 (by omega)).2
          obtain ⟨t3, T3⟩ := Option.isSome_iff_exists.1 (TH.out 3 (by omega)).1
          have Z3 := (TH.out 3 (by omega)).2
          refine wpAnyH_ready (rs := [12]) (by kernel_rfl) (by simp) ?_
          refine AllReadyH.cons rfl (fun K hK => ?_) AllReadyH.nil
          (try simp only [Act.put, List.getElem_toArray, List.getElem_cons_zero, List.getElem_cons_succ, List.setIfInBounds_toArray, List.set_cons_zero, List.set_cons_succ])
          go_simp
          (try simp only [])
          have HBn := below_set4 (v0 := .slice vo J.length vc) (v1 := .int .i64 p) (v2 := .int .i64 q) (v3 := .int .i64 r) HBb4.out GE.out
          have C9 : Hid _ := set4_cells (v := .slice vo J.length vc) (p := p) (q := q) (r := r) TH.out
          have O9 : Hid _ := own_set4 (v0 := .slice vo J.length vc) (v1 := .int .i64 p) (v2 := .int .i64 q) (v3 := .int .i64 r) OV.out NV.out
          refine hK.out _ _ ?_ (fun hHeld' => ?_)
          · (try dsimp only)
            exact ⟨(AW.out.next HBn).1, (AW.out.next HBn).2.1, (AW.out.next HBn).2.2.1, (c4_next XB HBn XL), HBn⟩
          clear hK K hHeld T0 T1 T2 T3 Z0 Z1 Z2 Z3
          have hHeld := hHeld'
          clear hHeld'
          have B9 : Hid _ := HBn
          clear HBn
          (try simp only [Act.put, List.getElem_toArray, List.getElem_cons_zero, List.getElem_cons_succ, List.setIfInBounds_toArray, List.set_cons_zero, List.set_cons_succ])
          refine wpAnyH_take (i := 13) (v := ?_) rfl (by kernel_rfl) (by kernel_rfl) (by kernel_rfl) (fun _ _ _ h => h) (Or.inl ⟨by rfl, ?_⟩) (by assumption) ?_
          rotate_left
          · intro w' hSw
            (try dsimp only at hSw)
            go_simp
            all_goals (try with_reducible rfl)
          (try simp only [Act.put, List.getElem_toArray, List.getElem_cons_zero, List.getElem_cons_succ, List.setIfInBounds_toArray, List.set_cons_zero, List.set_cons_succ])
          refine wpAnyH_done (by kernel_rfl) ?_ _
          clear hHeld
          go_wp2
          go_meet
          case rel => exact ⟨_, vo, vc, rfl, rfl, C9.out, by simpa [World.setCell] using LG.out, GE.out, O9.out, FW.out, NV.out, B9.out⟩
      · (try simp only [Act.put, List.getElem_toArray, List.getElem_cons_zero, List.getElem_cons_succ, List.setIfInBounds_toArray, List.set_cons_zero, List.set_cons_succ])
        go_simp
        (try simp only [])
        have hb := bel_alloc wd (.cells #[.slice none 0 0, .int .i64 0, .int .i64 0, .int .i64 0] 32)
        have HBn : Below wX.heap.size wX (wd.alloc (.cells #[.slice none 0 0, .int .i64 0, .int .i64 0, .int .i64 0] 32)) := HBs.out.trans (hb.mono HBs.out.size)
        replace R1 := row_next R1 hb
        have TH : Hid (There (wd.alloc (.cells #[.slice none 0 0, .int .i64 0, .int .i64 0, .int .i64 0] 32)) wd.heap.size 4) := there_new
        have LG : Hid (wd.heap.size < (wd.alloc (.cells #[.slice none 0 0, .int .i64 0, .int .i64 0, .int .i64 0] 32)).heap.size) := lt_new
        have GE : Hid (wX.heap.size ≤ wd.heap.size) := HBs.out.size
        refine hK.out _ _ ?_ (fun hHeld' => ?_)
        · (try dsimp only)
          exact ⟨(AW.out.next HBn).1, (AW.out.next HBn).2.1, (AW.out.next HBn).2.2.1, (c4_next XB HBn XL), HBn⟩
        clear hK K hHeld
        have hHeld := hHeld'
        clear hHeld'
        have HBb1 : Hid (Below wX.heap.size wX (wd.alloc (.cells #[.slice none 0 0, .int .i64 0, .int .i64 0, .int .i64 0] 32))) := HBn
        clear HBn hb
        generalize (wd.alloc (.cells #[.slice none 0 0, .int .i64 0, .int .i64 0, .int .i64 0] 32)) = wnb1 at *
        (try simp only [Act.put, List.getElem_toArray, List.getElem_cons_zero, List.getElem_cons_succ, List.setIfInBounds_toArray, List.set_cons_zero, List.set_cons_succ])
        refine wpAnyH_ready (rs := [2]) (by kernel_rfl) (by simp) ?_
        refine AllReadyH.cons rfl (fun K hK => ?_) AllReadyH.nil
        (try simp only [Act.put, List.getElem_toArray, List.getElem_cons_zero, List.getElem_cons_succ, List.setIfInBounds_toArray, List.set_cons_zero, List.set_cons_succ])
        go_simp
        refine (toVv_any x y z _).mono ?_
        rintro e wnb2 ⟨rfl, hb⟩
        have HBn : Below wX.heap.size wX wnb2 := HBb1.out.trans (hb.mono HBb1.out.size)
        replace R1 := row_next R1 hb
        replace TH := th_next TH hb LG
        replace LG := lt_next LG hb
        refine hK.out _ _ ?_ (fun hHeld' => ?_)
        · (try dsimp only)
          exact ⟨(AW.out.next HBn).1, (AW.out.next HBn).2.1, (AW.out.next HBn).2.2.1, (c4_next XB HBn XL), HBn⟩
        clear hK K hHeld
        have hHeld := hHeld'
        clear hHeld'
        have HBb2 : Hid (Below wX.heap.size wX wnb2) := HBn
        clear HBn hb
        (try simp only [Act.put, List.getElem_toArray, List.getElem_cons_zero, List.getElem_cons_succ, List.setIfInBounds_toArray, List.set_cons_zero, List.set_cons_succ])
        refine wpAnyH_ready (rs := [4]) (by kernel_rfl) (by simp) ?_
        refine AllReadyH.cons rfl (fun K hK => ?_) AllReadyH.nil
        (try simp only [Act.put, List.getElem_toArray, List.getElem_cons_zero, List.getElem_cons_succ, List.setIfInBounds_toArray, List.set_cons_zero, List.set_cons_succ])
        go_simp
        refine (toDot_any sp sn _).mono ?_
        rintro e wnb3 ⟨rfl, hb⟩
        have HBn : Below wX.heap.size wX wnb3 := HBb2.out.trans (hb.mono HBb2.out.size)
        replace R1 := row_next R1 hb
        replace TH := th_next TH hb LG
        replace LG := lt_next LG hb
        refine hK.out _ _ ?_ (fun hHeld' => ?_)
        · (try dsimp only)
          exact ⟨(AW.out.next HBn).1, (AW.out.next HBn).2.1, (AW.out.next HBn).2.2.1, (c4_next XB HBn XL), HBn⟩
        clear hK K hHeld
        have hHeld := hHeld'
        clear hHeld'
        have HBb3 : Hid (Below wX.heap.size wX wnb3) := HBn
        clear HBn hb
        (try simp only [Act.put, List.getElem_toArray, List.getElem_cons_zero, List.getElem_cons_succ, List.setIfInBounds_toArray, List.set_cons_zero, List.set_cons_succ])
        refine wpAnyH_ready (rs := [7]) (by kernel_rfl) (by simp) ?_
        refine AllReadyH.cons rfl (fun K hK => ?_) AllReadyH.nil
        (try simp only [Act.put, List.getElem_toArray, List.getElem_cons_zero, List.getElem_cons_succ, List.setIfInBounds_toArray, List.set_cons_zero, List.set_cons_succ])
        go_simp
        refine (join_wrap (implWrite_any l.length _ l a b c x y z sp sn sv sd J p q r code hW _ hm R1.out)).mono ?_
        rintro e wnb4 ⟨vo, vc, rfl, hb, OV, FV⟩
        have NV : Hid ((Value.slice vo J.length vc).ownBlock ≠ some wd.heap.size) := fun e => by
          have h1 := (FV.out _ e).1
          have h2 := LG.out
          omega
        have FW : Hid (∀ k, (Value.slice vo J.length vc).ownBlock = some k → wX.heap.size ≤ k) := fun k hk => Nat.le_trans HBb3.out.size (FV.out k hk).1
        have HBn : Below wX.heap.size wX wnb4 := HBb3.out.trans (hb.mono HBb3.out.size)
        replace TH := th_next TH hb LG
        replace LG := lt_next LG hb
        refine hK.out _ _ ?_ (fun hHeld' => ?_)
        · (try dsimp only)
          exact ⟨(AW.out.next HBn).1, (AW.out.next HBn).2.1, (AW.out.next HBn).2.2.1, (c4_next XB HBn XL), HBn⟩
        clear hK K hHeld
        have hHeld := hHeld'
        clear hHeld'
        have HBb4 : Hid (Below wX.heap.size wX wnb4) := HBn
        clear HBn hb
        clear FV R1
        have OL : Hid (∀ k, (Value.slice vo J.length vc).ownBlock = some k → k < wnb4.heap.size) := fun k hk => (OV.out.lt k hk).2
        (try simp only [Act.put, List.getElem_toArray, List.getElem_cons_zero, List.getElem_cons_succ, List.setIfInBounds_toArray, List.set_cons_zero, List.set_cons_succ])
        refine wpAnyH_take (i := 8) (v := ?_) rfl (by kernel_rfl) (by kernel_rfl) (by kernel_rfl) (fun _ _ _ h => h) (Or.inl ⟨by rfl, ?_⟩) (by assumption) ?_
        rotate_left
        · intro w' hSw
          (try dsimp only at hSw)
          go_simp
          all_goals (try with_reducible rfl)
        (try simp only [Act.put, List.getElem_toArray, List.getElem_cons_zero, List.getElem_cons_succ, List.setIfInBounds_toArray, List.set_cons_zero, List.set_cons_succ])
        refine wpAnyH_take (i := 9) (v := ?_) rfl (by kernel_rfl) (by kernel_rfl) (by kernel_rfl) (fun _ _ _ h => h) (Or.inl ⟨by rfl, ?_⟩) (by assumption) ?_
        rotate_left
        · intro w' hSw
          (try dsimp only at hSw)
          go_simp
          all_goals (try with_reducible rfl)
        (try simp only [Act.put, List.getElem_toArray, List.getElem_cons_zero, List.getElem_cons_succ, List.setIfInBounds_toArray, List.set_cons_zero, List.set_cons_succ])
        refine wpAnyH_take (i := 10) (v := ?_) rfl (by kernel_rfl) (by kernel_rfl) (by kernel_rfl) (fun _ _ _ h => h) (Or.inl ⟨by rfl, ?_⟩) (by assumption) ?_
        rotate_left
        · intro w' hSw
          (try dsimp only at hSw)
          go_simp
          all_goals (try with_reducible rfl)
        (try simp only [Act.put, List.getElem_toArray, List.getElem_cons_zero, List.getElem_cons_succ, List.setIfInBounds_toArray, List.set_cons_zero, List.set_cons_succ])
        obtain ⟨t0, T0⟩ := Option.isSome_iff_exists.1 (TH.out 0 (by omega)).1
        have Z0 := (TH.out 0 (by omega)).2
        obtain ⟨t1, T1⟩ := Option.isSome_iff_exists.1 (TH.out 1 (by omega)).1
        have Z1 := (TH.out 1 (by omega)).2
        obtain ⟨t2, T2⟩ := Option.isSome_iff_exists.1 (TH.out 2 (by omega)).1
        have Z2 := (TH.out 2 (by omega)).2
        obtain ⟨t3, T3⟩ := Option.isSome_iff_exists.1 (TH.out 3 (by omega)).1
        have Z3 := (TH.out 3 (by omega)).2
        refine wpAnyH_ready (rs := [12]) (by kernel_rfl) (by simp) ?_
        refine AllReadyH.cons rfl (fun K hK => ?_) AllReadyH.nil
        (try simp only [Act.put, List.getElem_toArray, List.getElem_cons_zero, List.getElem_cons_succ, List.setIfInBounds_toArray, List.set_cons_zero, List.set_cons_succ])
        go_simp
        (try simp only [])
        have HBn := below_set4 (v0 := .slice vo J.length vc) (v1 := .int .i64 p) (v2 := .int .i64 q) (v3 := .int .i64 r) HBb4.out GE.out
        have C9 : Hid _ := set4_cells (v := .slice vo J.length vc) (p := p) (q := q) (r := r) TH.out
        have O9 : Hid _ := own_set4 (v0 := .slice vo J.length vc) (v1 := .int .i64 p) (v2 := .int .i64 q) (v3 := .int .i64 r) OV.out NV.out
        refine hK.out _ _ ?_ (fun hHeld' => ?_)
        · (try dsimp only)
          exact ⟨(AW.out.next HBn).1, (AW.out.next HBn).2.1, (AW.out.next HBn).2.2.1, (c4_next XB HBn XL), HBn⟩
        clear hK K hHeld T0 T1 T2 T3 Z0 Z1 Z2 Z3
        have hHeld := hHeld'
        clear hHeld'
        have B9 : Hid _ := HBn
        clear HBn
        (try simp only [Act.put, List.getElem_toArray, List.getElem_cons_zero, List.getElem_cons_succ, List.setIfInBounds_toArray, List.set_cons_zero, List.set_cons_succ])
        refine wpAnyH_take (i := 13) (v := ?_) rfl (by kernel_rfl) (by kernel_rfl) (by kernel_rfl) (fun _ _ _ h => h) (Or.inl ⟨by rfl, ?_⟩) (by assumption) ?_
        rotate_left
        · intro w' hSw
          (try dsimp only at hSw)
          go_simp
          all_goals (try with_reducible rfl)
        (try simp only [Act.put, List.getElem_toArray, List.getElem_cons_zero, List.getElem_cons_succ, List.setIfInBounds_toArray, List.set_cons_zero, List.set_cons_succ])
        refine wpAnyH_done (by kernel_rfl) ?_ _
        clear hHeld
        go_wp2
        go_meet
        case rel => exact ⟨_, vo, vc, rfl, rfl, C9.out, by simpa [World.setCell] using LG.out, GE.out, O9.out, FW.out, NV.out, B9.out⟩
    case rest =>
      obtain ⟨gg, vg, cg, rfl, rfl, hC, hLb, hge, hOb, hFb, hNb, hb⟩ := hcut
      skip
      rename_i wd
      have BG : Hid (Cells4 _ gg (.slice vg J.length cg) p q r) := hC
      have LG : Hid (gg < _) := hLb
      have EG : Hid (World.ownsRow _ 0 46 4 (.slice vg J.length cg) J.length (flat J)) := hOb
      have NG : Hid ((Value.slice vg J.length cg).ownBlock ≠ some gg) := hNb
      have HX4 : Hid (wX.heap.size ≤ gg ∧ ∀ k, (Value.slice vg J.length cg).ownBlock = some k → wX.heap.size ≤ k) := ⟨hge, hFb⟩
      replace BW := c4_next BW hb LW
      replace BxA := c4_next BxA hb LxA
      replace LW := lt_next LW hb
      replace LxA := lt_next LxA hb
      replace RxA := row_next RxA hb
      replace HB := bel_next HB hb
      replace EW := own_hnext EW hb
      replace ETX := mrow_next ETX hb
      clear hb hC hLb hge hOb hFb hNb
      obtain ⟨bG0, bG1, bG2, bG3⟩ := BG.out
      obtain ⟨bW0, bW1, bW2, bW3⟩ := BW.out
      go_wp2_with fail
      clear bG0 bG1 bG2 bG3
      clear bW0 bW1 bW2 bW3
      refine (eqObj_same cg vc vg vo J p q r _ hJl (own_srow EG) (own_srow EW)).mono ?_
      rintro e w9 ⟨rfl, hb⟩
      replace BW := c4_next BW hb LW
      replace BxA := c4_next BxA hb LxA
      replace BG := c4_next BG hb LG
      replace LW := lt_next LW hb
      replace LxA := lt_next LxA hb
      replace LG := lt_next LG hb
      replace RxA := row_next RxA hb
      replace HB := bel_next HB hb
      replace EW := own_hnext EW hb
      replace ETX := mrow_next ETX hb
      replace EG := own_hnext EG hb
      clear hb
      have BA : Hid (Cells4 _ w.heap.size (Value.slice ao l.length cap) a b c) := (LB1.out.next HB.out).1
      have LA : Hid (w.heap.size < _) := Nat.lt_trans (by omega) (LB1.out.next HB.out).2.2.2
      have RA : Hid (SibRow _ ao l) := RA1.out.next HB.out
      go_wp2_with fail
      refine wp_region_held_drew (S := (fun w' => (w'.cell? ⟨w.heap.size, 0, none⟩ = some (Value.slice ao l.length cap) ∧ w'.cell? ⟨w.heap.size, 1, none⟩ = some (.int .i64 a) ∧ w'.cell? ⟨w.heap.size, 2, none⟩ = some (.int .i64 b) ∧ w'.cell? ⟨w.heap.size, 3, none⟩ = some (.int .i64 c)) ∧ (w'.cell? ⟨gb, 0, none⟩ = some (Value.slice vo J.length vc) ∧ w'.cell? ⟨gb, 1, none⟩ = some (.int .i64 p) ∧ w'.cell? ⟨gb, 2, none⟩ = some (.int .i64 q) ∧ w'.cell? ⟨gb, 3, none⟩ = some (.int .i64 r)) ∧ (w'.cell? ⟨w6.heap.size, 0, none⟩ = some (Value.slice (some ⟨gx, 0, none⟩) l.length l.length) ∧ w'.cell? ⟨w6.heap.size, 1, none⟩ = some (.int .i64 a) ∧ w'.cell? ⟨w6.heap.size, 2, none⟩ = some (.int .i64 b) ∧ w'.cell? ⟨w6.heap.size, 3, none⟩ = some (.int .i64 c)) ∧ (w'.cell? ⟨gg, 0, none⟩ = some (Value.slice vg J.length cg) ∧ w'.cell? ⟨gg, 1, none⟩ = some (.int .i64 p) ∧ w'.cell? ⟨gg, 2, none⟩ = some (.int .i64 q) ∧ w'.cell? ⟨gg, 3, none⟩ = some (.int .i64 r)) ∧ (w.heap.size < w'.heap.size) ∧ (gb < w'.heap.size) ∧ (w6.heap.size < w'.heap.size) ∧ (gg < w'.heap.size) ∧ SibRow w' (ao) l ∧ SibRow w' (some ⟨gx, 0, none⟩) l ∧ w'.ownsRow 0 46 4 (.slice vo J.length vc) J.length (flat J) ∧ MRow w' (some ⟨gx, 0, none⟩) l.length ∧ w'.ownsRow 0 46 4 (.slice vg J.length cg) J.length (flat J) ∧ Below w1.heap.size w1 w')) (by kernel_rfl) ?_ (fun hHeld => ?_)
      · (try dsimp only)
        exact ⟨BA.out, BW.out, BxA.out, BG.out, LA.out, LW.out, LxA.out, LG.out, RA.out, RxA.out, EW.out, ETX.out, EG.out, (bel_next HB (bel_drew _)).out⟩
      refine wpAnyH_take (i := 0) (v := ?_) rfl (by kernel_rfl) (by kernel_rfl) (by kernel_rfl) (fun _ _ _ h => h) (Or.inl ⟨by rfl, ?_⟩) (by assumption) ?_
      rotate_left
      · intro w' hSw
        (try dsimp only at hSw)
        go_simp
        all_goals (try with_reducible rfl)
      (try simp only [Act.put, List.getElem_toArray, List.getElem_cons_zero, List.getElem_cons_succ, List.setIfInBounds_toArray, List.set_cons_zero, List.set_cons_succ])
      refine wpAnyH_take (i := 1) (v := ?_) rfl (by kernel_rfl) (by kernel_rfl) (by kernel_rfl) (fun _ _ _ h => h) (Or.inl ⟨by rfl, ?_⟩) (by assumption) ?_
      rotate_left
      · intro w' hSw
        (try dsimp only at hSw)
        go_simp
        all_goals (try with_reducible rfl)
      (try simp only [Act.put, List.getElem_toArray, List.getElem_cons_zero, List.getElem_cons_succ, List.setIfInBounds_toArray, List.set_cons_zero, List.set_cons_succ])
      refine wpAnyH_ready (rs := [2]) (by kernel_rfl) (by simp) ?_
      refine AllReadyH.cons rfl (fun K hK => ?_) AllReadyH.nil
      (try simp only [Act.put, List.getElem_toArray, List.getElem_cons_zero, List.getElem_cons_succ, List.setIfInBounds_toArray, List.set_cons_zero, List.set_cons_succ])
      go_simp
      (go_at_call 7; refine (toObj_any cap ao l a b c _ hm hHeld.2.2.2.2.2.2.2.2.1).mono ?_; rintro e w10 ⟨g9, rfl, hb, hg, hG, hT, hS⟩; have RT := row_of_at hS; clear hg hG hT hS)
      (try simp only [])
      refine hK.out _ _ ?_ (fun hHeld' => ?_)
      · (try dsimp only)
        exact ⟨c4_next hHeld.1 hb hHeld.2.2.2.2.1, c4_next hHeld.2.1 hb hHeld.2.2.2.2.2.1, c4_next hHeld.2.2.1 hb hHeld.2.2.2.2.2.2.1, c4_next hHeld.2.2.2.1 hb hHeld.2.2.2.2.2.2.2.1, lt_next hHeld.2.2.2.2.1 hb, lt_next hHeld.2.2.2.2.2.1 hb, lt_next hHeld.2.2.2.2.2.2.1 hb, lt_next hHeld.2.2.2.2.2.2.2.1 hb, row_next hHeld.2.2.2.2.2.2.2.2.1 hb, row_next hHeld.2.2.2.2.2.2.2.2.2.1 hb, own_hnext hHeld.2.2.2.2.2.2.2.2.2.2.1 hb, mrow_next hHeld.2.2.2.2.2.2.2.2.2.2.2.1 hb, own_hnext hHeld.2.2.2.2.2.2.2.2.2.2.2.2.1 hb, bel_next hHeld.2.2.2.2.2.2.2.2.2.2.2.2.2 hb⟩
      clear hK K
      clear hHeld
      have hHeld := hHeld'
      clear hHeld'
      clear hb
      (try simp only [Act.put, List.getElem_toArray, List.getElem_cons_zero, List.getElem_cons_succ, List.setIfInBounds_toArray, List.set_cons_zero, List.set_cons_succ])
      refine wpAnyH_ready (rs := [3]) (by kernel_rfl) (by simp) ?_
      refine AllReadyH.cons rfl (fun K hK => ?_) AllReadyH.nil
      (try simp only [Act.put, List.getElem_toArray, List.getElem_cons_zero, List.getElem_cons_succ, List.setIfInBounds_toArray, List.set_cons_zero, List.set_cons_succ])
      go_simp
      (go_at_call 11; refine (eqObj_same l.length l.length _ _ l a b c _ hm hHeld.2.2.2.2.2.2.2.2.2.1 RT.out).mono ?_; rintro e w11 ⟨rfl, hb⟩)
      (try simp only [])
      refine hK.out _ _ ?_ (fun hHeld' => ?_)
      · (try dsimp only)
        exact ⟨c4_next hHeld.1 hb hHeld.2.2.2.2.1, c4_next hHeld.2.1 hb hHeld.2.2.2.2.2.1, c4_next hHeld.2.2.1 hb hHeld.2.2.2.2.2.2.1, c4_next hHeld.2.2.2.1 hb hHeld.2.2.2.2.2.2.2.1, lt_next hHeld.2.2.2.2.1 hb, lt_next hHeld.2.2.2.2.2.1 hb, lt_next hHeld.2.2.2.2.2.2.1 hb, lt_next hHeld.2.2.2.2.2.2.2.1 hb, row_next hHeld.2.2.2.2.2.2.2.2.1 hb, row_next hHeld.2.2.2.2.2.2.2.2.2.1 hb, own_hnext hHeld.2.2.2.2.2.2.2.2.2.2.1 hb, mrow_next hHeld.2.2.2.2.2.2.2.2.2.2.2.1 hb, own_hnext hHeld.2.2.2.2.2.2.2.2.2.2.2.2.1 hb, bel_next hHeld.2.2.2.2.2.2.2.2.2.2.2.2.2 hb⟩
      clear hK K
      clear hHeld
      have hHeld := hHeld'
      clear hHeld'
      clear hb
      (try simp only [Act.put, List.getElem_toArray, List.getElem_cons_zero, List.getElem_cons_succ, List.setIfInBounds_toArray, List.set_cons_zero, List.set_cons_succ])
      refine wpAnyH_take (i := 4) (v := ?_) rfl (by kernel_rfl) (by kernel_rfl) (by kernel_rfl) (fun _ _ _ h => h) (Or.inl ⟨by rfl, ?_⟩) (by assumption) ?_
      rotate_left
      · intro w' hSw
        (try dsimp only at hSw)
        go_simp
        all_goals (try with_reducible rfl)
      (try simp only [Act.put, List.getElem_toArray, List.getElem_cons_zero, List.getElem_cons_succ, List.setIfInBounds_toArray, List.set_cons_zero, List.set_cons_succ])
      refine wpAnyH_done (by kernel_rfl) ?_ _
      replace BA : Hid _ := hHeld.1
      replace BW : Hid _ := hHeld.2.1
      replace BxA : Hid _ := hHeld.2.2.1
      replace BG : Hid _ := hHeld.2.2.2.1
      replace LA : Hid _ := hHeld.2.2.2.2.1
      replace LW : Hid _ := hHeld.2.2.2.2.2.1
      replace LxA : Hid _ := hHeld.2.2.2.2.2.2.1
      replace LG : Hid _ := hHeld.2.2.2.2.2.2.2.1
      replace RA : Hid _ := hHeld.2.2.2.2.2.2.2.2.1
      replace RxA : Hid _ := hHeld.2.2.2.2.2.2.2.2.2.1
      replace EW : Hid _ := hHeld.2.2.2.2.2.2.2.2.2.2.1
      replace ETX : Hid _ := hHeld.2.2.2.2.2.2.2.2.2.2.2.1
      replace EG : Hid _ := hHeld.2.2.2.2.2.2.2.2.2.2.2.2.1
      replace HB : Hid _ := hHeld.2.2.2.2.2.2.2.2.2.2.2.2.2
      clear hHeld
      clear RT
      clear BA LA RA
      obtain ⟨bxA0, bxA1, bxA2, bxA3⟩ := BxA.out
      go_wp2_with fail
      clear bxA0 bxA1 bxA2 bxA3
      refine (markO_any l.length l.length (some ⟨gx, 0, none⟩) a b c 1 _ (by omega) (by omega) (by omega) ETX.out).mono ?_
      rintro e w14 ⟨rfl, hg, hM⟩
      clear hM ETX RxA BxA LxA
      have hgx : Value.ownBlock (.slice (some ⟨gx, 0, none⟩) l.length l.length) = some gx := rfl
      rw [hgx] at hg
      clear hgx
      replace HB := bel_mark HB hg (fun k hk => by have h1 := HX1.out; have h2 := HX2.out; have h3 := HX3.out; have h4 := HX4.out; cases hk; omega)
      replace BW := c4_mark BW hg (fun e => by have h1 := HX1.out; have h2 := HX2.out; have h3 := HX3.out; have h4 := HX4.out; cases e; omega)
      replace LW := lt_mark LW hg
      replace BG := c4_mark BG hg (fun e => by have h1 := HX1.out; have h2 := HX2.out; have h3 := HX3.out; have h4 := HX4.out; cases e; omega)
      replace LG := lt_mark LG hg
      replace EW := own_mark EW hg (fun k hk e => by have h1 := HX1.out.2.2 k hk; have h2 := HX2.out; cases e; omega)
      replace EG := own_mark EG hg (fun k hk e => by have h1 := HX4.out.2 k hk; have h2 := HX2.out; have h3 := HX3.out; cases e; omega)
      clear hg
      obtain ⟨bG0, bG1, bG2, bG3⟩ := BG.out
      obtain ⟨bW0, bW1, bW2, bW3⟩ := BW.out
      go_wp2_with fail
      clear bG0 bG1 bG2 bG3
      clear bW0 bW1 bW2 bW3
      refine (eqObj_same cg vc vg vo J p q r _ hJl (own_srow EG) (own_srow EW)).mono ?_
      rintro e w16 ⟨rfl, hb⟩
      replace BW := c4_next BW hb LW
      replace BG := c4_next BG hb LG
      replace LW := lt_next LW hb
      replace LG := lt_next LG hb
      replace HB := bel_next HB hb
      replace EW := own_hnext EW hb
      replace EG := own_hnext EG hb
      clear hb
      obtain ⟨bG0, bG1, bG2, bG3⟩ := BG.out
      go_wp2_with fail
      clear bG0 bG1 bG2 bG3
      refine (markO_any J.length cg vg p q r 1 _ (by omega) (by omega) (by omega) (own_mrow EG).out).mono ?_
      rintro e w17 ⟨rfl, hg, hM⟩
      have EM : Hid (MkRow w17 vg 1 J.length) := hM
      clear hM EG
      replace HB := bel_mark HB hg (fun k hk => by have h1 := HX1.out; have h2 := HX2.out; have h3 := HX3.out; have h4 := HX4.out.2 k hk; omega)
      replace BW := c4_mark BW hg (fun e => by have h1 := HX1.out; have h2 := HX2.out; have h3 := HX3.out; have h4 := HX4.out.2 _ e; have h5 := HX4.out.1; omega)
      replace LW := lt_mark LW hg
      replace BG := c4_mark BG hg NG.out
      replace LG := lt_mark LG hg
      replace EW := own_mark EW hg (fun k hk e => by have h1 := HX1.out.2.2 k hk; have h2 := HX2.out; have h3 := HX3.out; have h4 := HX4.out.2 _ e; omega)
      clear hg
      obtain ⟨bG0, bG1, bG2, bG3⟩ := BG.out
      go_wp2_with fail
      clear bG0 bG1 bG2 bG3
      refine (heldO_any J.length cg vg p q r 1 _ (by omega) (by omega) (by omega) EM.out).mono ?_
      rintro e w18 ⟨rfl, hb⟩
      replace BW := c4_next BW hb LW
      replace BG := c4_next BG hb LG
      replace LW := lt_next LW hb
      replace LG := lt_next LG hb
      replace HB := bel_next HB hb
      replace EW := own_hnext EW hb
      replace EM := mkrow_next EM hb
      clear hb
      go_upto_region 24 with fail
      go_cut [20, 21] from 22 (fun s20 s21 wc => ∃ (gb : Nat) (vo : Option Addr) (vc : Nat), s20 = .pointer (some ⟨gb, 0, none⟩) ∧ s21 = .int .i64 code ∧ Cells4 wc gb (.slice vo J.length vc) p q r ∧ gb < wc.heap.size ∧ w18.heap.size ≤ gb ∧ wc.ownsRow 0 46 4 (.slice vo J.length vc) J.length (flat J) ∧ (∀ k, (Value.slice vo J.length vc).ownBlock = some k → w18.heap.size ≤ k) ∧ (Value.slice vo J.length vc).ownBlock ≠ some gb ∧ Below w18.heap.size w18 wc)
      case first =>
        have AW : Hid (LBX w.heap.size w18 (Value.slice ao l.length cap) a b c x y z sp sn) := LB1.out.next HB.out
        refine wp_region_held_drew (S := (fun w' => (w'.cell? ⟨w.heap.size, 0, none⟩ = some (Value.slice ao l.length cap) ∧ w'.cell? ⟨w.heap.size, 1, none⟩ = some (.int .i64 a) ∧ w'.cell? ⟨w.heap.size, 2, none⟩ = some (.int .i64 b) ∧ w'.cell? ⟨w.heap.size, 3, none⟩ = some (.int .i64 c)) ∧ (w'.cell? ⟨w.heap.size + 1, 0, none⟩ = some (.int .i64 x) ∧ w'.cell? ⟨w.heap.size + 1, 1, none⟩ = some (.int .i64 y) ∧ w'.cell? ⟨w.heap.size + 1, 2, none⟩ = some (.int .i64 z)) ∧ (w'.cell? ⟨w.heap.size + 1 + 1, 0, none⟩ = some (.int .i64 sp) ∧ w'.cell? ⟨w.heap.size + 1 + 1, 1, none⟩ = some (.int .i64 sn)) ∧ Below w18.heap.size w18 w')) (by kernel_rfl) ?_ (fun hHeld => ?_)
        · (try dsimp only)
          have HBn := bel_drew w18
          exact ⟨(AW.out.next HBn).1, (AW.out.next HBn).2.1, (AW.out.next HBn).2.2.1, HBn⟩
        refine wpAnyH_take (i := 0) (v := ?_) rfl (by kernel_rfl) (by kernel_rfl) (by kernel_rfl) (fun _ _ _ h => h) (Or.inl ⟨by rfl, ?_⟩) (by assumption) ?_
        rotate_left
        · intro w' hSw
          (try dsimp only at hSw)
          go_simp
          all_goals (try with_reducible rfl)
        (try simp only [Act.put, List.getElem_toArray, List.getElem_cons_zero, List.getElem_cons_succ, List.setIfInBounds_toArray, List.set_cons_zero, List.set_cons_succ])
        refine wpAnyH_take (i := 2) (v := ?_) rfl (by kernel_rfl) (by kernel_rfl) (by kernel_rfl) (fun _ _ _ h => h) (Or.inl ⟨by rfl, ?_⟩) (by assumption) ?_
        rotate_left
        · intro w' hSw
          (try dsimp only at hSw)
          go_simp
          all_goals (try with_reducible rfl)
        (try simp only [Act.put, List.getElem_toArray, List.getElem_cons_zero, List.getElem_cons_succ, List.setIfInBounds_toArray, List.set_cons_zero, List.set_cons_succ])
        refine wpAnyH_take (i := 4) (v := ?_) rfl (by kernel_rfl) (by kernel_rfl) (by kernel_rfl) (fun _ _ _ h => h) (Or.inl ⟨by rfl, ?_⟩) (by assumption) ?_
        rotate_left
        · intro w' hSw
          (try dsimp only at hSw)
          go_simp
          all_goals (try with_reducible rfl)
        (try simp only [Act.put, List.getElem_toArray, List.getElem_cons_zero, List.getElem_cons_succ, List.setIfInBounds_toArray, List.set_cons_zero, List.set_cons_succ])
        refine wpAnyH_take (i := 6) (v := ?_) rfl (by kernel_rfl) (by kernel_rfl) (by kernel_rfl) (fun _ _ _ h => h) (Or.inl ⟨by rfl, ?_⟩) (by assumption) ?_
        rotate_left
        · intro w' hSw
          (try dsimp only at hSw)
          go_simp
          all_goals (try with_reducible rfl)
        (try simp only [Act.put, List.getElem_toArray, List.getElem_cons_zero, List.getElem_cons_succ, List.setIfInBounds_toArray, List.set_cons_zero, List.set_cons_succ])
        refine wpAnyH_take (i := 7) (v := ?_) rfl (by kernel_rfl) (by kernel_rfl) (by kernel_rfl) (fun _ _ _ h => h) (Or.inl ⟨by rfl, ?_⟩) (by assumption) ?_
        rotate_left
        · intro w' hSw
          (try dsimp only at hSw)
          go_simp
          all_goals (try with_reducible rfl)
        (try simp only [Act.put, List.getElem_toArray, List.getElem_cons_zero, List.getElem_cons_succ, List.setIfInBounds_toArray, List.set_cons_zero, List.set_cons_succ])
        have HBs : Hid (Below w18.heap.size w18 w18.drew) := bel_drew _
        have RAW : Hid (SibRow w18 ao l) := (RA1.out.next HB.out)
        generalize w18.drew = wd at *
        refine wpAnyH_ready (rs := [1, 12]) (by kernel_rfl) (by simp) ?_
        refine AllReadyH.cons rfl (fun K hK => ?_) (AllReadyH.cons rfl (fun K hK => ?_) AllReadyH.nil)
        · (try simp only [Act.put, List.getElem_toArray, List.getElem_cons_zero, List.getElem_cons_succ, List.setIfInBounds_toArray, List.set_cons_zero, List.set_cons_succ])
          go_simp
          refine (toObj_any cap ao l a b c _ hm (RAW.out.next HBs.out)).mono ?_
          rintro e wnc1 ⟨g1, rfl, hb, hg, hG, hT, hS⟩
          have HBn : Below w18.heap.size w18 wnc1 := HBs.out.trans (hb.mono HBs.out.size)
          have R1 := row_of_at hS
          clear hg hG hT hS
          refine hK.out _ _ ?_ (fun hHeld' => ?_)
          · (try dsimp only)
            exact ⟨(AW.out.next HBn).1, (AW.out.next HBn).2.1, (AW.out.next HBn).2.2.1, HBn⟩
          clear hK K hHeld
          have hHeld := hHeld'
          clear hHeld'
          have HBc1 : Hid (Below w18.heap.size w18 wnc1) := HBn
          clear HBn hb
          (try simp only [Act.put, List.getElem_toArray, List.getElem_cons_zero, List.getElem_cons_succ, List.setIfInBounds_toArray, List.set_cons_zero, List.set_cons_succ])
          refine wpAnyH_ready (rs := [3, 12]) (by kernel_rfl) (by simp) ?_
          refine AllReadyH.cons rfl (fun K hK => ?_) (AllReadyH.cons rfl (fun K hK => ?_) AllReadyH.nil)
          · (try simp only [Act.put, List.getElem_toArray, List.getElem_cons_zero, List.getElem_cons_succ, List.setIfInBounds_toArray, List.set_cons_zero, List.set_cons_succ])
            go_simp
            refine (toVv_any x y z _).mono ?_
            rintro e wnc2 ⟨rfl, hb⟩
            have HBn : Below w18.heap.size w18 wnc2 := HBc1.out.trans (hb.mono HBc1.out.size)
            replace R1 := row_next R1 hb
            refine hK.out _ _ ?_ (fun hHeld' => ?_)
            · (try dsimp only)
              exact ⟨(AW.out.next HBn).1, (AW.out.next HBn).2.1, (AW.out.next HBn).2.2.1, HBn⟩
            clear hK K hHeld
            have hHeld := hHeld'
            clear hHeld'
            have HBc2 : Hid (Below w18.heap.size w18 wnc2) := HBn
            clear HBn hb
            (try simp only [Act.put, List.getElem_toArray, List.getElem_cons_zero, List.getElem_cons_succ, List.setIfInBounds_toArray, List.set_cons_zero, List.set_cons_succ])
            refine wpAnyH_ready (rs := [5, 12]) (by kernel_rfl) (by simp) ?_
            refine AllReadyH.cons rfl (fun K hK => ?_) (AllReadyH.cons rfl (fun K hK => ?_) AllReadyH.nil)
            · (try simp only [Act.put, List.getElem_toArray, List.getElem_cons_zero, List.getElem_cons_succ, List.setIfInBounds_toArray, List.set_cons_zero, List.set_cons_succ])
              go_simp
              refine (toDot_any sp sn _).mono ?_
              rintro e wnc3 ⟨rfl, hb⟩
              have HBn : Below w18.heap.size w18 wnc3 := HBc2.out.trans (hb.mono HBc2.out.size)
              replace R1 := row_next R1 hb
              refine hK.out _ _ ?_ (fun hHeld' => ?_)
              · (try dsimp only)
                exact ⟨(AW.out.next HBn).1, (AW.out.next HBn).2.1, (AW.out.next HBn).2.2.1, HBn⟩
              clear hK K hHeld
              have hHeld := hHeld'
              clear hHeld'
              have HBc3 : Hid (Below w18.heap.size w18 wnc3) := HBn
              clear HBn hb
              (try simp only [Act.put, List.getElem_toArray, List.getElem_cons_zero, List.getElem_cons_succ, List.setIfInBounds_toArray, List.set_cons_zero, List.set_cons_succ])
              refine wpAnyH_ready (rs := [8, 12]) (by kernel_rfl) (by simp) ?_
              refine AllReadyH.cons rfl (fun K hK => ?_) (AllReadyH.cons rfl (fun K hK => ?_) AllReadyH.nil)
              · (try simp only [Act.put, List.getElem_toArray, List.getElem_cons_zero, List.getElem_cons_succ, List.setIfInBounds_toArray, List.set_cons_zero, List.set_cons_succ])
                go_simp
                refine (join_wrap (implWrite_any l.length _ l a b c x y z sp sn sv sd J p q r code hW _ hm R1.out)).mono ?_
                rintro e wnc4 ⟨vo, vc, rfl, hb, OV, FV⟩
                have FW : Hid (∀ k, (Value.slice vo J.length vc).ownBlock = some k → w18.heap.size ≤ k) := fun k hk => Nat.le_trans HBc3.out.size (FV.out k hk).1
                have HBn : Below w18.heap.size w18 wnc4 := HBc3.out.trans (hb.mono HBc3.out.size)
                refine hK.out _ _ ?_ (fun hHeld' => ?_)
                · (try dsimp only)
                  exact ⟨(AW.out.next HBn).1, (AW.out.next HBn).2.1, (AW.out.next HBn).2.2.1, HBn⟩
                clear hK K hHeld
                have hHeld := hHeld'
                clear hHeld'
                have HBc4 : Hid (Below w18.heap.size w18 wnc4) := HBn
                clear HBn hb
                clear FV R1
                have OL : Hid (∀ k, (Value.slice vo J.length vc).ownBlock = some k → k < wnc4.heap.size) := fun k hk => (OV.out.lt k hk).2
                (try simp only [Act.put, List.getElem_toArray, List.getElem_cons_zero, List.getElem_cons_succ, List.setIfInBounds_toArray, List.set_cons_zero, List.set_cons_succ])
                refine wpAnyH_take (i := 9) (v := ?_) rfl (by kernel_rfl) (by kernel_rfl) (by kernel_rfl) (fun _ _ _ h => h) (Or.inl ⟨by rfl, ?_⟩) (by assumption) ?_
                rotate_left
                · intro w' hSw
                  (try dsimp only at hSw)
                  go_simp
                  all_goals (try with_reducible rfl)
                (try simp only [Act.put, List.getElem_toArray, List.getElem_cons_zero, List.getElem_cons_succ, List.setIfInBounds_toArray, List.set_cons_zero, List.set_cons_succ])
                refine wpAnyH_take (i := 10) (v := ?_) rfl (by kernel_rfl) (by kernel_rfl) (by kernel_rfl) (fun _ _ _ h => h) (Or.inl ⟨by rfl, ?_⟩) (by assumption) ?_
                rotate_left
                · intro w' hSw
                  (try dsimp only at hSw)
                  go_simp
                  all_goals (try with_reducible rfl)
                (try simp only [Act.put, List.getElem_toArray, List.getElem_cons_zero, List.getElem_cons_succ, List.setIfInBounds_toArray, List.set_cons_zero, List.set_cons_succ])
                refine wpAnyH_take (i := 11) (v := ?_) rfl (by kernel_rfl) (by kernel_rfl) (by kernel_rfl) (fun _ _ _ h => h) (Or.inl ⟨by rfl, ?_⟩) (by assumption) ?_
                rotate_left
                · intro w' hSw
                  (try dsimp only at hSw)
                  go_simp
                  all_goals (try with_reducible rfl)
                (try simp only [Act.put, List.getElem_toArray, List.getElem_cons_zero, List.getElem_cons_succ, List.setIfInBounds_toArray, List.set_cons_zero, List.set_cons_succ])
                refine wpAnyH_ready (rs := [12]) (by kernel_rfl) (by simp) ?_
                refine AllReadyH.cons rfl (fun K hK => ?_) AllReadyH.nil
                (try simp only [Act.put, List.getElem_toArray, List.getElem_cons_zero, List.getElem_cons_succ, List.setIfInBounds_toArray, List.set_cons_zero, List.set_cons_succ])
                go_simp
                (try simp only [])
                have hb := bel_alloc wnc4 (.cells #[.slice none 0 0, .int .i64 0, .int .i64 0, .int .i64 0] 32)
                have HBn : Below w18.heap.size w18 (wnc4.alloc (.cells #[.slice none 0 0, .int .i64 0, .int .i64 0, .int .i64 0] 32)) := HBc4.out.trans (hb.mono HBc4.out.size)
                replace OV := own_hnext OV hb
                have TH : Hid (There (wnc4.alloc (.cells #[.slice none 0 0, .int .i64 0, .int .i64 0, .int .i64 0] 32)) wnc4.heap.size 4) := there_new
                have LG : Hid (wnc4.heap.size < (wnc4.alloc (.cells #[.slice none 0 0, .int .i64 0, .int .i64 0, .int .i64 0] 32)).heap.size) := lt_new
                have GE : Hid (w18.heap.size ≤ wnc4.heap.size) := HBc4.out.size
                have NV : Hid ((Value.slice vo J.length vc).ownBlock ≠ some wnc4.heap.size) := fun e => Nat.lt_irrefl _ (OL.out _ e)
                refine hK.out _ _ ?_ (fun hHeld' => ?_)
                · (try dsimp only)
                  exact ⟨(AW.out.next HBn).1, (AW.out.next HBn).2.1, (AW.out.next HBn).2.2.1, HBn⟩
                clear hK K hHeld
                have hHeld := hHeld'
                clear hHeld'
                have HBc5 : Hid (Below w18.heap.size w18 (wnc4.alloc (.cells #[.slice none 0 0, .int .i64 0, .int .i64 0, .int .i64 0] 32))) := HBn
                clear HBn hb
                generalize (wnc4.alloc (.cells #[.slice none 0 0, .int .i64 0, .int .i64 0, .int .i64 0] 32)) = wnc5 at *
                have OL : Hid (∀ k, (Value.slice vo J.length vc).ownBlock = some k → k < wnc5.heap.size) := fun k hk => (OV.out.lt k hk).2
                (try simp only [Act.put, List.getElem_toArray, List.getElem_cons_zero, List.getElem_cons_succ, List.setIfInBounds_toArray, List.set_cons_zero, List.set_cons_succ])
                obtain ⟨t0, T0⟩ := Option.isSome_iff_exists.1 (TH.out 0 (by omega)).1
                have Z0 := (TH.out 0 (by omega)).2
                obtain ⟨t1, T1⟩ := Option.isSome_iff_exists.1 (TH.out 1 (by omega)).1
                have Z1 := (TH.out 1 (by omega)).2
                obtain ⟨t2, T2⟩ := Option.isSome_iff_exists.1 (TH.out 2 (by omega)).1
                have Z2 := (TH.out 2 (by omega)).2
                obtain ⟨t3, T3⟩ := Option.isSome_iff_exists.1 (TH.out 3 (by omega)).1
                have Z3 := (TH.out 3 (by omega)).2
                refine wpAnyH_ready (rs := [13]) (by kernel_rfl) (by simp) ?_
                refine AllReadyH.cons rfl (fun K hK => ?_) AllReadyH.nil
                (try simp only [Act.put, List.getElem_toArray, List.getElem_cons_zero, List.getElem_cons_succ, List.setIfInBounds_toArray, List.set_cons_zero, List.set_cons_succ])
                go_simp
                (try simp only [])
                have HBn := below_set4 (v0 := .slice vo J.length vc) (v1 := .int .i64 p) (v2 := .int .i64 q) (v3 := .int .i64 r) HBc5.out GE.out
                have C9 : Hid _ := set4_cells (v := .slice vo J.length vc) (p := p) (q := q) (r := r) TH.out
                have O9 : Hid _ := own_set4 (v0 := .slice vo J.length vc) (v1 := .int .i64 p) (v2 := .int .i64 q) (v3 := .int .i64 r) OV.out NV.out
                refine hK.out _ _ ?_ (fun hHeld' => ?_)
                · (try dsimp only)
                  exact ⟨(AW.out.next HBn).1, (AW.out.next HBn).2.1, (AW.out.next HBn).2.2.1, HBn⟩
                clear hK K hHeld T0 T1 T2 T3 Z0 Z1 Z2 Z3
                have hHeld := hHeld'
                clear hHeld'
                have B9 : Hid _ := HBn
                clear HBn
                (try simp only [Act.put, List.getElem_toArray, List.getElem_cons_zero, List.getElem_cons_succ, List.setIfInBounds_toArray, List.set_cons_zero, List.set_cons_succ])
                refine wpAnyH_take (i := 14) (v := ?_) rfl (by kernel_rfl) (by kernel_rfl) (by kernel_rfl) (fun _ _ _ h => h) (Or.inl ⟨by rfl, ?_⟩) (by assumption) ?_
                rotate_left
                · intro w' hSw
                  (try dsimp only at hSw)
                  go_simp
                  all_goals (try with_reducible rfl)
                (try simp only [Act.put, List.getElem_toArray, List.getElem_cons_zero, List.getElem_cons_succ, List.setIfInBounds_toArray, List.set_cons_zero, List.set_cons_succ])
                refine wpAnyH_done (by kernel_rfl) ?_ _
                clear hHeld
                go_wp2
                go_meet
                case rel => exact ⟨_, vo, vc, rfl, rfl, C9.out, by simpa [World.setCell] using LG.out, GE.out, O9.out, FW.out, NV.out, B9.out⟩
              · (try simp only [Act.put, List.getElem_toArray, List.getElem_cons_zero, List.getElem_cons_succ, List.setIfInBounds_toArray, List.set_cons_zero, List.set_cons_succ])
                go_simp
                (try simp only [])
                have hb := bel_alloc wnc3 (.cells #[.slice none 0 0, .int .i64 0, .int .i64 0, .int .i64 0] 32)
                have HBn : Below w18.heap.size w18 (wnc3.alloc (.cells #[.slice none 0 0, .int .i64 0, .int .i64 0, .int .i64 0] 32)) := HBc3.out.trans (hb.mono HBc3.out.size)
                replace R1 := row_next R1 hb
                have TH : Hid (There (wnc3.alloc (.cells #[.slice none 0 0, .int .i64 0, .int .i64 0, .int .i64 0] 32)) wnc3.heap.size 4) := there_new
                have LG : Hid (wnc3.heap.size < (wnc3.alloc (.cells #[.slice none 0 0, .int .i64 0, .int .i64 0, .int .i64 0] 32)).heap.size) := lt_new
                have GE : Hid (w18.heap.size ≤ wnc3.heap.size) := HBc3.out.size
                refine hK.out _ _ ?_ (fun hHeld' => ?_)
                · (try dsimp only)
                  exact ⟨(AW.out.next HBn).1, (AW.out.next HBn).2.1, (AW.out.next HBn).2.2.1, HBn⟩
                clear hK K hHeld
                have hHeld := hHeld'
                clear hHeld'
                have HBc4 : Hid (Below w18.heap.size w18 (wnc3.alloc (.cells #[.slice none 0 0, .int .i64 0, .int .i64 0, .int .i64 0] 32))) := HBn
                clear HBn hb
                generalize (wnc3.alloc (.cells #[.slice none 0 0, .int .i64 0, .int .i64 0, .int .i64 0] 32)) = wnc4 at *
                (try simp only [Act.put, List.getElem_toArray, List.getElem_cons_zero, List.getElem_cons_succ, List.setIfInBounds_toArray, List.set_cons_zero, List.set_cons_succ])
                refine wpAnyH_ready (rs := [8]) (by kernel_rfl) (by simp) ?_
                refine AllReadyH.cons rfl (fun K hK => ?_) AllReadyH.nil
                (try simp only [Act.put, List.getElem_toArray, List.getElem_cons_zero, List.getElem_cons_succ, List.setIfInBounds_toArray, List.set_cons_zero, List.set_cons_succ])
                go_simp
                refine (join_wrap (implWrite_any l.length _ l a b c x y z sp sn sv sd J p q r code hW _ hm R1.out)).mono ?_
                rintro e wnc5 ⟨vo, vc, rfl, hb, OV, FV⟩
                have NV : Hid ((Value.slice vo J.length vc).ownBlock ≠ some wnc3.heap.size) := fun e => by
                  have h1 := (FV.out _ e).1
                  have h2 := LG.out
                  omega
                have FW : Hid (∀ k, (Value.slice vo J.length vc).ownBlock = some k → w18.heap.size ≤ k) := fun k hk => Nat.le_trans HBc4.out.size (FV.out k hk).1
                have HBn : Below w18.heap.size w18 wnc5 := HBc4.out.trans (hb.mono HBc4.out.size)
                replace TH := th_next TH hb LG
                replace LG := lt_next LG hb
                refine hK.out _ _ ?_ (fun hHeld' => ?_)
                · (try dsimp only)
                  exact ⟨(AW.out.next HBn).1, (AW.out.next HBn).2.1, (AW.out.next HBn).2.2.1, HBn⟩
                clear hK K hHeld
                have hHeld := hHeld'
                clear hHeld'
                have HBc5 : Hid (Below w18.heap.size w18 wnc5) := HBn
                clear HBn hb
                clear FV R1
                have OL : Hid (∀ k, (Value.slice vo J.length vc).ownBlock = some k → k < wnc5.heap.size) := fun k hk => (OV.out.lt k hk).2
                (try simp only [Act.put, List.getElem_toArray, List.getElem_cons_zero, List.getElem_cons_succ, List.setIfInBounds_toArray, List.set_cons_zero, List.set_cons_succ])
                refine wpAnyH_take (i := 9) (v := ?_) rfl (by kernel_rfl) (by kernel_rfl) (by kernel_rfl) (fun _ _ _ h => h) (Or.inl ⟨by rfl, ?_⟩) (by assumption) ?_
                rotate_left
                · intro w' hSw
                  (try dsimp only at hSw)
                  go_simp
                  all_goals (try with_reducible rfl)
                (try simp only [Act.put, List.getElem_toArray, List.getElem_cons_zero, List.getElem_cons_succ, List.setIfInBounds_toArray, List.set_cons_zero, List.set_cons_succ])
                refine wpAnyH_take (i := 10) (v := ?_) rfl (by kernel_rfl) (by kernel_rfl) (by kernel_rfl) (fun _ _ _ h => h) (Or.inl ⟨by rfl, ?_⟩) (by assumption) ?_
                rotate_left
                · intro w' hSw
                  (try dsimp only at hSw)
                  go_simp
                  all_goals (try with_reducible rfl)
                (try simp only [Act.put, List.getElem_toArray, List.getElem_cons_zero, List.getElem_cons_succ, List.setIfInBounds_toArray, List.set_cons_zero, List.set_cons_succ])
                refine wpAnyH_take (i := 11) (v := ?_) rfl (by kernel_rfl) (by kernel_rfl) (by kernel_rfl) (fun _ _ _ h => h) (Or.inl ⟨by rfl, ?_⟩) (by assumption) ?_
                rotate_left
                · intro w' hSw
                  (try dsimp only at hSw)
                  go_simp
                  all_goals (try with_reducible rfl)
                (try simp only [Act.put, List.getElem_toArray, List.getElem_cons_zero, List.getElem_cons_succ, List.setIfInBounds_toArray, List.set_cons_zero, List.set_cons_succ])
                obtain ⟨t0, T0⟩ := Option.isSome_iff_exists.1 (TH.out 0 (by omega)).1
                have Z0 := (TH.out 0 (by omega)).2
                obtain ⟨t1, T1⟩ := Option.isSome_iff_exists.1 (TH.out 1 (by omega)).1
                have Z1 := (TH.out 1 (by omega)).2
                obtain ⟨t2, T2⟩ := Option.isSome_iff_exists.1 (TH.out 2 (by omega)).1
                have Z2 := (TH.out 2 (by omega)).2
                obtain ⟨t3, T3⟩ := Option.isSome_iff_exists.1 (TH.out 3 (by omega)).1
                have Z3 := (TH.out 3 (by omega)).2
                refine wpAnyH_ready (rs := [13]) (by kernel_rfl) (by simp) ?_
                refine AllReadyH.cons rfl (fun K hK => ?_) AllReadyH.nil
                (try simp only [Act.put, List.getElem_toArray, List.getElem_cons_zero, List.getElem_cons_succ, List.setIfInBounds_toArray, List.set_cons_zero, List.set_cons_succ])
                go_simp
                (try simp only [])
                have HBn := below_set4 (v0 := .slice vo J.length vc) (v1 := .int .i64 p) (v2 := .int .i64 q) (v3 := .int .i64 r) HBc5.out GE.out
                have C9 : Hid _ := set4_cells (v := .slice vo J.length vc) (p := p) (q := q) (r := r) TH.out
                have O9 : Hid _ := own_set4 (v0 := .slice vo J.length vc) (v1 := .int .i64 p) (v2 := .int .i64 q) (v3 := .int .i64 r) OV.out NV.out
                refine hK.out _ _ ?_ (fun hHeld' => ?_)
                · (try dsimp only)
                  exact ⟨(AW.out.next HBn).1, (AW.out.next HBn).2.1, (AW.out.next HBn).2.2.1, HBn⟩
                clear hK K hHeld T0 T1 T2 T3 Z0 Z1 Z2 Z3
                have hHeld := hHeld'
                clear hHeld'
                have B9 : Hid _ := HBn
                clear HBn
                (try simp only [Act.put, List.getElem_toArray, List.getElem_cons_zero, List.getElem_cons_succ, List.setIfInBounds_toArray, List.set_cons_zero, List.set_cons_succ])
                refine wpAnyH_take (i := 14) (v := ?_) rfl (by kernel_rfl) (by kernel_rfl) (by kernel_rfl) (fun _ _ _ h => h) (Or.inl ⟨by rfl, ?_⟩) (by assumption) ?_
                rotate_left
                · intro w' hSw
                  (try dsimp only at hSw)
                  go_simp
                  all_goals (try with_reducible rfl)
                (try simp only [Act.put, List.getElem_toArray, List.getElem_cons_zero, List.getElem_cons_succ, List.setIfInBounds_toArray, List.set_cons_zero, List.set_cons_succ])
                refine wpAnyH_done (by kernel_rfl) ?_ _
                clear hHeld
                go_wp2
                go_meet
                case rel => exact ⟨_, vo, vc, rfl, rfl, C9.out, by simpa [World.setCell] using LG.out, GE.out, O9.out, FW.out, NV.out, B9.out⟩
            · (try simp only [Act.put, List.getElem_toArray, List.getElem_cons_zero, List.getElem_cons_succ, List.setIfInBounds_toArray, List.set_cons_zero, List.set_cons_succ])
              go_simp
              (try simp only [])
              have hb := bel_alloc wnc2 (.cells #[.slice none 0 0, .int .i64 0, .int .i64 0, .int .i64 0] 32)
              have HBn : Below w18.heap.size w18 (wnc2.alloc (.cells #[.slice none 0 0, .int .i64 0, .int .i64 0, .int .i64 0] 32)) := HBc2.out.trans (hb.mono HBc2.out.size)
              replace R1 := row_next R1 hb
              have TH : Hid (There (wnc2.alloc (.cells #[.slice none 0 0, .int .i64 0, .int .i64 0, .int .i64 0] 32)) wnc2.heap.size 4) := there_new
              have LG : Hid (wnc2.heap.size < (wnc2.alloc (.cells #[.slice none 0 0, .int .i64 0, .int .i64 0, .int .i64 0] 32)).heap.size) := lt_new
              have GE : Hid (w18.heap.size ≤ wnc2.heap.size) := HBc2.out.size
              refine hK.out _ _ ?_ (fun hHeld' => ?_)
              · (try dsimp only)
                exact ⟨(AW.out.next HBn).1, (AW.out.next HBn).2.1, (AW.out.next HBn).2.2.1, HBn⟩
              clear hK K hHeld
              have hHeld := hHeld'
              clear hHeld'
              have HBc3 : Hid (Below w18.heap.size w18 (wnc2.alloc (.cells #[.slice none 0 0, .int .i64 0, .int .i64 0, .int .i64 0] 32))) := HBn
              clear HBn hb
              generalize (wnc2.alloc (.cells #[.slice none 0 0, .int .i64 0, .int .i64 0, .int .i64 0] 32)) = wnc3 at *
              (try simp only [Act.put, List.getElem_toArray, List.getElem_cons_zero, List.getElem_cons_succ, List.setIfInBounds_toArray, List.set_cons_zero, List.set_cons_succ])
              refine wpAnyH_ready (rs := [5]) (by kernel_rfl) (by simp) ?_
              refine AllReadyH.cons rfl (fun K hK => ?_) AllReadyH.nil
              (try simp only [Act.put, List.getElem_toArray, List.getElem_cons_zero, List.getElem_cons_succ, List.setIfInBounds_toArray, List.set_cons_zero, List.set_cons_succ])
              go_simp
              refine (toDot_any sp sn _).mono ?_
              rintro e wnc4 ⟨rfl, hb⟩
              have HBn : Below w18.heap.size w18 wnc4 := HBc3.out.trans (hb.mono HBc3.out.size)
              replace R1 := row_next R1 hb
              replace TH := th_next TH hb LG
              replace LG := lt_next LG hb
              refine hK.out _ _ ?_ (fun hHeld' => ?_)
              · (try dsimp only)
                exact ⟨(AW.out.next HBn).1, (AW.out.next HBn).2.1, (AW.out.next HBn).2.2.1, HBn⟩
              clear hK K hHeld
              have hHeld := hHeld'
              clear hHeld'
              have HBc4 : Hid (Below w18.heap.size w18 wnc4) := HBn
              clear HBn hb
              (try simp only [Act.put, List.getElem_toArray, List.getElem_cons_zero, List.getElem_cons_succ, List.setIfInBounds_toArray, List.set_cons_zero, List.set_cons_succ])
              refine wpAnyH_ready (rs := [8]) (by kernel_rfl) (by simp) ?_
              refine AllReadyH.cons rfl (fun K hK => ?_) AllReadyH.nil
              (try simp only [Act.put, List.getElem_toArray, List.getElem_cons_zero, List.getElem_cons_succ, List.setIfInBounds_toArray, List.set_cons_zero, List.set_cons_succ])
              go_simp
              refine (join_wrap (implWrite_any l.length _ l a b c x y z sp sn sv sd J p q r code hW _ hm R1.out)).mono ?_
              rintro e wnc5 ⟨vo, vc, rfl, hb, OV, FV⟩
              have NV : Hid ((Value.slice vo J.length vc).ownBlock ≠ some wnc2.heap.size) := fun e => by
                have h1 := (FV.out _ e).1
                have h2 := LG.out
                omega
              have FW : Hid (∀ k, (Value.slice vo J.length vc).ownBlock = some k → w18.heap.size ≤ k) := fun k hk => Nat.le_trans HBc4.out.size (FV.out k hk).1
              have HBn : Below w18.heap.size w18 wnc5 := HBc4.out.trans (hb.mono HBc4.out.size)
              replace TH := th_next TH hb LG
              replace LG := lt_next LG hb
              refine hK.out _ _ ?_ (fun hHeld' => ?_)
              · (try dsimp only)
                exact ⟨(AW.out.next HBn).1, (AW.out.next HBn).2.1, (AW.out.next HBn).2.2.1, HBn⟩
              clear hK K hHeld
              have hHeld := hHeld'
              clear hHeld'
              have HBc5 : Hid (Below w18.heap.size w18 wnc5) := HBn
              clear HBn hb
              clear FV R1
              have OL : Hid (∀ k, (Value.slice vo J.length vc).ownBlock = some k → k < wnc5.heap.size) := fun k hk => (OV.out.lt k hk).2
              (try simp only [Act.put, List.getElem_toArray, List.getElem_cons_zero, List.getElem_cons_succ, List.setIfInBounds_toArray, List.set_cons_zero, List.set_cons_succ])
              refine wpAnyH_take (i := 9) (v := ?_) rfl (by kernel_rfl) (by kernel_rfl) (by kernel_rfl) (fun _ _ _ h => h) (Or.inl ⟨by rfl, ?_⟩) (by assumption) ?_
              rotate_left
              · intro w' hSw
                (try dsimp only at hSw)
                go_simp
                all_goals (try with_reducible rfl)
              (try simp only [Act.put, List.getElem_toArray, List.getElem_cons_zero, List.getElem_cons_succ, List.setIfInBounds_toArray, List.set_cons_zero, List.set_cons_succ])
              refine wpAnyH_take (i := 10) (v := ?_) rfl (by kernel_rfl) (by kernel_rfl) (by kernel_rfl) (fun _ _ _ h => h) (Or.inl ⟨by rfl, ?_⟩) (by assumption) ?_
              rotate_left
              · intro w' hSw
                (try dsimp only at hSw)
                go_simp
                all_goals (try with_reducible rfl)
              (try simp only [Act.put, List.getElem_toArray, List.getElem_cons_zero, List.getElem_cons_succ, List.setIfInBounds_toArray, List.set_cons_zero, List.set_cons_succ])
              refine wpAnyH_take (i := 11) (v := ?_) rfl (by kernel_rfl) (by kernel_rfl) (by kernel_rfl) (fun _ _ _ h => h) (Or.inl ⟨by rfl, ?_⟩) (by assumption) ?_
              rotate_left
              · intro w' hSw
                (try dsimp only at hSw)
                go_simp
                all_goals (try with_reducible rfl)
              (try simp only [Act.put, List.getElem_toArray, List.getElem_cons_zero, List.getElem_cons_succ, List.setIfInBounds_toArray, List.set_cons_zero, List.set_cons_succ])
              obtain ⟨t0, T0⟩ := Option.isSome_iff_exists.1 (TH.out 0 (by omega)).1
              have Z0 := (TH.out 0 (by omega)).2
              obtain ⟨t1, T1⟩ := Option.isSome_iff_exists.1 (TH.out 1 (by omega)).1
              have Z1 := (TH.out 1 (by omega)).2
              obtain ⟨t2, T2⟩ := Option.isSome_iff_exists.1 (TH.out 2 (by omega)).1
              have Z2 := (TH.out 2 (by omega)).2
              obtain ⟨t3, T3⟩ := Option.isSome_iff_exists.1 (TH.out 3 (by omega)).1
              have Z3 := (TH.out 3 (by omega)).2
              refine wpAnyH_ready (rs := [13]) (by kernel_rfl) (by simp) ?_
              refine AllReadyH.cons rfl (fun K hK => ?_) AllReadyH.nil
              (try simp only [Act.put, List.getElem_toArray, List.getElem_cons_zero, List.getElem_cons_succ, List.setIfInBounds_toArray, List.set_cons_zero, List.set_cons_succ])
              go_simp
              (try simp only [])
              have HBn := below_set4 (v0 := .slice vo J.length vc) (v1 := .int .i64 p) (v2 := .int .i64 q) (v3 := .int .i64 r) HBc5.out GE.out
              have C9 : Hid _ := set4_cells (v := .slice vo J.length vc) (p := p) (q := q) (r := r) TH.out
              have O9 : Hid _ := own_set4 (v0 := .slice vo J.length vc) (v1 := .int .i64 p) (v2 := .int .i64 q) (v3 := .int .i64 r) OV.out NV.out
              refine hK.out _ _ ?_ (fun hHeld' => ?_)
              · (try dsimp only)
                exact ⟨(AW.out.next HBn).1, (AW.out.next HBn).2.1, (AW.out.next HBn).2.2.1, HBn⟩
              clear hK K hHeld T0 T1 T2 T3 Z0 Z1 Z2 Z3
              have hHeld := hHeld'
              clear hHeld'
              have B9 : Hid _ := HBn
              clear HBn
              (try simp only [Act.put, List.getElem_toArray, List.getElem_cons_zero, List.getElem_cons_succ, List.setIfInBounds_toArray, List.set_cons_zero, List.set_cons_succ])
              refine wpAnyH_take (i := 14) (v := ?_) rfl (by kernel_rfl) (by kernel_rfl) (by kernel_rfl) (fun _ _ _ h => h) (Or.inl ⟨by rfl, ?_⟩) (by assumption) ?_
              rotate_left
              · intro w' hSw
                (try dsimp only at hSw)
                go_simp
                all_goals (try with_reducible rfl)
              (try simp only [Act.put, List.getElem_toArray, List.getElem_cons_zero, List.getElem_cons_succ, List.setIfInBounds_toArray, List.set_cons_zero, List.set_cons_succ])
              refine wpAnyH_done (by kernel_rfl) ?_ _
              clear hHeld
              go_wp2
              go_meet
              case rel => exact ⟨_, vo, vc, rfl, rfl, C9.out, by simpa [World.setCell] using LG.out, GE.out, O9.out, FW.out, NV.out, B9.out⟩
          · (try simp only [Act.put, List.getElem_toArray, List.getElem_cons_zero, List.getElem_cons_succ, List.setIfInBounds_toArray, List.set_cons_zero, List.set_cons_succ])
            go_simp
            (try simp only [])
            have hb := bel_alloc wnc1 (.cells #[.slice none 0 0, .int .i64 0, .int .i64 0, .int .i64 0] 32)
            have HBn : Below w18.heap.size w18 (wnc1.alloc (.cells #[.slice none 0 0, .int .i64 0, .int .i64 0, .int .i64 0] 32)) := HBc1.out.trans (hb.mono HBc1.out.size)
            replace R1 := row_next R1 hb
            have TH : Hid (There (wnc1.alloc (.cells #[.slice none 0 0, .int .i64 0, .int .i64 0, .int .i64 0] 32)) wnc1.heap.size 4) := there_new
            have LG : Hid (wnc1.heap.size < (wnc1.alloc (.cells #[.slice none 0 0, .int .i64 0, .int .i64 0, .int .i64 0] 32)).heap.size) := lt_new
            have GE : Hid (w18.heap.size ≤ wnc1.heap.size) := HBc1.out.size
            refine hK.out _ _ ?_ (fun hHeld' => ?_)
            · (try dsimp only)
              exact ⟨(AW.out.next HBn).1, (AW.out.next HBn).2.1, (AW.out.next HBn).2.2.1, HBn⟩
            clear hK K hHeld
            have hHeld := hHeld'
            clear hHeld'
            have HBc2 : Hid (Below w18.heap.size w18 (wnc1.alloc (.cells #[.slice none 0 0, .int .i64 0, .int .i64 0, .int .i64 0] 32))) := HBn
            clear HBn hb
            generalize (wnc1.alloc (.cells #[.slice none 0 0, .int .i64 0, .int .i64 0, .int .i64 0] 32)) = wnc2 at *
            (try simp only [Act.put, List.getElem_toArray, List.getElem_cons_zero, List.getElem_cons_succ, List.setIfInBounds_toArray, List.set_cons_zero, List.set_cons_succ])
            refine wpAnyH_ready (rs := [3]) (by kernel_rfl) (by simp) ?_
            refine AllReadyH.cons rfl (fun K hK => ?_) AllReadyH.nil
            (try simp only [Act.put, List.getElem_toArray, List.getElem_cons_zero, List.getElem_cons_succ, List.setIfInBounds_toArray, List.set_cons_zero, List.set_cons_succ])
            go_simp
            refine (toVv_any x y z _).mono ?_
            rintro e wnc3 ⟨rfl, hb⟩
            have HBn : Below w18.heap.size w18 wnc3 := HBc2.out.trans (hb.mono HBc2.out.size)
            replace R1 := row_next R1 hb
            replace TH := th_next TH hb LG
            replace LG := lt_next LG hb
            refine hK.out _ _ ?_ (fun hHeld' => ?_)
            · (try dsimp only)
              exact ⟨(AW.out.next HBn).1, (AW.out.next HBn).2.1, (AW.out.next HBn).2.2.1, HBn⟩
            clear hK K hHeld
            have hHeld := hHeld'
            clear hHeld'
            have HBc3 : Hid (Below w18.heap.size w18 wnc3) := HBn
            clear HBn hb
            (try simp only [Act.put, List.getElem_toArray, List.getElem_cons_zero, List.getElem_cons_succ, List.setIfInBounds_toArray, List.set_cons_zero, List.set_cons_succ])
            refine wpAnyH_ready (rs := [5]) (by kernel_rfl) (by simp) ?_
            refine AllReadyH.cons rfl (fun K hK => ?_) AllReadyH.nil
            (try simp only [Act.put, List.getElem_toArray, List.getElem_cons_zero, List.getElem_cons_succ, List.setIfInBounds_toArray, List.set_cons_zero, List.set_cons_succ])
            go_simp
            refine (toDot_any sp sn _).mono ?_
            rintro e wnc4 ⟨rfl, hb⟩
            have HBn : Below w18.heap.size w18 wnc4 := HBc3.out.trans (hb.mono HBc3.out.size)
            replace R1 := row_next R1 hb
            replace TH := th_next TH hb LG
            replace LG := lt_next LG hb
            refine hK.out _ _ ?_ (fun hHeld' => ?_)
            · (try dsimp only)
              exact ⟨(AW.out.next HBn).1, (AW.out.next HBn).2.1, (AW.out.next HBn).2.2.1, HBn⟩
            clear hK K hHeld
            have hHeld := hHeld'
            clear hHeld'
            have HBc4 : Hid (Below w18.heap.size w18 wnc4) := HBn
            clear HBn hb
            (try simp only [Act.put, List.getElem_toArray, List.getElem_cons_zero, List.getElem_cons_succ, List.setIfInBounds_toArray, List.set_cons_zero, List.set_cons_succ])
            refine wpAnyH_ready (rs := [8]) (by kernel_rfl) (by simp) ?_
            refine AllReadyH.cons rfl (fun K hK => ?_) AllReadyH.nil
            (try simp only [Act.put, List.getElem_toArray, List.getElem_cons_zero, List.getElem_cons_succ, List.setIfInBounds_toArray, List.set_cons_zero, List.set_cons_succ])
            go_simp
            refine (join_wrap (implWrite_any l.length _ l a b c x y z sp sn sv sd J p q r code hW _ hm R1.out)).mono ?_
            rintro e wnc5 ⟨vo, vc, rfl, hb, OV, FV⟩
            have NV : Hid ((Value.slice vo J.length vc).ownBlock ≠ some wnc1.heap.size) := fun e => by
              have h1 := (FV.out _ e).1
              have h2 := LG.out
              omega
            have FW : Hid (∀ k, (Value.slice vo J.length vc).ownBlock = some k → w18.heap.size ≤ k) := fun k hk => Nat.le_trans HBc4.out.size (FV.out k hk).1
            have HBn : Below w18.heap.size w18 wnc5 := HBc4.out.trans (hb.mono HBc4.out.size)
            replace TH := th_next TH hb LG
            replace LG := lt_next LG hb
            refine hK.out _ _ ?_ (fun hHeld' => ?_)
            · (try dsimp only)
              exact ⟨(AW.out.next HBn).1, (AW.out.next HBn).2.1, (AW.out.next HBn).2.2.1, HBn⟩
            clear hK K hHeld
            have hHeld := hHeld'
            clear hHeld'
            have HBc5 : Hid (Below w18.heap.size w18 wnc5) := HBn
            clear HBn hb
            clear FV R1
            have OL : Hid (∀ k, (Value.slice vo J.length vc).ownBlock = some k → k < wnc5.heap.size) := fun k hk => (OV.out.lt k hk).2
            (try simp only [Act.put, List.getElem_toArray, List.getElem_cons_zero, List.getElem_cons_succ, List.setIfInBounds_toArray, List.set_cons_zero, List.set_cons_succ])
            refine wpAnyH_take (i := 9) (v := ?_) rfl (by kernel_rfl) (by kernel_rfl) (by kernel_rfl) (fun _ _ _ h => h) (Or.inl ⟨by rfl, ?_⟩) (by assumption) ?_
            rotate_left
            · intro w' hSw
              (try dsimp only at hSw)
              go_simp
              all_goals (try with_reducible rfl)
            (try simp only [Act.put, List.getElem_toArray, List.getElem_cons_zero, List.getElem_cons_succ, List.setIfInBounds_toArray, List.set_cons_zero, List.set_cons_succ])
            refine wpAnyH_take (i := 10) (v := ?_) rfl (by kernel_rfl) (by kernel_rfl) (by kernel_rfl) (fun _ _ _ h => h) (Or.inl ⟨by rfl, ?_⟩) (by assumption) ?_
            rotate_left
            · intro w' hSw
              (try dsimp only at hSw)
              go_simp
              all_goals (try with_reducible rfl)
            (try simp only [Act.put, List.getElem_toArray, List.getElem_cons_zero, List.getElem_cons_succ, List.setIfInBounds_toArray, List.set_cons_zero, List.set_cons_succ])
            refine wpAnyH_take (i := 11) (v := ?_) rfl (by kernel_rfl) (by kernel_rfl) (by kernel_rfl) (fun _ _ _ h => h) (Or.inl ⟨by rfl, ?_⟩) (by assumption) ?_
            rotate_left
            · intro w' hSw
              (try dsimp only at hSw)
              go_simp
              all_goals (try with_reducible rfl)
            (try simp only [Act.put, List.getElem_toArray, List.getElem_cons_zero, List.getElem_cons_succ, List.setIfInBounds_toArray, List.set_cons_zero, List.set_cons_succ])
            obtain ⟨t0, T0⟩ := Option.isSome_iff_exists.1 (TH.out 0 (by omega)).1
            have Z0 := (TH.out 0 (by omega)).2
            obtain ⟨t1, T1⟩ := Option.isSome_iff_exists.1 (TH.out 1 (by omega)).1
            have Z1 := (TH.out 1 (by omega)).2
            obtain ⟨t2, T2⟩ := Option.isSome_iff_exists.1 (TH.out 2 (by omega)).1
            have Z2 := (TH.out 2 (by omega)).2
            obtain ⟨t3, T3⟩ := Option.isSome_iff_exists.1 (TH.out 3 (by omega)).1
            have Z3 := (TH.out 3 (by omega)).2
            refine wpAnyH_ready (rs := [13]) (by kernel_rfl) (by simp) ?_
            refine AllReadyH.cons rfl (fun K hK => ?_) AllReadyH.nil
            (try simp only [Act.put, List.getElem_toArray, List.getElem_cons_zero, List.getElem_cons_succ, List.setIfInBounds_toArray, List.set_cons_zero, List.set_cons_succ])
            go_simp
            (try simp only [])
            have HBn := below_set4 (v0 := .slice vo J.length vc) (v1 := .int .i64 p) (v2 := .int .i64 q) (v3 := .int .i64 r) HBc5.out GE.out
            have C9 : Hid _ := set4_cells (v := .slice vo J.length vc) (p := p) (q := q) (r := r) TH.out
            have O9 : Hid _ := own_set4 (v0 := .slice vo J.length vc) (v1 := .int .i64 p) (v2 := .int .i64 q) (v3 := .int .i64 r) OV.out NV.out
            refine hK.out _ _ ?_ (fun hHeld' => ?_)
            · (try dsimp only)
              exact ⟨(AW.out.next HBn).1, (AW.out.next HBn).2.1, (AW.out.next HBn).2.2.1, HBn⟩
            clear hK K hHeld T0 T1 T2 T3 Z0 Z1 Z2 Z3
            have hHeld := hHeld'
            clear hHeld'
            have B9 : Hid _ := HBn
            clear HBn
            (try simp only [Act.put, List.getElem_toArray, List.getElem_cons_zero, List.getElem_cons_succ, List.setIfInBounds_toArray, List.set_cons_zero, List.set_cons_succ])
            refine wpAnyH_take (i := 14) (v := ?_) rfl (by kernel_rfl) (by kernel_rfl) (by kernel_rfl) (fun _ _ _ h => h) (Or.inl ⟨by rfl, ?_⟩) (by assumption) ?_
            rotate_left
            · intro w' hSw
              (try dsimp only at hSw)
              go_simp
              all_goals (try with_reducible rfl)
            (try simp only [Act.put, List.getElem_toArray, List.getElem_cons_zero, List.getElem_cons_succ, List.setIfInBounds_toArray, List.set_cons_zero, List.set_cons_succ])
            refine wpAnyH_done (by kernel_rfl) ?_ _
            clear hHeld
            go_wp2
            go_meet
            case rel => exact ⟨_, vo, vc, rfl, rfl, C9.out, by simpa [World.setCell] using LG.out, GE.out, O9.out, FW.out, NV.out, B9.out⟩
        · (try simp only [Act.put, List.getElem_toArray, List.getElem_cons_zero, List.getElem_cons_succ, List.setIfInBounds_toArray, List.set_cons_zero, List.set_cons_succ])
          go_simp
          (try simp only [])
          have hb := bel_alloc wd (.cells #[.slice none 0 0, .int .i64 0, .int .i64 0, .int .i64 0] 32)
          have HBn : Below w18.heap.size w18 (wd.alloc (.cells #[.slice none 0 0, .int .i64 0, .int .i64 0, .int .i64 0] 32)) := HBs.out.trans (hb.mono HBs.out.size)
          have TH : Hid (There (wd.alloc (.cells #[.slice none 0 0, .int .i64 0, .int .i64 0, .int .i64 0] 32)) wd.heap.size 4) := there_new
          have LG : Hid (wd.heap.size < (wd.alloc (.cells #[.slice none 0 0, .int .i64 0, .int .i64 0, .int .i64 0] 32)).heap.size) := lt_new
          have GE : Hid (w18.heap.size ≤ wd.heap.size) := HBs.out.size
          refine hK.out _ _ ?_ (fun hHeld' => ?_)
          · (try dsimp only)
            exact ⟨(AW.out.next HBn).1, (AW.out.next HBn).2.1, (AW.out.next HBn).2.2.1, HBn⟩
          clear hK K hHeld
          have hHeld := hHeld'
          clear hHeld'
          have HBc1 : Hid (Below w18.heap.size w18 (wd.alloc (.cells #[.slice none 0 0, .int .i64 0, .int .i64 0, .int .i64 0] 32))) := HBn
          clear HBn hb
          generalize (wd.alloc (.cells #[.slice none 0 0, .int .i64 0, .int .i64 0, .int .i64 0] 32)) = wnc1 at *
          (try simp only [Act.put, List.getElem_toArray, List.getElem_cons_zero, List.getElem_cons_succ, List.setIfInBounds_toArray, List.set_cons_zero, List.set_cons_succ])
          refine wpAnyH_ready (rs := [1]) (by kernel_rfl) (by simp) ?_
          refine AllReadyH.cons rfl (fun K hK => ?_) AllReadyH.nil
          (try simp only [Act.put, List.getElem_toArray, List.getElem_cons_zero, List.getElem_cons_succ, List.setIfInBounds_toArray, List.set_cons_zero, List.set_cons_succ])
          go_simp
          refine (toObj_any cap ao l a b c _ hm (RAW.out.next HBc1.out)).mono ?_
          rintro e wnc2 ⟨g1, rfl, hb, hg, hG, hT, hS⟩
          have HBn : Below w18.heap.size w18 wnc2 := HBc1.out.trans (hb.mono HBc1.out.size)
          have R1 := row_of_at hS
          clear hg hG hT hS
          replace TH := th_next TH hb LG
          replace LG := lt_next LG hb
          refine hK.out _ _ ?_ (fun hHeld' => ?_)
          · (try dsimp only)
            exact ⟨(AW.out.next HBn).1, (AW.out.next HBn).2.1, (AW.out.next HBn).2.2.1, HBn⟩
          clear hK K hHeld
          have hHeld := hHeld'
          clear hHeld'
          have HBc2 : Hid (Below w18.heap.size w18 wnc2) := HBn
          clear HBn hb
          (try simp only [Act.put, List.getElem_toArray, List.getElem_cons_zero, List.getElem_cons_succ, List.setIfInBounds_toArray, List.set_cons_zero, List.set_cons_succ])
          refine wpAnyH_ready (rs := [3]) (by kernel_rfl) (by simp) ?_
          refine AllReadyH.cons rfl (fun K hK => ?_) AllReadyH.nil
          (try simp only [Act.put, List.getElem_toArray, List.getElem_cons_zero, List.getElem_cons_succ, List.setIfInBounds_toArray, List.set_cons_zero, List.set_cons_succ])
          go_simp
          refine (toVv_any x y z _).mono ?_
          rintro e wnc3 ⟨rfl, hb⟩
          have HBn : Below w18.heap.size w18 wnc3 := HBc2.out.trans (hb.mono HBc2.out.size)
          replace R1 := row_next R1 hb
          replace TH := th_next TH hb LG
          replace LG := lt_next LG hb
          refine hK.out _ _ ?_ (fun hHeld' => ?_)
          · (try dsimp only)
            exact ⟨(AW.out.next HBn).1, (AW.out.next HBn).2.1, (AW.out.next HBn).2.2.1, HBn⟩
          clear hK K hHeld
          have hHeld := hHeld'
          clear hHeld'
          have HBc3 : Hid (Below w18.heap.size w18 wnc3) := HBn
          clear HBn hb
          (try simp only [Act.put, List.getElem_toArray, List.getElem_cons_zero, List.getElem_cons_succ, List.setIfInBounds_toArray, List.set_cons_zero, List.set_cons_succ])
          refine wpAnyH_ready (rs := [5]) (by kernel_rfl) (by simp) ?_
          refine AllReadyH.cons rfl (fun K hK => ?_) AllReadyH.nil
          (try simp only [Act.put, List.getElem_toArray, List.getElem_cons_zero, List.getElem_cons_succ, List.setIfInBounds_toArray, List.set_cons_zero, List.set_cons_succ])
          go_simp
          refine (toDot_any sp sn _).mono ?_
          rintro e wnc4 ⟨rfl, hb⟩
          have HBn : Below w18.heap.size w18 wnc4 := HBc3.out.trans (hb.mono HBc3.out.size)
          replace R1 := row_next R1 hb
          replace TH := th_next TH hb LG
          replace LG := lt_next LG hb
          refine hK.out _ _ ?_ (fun hHeld' => ?_)
          · (try dsimp only)
            exact ⟨(AW.out.next HBn).1, (AW.out.next HBn).2.1, (AW.out.next HBn).2.2.1, HBn⟩
          clear hK K hHeld
          have hHeld := hHeld'
          clear hHeld'
          have HBc4 : Hid (Below w18.heap.size w18 wnc4) := HBn
          clear HBn hb
          (try simp only [Act.put, List.getElem_toArray, List.getElem_cons_zero, List.getElem_cons_succ, List.setIfInBounds_toArray, List.set_cons_zero, List.set_cons_succ])
          refine wpAnyH_ready (rs := [8]) (by kernel_rfl) (by simp) ?_
          refine AllReadyH.cons rfl (fun K hK => ?_) AllReadyH.nil
          (try simp only [Act.put, List.getElem_toArray, List.getElem_cons_zero, List.getElem_cons_succ, List.setIfInBounds_toArray, List.set_cons_zero, List.set_cons_succ])
          go_simp
          refine (join_wrap (implWrite_any l.length _ l a b c x y z sp sn sv sd J p q r code hW _ hm R1.out)).mono ?_
          rintro e wnc5 ⟨vo, vc, rfl, hb, OV, FV⟩
          have NV : Hid ((Value.slice vo J.length vc).ownBlock ≠ some wd.heap.size) := fun e => by
            have h1 := (FV.out _ e).1
            have h2 := LG.out
            omega
          have FW : Hid (∀ k, (Value.slice vo J.length vc).ownBlock = some k → w18.heap.size ≤ k) := fun k hk => Nat.le_trans HBc4.out.size (FV.out k hk).1
          have HBn : Below w18.heap.size w18 wnc5 := HBc4.out.trans (hb.mono HBc4.out.size)
          replace TH := th_next TH hb LG
          replace LG := lt_next LG hb
          refine hK.out _ _ ?_ (fun hHeld' => ?_)
          · (try dsimp only)
            exact ⟨(AW.out.next HBn).1, (AW.out.next HBn).2.1, (AW.out.next HBn).2.2.1, HBn⟩
          clear hK K hHeld
          have hHeld := hHeld'
          clear hHeld'
          have HBc5 : Hid (Below w18.heap.size w18 wnc5) := HBn
          clear HBn hb
          clear FV R1
          have OL : Hid (∀ k, (Value.slice vo J.length vc).ownBlock = some k → k < wnc5.heap.size) := fun k hk => (OV.out.lt k hk).2
          (try simp only [Act.put, List.getElem_toArray, List.getElem_cons_zero, List.getElem_cons_succ, List.setIfInBounds_toArray, List.set_cons_zero, List.set_cons_succ])
          refine wpAnyH_take (i := 9) (v := ?_) rfl (by kernel_rfl) (by kernel_rfl) (by kernel_rfl) (fun _ _ _ h => h) (Or.inl ⟨by rfl, ?_⟩) (by assumption) ?_
          rotate_left
          · intro w' hSw
            (try dsimp only at hSw)
            go_simp
            all_goals (try with_reducible rfl)
          (try simp only [Act.put, List.getElem_toArray, List.getElem_cons_zero, List.getElem_cons_succ, List.setIfInBounds_toArray, List.set_cons_zero, List.set_cons_succ])
          refine wpAnyH_take (i := 10) (v := ?_) rfl (by kernel_rfl) (by kernel_rfl) (by kernel_rfl) (fun _ _ _ h => h) (Or.inl ⟨by rfl, ?_⟩) (by assumption) ?_
          rotate_left
          · intro w' hSw
            (try dsimp only at hSw)
            go_simp
            all_goals (try with_reducible rfl)
          (try simp only [Act.put, List.getElem_toArray, List.getElem_cons_zero, List.getElem_cons_succ, List.setIfInBounds_toArray, List.set_cons_zero, List.set_cons_succ])
          refine wpAnyH_take (i := 11) (v := ?_) rfl (by kernel_rfl) (by kernel_rfl) (by kernel_rfl) (fun _ _ _ h => h) (Or.inl ⟨by rfl, ?_⟩) (by assumption) ?_
          rotate_left
          · intro w' hSw
            (try dsimp only at hSw)
            go_simp
            all_goals (try with_reducible rfl)
          (try simp only [Act.put, List.getElem_toArray, List.getElem_cons_zero, List.getElem_cons_succ, List.setIfInBounds_toArray, List.set_cons_zero, List.set_cons_succ])
          obtain ⟨t0, T0⟩ := Option.isSome_iff_exists.1 (TH.out 0 (by omega)).1
          have Z0 := (TH.out 0 (by omega)).2
          obtain ⟨t1, T1⟩ := Option.isSome_iff_exists.1 (TH.out 1 (by omega)).1
          have Z1 := (TH.out 1 (by omega)).2
          obtain ⟨t2, T2⟩ := Option.isSome_iff_exists.1 (TH.out 2 (by omega)).1
          have Z2 := (TH.out 2 (by omega)).2
          obtain ⟨t3, T3⟩ := Option.isSome_iff_exists.1 (TH.out 3 (by omega)).1
          have Z3 := (TH.out 3 (by omega)).2
          refine wpAnyH_ready (rs := [13]) (by kernel_rfl) (by simp) ?_
          refine AllReadyH.cons rfl (fun K hK => ?_) AllReadyH.nil
          (try simp only [Act.put, List.getElem_toArray, List.getElem_cons_zero, List.getElem_cons_succ, List.setIfInBounds_toArray, List.set_cons_zero, List.set_cons_succ])
          go_simp
          (try simp only [])
          have HBn := below_set4 (v0 := .slice vo J.length vc) (v1 := .int .i64 p) (v2 := .int .i64 q) (v3 := .int .i64 r) HBc5.out GE.out
          have C9 : Hid _ := set4_cells (v := .slice vo J.length vc) (p := p) (q := q) (r := r) TH.out
          have O9 : Hid _ := own_set4 (v0 := .slice vo J.length vc) (v1 := .int .i64 p) (v2 := .int .i64 q) (v3 := .int .i64 r) OV.out NV.out
          refine hK.out _ _ ?_ (fun hHeld' => ?_)
          · (try dsimp only)
            exact ⟨(AW.out.next HBn).1, (AW.out.next HBn).2.1, (AW.out.next HBn).2.2.1, HBn⟩
          clear hK K hHeld T0 T1 T2 T3 Z0 Z1 Z2 Z3
          have hHeld := hHeld'
          clear hHeld'
          have B9 : Hid _ := HBn
          clear HBn
          (try simp only [Act.put, List.getElem_toArray, List.getElem_cons_zero, List.getElem_cons_succ, List.setIfInBounds_toArray, List.set_cons_zero, List.set_cons_succ])
          refine wpAnyH_take (i := 14) (v := ?_) rfl (by kernel_rfl) (by kernel_rfl) (by kernel_rfl) (fun _ _ _ h => h) (Or.inl ⟨by rfl, ?_⟩) (by assumption) ?_
          rotate_left
          · intro w' hSw
            (try dsimp only at hSw)
            go_simp
            all_goals (try with_reducible rfl)
          (try simp only [Act.put, List.getElem_toArray, List.getElem_cons_zero, List.getElem_cons_succ, List.setIfInBounds_toArray, List.set_cons_zero, List.set_cons_succ])
          refine wpAnyH_done (by kernel_rfl) ?_ _
          clear hHeld
          go_wp2
          go_meet
          case rel => exact ⟨_, vo, vc, rfl, rfl, C9.out, by simpa [World.setCell] using LG.out, GE.out, O9.out, FW.out, NV.out, B9.out⟩
      case rest =>
        obtain ⟨gh, vh, ch, rfl, rfl, hC, hLb, hge, hOb, hFb, hNb, hb⟩ := hcut
        replace BW := c4_next BW hb LW
        replace BG := c4_next BG hb LG
        replace LW := lt_next LW hb
        replace LG := lt_next LG hb
        replace HB := bel_next HB hb
        replace EW := own_hnext EW hb
        replace EM := mkrow_next EM hb
        obtain ⟨bh0, bh1, bh2, bh3⟩ := hC
        have EH : Hid (World.ownsRow _ 0 46 4 (.slice vh J.length ch) J.length (flat J)) := hOb
        clear hge hOb hLb hb hFb hNb
        obtain ⟨bW0, bW1, bW2, bW3⟩ := BW.out
        go_wp2_with fail
        clear bW0 bW1 bW2 bW3
        clear bh0 bh1 bh2 bh3
        refine (eqObj_same ch vc vh vo J p q r _ hJl (own_srow EH) (own_srow EW)).mono ?_
        rintro e w20 ⟨rfl, hb⟩
        replace BW := c4_next BW hb LW
        replace BG := c4_next BG hb LG
        replace LW := lt_next LW hb
        replace LG := lt_next LG hb
        replace HB := bel_next HB hb
        replace EW := own_hnext EW hb
        replace EM := mkrow_next EM hb
        clear hb EH
        obtain ⟨bG0, bG1, bG2, bG3⟩ := BG.out
        go_wp2_with fail
        clear bG0 bG1 bG2 bG3
        refine (heldO_any J.length cg vg p q r 1 _ (by omega) (by omega) (by omega) EM.out).mono ?_
        rintro e w21 ⟨rfl, hb⟩
        replace HB := bel_next HB hb
        clear hb EM EW BW BG LW LG
        go_wp2
        go_ret
        exact ⟨rfl, (bel_next B0 HB.out).out⟩

set_option maxHeartbeats 1000000 in
theorem law_write (cap : Nat) (ao : Option Addr) (l : List Sib) (a b c x y z sp sn sv : Int) (sd : Bool) (w : World) (hl : l.length ≤ 9223372036854775807) (hr0 : SibRow w ao l) :
    Calls Try.prog 3 #[.agg #[.slice ao l.length cap, .int .i64 a, .int .i64 b, .int .i64 c], .agg #[.int .i64 x, .int .i64 y, .int .i64 z], .agg #[.int .i64 sp, .int .i64 sn], .int .i64 sv, .bool sd] w fun e w' => e = .returned (.bool true) ∧ Below w.heap.size w w' := by
  by_cases h : l.length ≤ 1048576
  · exact law_write_small cap ao l a b c x y z sp sn sv sd w h hr0
  · have hif : (if (l.length : Int) ≤ 1048576 then 1048576 - (l.length : Int) else -1) = -1 := if_neg (by omega)
    have B00 : Hid (Below w.heap.size w (((w.alloc (.cells #[.slice ao l.length cap, .int .i64 a, .int .i64 b, .int .i64 c] 25)).alloc (.cells #[.int .i64 x, .int .i64 y, .int .i64 z] 23)).alloc (.cells #[.int .i64 sp, .int .i64 sn] 27))) := (((bel_alloc _ _).trans ((bel_alloc _ _).mono (by simp))).trans ((bel_alloc _ _).mono (by simp; omega)))
    go_enter Try.func3, Try.ntmps3
    go_wp2_with fail
    refine (szObj_any cap ao l a b c 1048576 _ (by omega) (by omega) (by omega)).mono ?_
    rintro e w1 ⟨rfl, hb⟩
    have B0 : Hid (Below w.heap.size w w1) := B00.out.trans (hb.mono B00.out.size)
    clear hb B00
    rw [hif]
    go_wp2
    go_ret
    exact ⟨rfl, B0.out⟩
end Go.Proofs.Ytodjbkeljfnebaa
