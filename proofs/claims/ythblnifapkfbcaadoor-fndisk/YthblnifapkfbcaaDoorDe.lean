/- The disk that is drawn. -/
import Derived.Test.YthblnifapkfbcaaDoorRows
import Derived.WalkKit
import Derived.WalkSpells
import Derived.WalkLawsBesides
import Derived.Deep.QuietTactic
import Derived.BigQuiet
import Derived.Deep.RegionHeld3
import Derived.Test.YthblnifapkfbcaaDoorDd
import Derived.Test.YthblnifapkfbcaaDoorSy
import Derived.LoopN
namespace Go.Proofs.YthblnifapkfbcaaDoor
open Go.RowKit
set_option linter.unusedSimpArgs false
set_option linter.unusedVariables false

section
variable {w wr w1 : World} {g : Nat} {ao : Option Addr} {len cap : Nat} {zs : List Int} {k k' : Int} {v0 v1 : Value} {TA TU : List ByteArray}
theorem di_by (h : Hid (DI w wr g ao len cap zs k v0 v1 TA TU)) (hgw : g < w.heap.size) (hS : ∃ s, SrcAt w1 g ao len cap k' s) (hR : Gen.IsRow .u8 w1 ao len cap zs) (hG : wr.grownBy w1 (some g)) : Hid (DI w w1 g ao len cap zs k' v0 v1 TA TU) := h.out.by hgw hS hR hG
theorem di_below (h : Hid (DI w wr g ao len cap zs k v0 v1 TA TU)) (hb : Below wr.heap.size wr w1) : Hid (DI w w1 g ao len cap zs k v0 v1 TA TU) := h.out.below hb
theorem di_store {TA' TU' : List ByteArray} {u0 u1 : Value} (h : Hid (DI w wr g ao len cap zs k v0 v1 TA TU)) (hgw : g < w.heap.size) (hold : ∀ x, ao = some x → 0 < cap → x.block < w.heap.size) (h0 : RowB wr u0 (TA'.map sealS) g (w.heap.size + 1 + 1 + 1)) (h1 : RowB wr u1 (TU'.map sealS) g (w.heap.size + 1 + 1 + 1)) : Hid (DI w ((wr.setCell ⟨w.heap.size + 1 + 1 + 1, 0, none⟩ u0).setCell ⟨w.heap.size + 1 + 1 + 1, 1, none⟩ u1) g ao len cap zs k u0 u1 TA' TU') := h.out.store hgw hold h0 h1
end
theorem own_geX {W : World} {ao : Option Addr} {n cap m lo : Nat} {xs : List Value} (h : W.ownsRow 0 9 1 (.slice ao n cap) m xs) (hge : ∀ k, (Value.slice ao n cap).ownBlock = some k → lo ≤ k) : ∀ x, ao = some x → lo ≤ x.block := fun x hx => by
  subst hx
  rcases h.2 with ⟨h', _⟩ | ⟨g', cap', cur, h', _⟩
  · cases h'
  · simp only [Value.slice.injEq, Option.some.injEq] at h'
    obtain ⟨hx', _, _⟩ := h'
    subst hx'
    exact hge g' rfl
theorem own_rowX {W : World} {ao : Option Addr} {n cap : Nat} {ss : List ByteArray} (h : W.ownsRow 0 9 1 (.slice ao n cap) ss.length (V ss)) : RowV W (.slice ao n cap) ss := own_rowV h
/-- What drawing a disk leaves. -/
def DkP (w : World) (g : Nat) (e : Ending) (w' : World) : Prop := ∃ (TA TU : List ByteArray) (p0 p1 : Option Addr) (c0 c1 : Nat), e = .returned (.agg #[.slice p0 TA.length c0, .slice p1 TU.length c1]) ∧ TA.length + TU.length ≤ 8 ∧ (∀ t ∈ TA ++ TU, t.size ≤ 5) ∧ w.grownBy w' (some g) ∧ RowV w' (.slice p0 TA.length c0) (TA.map sealS) ∧ RowV w' (.slice p1 TU.length c1) (TU.map sealS) ∧ (∀ x, p0 = some x → w.heap.size ≤ x.block) ∧ (∀ x, p1 = some x → w.heap.size ≤ x.block)
set_option maxHeartbeats 4000000 in
theorem disk_any (g len cap : Nat) (ao : Option Addr) (zs : List Int) (s : Int) (w : World) (h : SrcAt w g ao len cap 0 s) (hr : Gen.IsRow .u8 w ao len cap zs) (hn : ∀ x, ao = some x → 0 < cap → x.block ≠ g) (hold : ∀ x, ao = some x → 0 < cap → x.block < w.heap.size) (hl : (len : Int) ≤ 1048576) :
    Calls Tryd.prog 15 #[.pointer (some ⟨g, 0, none⟩)] w fun e w' => DkP w g e w' := by
  have hgw : g < w.heap.size := h.2.2.2.2.2.1
  have HN : Hid (∀ x, ao = some x → 0 < cap → x.block ≠ g) := hn
  have HOLD : Hid (∀ x, ao = some x → 0 < cap → x.block < w.heap.size) := hold
  have B0 : Below w.heap.size w ((((w.alloc (.cells #[.slice none 0 0, .slice none 0 0] 25)).alloc (.cells #[] 9)).alloc (.cells #[] 9)).alloc (.cells #[(.slice (some ⟨w.heap.size + 1, 0, none⟩) 0 0), (.slice (some ⟨w.heap.size + 1 + 1, 0, none⟩) 0 0)] 25)) := ((((Below.refl _ _).alloc (Nat.le_refl _) _).alloc (by simp) _).alloc (by simp; omega) _).alloc (by simp; omega) _
  have D0 : Hid (DI w ((((w.alloc (.cells #[.slice none 0 0, .slice none 0 0] 25)).alloc (.cells #[] 9)).alloc (.cells #[] 9)).alloc (.cells #[(.slice (some ⟨w.heap.size + 1, 0, none⟩) 0 0), (.slice (some ⟨w.heap.size + 1 + 1, 0, none⟩) 0 0)] 25)) g ao len cap zs 0 (.slice (some ⟨w.heap.size + 1, 0, none⟩) 0 0) (.slice (some ⟨w.heap.size + 1 + 1, 0, none⟩) 0 0) [] []) := by
    refine ⟨⟨s, h.below B0⟩, row_below hr B0, by go_simp, by go_simp, ⟨⟨⟨(.slice (some ⟨w.heap.size + 1, 0, none⟩) 0 0), by go_simp⟩, ⟨(.slice (some ⟨w.heap.size + 1 + 1, 0, none⟩) 0 0), by go_simp⟩⟩, by go_simp, by go_simp⟩, ⟨⟨⟨.slice none 0 0, by go_simp⟩, ⟨.slice none 0 0, by go_simp⟩⟩, by go_simp, by go_simp⟩, ⟨⟨_, 0, rfl, by simp, .inl rfl⟩, fun x n c e => ?_⟩, ⟨⟨_, 0, rfl, by simp, .inl rfl⟩, fun x n c e => ?_⟩, by simp, ⟨B0.os, B0.tape, B0.output, B0.size, fun b hb _ => B0.block b hb⟩⟩
    · cases e
      exact ⟨show w.heap.size + 1 ≠ g by omega, show w.heap.size + 1 ≠ w.heap.size + 1 + 1 + 1 by omega⟩
    · cases e
      exact ⟨show w.heap.size + 1 + 1 ≠ g by omega, show w.heap.size + 1 + 1 ≠ w.heap.size + 1 + 1 + 1 by omega⟩
  clear h hr hn hold B0
  obtain ⟨s0, hs0⟩ := D0.out.src
  have CN : Hid _ := next_any g len cap ao zs 0 s0 9 (by omega) (by omega) _ hs0 D0.out.row HN.out hl (by omega) (by omega)
  clear hs0
  go_enter Tryd.func15, Tryd.ntmps15
  go_wp2_with fail
  refine Calls.mono CN.out ?_
  rintro e w1 ⟨n, t1, ⟨n0, n1⟩, rfl, hS1, hG1⟩
  have D1 : Hid (DI w w1 g ao len cap zs (0 + 1) (.slice (some ⟨w.heap.size + 1, 0, none⟩) 0 0) (.slice (some ⟨w.heap.size + 1 + 1, 0, none⟩) 0 0) [] []) := D0.out.by hgw ⟨t1, hS1⟩ (row_grown D0.out.row HN.out hG1) hG1
  clear hS1 hG1 D0 CN
  obtain ⟨m, rfl⟩ : ∃ m : Nat, n = (m : Int) := ⟨n.toNat, by omega⟩
  go_wp2
  go_loopw [4] (fun s4 wr => ∃ (i : Nat) (v0 v1 : Value) (TA TU : List ByteArray) (k : Int), s4 = .int .i64 i ∧ i + TA.length + TU.length ≤ 8 ∧ (∀ t ∈ TA ++ TU, t.size ≤ 5) ∧ 0 ≤ k ∧ k ≤ 1000 - 100 * (i : Int) ∧ DI w wr g ao len cap zs k v0 v1 TA TU) (fun s4 _ => (intOf s4).toNat)
  case atStart => exact ⟨m, _, _, [], [], 0 + 1, rfl, by simp; omega, by simp, by omega, by omega, D1.out⟩
  case round =>
    clear D1
    obtain ⟨i, v0, v1, TA, TU, k, rfl, hle, hsz0, hk0, hk1, hD0⟩ := hrel
    obtain ⟨p0, q0, hv0, _, _⟩ := hD0.r0.row
    obtain ⟨p1, q1, hv1, _, _⟩ := hD0.r1.row
    rw [List.length_map] at hv0 hv1
    subst hv0
    subst hv1
    have DD : Hid (DI w wr g ao len cap zs k (.slice p0 TA.length q0) (.slice p1 TU.length q1) TA TU) := hD0
    have HSZ : Hid (∀ t ∈ TA ++ TU, t.size ≤ 5) := hsz0
    have d0 := hD0.c0
    have d1 := hD0.c1
    clear hD0 hsz0
    have CA : Hid (∀ (W : World) (tx : ByteArray), tx.size ≤ 65536 → RowV W (.slice p0 TA.length q0) (TA.map sealS) → RowV W (.slice p1 TU.length q1) (TU.map sealS) → Calls Tryd.prog 28 #[.agg #[(.slice p0 TA.length q0), (.slice p1 TU.length q1)], .string tx] W fun e w' => ∃ p c, e = .returned (.agg #[(.slice p0 TA.length q0), .slice p (TU.length + 1) c]) ∧ Below W.heap.size W w' ∧ RowV w' (.slice p0 TA.length q0) (TA.map sealS) ∧ RowV w' (.slice p (TU.length + 1) c) ((TU ++ [tx]).map sealS) ∧ (∀ x, p = some x → W.heap.size ≤ x.block)) := fun W tx htx h0 h1 => by
      have := l04Append_new (.slice p0 TA.length q0) (.slice p1 TU.length q1) (TA.map sealS) (TU.map sealS) tx W htx (by rw [List.length_map]; omega) (by rw [List.length_map]; omega) h0 h1
      rw [List.length_map] at this
      rw [List.map_append]
      exact this
    have CS : Hid (∀ (W : World) (tx : ByteArray) (pn : Option Addr) (cn : Nat), RowV W (.slice p0 TA.length q0) (TA.map sealS) → RowV W (.slice pn (TU.length + 1) cn) ((TU ++ [tx]).map sealS) → w.heap.size + 4 ≤ W.heap.size → Calls Tryd.prog 30 #[.agg #[(.slice p0 TA.length q0), .slice pn (TU.length + 1) cn]] W fun e w' => ∃ a b c d, e = .returned (.agg #[.slice a (TA.length + (TU.length + 1)) b, .slice c 0 d]) ∧ Below W.heap.size W w' ∧ RowB w' (.slice a (TA.length + (TU.length + 1)) b) ((TA ++ (TU ++ [tx])).map sealS) g (w.heap.size + 1 + 1 + 1) ∧ RowB w' (.slice c 0 d) (([] : List ByteArray).map sealS) g (w.heap.size + 1 + 1 + 1)) := fun W tx pn cn h0 h1 hW => by
      have := l04Sync_any (.slice p0 TA.length q0) (.slice pn (TU.length + 1) cn) (TA.map sealS) ((TU ++ [tx]).map sealS) W (by rw [List.length_map]; omega) (by rw [List.length_map, List.length_append]; simp; omega) h0 h1
      refine this.mono ?_
      rintro e w' ⟨a, b, c, d, h1, h2, h3⟩
      have el : (TA.map sealS).length + ((TU ++ [tx]).map sealS).length = TA.length + (TU.length + 1) := by rw [List.length_map, List.length_map, List.length_append]; rfl
      rw [el] at h1 h3
      rw [List.nil_append, ← List.map_append] at h3
      exact ⟨a, b, c, d, h1, h2, rowB_own h3.r0 (fun k hk => (h3.b0 k hk).1) (by omega) (by omega), rowB_own h3.r1 (fun k hk => (h3.b1 k hk).1) (by omega) (by omega)⟩
    by_cases hi : 0 < i
    · obtain ⟨j, rfl⟩ : ∃ j, i = j + 1 := ⟨i - 1, by omega⟩
      have hi' : (0 : Int) < ((j + 1 : Nat) : Int) := by omega
      go_wp2
      refine wp_region_held_drew (S := (fun _ => True)) (by kernel_rfl) trivial (fun hHeld => ?_)
      refine wpAnyH_take (i := 1) (v := ?_) rfl (by kernel_rfl) (by kernel_rfl) (by kernel_rfl) (fun _ _ _ h => h) (Or.inl ⟨by rfl, ?_⟩) (by assumption) ?_
      rotate_left
      · intro w' hSw
        (try dsimp only at hSw)
        go_simp
        all_goals (try with_reducible rfl)
      (try simp only [Act.put, List.getElem_toArray, List.getElem_cons_zero, List.getElem_cons_succ, List.setIfInBounds_toArray, List.set_cons_zero, List.set_cons_succ])
      refine wpAnyH_take (i := 2) (v := ?_) rfl (by kernel_rfl) (by kernel_rfl) (by kernel_rfl) (fun _ _ _ h => h) (Or.inl ⟨by rfl, ?_⟩) (by assumption) ?_
      rotate_left
      · intro w' hSw
        (try dsimp only at hSw)
        go_simp
        all_goals (try with_reducible rfl)
      (try simp only [Act.put, List.getElem_toArray, List.getElem_cons_zero, List.getElem_cons_succ, List.setIfInBounds_toArray, List.set_cons_zero, List.set_cons_succ])
      have DX := di_below DD (bel_drew _)
      clear DD d0 d1
      generalize wr.drew = wd at *
      refine wpAnyH_ready (rs := [0, 3]) (by kernel_rfl) (by simp) ?_
      refine AllReadyH.cons rfl (fun K hK => ?_) (AllReadyH.cons rfl (fun K hK => ?_) AllReadyH.nil)
      · (try simp only [Act.put, List.getElem_toArray, List.getElem_cons_zero, List.getElem_cons_succ, List.setIfInBounds_toArray, List.set_cons_zero, List.set_cons_succ])
        have e0 := DX.out.c0
        have e1 := DX.out.c1
        go_simp
        (try simp only [])
        refine hK.out _ _ ?_ (fun hHeld' => ?_)
        · (try dsimp only)
          all_goals trivial
        clear hK K hHeld
        have hHeld := hHeld'
        clear hHeld'
        (try simp only [Act.put, List.getElem_toArray, List.getElem_cons_zero, List.getElem_cons_succ, List.setIfInBounds_toArray, List.set_cons_zero, List.set_cons_succ])
        clear e0 e1
        refine wpAnyH_ready (rs := [3]) (by kernel_rfl) (by simp) ?_
        refine AllReadyH.cons rfl (fun K hK => ?_) AllReadyH.nil
        (try simp only [Act.put, List.getElem_toArray, List.getElem_cons_zero, List.getElem_cons_succ, List.setIfInBounds_toArray, List.set_cons_zero, List.set_cons_succ])
        obtain ⟨sa, hsa⟩ := DX.out.src
        go_simp
        go_at_call 27
        refine (next_any g len cap ao zs k sa 6 (by omega) (by omega) _ hsa DX.out.row HN.out hl (by omega) (by omega)).mono ?_
        rintro e x1 ⟨n2, t1, ⟨m0, m1⟩, rfl, hS1, hG1⟩
        replace DX := di_by DX hgw ⟨t1, hS1⟩ (row_grown DX.out.row HN.out hG1) hG1
        clear hsa hS1 hG1
        refine hK.out _ _ ?_ (fun hHeld' => ?_)
        · (try dsimp only)
          all_goals trivial
        clear hK K hHeld
        have hHeld := hHeld'
        clear hHeld'
        (try simp only [Act.put, List.getElem_toArray, List.getElem_cons_zero, List.getElem_cons_succ, List.setIfInBounds_toArray, List.set_cons_zero, List.set_cons_succ])
        obtain ⟨n3, rfl⟩ : ∃ n3 : Nat, n2 = (n3 : Int) := ⟨n2.toNat, by omega⟩
        refine wpAnyH_ready (rs := [4]) (by kernel_rfl) (by simp) ?_
        refine AllReadyH.cons rfl (fun K hK => ?_) AllReadyH.nil
        (try simp only [Act.put, List.getElem_toArray, List.getElem_cons_zero, List.getElem_cons_succ, List.setIfInBounds_toArray, List.set_cons_zero, List.set_cons_succ])
        obtain ⟨sb, hsb⟩ := DX.out.src
        go_simp
        go_at_call 20
        refine (some_any g len cap ao zs (k + 1) sb n3 _ hsb DX.out.row HN.out (fun x hx hc => Nat.lt_of_lt_of_le (HOLD.out x hx hc) DX.out.grown.size) hl (by omega) (by omega) (by omega)).mono ?_
        rintro e x2 ⟨tx, t2, rfl, hts, hS2, hR2, hG2⟩
        replace DX := di_by DX hgw ⟨t2, hS2⟩ hR2 hG2
        clear hsb hS2 hR2 hG2
        refine hK.out _ _ ?_ (fun hHeld' => ?_)
        · (try dsimp only)
          all_goals trivial
        clear hK K hHeld
        have hHeld := hHeld'
        clear hHeld'
        (try simp only [Act.put, List.getElem_toArray, List.getElem_cons_zero, List.getElem_cons_succ, List.setIfInBounds_toArray, List.set_cons_zero, List.set_cons_succ])
        refine wpAnyH_ready (rs := [5]) (by kernel_rfl) (by simp) ?_
        refine AllReadyH.cons rfl (fun K hK => ?_) AllReadyH.nil
        (try simp only [Act.put, List.getElem_toArray, List.getElem_cons_zero, List.getElem_cons_succ, List.setIfInBounds_toArray, List.set_cons_zero, List.set_cons_succ])
        go_simp
        go_at_call 28
        refine Calls.mono (CA.out _ tx (by omega) DX.out.r0.row DX.out.r1.row) ?_
        rintro e x3 ⟨pn, cn, rfl, hb, hv0, hv1, hfr⟩
        have hsz2 := DX.out.size
        replace DX := di_below DX hb
        have R0 : Hid (RowB x3 (.slice p0 TA.length q0) (TA.map sealS) g (w.heap.size + 1 + 1 + 1)) := ⟨hv0, DX.out.r0.ne⟩
        have R1 : Hid (RowB x3 (.slice pn (TU.length + 1) cn) ((TU ++ [tx]).map sealS) g (w.heap.size + 1 + 1 + 1)) := ⟨hv1, fun x n c e => by cases e; have := hfr x rfl; exact ⟨by omega, by omega⟩⟩
        clear hb hv0 hv1 hfr hsz2
        refine hK.out _ _ ?_ (fun hHeld' => ?_)
        · (try dsimp only)
          all_goals trivial
        clear hK K hHeld
        have hHeld := hHeld'
        clear hHeld'
        (try simp only [Act.put, List.getElem_toArray, List.getElem_cons_zero, List.getElem_cons_succ, List.setIfInBounds_toArray, List.set_cons_zero, List.set_cons_succ])
        have DS := di_store DX hgw HOLD.out R0.out R1.out
        have b0 := DX.out.c0
        have b1 := DX.out.c1
        have y0 := DX.out.th.f0
        have y1 := DX.out.th.f1
        refine wpAnyH_ready (rs := [6]) (by kernel_rfl) (by simp) ?_
        refine AllReadyH.cons rfl (fun K hK => ?_) AllReadyH.nil
        (try simp only [Act.put, List.getElem_toArray, List.getElem_cons_zero, List.getElem_cons_succ, List.setIfInBounds_toArray, List.set_cons_zero, List.set_cons_succ])
        go_simp
        (try simp only [])
        refine hK.out _ _ ?_ (fun hHeld' => ?_)
        · (try dsimp only)
          all_goals trivial
        clear hK K hHeld
        have hHeld := hHeld'
        clear hHeld'
        (try simp only [Act.put, List.getElem_toArray, List.getElem_cons_zero, List.getElem_cons_succ, List.setIfInBounds_toArray, List.set_cons_zero, List.set_cons_succ])
        refine wpAnyH_done (by kernel_rfl) ?_ _
        clear b0 b1 y0 y1 DX R0 R1 hHeld
        generalize ((x3.setCell ⟨w.heap.size + 1 + 1 + 1, 0, none⟩ (.slice p0 TA.length q0)).setCell ⟨w.heap.size + 1 + 1 + 1, 1, none⟩ (.slice pn (TU.length + 1) cn)) = x4 at *
        obtain ⟨sc, hsc⟩ := DS.out.src
        have CCH : Hid _ := chance_any g len cap ao zs (k + 1 + n3) sc x4 hsc DS.out.row HN.out hl (by omega) (by omega)
        clear hsc
        have HSZ2 : Hid (∀ t ∈ TA ++ (TU ++ [tx]), t.size ≤ 5) := fun t ht => by
          rw [← List.append_assoc, List.mem_append, List.mem_singleton] at ht
          rcases ht with ht | ht
          · exact HSZ.out t ht
          · rw [ht]; omega
        go_wp2_with fail
        refine Calls.mono CCH.out ?_
        rintro e x5 ⟨b, t3, rfl, hS3, hG3⟩
        have D5 := di_by DS hgw ⟨t3, hS3⟩ (row_grown DS.out.row HN.out hG3) hG3
        clear hS3 hG3 CCH DS
        cases b with
        | false =>
          go_wp2
          go_roundw
          case rel => exact ⟨j, _, _, TA, TU ++ [tx], k + 1 + n3 + 1, by go_num, by simp; omega, HSZ2.out, by omega, by omega, D5.out⟩
          case measure => simp [intOf]
        | true =>
          have e0 := D5.out.c0
          have e1 := D5.out.c1
          go_wp2_with fail
          refine Calls.mono (CS.out _ tx pn cn D5.out.r0.row D5.out.r1.row (by have := D5.out.size; omega)) ?_
          rintro e x6 ⟨sa, sb, sc2, sd2, rfl, hb, hq0, hq1⟩
          have D6 := di_below D5 hb
          have Q0 : Hid _ := hq0
          have Q1 : Hid _ := hq1
          clear hb hq0 hq1 e0 e1 D5
          have DS := di_store D6 hgw HOLD.out Q0.out Q1.out
          have b0 := D6.out.c0
          have b1 := D6.out.c1
          have y0 := D6.out.th.f0
          have y1 := D6.out.th.f1
          clear D6 Q0 Q1
          go_wp2
          go_roundw
          case rel => exact ⟨j, _, _, TA ++ (TU ++ [tx]), [], k + 1 + n3 + 1, by go_num, by simp; omega, by rw [List.append_nil]; exact HSZ2.out, by omega, by omega, DS.out⟩
          case measure => simp [intOf]
      · (try simp only [Act.put, List.getElem_toArray, List.getElem_cons_zero, List.getElem_cons_succ, List.setIfInBounds_toArray, List.set_cons_zero, List.set_cons_succ])
        obtain ⟨sa, hsa⟩ := DX.out.src
        go_simp
        go_at_call 27
        refine (next_any g len cap ao zs k sa 6 (by omega) (by omega) _ hsa DX.out.row HN.out hl (by omega) (by omega)).mono ?_
        rintro e x1 ⟨n2, t1, ⟨m0, m1⟩, rfl, hS1, hG1⟩
        replace DX := di_by DX hgw ⟨t1, hS1⟩ (row_grown DX.out.row HN.out hG1) hG1
        clear hsa hS1 hG1
        refine hK.out _ _ ?_ (fun hHeld' => ?_)
        · (try dsimp only)
          all_goals trivial
        clear hK K hHeld
        have hHeld := hHeld'
        clear hHeld'
        (try simp only [Act.put, List.getElem_toArray, List.getElem_cons_zero, List.getElem_cons_succ, List.setIfInBounds_toArray, List.set_cons_zero, List.set_cons_succ])
        obtain ⟨n3, rfl⟩ : ∃ n3 : Nat, n2 = (n3 : Int) := ⟨n2.toNat, by omega⟩
        refine wpAnyH_ready (rs := [0, 4]) (by kernel_rfl) (by simp) ?_
        refine AllReadyH.cons rfl (fun K hK => ?_) (AllReadyH.cons rfl (fun K hK => ?_) AllReadyH.nil)
        · (try simp only [Act.put, List.getElem_toArray, List.getElem_cons_zero, List.getElem_cons_succ, List.setIfInBounds_toArray, List.set_cons_zero, List.set_cons_succ])
          have e0 := DX.out.c0
          have e1 := DX.out.c1
          go_simp
          (try simp only [])
          refine hK.out _ _ ?_ (fun hHeld' => ?_)
          · (try dsimp only)
            all_goals trivial
          clear hK K hHeld
          have hHeld := hHeld'
          clear hHeld'
          (try simp only [Act.put, List.getElem_toArray, List.getElem_cons_zero, List.getElem_cons_succ, List.setIfInBounds_toArray, List.set_cons_zero, List.set_cons_succ])
          clear e0 e1
          refine wpAnyH_ready (rs := [4]) (by kernel_rfl) (by simp) ?_
          refine AllReadyH.cons rfl (fun K hK => ?_) AllReadyH.nil
          (try simp only [Act.put, List.getElem_toArray, List.getElem_cons_zero, List.getElem_cons_succ, List.setIfInBounds_toArray, List.set_cons_zero, List.set_cons_succ])
          obtain ⟨sb, hsb⟩ := DX.out.src
          go_simp
          go_at_call 20
          refine (some_any g len cap ao zs (k + 1) sb n3 _ hsb DX.out.row HN.out (fun x hx hc => Nat.lt_of_lt_of_le (HOLD.out x hx hc) DX.out.grown.size) hl (by omega) (by omega) (by omega)).mono ?_
          rintro e x2 ⟨tx, t2, rfl, hts, hS2, hR2, hG2⟩
          replace DX := di_by DX hgw ⟨t2, hS2⟩ hR2 hG2
          clear hsb hS2 hR2 hG2
          refine hK.out _ _ ?_ (fun hHeld' => ?_)
          · (try dsimp only)
            all_goals trivial
          clear hK K hHeld
          have hHeld := hHeld'
          clear hHeld'
          (try simp only [Act.put, List.getElem_toArray, List.getElem_cons_zero, List.getElem_cons_succ, List.setIfInBounds_toArray, List.set_cons_zero, List.set_cons_succ])
          refine wpAnyH_ready (rs := [5]) (by kernel_rfl) (by simp) ?_
          refine AllReadyH.cons rfl (fun K hK => ?_) AllReadyH.nil
          (try simp only [Act.put, List.getElem_toArray, List.getElem_cons_zero, List.getElem_cons_succ, List.setIfInBounds_toArray, List.set_cons_zero, List.set_cons_succ])
          go_simp
          go_at_call 28
          refine Calls.mono (CA.out _ tx (by omega) DX.out.r0.row DX.out.r1.row) ?_
          rintro e x3 ⟨pn, cn, rfl, hb, hv0, hv1, hfr⟩
          have hsz2 := DX.out.size
          replace DX := di_below DX hb
          have R0 : Hid (RowB x3 (.slice p0 TA.length q0) (TA.map sealS) g (w.heap.size + 1 + 1 + 1)) := ⟨hv0, DX.out.r0.ne⟩
          have R1 : Hid (RowB x3 (.slice pn (TU.length + 1) cn) ((TU ++ [tx]).map sealS) g (w.heap.size + 1 + 1 + 1)) := ⟨hv1, fun x n c e => by cases e; have := hfr x rfl; exact ⟨by omega, by omega⟩⟩
          clear hb hv0 hv1 hfr hsz2
          refine hK.out _ _ ?_ (fun hHeld' => ?_)
          · (try dsimp only)
            all_goals trivial
          clear hK K hHeld
          have hHeld := hHeld'
          clear hHeld'
          (try simp only [Act.put, List.getElem_toArray, List.getElem_cons_zero, List.getElem_cons_succ, List.setIfInBounds_toArray, List.set_cons_zero, List.set_cons_succ])
          have DS := di_store DX hgw HOLD.out R0.out R1.out
          have b0 := DX.out.c0
          have b1 := DX.out.c1
          have y0 := DX.out.th.f0
          have y1 := DX.out.th.f1
          refine wpAnyH_ready (rs := [6]) (by kernel_rfl) (by simp) ?_
          refine AllReadyH.cons rfl (fun K hK => ?_) AllReadyH.nil
          (try simp only [Act.put, List.getElem_toArray, List.getElem_cons_zero, List.getElem_cons_succ, List.setIfInBounds_toArray, List.set_cons_zero, List.set_cons_succ])
          go_simp
          (try simp only [])
          refine hK.out _ _ ?_ (fun hHeld' => ?_)
          · (try dsimp only)
            all_goals trivial
          clear hK K hHeld
          have hHeld := hHeld'
          clear hHeld'
          (try simp only [Act.put, List.getElem_toArray, List.getElem_cons_zero, List.getElem_cons_succ, List.setIfInBounds_toArray, List.set_cons_zero, List.set_cons_succ])
          refine wpAnyH_done (by kernel_rfl) ?_ _
          clear b0 b1 y0 y1 DX R0 R1 hHeld
          generalize ((x3.setCell ⟨w.heap.size + 1 + 1 + 1, 0, none⟩ (.slice p0 TA.length q0)).setCell ⟨w.heap.size + 1 + 1 + 1, 1, none⟩ (.slice pn (TU.length + 1) cn)) = x4 at *
          obtain ⟨sc, hsc⟩ := DS.out.src
          have CCH : Hid _ := chance_any g len cap ao zs (k + 1 + n3) sc x4 hsc DS.out.row HN.out hl (by omega) (by omega)
          clear hsc
          have HSZ2 : Hid (∀ t ∈ TA ++ (TU ++ [tx]), t.size ≤ 5) := fun t ht => by
            rw [← List.append_assoc, List.mem_append, List.mem_singleton] at ht
            rcases ht with ht | ht
            · exact HSZ.out t ht
            · rw [ht]; omega
          go_wp2_with fail
          refine Calls.mono CCH.out ?_
          rintro e x5 ⟨b, t3, rfl, hS3, hG3⟩
          have D5 := di_by DS hgw ⟨t3, hS3⟩ (row_grown DS.out.row HN.out hG3) hG3
          clear hS3 hG3 CCH DS
          cases b with
          | false =>
            go_wp2
            go_roundw
            case rel => exact ⟨j, _, _, TA, TU ++ [tx], k + 1 + n3 + 1, by go_num, by simp; omega, HSZ2.out, by omega, by omega, D5.out⟩
            case measure => simp [intOf]
          | true =>
            have e0 := D5.out.c0
            have e1 := D5.out.c1
            go_wp2_with fail
            refine Calls.mono (CS.out _ tx pn cn D5.out.r0.row D5.out.r1.row (by have := D5.out.size; omega)) ?_
            rintro e x6 ⟨sa, sb, sc2, sd2, rfl, hb, hq0, hq1⟩
            have D6 := di_below D5 hb
            have Q0 : Hid _ := hq0
            have Q1 : Hid _ := hq1
            clear hb hq0 hq1 e0 e1 D5
            have DS := di_store D6 hgw HOLD.out Q0.out Q1.out
            have b0 := D6.out.c0
            have b1 := D6.out.c1
            have y0 := D6.out.th.f0
            have y1 := D6.out.th.f1
            clear D6 Q0 Q1
            go_wp2
            go_roundw
            case rel => exact ⟨j, _, _, TA ++ (TU ++ [tx]), [], k + 1 + n3 + 1, by go_num, by simp; omega, by rw [List.append_nil]; exact HSZ2.out, by omega, by omega, DS.out⟩
            case measure => simp [intOf]
        · (try simp only [Act.put, List.getElem_toArray, List.getElem_cons_zero, List.getElem_cons_succ, List.setIfInBounds_toArray, List.set_cons_zero, List.set_cons_succ])
          obtain ⟨sb, hsb⟩ := DX.out.src
          go_simp
          go_at_call 20
          refine (some_any g len cap ao zs (k + 1) sb n3 _ hsb DX.out.row HN.out (fun x hx hc => Nat.lt_of_lt_of_le (HOLD.out x hx hc) DX.out.grown.size) hl (by omega) (by omega) (by omega)).mono ?_
          rintro e x2 ⟨tx, t2, rfl, hts, hS2, hR2, hG2⟩
          replace DX := di_by DX hgw ⟨t2, hS2⟩ hR2 hG2
          clear hsb hS2 hR2 hG2
          refine hK.out _ _ ?_ (fun hHeld' => ?_)
          · (try dsimp only)
            all_goals trivial
          clear hK K hHeld
          have hHeld := hHeld'
          clear hHeld'
          (try simp only [Act.put, List.getElem_toArray, List.getElem_cons_zero, List.getElem_cons_succ, List.setIfInBounds_toArray, List.set_cons_zero, List.set_cons_succ])
          refine wpAnyH_ready (rs := [0]) (by kernel_rfl) (by simp) ?_
          refine AllReadyH.cons rfl (fun K hK => ?_) AllReadyH.nil
          (try simp only [Act.put, List.getElem_toArray, List.getElem_cons_zero, List.getElem_cons_succ, List.setIfInBounds_toArray, List.set_cons_zero, List.set_cons_succ])
          have e0 := DX.out.c0
          have e1 := DX.out.c1
          go_simp
          (try simp only [])
          refine hK.out _ _ ?_ (fun hHeld' => ?_)
          · (try dsimp only)
            all_goals trivial
          clear hK K hHeld
          have hHeld := hHeld'
          clear hHeld'
          (try simp only [Act.put, List.getElem_toArray, List.getElem_cons_zero, List.getElem_cons_succ, List.setIfInBounds_toArray, List.set_cons_zero, List.set_cons_succ])
          clear e0 e1
          refine wpAnyH_ready (rs := [5]) (by kernel_rfl) (by simp) ?_
          refine AllReadyH.cons rfl (fun K hK => ?_) AllReadyH.nil
          (try simp only [Act.put, List.getElem_toArray, List.getElem_cons_zero, List.getElem_cons_succ, List.setIfInBounds_toArray, List.set_cons_zero, List.set_cons_succ])
          go_simp
          go_at_call 28
          refine Calls.mono (CA.out _ tx (by omega) DX.out.r0.row DX.out.r1.row) ?_
          rintro e x3 ⟨pn, cn, rfl, hb, hv0, hv1, hfr⟩
          have hsz2 := DX.out.size
          replace DX := di_below DX hb
          have R0 : Hid (RowB x3 (.slice p0 TA.length q0) (TA.map sealS) g (w.heap.size + 1 + 1 + 1)) := ⟨hv0, DX.out.r0.ne⟩
          have R1 : Hid (RowB x3 (.slice pn (TU.length + 1) cn) ((TU ++ [tx]).map sealS) g (w.heap.size + 1 + 1 + 1)) := ⟨hv1, fun x n c e => by cases e; have := hfr x rfl; exact ⟨by omega, by omega⟩⟩
          clear hb hv0 hv1 hfr hsz2
          refine hK.out _ _ ?_ (fun hHeld' => ?_)
          · (try dsimp only)
            all_goals trivial
          clear hK K hHeld
          have hHeld := hHeld'
          clear hHeld'
          (try simp only [Act.put, List.getElem_toArray, List.getElem_cons_zero, List.getElem_cons_succ, List.setIfInBounds_toArray, List.set_cons_zero, List.set_cons_succ])
          have DS := di_store DX hgw HOLD.out R0.out R1.out
          have b0 := DX.out.c0
          have b1 := DX.out.c1
          have y0 := DX.out.th.f0
          have y1 := DX.out.th.f1
          refine wpAnyH_ready (rs := [6]) (by kernel_rfl) (by simp) ?_
          refine AllReadyH.cons rfl (fun K hK => ?_) AllReadyH.nil
          (try simp only [Act.put, List.getElem_toArray, List.getElem_cons_zero, List.getElem_cons_succ, List.setIfInBounds_toArray, List.set_cons_zero, List.set_cons_succ])
          go_simp
          (try simp only [])
          refine hK.out _ _ ?_ (fun hHeld' => ?_)
          · (try dsimp only)
            all_goals trivial
          clear hK K hHeld
          have hHeld := hHeld'
          clear hHeld'
          (try simp only [Act.put, List.getElem_toArray, List.getElem_cons_zero, List.getElem_cons_succ, List.setIfInBounds_toArray, List.set_cons_zero, List.set_cons_succ])
          refine wpAnyH_done (by kernel_rfl) ?_ _
          clear b0 b1 y0 y1 DX R0 R1 hHeld
          generalize ((x3.setCell ⟨w.heap.size + 1 + 1 + 1, 0, none⟩ (.slice p0 TA.length q0)).setCell ⟨w.heap.size + 1 + 1 + 1, 1, none⟩ (.slice pn (TU.length + 1) cn)) = x4 at *
          obtain ⟨sc, hsc⟩ := DS.out.src
          have CCH : Hid _ := chance_any g len cap ao zs (k + 1 + n3) sc x4 hsc DS.out.row HN.out hl (by omega) (by omega)
          clear hsc
          have HSZ2 : Hid (∀ t ∈ TA ++ (TU ++ [tx]), t.size ≤ 5) := fun t ht => by
            rw [← List.append_assoc, List.mem_append, List.mem_singleton] at ht
            rcases ht with ht | ht
            · exact HSZ.out t ht
            · rw [ht]; omega
          go_wp2_with fail
          refine Calls.mono CCH.out ?_
          rintro e x5 ⟨b, t3, rfl, hS3, hG3⟩
          have D5 := di_by DS hgw ⟨t3, hS3⟩ (row_grown DS.out.row HN.out hG3) hG3
          clear hS3 hG3 CCH DS
          cases b with
          | false =>
            go_wp2
            go_roundw
            case rel => exact ⟨j, _, _, TA, TU ++ [tx], k + 1 + n3 + 1, by go_num, by simp; omega, HSZ2.out, by omega, by omega, D5.out⟩
            case measure => simp [intOf]
          | true =>
            have e0 := D5.out.c0
            have e1 := D5.out.c1
            go_wp2_with fail
            refine Calls.mono (CS.out _ tx pn cn D5.out.r0.row D5.out.r1.row (by have := D5.out.size; omega)) ?_
            rintro e x6 ⟨sa, sb, sc2, sd2, rfl, hb, hq0, hq1⟩
            have D6 := di_below D5 hb
            have Q0 : Hid _ := hq0
            have Q1 : Hid _ := hq1
            clear hb hq0 hq1 e0 e1 D5
            have DS := di_store D6 hgw HOLD.out Q0.out Q1.out
            have b0 := D6.out.c0
            have b1 := D6.out.c1
            have y0 := D6.out.th.f0
            have y1 := D6.out.th.f1
            clear D6 Q0 Q1
            go_wp2
            go_roundw
            case rel => exact ⟨j, _, _, TA ++ (TU ++ [tx]), [], k + 1 + n3 + 1, by go_num, by simp; omega, by rw [List.append_nil]; exact HSZ2.out, by omega, by omega, DS.out⟩
            case measure => simp [intOf]
    · have hi' : ¬ (0 : Int) < (i : Int) := by omega
      clear CA CS
      have CO : Hid (∀ W : World, RowV W (.slice p0 TA.length q0) (TA.map sealS) → RowV W (.slice p1 TU.length q1) (TU.map sealS) → Calls Tryd.prog 31 #[.agg #[(.slice p0 TA.length q0), (.slice p1 TU.length q1)]] W fun e w' => ∃ a b c d, e = .returned (.agg #[.slice a TA.length b, .slice c TU.length d]) ∧ Below W.heap.size W w' ∧ Own2 w' (.slice a TA.length b) (.slice c TU.length d) (TA.map sealS) (TU.map sealS) W.heap.size w'.heap.size) := fun W h0 h1 => by
        have := l04Own_any (.slice p0 TA.length q0) (.slice p1 TU.length q1) (TA.map sealS) (TU.map sealS) W (by rw [List.length_map]; omega) (by rw [List.length_map]; omega) h0 h1
        refine this.mono ?_
        rintro e w' ⟨a, b, c, d, h1, h2, h3⟩
        rw [List.length_map, List.length_map] at h1 h3
        exact ⟨a, b, c, d, h1, h2, h3⟩
      go_wp2_with fail
      refine Calls.mono (CO.out _ DD.out.r0.row DD.out.r1.row) ?_
      rintro e x1 ⟨a, b, c, d, rfl, hb, hO⟩
      have D1 := di_below DD hb
      have hsz := DD.out.size
      have OX : Hid (Own2 x1 (.slice a TA.length b) (.slice c TU.length d) (TA.map sealS) (TU.map sealS) (w.heap.size + 4) x1.heap.size) := hO.weak hsz (Nat.le_refl _)
      clear hb hO DD d0 d1 CO
      obtain ⟨⟨⟨u0, T0⟩, ⟨u1, T1⟩⟩, Z0, Z1⟩ := D1.out.t2
      have TT := D1.out.t2
      go_wp2_with fail
      refine bodyPost_ret (v := .agg #[.slice a TA.length b, .slice c TU.length d]) (by simp [results, Tryd.results15, go_sem, set2_cells TT, *]) rfl ?_
      have O9 := Own2.set (g := w.heap.size) (o := 1) (u := .slice c TU.length d) (Own2.set (g := w.heap.size) (o := 0) (u := .slice a TA.length b) OX.out (Or.inl (by omega))) (Or.inl (by omega))
      refine ⟨TA, TU, a, c, b, d, rfl, by omega, HSZ.out, ?_, own_rowX O9.r0, own_rowX O9.r1, fun x hx => (by have := own_geX O9.r0 (lo := w.heap.size + 4) (fun k hk => (O9.b0 k hk).1) x hx; omega), fun x hx => (by have := own_geX O9.r1 (lo := w.heap.size + 4) (fun k hk => (O9.b1 k hk).1) x hx; omega)⟩
      exact grown_then (grown_then D1.out.grown (grown_set _ _ _ _) (fun j e => by cases e; exact .inl (Nat.le_refl _))) (grown_set _ _ _ _) (fun j e => by cases e; exact .inl (Nat.le_refl _))
/-- What DiskOf leaves. -/
def DoP (w : World) (e : Ending) (w' : World) : Prop := ∃ (TA TU : List ByteArray) (p0 p1 : Option Addr) (c0 c1 : Nat), e = .returned (.agg #[.slice p0 TA.length c0, .slice p1 TU.length c1]) ∧ TA.length + TU.length ≤ 8 ∧ (∀ t ∈ TA ++ TU, t.size ≤ 5) ∧ Below w.heap.size w w' ∧ RowV w' (.slice p0 TA.length c0) (TA.map sealS) ∧ RowV w' (.slice p1 TU.length c1) (TU.map sealS)
set_option maxHeartbeats 2000000 in
theorem diskOf_any (ao : Option Addr) (len cap : Nat) (zs : List Int) (w : World) (hl : (len : Int) ≤ 1048576) (hr0 : Gen.IsRow .u8 w ao len cap zs) :
    Calls Tryd.prog 4 #[.slice ao len cap] w fun e w' => DoP w e w' := by
  have RR : Hid (Gen.IsRow .u8 w ao len cap zs) := hr0
  clear hr0
  have B0 : Hid (∀ o o', Below w.heap.size w ((w.alloc o).alloc o')) := fun o o' => ((Below.refl _ _).alloc (Nat.le_refl _) _).alloc (by simp) _
  have CD : Hid (∀ o : Obj, Calls Tryd.prog 15 #[.pointer (some ⟨w.heap.size + 1, 0, none⟩)] ((w.alloc o).alloc (.cells #[.slice ao len cap, .int .i64 0, .int .i64 ((len : Int) % 1000)] 52)) fun e w' => DkP ((w.alloc o).alloc (.cells #[.slice ao len cap, .int .i64 0, .int .i64 ((len : Int) % 1000)] 52)) (w.heap.size + 1) e w') := fun o => by
    refine disk_any (w.heap.size + 1) len cap ao zs ((len : Int) % 1000) _ ?_ (row_below RR.out (B0.out _ _)) (fun x hx hc => by have := row_lt RR.out x hx hc; omega) (fun x hx hc => by have := row_lt RR.out x hx hc; simp; omega) hl
    exact ⟨by go_simp, by go_simp, by go_simp, by go_simp, by go_simp, by simp, by omega, by omega⟩
  go_enter Tryd.func4, Tryd.ntmps4
  go_wp2_with fail
  refine (source_any len cap ao _ hl).mono ?_
  rintro e w1 ⟨rfl, rfl⟩
  go_wp2_with fail
  refine Calls.mono (CD.out _) ?_
  rintro e w2 ⟨TA, TU, p0, p1, c0, c1, rfl, hle, hsz, hg, hr0, hr1, hx0, hx1⟩
  have hz2 := hg.size
  simp at hz2
  have c0' := grown_cell hg (b := w.heap.size) (o := 0) (v := .slice none 0 0) (by go_simp) (by omega)
  have c1' := grown_cell hg (b := w.heap.size) (o := 1) (v := .slice none 0 0) (by go_simp) (by omega)
  have f0' := grown_frozen hg (b := w.heap.size) (o := 0) (by go_simp) (by simp; omega) (by omega)
  have f1' := grown_frozen hg (b := w.heap.size) (o := 1) (by go_simp) (by simp; omega) (by omega)
  have TT : Th2 w2 w.heap.size := ⟨⟨⟨_, c0'⟩, ⟨_, c1'⟩⟩, f0', f1'⟩
  have BX : Below w.heap.size w w2 := grown_below ((World.grownBy_alloc w _ _).trans ((World.grownBy_alloc _ _ _).trans hg)) (Nat.le_refl _) (by omega)
  have HB : Hid _ := BX
  have HSZ : Hid _ := hsz
  have RX0 : Hid (RowV ((w2.setCell ⟨w.heap.size, 0, none⟩ (.slice p0 TA.length c0)).setCell ⟨w.heap.size, 1, none⟩ (.slice p1 TU.length c1)) (.slice p0 TA.length c0) (TA.map sealS)) := by
    obtain ⟨a, c, e, hc, ht⟩ := hr0
    obtain ⟨e1, e2, e3⟩ := Value.slice.inj e
    subst e1
    subst e3
    refine ⟨p0, c0, e, hc, trow_set (trow_set ht (fun x hx => ?_)) (fun x hx => ?_)⟩ <;> (have := hx0 x hx; simp at this; omega)
  have RX1 : Hid (RowV ((w2.setCell ⟨w.heap.size, 0, none⟩ (.slice p0 TA.length c0)).setCell ⟨w.heap.size, 1, none⟩ (.slice p1 TU.length c1)) (.slice p1 TU.length c1) (TU.map sealS)) := by
    obtain ⟨a, c, e, hc, ht⟩ := hr1
    obtain ⟨e1, e2, e3⟩ := Value.slice.inj e
    subst e1
    subst e3
    refine ⟨p1, c1, e, hc, trow_set (trow_set ht (fun x hx => ?_)) (fun x hx => ?_)⟩ <;> (have := hx1 x hx; simp at this; omega)
  have B9 : Hid (Below w.heap.size w ((w2.setCell ⟨w.heap.size, 0, none⟩ (.slice p0 TA.length c0)).setCell ⟨w.heap.size, 1, none⟩ (.slice p1 TU.length c1))) := bel_set (bel_set BX (Nat.le_refl _)) (Nat.le_refl _)
  clear hr0 hr1 hx0 hx1 hg BX hsz hz2 CD
  go_wp2_with fail
  refine bodyPost_ret (v := .agg #[.slice p0 TA.length c0, .slice p1 TU.length c1]) (by simp [results, Tryd.results4, go_sem, set2_cells TT, *]) rfl ?_
  exact ⟨TA, TU, p0, p1, c0, c1, rfl, hle, HSZ.out, B9.out, RX0.out, RX1.out⟩
end Go.Proofs.YthblnifapkfbcaaDoor
