/- Rows that are right, on the specification's side. -/
import Derived.Test.YtomcpdbaenohdaaRows
import Derived.WalkKit
import Derived.WalkSpells
import Derived.WalkLawsBesides
import Derived.Deep.QuietTactic
import Derived.BigQuiet
import Derived.Deep.RegionHeld3
import Derived.Test.YtomcpdbaenohdaaRq
import Derived.LoopN
import Derived.OwnWalk
import Derived.Laws.StructEq
namespace Go.Proofs.Ytomcpdbaenohdaa
open Go.RowKit
set_option linter.unusedSimpArgs false
set_option linter.unusedVariables false

set_option maxRecDepth 20000 in
set_option maxHeartbeats 16000000 in
theorem specRows (lo q : Nat) (p : Option Addr) (ms : List Rm) (w : World) (hm : (ms.length : Int) ≤ 1048576) (hx : ∀ x ∈ ms, (x.r.vs.length : Int) ≤ 1048576) (hks : ∀ x ∈ ms, x.r.key.size < 1099511627776) (hr0 : RR lo w p ms) :
    Calls Try.prog 7 #[.slice p ms.length q] w (Told (rowsP ms) w) := by
  have hr : Hid _ := hr0.row.r
  have hu : Hid (∀ m ∈ ms, GRow lo w m.p (ints m.r.vs)) := hr0.sub
  clear hr0
  by_cases h1 : 4096 < (ms.length : Int)
  case pos =>
    have HN : Hid (¬ rowsP ms) := fun h => by have := h.1; omega
    clear hr hu
    go_enter Try.func7, Try.ntmps7
    go_wp2
    go_ret
    exact ⟨false, rfl, by simp [HN.out], Below.refl _ _⟩
  go_enter Try.func7, Try.ntmps7
  go_wp2
  go_loopw [3, 4, 5] (fun s3 _ _ wr => ∃ k : Nat, k ≤ ms.length ∧ s3 = .int .i64 k ∧ rowsTo ms k ∧ Below w.heap.size w wr) (fun s3 _ _ _ => ms.length - (intOf s3).toNat)
  case atStart => exact ⟨0, by omega, rfl, rowsTo_zero _, Below.refl _ _⟩
  case round =>
    obtain ⟨k, hk, rfl, hV0, hB0⟩ := hrel
    have HV : Hid (rowsTo ms k) := hV0
    have HB : Hid (Below w.heap.size w wr) := hB0
    clear hV0 hB0
    by_cases hkl : k < ms.length
    · have hkl' : (k : Int) < (ms.length : Int) := by omega
      have k0 : (0 : Int) ≤ (k : Int) := by omega
      rcases hr.out with h' | ⟨b, off, rfl, _, h2⟩
      · rw [h'] at hkl; simp at hkl
      have hc := (h2 k hkl).next HB.out (cell_lt (x := ⟨b, off + k * 3, none⟩) (h2 k hkl).1)
      obtain ⟨c0, c1, c2⟩ := hc
      have HZ : Hid (∀ j (h : j < ms.length) W, Below w.heap.size w W → RAt W b (off + j * 3) ms[j] ∧ b < W.heap.size) := fun j h W hW => ⟨(h2 j h).next hW (cell_lt (x := ⟨b, off + j * 3, none⟩) (h2 j h).1), Nat.lt_of_lt_of_le (cell_lt (x := ⟨b, off + j * 3, none⟩) (h2 j h).1) hW.size⟩
      have HG : Hid (GRow lo w ms[k].p (ints ms[k].r.vs)) := hu.out _ (List.getElem_mem _)
      have HKS : Hid (ms[k].r.key.size < 1099511627776) := hks _ (List.getElem_mem _)
      have HS : Hid (rowP ms[k].r → (∀ j (hj : j < ms.length), j + 1 = k → lessP ms[j].r ms[k].r) → rowsTo ms (k + 1)) := rowsTo_succ HV.out hkl
      have HNR : Hid (¬ rowP ms[k].r → ¬ rowsP ms) := rowsP_no1 hkl
      have HN2 : Hid (∀ j (hj : j < ms.length), j + 1 = k → ¬ lessP ms[j].r ms[k].r → ¬ rowsP ms) := fun j hj e h => rowsP_no2 hkl hj e h
      clear h2 HV
      generalize ms[k] = x at *
      go_upto_region 7 with fail
      refine wp_gen (fun W => Box W wr.heap.size [.int .i64 x.r.part, .string x.r.key, .slice x.p x.r.vs.length x.q] ∧ Below wr.heap.size wr W) ⟨box_mk, bel_alloc _ _⟩ (fun W1 hI => ?_)
      have Y : Hid (Box W1 wr.heap.size [.int .i64 x.r.part, .string x.r.key, .slice x.p x.r.vs.length x.q] ∧ Below w.heap.size w W1) := ⟨hI.1, HB.out.trans (hI.2.mono HB.out.size)⟩
      clear hI c0 c1 c2 HB
      by_cases hP : 0 ≤ x.r.part ∧ x.r.part ≤ 3
      case neg =>
        have HN : Hid (¬ rowsP ms) := HNR.out (fun h => hP h.1.1)
        have HPf : Hid (¬ (0 ≤ x.r.part ∧ x.r.part ≤ 3)) := hP
        clear HZ HS HNR HN2 hP
        refine wp_region_held_drew (S := (fun w' => (w'.cell? ⟨wr.heap.size, 0, none⟩ = some (.int .i64 x.r.part) ∧ w'.cell? ⟨wr.heap.size, 1, none⟩ = some (.string x.r.key) ∧ w'.cell? ⟨wr.heap.size, 2, none⟩ = some (.slice x.p x.r.vs.length x.q)))) (by kernel_rfl) ?_ (fun hHeld => ?_)
        · (try dsimp only)
          exact (Y.out.1.next (bel_drew _)).c3
        replace Y : Hid (Box W1.drew wr.heap.size [.int .i64 x.r.part, .string x.r.key, .slice x.p x.r.vs.length x.q] ∧ Below w.heap.size w W1.drew) := ⟨Y.out.1.next (bel_drew _), Y.out.2.drew⟩
        generalize W1.drew = V1 at *
        refine wTk 0 ?_
        refine wTk 1 ?_
        refine wRd 2 (fun K hK => ?_)
        go_simp
        go_at_call 18
        refine (in_no _ _ _ _ HPf.out).mono ?_
        rintro e V2 ⟨rfl, rfl⟩
        (try simp only [])
        refine wHk hK Y.out.1.c3 ?_
        clear hK K hHeld
        intro hHeld
        refine wTk 3 ?_
        refine wTk 4 ?_
        refine wTn 5 ?_
        refine wTn 6 ?_
        refine wTn 7 ?_
        refine wTn 8 ?_
        refine wTk 9 ?_
        refine wTk 10 ?_
        refine wTn 11 ?_
        refine wTn 12 ?_
        refine wTn 13 ?_
        refine wTn 14 ?_
        refine wTn 15 ?_
        refine wTk 16 ?_
        refine wTk 17 ?_
        refine wTn 18 ?_
        refine wTn 19 ?_
        refine wTn 20 ?_
        refine wTn 21 ?_
        refine wTn 22 ?_
        refine wTn 23 ?_
        refine wTn 24 ?_
        refine wTn 25 ?_
        refine wTn 26 ?_
        refine wTn 27 ?_
        refine wTn 28 ?_
        refine wTn 29 ?_
        refine wTk 30 ?_
        refine wpAnyH_done (by kernel_rfl) ?_ _
        clear hHeld
        go_wp2
        go_ret
        exact ⟨false, rfl, by simp [HN.out], Y.out.2⟩
      have HPt : Hid (0 ≤ x.r.part ∧ x.r.part ≤ 3) := hP
      clear hP
      by_cases hK : keyP x.r.key
      case neg =>
        have HN : Hid (¬ rowsP ms) := HNR.out (fun h => hK h.1.2.1)
        have HKf : Hid (¬ keyP x.r.key) := hK
        clear HZ HS HNR HN2 hK
        refine wp_region_held_drew (S := (fun w' => (w'.cell? ⟨wr.heap.size, 0, none⟩ = some (.int .i64 x.r.part) ∧ w'.cell? ⟨wr.heap.size, 1, none⟩ = some (.string x.r.key) ∧ w'.cell? ⟨wr.heap.size, 2, none⟩ = some (.slice x.p x.r.vs.length x.q)))) (by kernel_rfl) ?_ (fun hHeld => ?_)
        · (try dsimp only)
          exact (Y.out.1.next (bel_drew _)).c3
        replace Y : Hid (Box W1.drew wr.heap.size [.int .i64 x.r.part, .string x.r.key, .slice x.p x.r.vs.length x.q] ∧ Below w.heap.size w W1.drew) := ⟨Y.out.1.next (bel_drew _), Y.out.2.drew⟩
        generalize W1.drew = V1 at *
        refine wTk 0 ?_
        refine wTk 1 ?_
        refine wRd 2 (fun K hK => ?_)
        go_simp
        go_at_call 18
        refine (in_yes _ _ _ _ HPt.out.1 HPt.out.2).mono ?_
        rintro e V2 ⟨rfl, rfl⟩
        (try simp only [])
        refine wHk hK Y.out.1.c3 ?_
        clear hK K hHeld
        intro hHeld
        refine wTk 3 ?_
        refine wTk 4 ?_
        refine wTk 5 ?_
        refine wTk 6 ?_
        refine wRd 7 (fun K hK => ?_)
        go_simp
        go_at_call 19
        refine (specKey_any x.r.key false (by simp [HKf.out]) _ HKS.out).mono ?_
        rintro e V2 ⟨rfl, rfl⟩
        (try simp only [])
        refine wHk hK Y.out.1.c3 ?_
        clear hK K hHeld
        intro hHeld
        refine wTk 8 ?_
        refine wTk 9 ?_
        refine wTk 10 ?_
        refine wTn 11 ?_
        refine wTn 12 ?_
        refine wTn 13 ?_
        refine wTn 14 ?_
        refine wTn 15 ?_
        refine wTk 16 ?_
        refine wTk 17 ?_
        refine wTn 18 ?_
        refine wTn 19 ?_
        refine wTn 20 ?_
        refine wTn 21 ?_
        refine wTn 22 ?_
        refine wTn 23 ?_
        refine wTn 24 ?_
        refine wTn 25 ?_
        refine wTn 26 ?_
        refine wTn 27 ?_
        refine wTn 28 ?_
        refine wTn 29 ?_
        refine wTk 30 ?_
        refine wpAnyH_done (by kernel_rfl) ?_ _
        clear hHeld
        go_wp2
        go_ret
        exact ⟨false, rfl, by simp [HN.out], Y.out.2⟩
      have HKt : Hid (keyP x.r.key) := hK
      clear hK
      by_cases hL : (1 : Int) ≤ (x.r.vs.length : Int) ∧ (x.r.vs.length : Int) ≤ 100
      case neg =>
        have HN : Hid (¬ rowsP ms) := HNR.out (fun h => hL (by have h1 := h.1.2.2.1; have h2 := h.1.2.2.2; omega))
        have HLf : Hid (¬ ((1 : Int) ≤ (x.r.vs.length : Int) ∧ (x.r.vs.length : Int) ≤ 100)) := hL
        clear HZ HS HNR HN2 hL
        refine wp_region_held_drew (S := (fun w' => (w'.cell? ⟨wr.heap.size, 0, none⟩ = some (.int .i64 x.r.part) ∧ w'.cell? ⟨wr.heap.size, 1, none⟩ = some (.string x.r.key) ∧ w'.cell? ⟨wr.heap.size, 2, none⟩ = some (.slice x.p x.r.vs.length x.q)))) (by kernel_rfl) ?_ (fun hHeld => ?_)
        · (try dsimp only)
          exact (Y.out.1.next (bel_drew _)).c3
        replace Y : Hid (Box W1.drew wr.heap.size [.int .i64 x.r.part, .string x.r.key, .slice x.p x.r.vs.length x.q] ∧ Below w.heap.size w W1.drew) := ⟨Y.out.1.next (bel_drew _), Y.out.2.drew⟩
        generalize W1.drew = V1 at *
        refine wTk 0 ?_
        refine wTk 1 ?_
        refine wRd 2 (fun K hK => ?_)
        go_simp
        go_at_call 18
        refine (in_yes _ _ _ _ HPt.out.1 HPt.out.2).mono ?_
        rintro e V2 ⟨rfl, rfl⟩
        (try simp only [])
        refine wHk hK Y.out.1.c3 ?_
        clear hK K hHeld
        intro hHeld
        refine wTk 3 ?_
        refine wTk 4 ?_
        refine wTk 5 ?_
        refine wTk 6 ?_
        refine wRd 7 (fun K hK => ?_)
        go_simp
        go_at_call 19
        refine (specKey_any x.r.key true (by simp [HKt.out]) _ HKS.out).mono ?_
        rintro e V2 ⟨rfl, rfl⟩
        (try simp only [])
        refine wHk hK Y.out.1.c3 ?_
        clear hK K hHeld
        intro hHeld
        refine wTk 8 ?_
        refine wTk 9 ?_
        refine wTk 10 ?_
        refine wTk 11 ?_
        refine wTk 12 ?_
        refine wTk 13 ?_
        refine wRd 14 (fun K hK => ?_)
        go_simp
        go_at_call 18
        refine (in_no _ _ _ _ HLf.out).mono ?_
        rintro e V2 ⟨rfl, rfl⟩
        (try simp only [])
        refine wHk hK Y.out.1.c3 ?_
        clear hK K hHeld
        intro hHeld
        refine wTk 15 ?_
        refine wTk 16 ?_
        refine wTk 17 ?_
        refine wTn 18 ?_
        refine wTn 19 ?_
        refine wTn 20 ?_
        refine wTn 21 ?_
        refine wTn 22 ?_
        refine wTn 23 ?_
        refine wTn 24 ?_
        refine wTn 25 ?_
        refine wTn 26 ?_
        refine wTn 27 ?_
        refine wTn 28 ?_
        refine wTn 29 ?_
        refine wTk 30 ?_
        refine wpAnyH_done (by kernel_rfl) ?_ _
        clear hHeld
        go_wp2
        go_ret
        exact ⟨false, rfl, by simp [HN.out], Y.out.2⟩
      have HH : Hid (headP x.r) := ⟨HPt.out, HKt.out, by omega, by omega⟩
      obtain ⟨d, og, HP, HGX⟩ : ∃ d og, Hid (x.p = some ⟨d, og, none⟩) ∧ Hid (∀ i (h : i < x.r.vs.length) W, Below w.heap.size w W → W.cell? ⟨d, og + i, none⟩ = some (.int .i64 x.r.vs[i])) := by
        rcases HG.out.i with h' | ⟨d, og, h2, _, h3⟩
        · rw [h'] at hL; simp at hL
        · exact ⟨d, og, h2, fun i h W hW => cell_next hW (h3 i h) (cell_lt (x := ⟨d, og + i, none⟩) (h3 i h))⟩
      obtain ⟨hL1, hL2⟩ := hL
      clear HG
      rcases Nat.eq_zero_or_pos k with hz | hz
      · have HV : Hid (rowP x.r → rowsTo ms (k + 1)) := fun h => HS.out h (fun j hj e => by omega)
        have hdk : decide (0 < k) = false := decide_eq_false (by omega)
        have hz' : ¬ 0 < k := by omega
        clear HZ HS HN2 hz
        refine wp_region_held_drew (S := (fun w' => (w'.cell? ⟨wr.heap.size, 0, none⟩ = some (.int .i64 x.r.part) ∧ w'.cell? ⟨wr.heap.size, 1, none⟩ = some (.string x.r.key) ∧ w'.cell? ⟨wr.heap.size, 2, none⟩ = some (.slice x.p x.r.vs.length x.q)))) (by kernel_rfl) ?_ (fun hHeld => ?_)
        · (try dsimp only)
          exact (Y.out.1.next (bel_drew _)).c3
        replace Y : Hid (Box W1.drew wr.heap.size [.int .i64 x.r.part, .string x.r.key, .slice x.p x.r.vs.length x.q] ∧ Below w.heap.size w W1.drew) := ⟨Y.out.1.next (bel_drew _), Y.out.2.drew⟩
        generalize W1.drew = V1 at *
        refine wTk 0 ?_
        refine wTk 1 ?_
        refine wRd 2 (fun K hK => ?_)
        go_simp
        go_at_call 18
        refine (in_yes _ _ _ _ HPt.out.1 HPt.out.2).mono ?_
        rintro e V2 ⟨rfl, rfl⟩
        (try simp only [])
        refine wHk hK Y.out.1.c3 ?_
        clear hK K hHeld
        intro hHeld
        refine wTk 3 ?_
        refine wTk 4 ?_
        refine wTk 5 ?_
        refine wTk 6 ?_
        refine wRd 7 (fun K hK => ?_)
        go_simp
        go_at_call 19
        refine (specKey_any x.r.key true (by simp [HKt.out]) _ HKS.out).mono ?_
        rintro e V2 ⟨rfl, rfl⟩
        (try simp only [])
        refine wHk hK Y.out.1.c3 ?_
        clear hK K hHeld
        intro hHeld
        refine wTk 8 ?_
        refine wTk 9 ?_
        refine wTk 10 ?_
        refine wTk 11 ?_
        refine wTk 12 ?_
        refine wTk 13 ?_
        refine wRd 14 (fun K hK => ?_)
        go_simp
        go_at_call 18
        refine (in_yes _ _ _ _ (by omega) (by omega)).mono ?_
        rintro e V2 ⟨rfl, rfl⟩
        (try simp only [])
        refine wHk hK Y.out.1.c3 ?_
        clear hK K hHeld
        intro hHeld
        refine wTk 15 ?_
        refine wTk 16 ?_
        refine wTk 17 ?_
        refine wTk 18 ?_
        refine wTk 19 (v := .bool false) ?_
        refine wTk 20 ?_
        refine wTn 21 ?_
        refine wTn 22 ?_
        refine wTn 23 ?_
        refine wTn 24 ?_
        refine wTn 25 ?_
        refine wTn 26 ?_
        refine wTn 27 ?_
        refine wTn 28 ?_
        refine wTk 29 ?_
        refine wTk 30 ?_
        refine wpAnyH_done (by kernel_rfl) ?_ _
        clear hHeld
        obtain ⟨gx, hgx⟩ : ∃ g, g = wr.heap.size := ⟨_, rfl⟩
        rw [← hgx] at Y ⊢
        clear hgx
        go_wp2
        go_loopw [5] (fun s5 wr => ∃ i : Nat, i ≤ x.r.vs.length ∧ s5 = .int .i64 i ∧ valsTo x.r i ∧ Box wr gx [.int .i64 x.r.part, .string x.r.key, .slice (some ⟨d, og, none⟩) x.r.vs.length x.q] ∧ Below w.heap.size w wr) (fun s5 _ => x.r.vs.length - (intOf s5).toNat)
        case atStart => exact ⟨0, by omega, rfl, vals_zero _, HP.out ▸ Y.out.1, Y.out.2⟩
        case round =>
          clear Y
          obtain ⟨i, hi, rfl, hV0, hX0, hB0⟩ := hrel
          have HV2 : Hid (valsTo x.r i) := hV0
          have Y : Hid (Box wr gx [.int .i64 x.r.part, .string x.r.key, .slice (some ⟨d, og, none⟩) x.r.vs.length x.q] ∧ Below w.heap.size w wr) := ⟨hX0, hB0⟩
          clear hV0 hX0 hB0
          obtain ⟨a0, a1, a2⟩ := Y.out.1.c3
          by_cases hil : i < x.r.vs.length
          · have hil' : (i : Int) < (x.r.vs.length : Int) := by omega
            have i0 : (0 : Int) ≤ (i : Int) := by omega
            have HCV : Hid (∀ W, Below w.heap.size w W → W.cell? ⟨d, og + i, none⟩ = some (.int .i64 x.r.vs[i])) := fun W hW => HGX.out i hil W hW
            have HS : Hid ((0 ≤ x.r.vs[i] ∧ x.r.vs[i] ≤ 999) → x.r.vs[i].tmod 4 = x.r.part → (∀ j (hj : j < x.r.vs.length), j + 1 = i → x.r.vs[j] < x.r.vs[i]) → valsTo x.r (i + 1)) := vals_succ HV2.out hil
            have HN1 : Hid (¬ (0 ≤ x.r.vs[i] ∧ x.r.vs[i] ≤ 999) → ¬ rowP x.r) := vals_no1 hil
            have HN2 : Hid (¬ x.r.vs[i].tmod 4 = x.r.part → ¬ rowP x.r) := vals_no2 hil
            have HN3 : Hid (∀ j (hj : j < x.r.vs.length), j + 1 = i → ¬ x.r.vs[j] < x.r.vs[i] → ¬ rowP x.r) := fun j hj e h => vals_no3 hil hj e h
            have HM : Hid (∀ i' (h : i' < x.r.vs.length) W, Below w.heap.size w W → W.cell? ⟨d, og + i', none⟩ = some (.int .i64 x.r.vs[i'])) := HGX.out
            clear HV2
            generalize x.r.vs[i] = v at *
            go_upto_region 12 with fail
            clear a0 a1 a2
            by_cases hv : 0 ≤ v ∧ v ≤ 999
            case neg =>
              have HN : Hid (¬ rowsP ms) := HNR.out (HN1.out hv)
              clear HS HN1 HN2 HN3 HM HNR HV
              refine wp_region_held_drew (S := (fun w' => (w'.cell? ⟨gx, 0, none⟩ = some (.int .i64 x.r.part) ∧ w'.cell? ⟨gx, 1, none⟩ = some (.string x.r.key) ∧ w'.cell? ⟨gx, 2, none⟩ = some (.slice (some ⟨d, og, none⟩) x.r.vs.length x.q)) ∧ w'.cell? ⟨d, og + i, none⟩ = some (.int .i64 v))) (by kernel_rfl) ?_ (fun hHeld => ?_)
              · (try dsimp only)
                exact ⟨(Y.out.1.next (bel_drew _)).c3, HCV.out _ Y.out.2.drew⟩
              replace Y : Hid (Box wr.drew gx [.int .i64 x.r.part, .string x.r.key, .slice (some ⟨d, og, none⟩) x.r.vs.length x.q] ∧ Below w.heap.size w wr.drew) := ⟨Y.out.1.next (bel_drew _), Y.out.2.drew⟩
              have CV : Hid (wr.drew.cell? ⟨d, og + i, none⟩ = some (.int .i64 v)) := HCV.out _ Y.out.2
              generalize wr.drew = V1 at *
              refine wTk 0 ?_
              refine wTk 1 ?_
              refine wTk 2 ?_
              refine wTk 3 ?_
              refine wTk 4 ?_
              refine wRd 5 (fun K hK => ?_)
              go_simp
              go_at_call 18
              refine (in_no _ _ _ _ hv).mono ?_
              rintro e V2 ⟨rfl, rfl⟩
              (try simp only [])
              refine wHk hK ⟨Y.out.1.c3, CV.out⟩ ?_
              clear hK K hHeld
              intro hHeld
              refine wTk 6 ?_
              refine wTk 7 ?_
              refine wTn 8 ?_
              refine wTn 9 ?_
              refine wTn 10 ?_
              refine wTn 11 ?_
              refine wTn 12 ?_
              refine wTn 13 ?_
              refine wTn 14 ?_
              refine wTn 15 ?_
              refine wTn 16 ?_
              refine wTk 17 ?_
              refine wTk 18 ?_
              refine wTn 19 ?_
              refine wTn 20 ?_
              refine wTn 21 ?_
              refine wTn 22 ?_
              refine wTn 23 ?_
              refine wTn 24 ?_
              refine wTn 25 ?_
              refine wTn 26 ?_
              refine wTn 27 ?_
              refine wTn 28 ?_
              refine wTn 29 ?_
              refine wTn 30 ?_
              refine wTn 31 ?_
              refine wTn 32 ?_
              refine wTn 33 ?_
              refine wTn 34 ?_
              refine wTk 35 ?_
              refine wpAnyH_done (by kernel_rfl) ?_ _
              clear hHeld
              go_wp2
              go_ret
              exact ⟨false, rfl, by simp [HN.out], Y.out.2⟩
            have HR := tmod_small hv
            obtain ⟨tm, htm⟩ : ∃ t, v.tmod 4 = t := ⟨_, rfl⟩
            rw [htm] at HS HN2 HR
            by_cases h3 : tm = x.r.part
            case neg =>
              have HN : Hid (¬ rowsP ms) := HNR.out (HN2.out h3)
              have e3 : (tm == x.r.part) = false := beq_eq_false_iff_ne.2 h3
              clear HS HN1 HN2 HN3 HM HNR HV
              refine wp_region_held_drew (S := (fun w' => (w'.cell? ⟨gx, 0, none⟩ = some (.int .i64 x.r.part) ∧ w'.cell? ⟨gx, 1, none⟩ = some (.string x.r.key) ∧ w'.cell? ⟨gx, 2, none⟩ = some (.slice (some ⟨d, og, none⟩) x.r.vs.length x.q)) ∧ w'.cell? ⟨d, og + i, none⟩ = some (.int .i64 v))) (by kernel_rfl) ?_ (fun hHeld => ?_)
              · (try dsimp only)
                exact ⟨(Y.out.1.next (bel_drew _)).c3, HCV.out _ Y.out.2.drew⟩
              replace Y : Hid (Box wr.drew gx [.int .i64 x.r.part, .string x.r.key, .slice (some ⟨d, og, none⟩) x.r.vs.length x.q] ∧ Below w.heap.size w wr.drew) := ⟨Y.out.1.next (bel_drew _), Y.out.2.drew⟩
              have CV : Hid (wr.drew.cell? ⟨d, og + i, none⟩ = some (.int .i64 v)) := HCV.out _ Y.out.2
              generalize wr.drew = V1 at *
              refine wTk 0 ?_
              refine wTk 1 ?_
              refine wTk 2 ?_
              refine wTk 3 ?_
              refine wTk 4 ?_
              refine wRd 5 (fun K hK => ?_)
              go_simp
              go_at_call 18
              refine (in_yes _ _ _ _ hv.1 hv.2).mono ?_
              rintro e V2 ⟨rfl, rfl⟩
              (try simp only [])
              refine wHk hK ⟨Y.out.1.c3, CV.out⟩ ?_
              clear hK K hHeld
              intro hHeld
              refine wTk 6 ?_
              refine wTk 7 ?_
              refine wTk 8 ?_
              refine wTk 9 ?_
              refine wTk 10 ?_
              refine wTk 11 ?_
              refine wTk 12 ?_
              refine wTk 13 ?_
              refine wTk 14 ?_
              refine wTk 15 ?_
              refine wTk 16 (v := .bool true) ?_
              refine wTk 17 ?_
              refine wTk 18 ?_
              refine wTn 19 ?_
              refine wTn 20 ?_
              refine wTn 21 ?_
              refine wTn 22 ?_
              refine wTn 23 ?_
              refine wTn 24 ?_
              refine wTn 25 ?_
              refine wTn 26 ?_
              refine wTn 27 ?_
              refine wTn 28 ?_
              refine wTn 29 ?_
              refine wTn 30 ?_
              refine wTn 31 ?_
              refine wTn 32 ?_
              refine wTn 33 ?_
              refine wTn 34 ?_
              refine wTk 35 ?_
              refine wpAnyH_done (by kernel_rfl) ?_ _
              clear hHeld
              go_wp2
              go_ret
              exact ⟨false, rfl, by simp [HN.out], Y.out.2⟩
            clear HN1 HN2
            replace HS : Hid ((∀ j (hj : j < x.r.vs.length), j + 1 = i → x.r.vs[j] < v) → valsTo x.r (i + 1)) := HS.out hv h3
            rw [h3] at htm HR
            clear h3
            rcases Nat.eq_zero_or_pos i with hz | hz
            · have HV2 : Hid (valsTo x.r (i + 1)) := HS.out (fun j hj e => by omega)
              have hz' : ¬ 0 < i := by omega
              clear HS HN3 HM HNR HV hz
              refine wp_region_held_drew (S := (fun w' => (w'.cell? ⟨gx, 0, none⟩ = some (.int .i64 x.r.part) ∧ w'.cell? ⟨gx, 1, none⟩ = some (.string x.r.key) ∧ w'.cell? ⟨gx, 2, none⟩ = some (.slice (some ⟨d, og, none⟩) x.r.vs.length x.q)) ∧ w'.cell? ⟨d, og + i, none⟩ = some (.int .i64 v))) (by kernel_rfl) ?_ (fun hHeld => ?_)
              · (try dsimp only)
                exact ⟨(Y.out.1.next (bel_drew _)).c3, HCV.out _ Y.out.2.drew⟩
              replace Y : Hid (Box wr.drew gx [.int .i64 x.r.part, .string x.r.key, .slice (some ⟨d, og, none⟩) x.r.vs.length x.q] ∧ Below w.heap.size w wr.drew) := ⟨Y.out.1.next (bel_drew _), Y.out.2.drew⟩
              have CV : Hid (wr.drew.cell? ⟨d, og + i, none⟩ = some (.int .i64 v)) := HCV.out _ Y.out.2
              generalize wr.drew = V1 at *
              refine wTk 0 ?_
              refine wTk 1 ?_
              refine wTk 2 ?_
              refine wTk 3 ?_
              refine wTk 4 ?_
              refine wRd 5 (fun K hK => ?_)
              go_simp
              go_at_call 18
              refine (in_yes _ _ _ _ hv.1 hv.2).mono ?_
              rintro e V2 ⟨rfl, rfl⟩
              (try simp only [])
              refine wHk hK ⟨Y.out.1.c3, CV.out⟩ ?_
              clear hK K hHeld
              intro hHeld
              refine wTk 6 ?_
              refine wTk 7 ?_
              refine wTk 8 ?_
              refine wTk 9 ?_
              refine wTk 10 ?_
              refine wTk 11 ?_
              refine wTk 12 ?_
              refine wTk 13 ?_
              refine wTk 14 ?_
              refine wTk 15 ?_
              refine wTk 16 (v := .bool false) ?_
              refine wTk 17 ?_
              refine wTk 18 ?_
              refine wTk 19 ?_
              refine wTk 20 (v := .bool false) ?_
              refine wTk 21 ?_
              refine wTn 22 ?_
              refine wTn 23 ?_
              refine wTn 24 ?_
              refine wTn 25 ?_
              refine wTn 26 ?_
              refine wTn 27 ?_
              refine wTn 28 ?_
              refine wTn 29 ?_
              refine wTn 30 ?_
              refine wTn 31 ?_
              refine wTn 32 ?_
              refine wTn 33 ?_
              refine wTk 34 ?_
              refine wTk 35 ?_
              refine wpAnyH_done (by kernel_rfl) ?_ _
              clear hHeld
              go_wp2
              go_roundw
              case rel => exact ⟨i + 1, by omega, by go_num, HV2.out, Y.out.1, Y.out.2⟩
              case measure => simp [intOf]; omega
            · obtain ⟨j2, hj2⟩ : ∃ j, i = j + 1 := ⟨i - 1, by omega⟩
              have hjl : j2 < x.r.vs.length := by omega
              have HCU : Hid (∀ W, Below w.heap.size w W → W.cell? ⟨d, og + j2, none⟩ = some (.int .i64 x.r.vs[j2])) := fun W hW => HM.out j2 hjl W hW
              have hd : (i : Int) - 1 = (j2 : Int) := by omega
              have hw : IntKind.i64.wrap (j2 : Int) = (j2 : Int) := by rw [IntKind.wrap_i64]; omega
              have hjl' : (j2 : Int) < (x.r.vs.length : Int) := by omega
              have j0 : (0 : Int) ≤ (j2 : Int) := by omega
              have hdk : decide (0 < i) = true := decide_eq_true hz
              have HT : Hid (x.r.vs[j2] < v → valsTo x.r (i + 1)) := fun h => HS.out (fun i' hi' e => by
                have : i' = j2 := by omega
                subst this
                exact h)
              have HF : Hid (¬ x.r.vs[j2] < v → ¬ rowP x.r) := fun h => HN3.out j2 hjl hj2.symm h
              clear HS HN3 HM hj2
              generalize x.r.vs[j2] = u at *
              by_cases huv : v ≤ u
              · have HN : Hid (¬ rowsP ms) := HNR.out (HF.out (by omega))
                clear HT HF HNR HV
                refine wp_region_held_drew (S := (fun w' => (w'.cell? ⟨gx, 0, none⟩ = some (.int .i64 x.r.part) ∧ w'.cell? ⟨gx, 1, none⟩ = some (.string x.r.key) ∧ w'.cell? ⟨gx, 2, none⟩ = some (.slice (some ⟨d, og, none⟩) x.r.vs.length x.q)) ∧ w'.cell? ⟨d, og + i, none⟩ = some (.int .i64 v) ∧ w'.cell? ⟨d, og + j2, none⟩ = some (.int .i64 u))) (by kernel_rfl) ?_ (fun hHeld => ?_)
                · (try dsimp only)
                  exact ⟨(Y.out.1.next (bel_drew _)).c3, HCV.out _ Y.out.2.drew, HCU.out _ Y.out.2.drew⟩
                replace Y : Hid (Box wr.drew gx [.int .i64 x.r.part, .string x.r.key, .slice (some ⟨d, og, none⟩) x.r.vs.length x.q] ∧ Below w.heap.size w wr.drew) := ⟨Y.out.1.next (bel_drew _), Y.out.2.drew⟩
                have CV : Hid (wr.drew.cell? ⟨d, og + i, none⟩ = some (.int .i64 v)) := HCV.out _ Y.out.2
                have CU : Hid (wr.drew.cell? ⟨d, og + j2, none⟩ = some (.int .i64 u)) := HCU.out _ Y.out.2
                generalize wr.drew = V1 at *
                refine wTk 0 ?_
                refine wTk 1 ?_
                refine wTk 2 ?_
                refine wTk 3 ?_
                refine wTk 4 ?_
                refine wRd 5 (fun K hK => ?_)
                go_simp
                go_at_call 18
                refine (in_yes _ _ _ _ hv.1 hv.2).mono ?_
                rintro e V2 ⟨rfl, rfl⟩
                (try simp only [])
                refine wHk hK ⟨Y.out.1.c3, CV.out, CU.out⟩ ?_
                clear hK K hHeld
                intro hHeld
                refine wTk 6 ?_
                refine wTk 7 ?_
                refine wTk 8 ?_
                refine wTk 9 ?_
                refine wTk 10 ?_
                refine wTk 11 ?_
                refine wTk 12 ?_
                refine wTk 13 ?_
                refine wTk 14 ?_
                refine wTk 15 ?_
                refine wTk 16 (v := .bool false) ?_
                refine wTk 17 ?_
                refine wTk 18 ?_
                refine wTk 19 ?_
                refine wTk 20 (v := .bool true) ?_
                refine wTk 21 ?_
                refine wTk 22 ?_
                refine wTk 23 ?_
                refine wTk 24 ?_
                refine wTk 25 ?_
                refine wTk 26 ?_
                refine wTk 27 ?_
                refine wTk 28 ?_
                refine wTk 29 ?_
                refine wTk 30 ?_
                refine wTk 31 ?_
                refine wTk 32 ?_
                refine wTk 33 (v := .bool true) ?_
                refine wTk 34 ?_
                refine wTk 35 ?_
                refine wpAnyH_done (by kernel_rfl) ?_ _
                clear hHeld
                go_wp2
                go_ret
                exact ⟨false, rfl, by simp [HN.out], Y.out.2⟩
              · have HV2 : Hid (valsTo x.r (i + 1)) := HT.out (by omega)
                clear HT HF HNR HV
                refine wp_region_held_drew (S := (fun w' => (w'.cell? ⟨gx, 0, none⟩ = some (.int .i64 x.r.part) ∧ w'.cell? ⟨gx, 1, none⟩ = some (.string x.r.key) ∧ w'.cell? ⟨gx, 2, none⟩ = some (.slice (some ⟨d, og, none⟩) x.r.vs.length x.q)) ∧ w'.cell? ⟨d, og + i, none⟩ = some (.int .i64 v) ∧ w'.cell? ⟨d, og + j2, none⟩ = some (.int .i64 u))) (by kernel_rfl) ?_ (fun hHeld => ?_)
                · (try dsimp only)
                  exact ⟨(Y.out.1.next (bel_drew _)).c3, HCV.out _ Y.out.2.drew, HCU.out _ Y.out.2.drew⟩
                replace Y : Hid (Box wr.drew gx [.int .i64 x.r.part, .string x.r.key, .slice (some ⟨d, og, none⟩) x.r.vs.length x.q] ∧ Below w.heap.size w wr.drew) := ⟨Y.out.1.next (bel_drew _), Y.out.2.drew⟩
                have CV : Hid (wr.drew.cell? ⟨d, og + i, none⟩ = some (.int .i64 v)) := HCV.out _ Y.out.2
                have CU : Hid (wr.drew.cell? ⟨d, og + j2, none⟩ = some (.int .i64 u)) := HCU.out _ Y.out.2
                generalize wr.drew = V1 at *
                refine wTk 0 ?_
                refine wTk 1 ?_
                refine wTk 2 ?_
                refine wTk 3 ?_
                refine wTk 4 ?_
                refine wRd 5 (fun K hK => ?_)
                go_simp
                go_at_call 18
                refine (in_yes _ _ _ _ hv.1 hv.2).mono ?_
                rintro e V2 ⟨rfl, rfl⟩
                (try simp only [])
                refine wHk hK ⟨Y.out.1.c3, CV.out, CU.out⟩ ?_
                clear hK K hHeld
                intro hHeld
                refine wTk 6 ?_
                refine wTk 7 ?_
                refine wTk 8 ?_
                refine wTk 9 ?_
                refine wTk 10 ?_
                refine wTk 11 ?_
                refine wTk 12 ?_
                refine wTk 13 ?_
                refine wTk 14 ?_
                refine wTk 15 ?_
                refine wTk 16 (v := .bool false) ?_
                refine wTk 17 ?_
                refine wTk 18 ?_
                refine wTk 19 ?_
                refine wTk 20 (v := .bool true) ?_
                refine wTk 21 ?_
                refine wTk 22 ?_
                refine wTk 23 ?_
                refine wTk 24 ?_
                refine wTk 25 ?_
                refine wTk 26 ?_
                refine wTk 27 ?_
                refine wTk 28 ?_
                refine wTk 29 ?_
                refine wTk 30 ?_
                refine wTk 31 ?_
                refine wTk 32 ?_
                refine wTk 33 (v := .bool false) ?_
                refine wTk 34 ?_
                refine wTk 35 ?_
                refine wpAnyH_done (by kernel_rfl) ?_ _
                clear hHeld
                go_wp2
                go_roundw
                case rel => exact ⟨i + 1, by omega, by go_num, HV2.out, Y.out.1, Y.out.2⟩
                case measure => simp [intOf]; omega
          · have hil' : ¬ (i : Int) < (x.r.vs.length : Int) := by omega
            have HV3 : Hid (rowsTo ms (k + 1)) := HV.out (rows_yes HH.out (by omega) HV2.out)
            clear HV HV2 HNR
            go_wp2
            go_roundw
            case rel => exact ⟨k + 1, by omega, by go_num, HV3.out, Y.out.2⟩
            case measure => simp [intOf]; omega
      · obtain ⟨j, hj⟩ : ∃ j, k = j + 1 := ⟨k - 1, by omega⟩
        have hjl : j < ms.length := by omega
        have hd : (k : Int) - 1 = (j : Int) := by omega
        have hw : IntKind.i64.wrap (j : Int) = (j : Int) := by rw [IntKind.wrap_i64]; omega
        have hjl' : (j : Int) < (ms.length : Int) := by omega
        have j0 : (0 : Int) ≤ (j : Int) := by omega
        have hdk : decide (0 < k) = true := decide_eq_true hz
        have HT : Hid (lessP ms[j].r x.r → rowP x.r → rowsTo ms (k + 1)) := fun h h' => HS.out h' (fun i hi e => by
          have : i = j := by omega
          subst this
          exact h)
        have HF : Hid (¬ lessP ms[j].r x.r → ¬ rowsP ms) := HN2.out j hjl hj.symm
        have hz3 := HZ.out j hjl W1 Y.out.2
        clear HS HN2 HZ hj
        generalize ms[j] = z at *
        replace Y : Hid (Box W1 wr.heap.size [.int .i64 x.r.part, .string x.r.key, .slice x.p x.r.vs.length x.q] ∧ Below w.heap.size w W1 ∧ RAt W1 b (off + j * 3) z ∧ b < W1.heap.size) := ⟨Y.out.1, Y.out.2, hz3.1, hz3.2⟩
        clear hz3
        refine wp_region_held_drew (S := (fun w' => (w'.cell? ⟨wr.heap.size, 0, none⟩ = some (.int .i64 x.r.part) ∧ w'.cell? ⟨wr.heap.size, 1, none⟩ = some (.string x.r.key) ∧ w'.cell? ⟨wr.heap.size, 2, none⟩ = some (.slice x.p x.r.vs.length x.q)) ∧ (w'.cell? ⟨b, off + j * 3, none⟩ = some (.int .i64 z.r.part) ∧ w'.cell? ⟨b, off + j * 3 + 1, none⟩ = some (.string z.r.key) ∧ w'.cell? ⟨b, off + j * 3 + 2, none⟩ = some (.slice z.p z.r.vs.length z.q)))) (by kernel_rfl) ?_ (fun hHeld => ?_)
        · (try dsimp only)
          exact ⟨(Y.out.1.next (bel_drew _)).c3, Y.out.2.2.1.next (bel_drew _) Y.out.2.2.2⟩
        replace Y : Hid (Box W1.drew wr.heap.size [.int .i64 x.r.part, .string x.r.key, .slice x.p x.r.vs.length x.q] ∧ Below w.heap.size w W1.drew ∧ RAt W1.drew b (off + j * 3) z ∧ b < W1.drew.heap.size) := ⟨Y.out.1.next (bel_drew _), Y.out.2.1.trans ((bel_drew _).mono Y.out.2.1.size), Y.out.2.2.1.next (bel_drew _) Y.out.2.2.2, Nat.lt_of_lt_of_le Y.out.2.2.2 (bel_drew _).size⟩
        generalize W1.drew = V1 at *
        refine wTk 0 ?_
        refine wTk 1 ?_
        refine wRd 2 (fun K hK => ?_)
        go_simp
        go_at_call 18
        refine (in_yes _ _ _ _ HPt.out.1 HPt.out.2).mono ?_
        rintro e V2 ⟨rfl, rfl⟩
        (try simp only [])
        refine wHk hK ⟨Y.out.1.c3, Y.out.2.2.1⟩ ?_
        clear hK K hHeld
        intro hHeld
        refine wTk 3 ?_
        refine wTk 4 ?_
        refine wTk 5 ?_
        refine wTk 6 ?_
        refine wRd 7 (fun K hK => ?_)
        go_simp
        go_at_call 19
        refine (specKey_any x.r.key true (by simp [HKt.out]) _ HKS.out).mono ?_
        rintro e V2 ⟨rfl, rfl⟩
        (try simp only [])
        refine wHk hK ⟨Y.out.1.c3, Y.out.2.2.1⟩ ?_
        clear hK K hHeld
        intro hHeld
        refine wTk 8 ?_
        refine wTk 9 ?_
        refine wTk 10 ?_
        refine wTk 11 ?_
        refine wTk 12 ?_
        refine wTk 13 ?_
        refine wRd 14 (fun K hK => ?_)
        go_simp
        go_at_call 18
        refine (in_yes _ _ _ _ (by omega) (by omega)).mono ?_
        rintro e V2 ⟨rfl, rfl⟩
        (try simp only [])
        refine wHk hK ⟨Y.out.1.c3, Y.out.2.2.1⟩ ?_
        clear hK K hHeld
        intro hHeld
        refine wTk 15 ?_
        refine wTk 16 ?_
        refine wTk 17 ?_
        refine wTk 18 ?_
        refine wTk 19 ?_
        refine wTk 20 ?_
        refine wTk 21 ?_
        refine wTk 22 ?_
        refine wTk 23 ?_
        refine wTk 24 ?_
        refine wTk 25 ?_
        refine wTk 26 ?_
        refine wRd 27 (fun K hK => ?_)
        go_simp
        go_at_call 20
        refine (less_any z x _).mono ?_
        rintro e V3 ⟨rr, rfl, hq, hb⟩
        (try simp only [])
        have HQ : Hid (rr = true ↔ lessP z.r x.r) := hq
        replace Y : Hid (Box V3 wr.heap.size [.int .i64 x.r.part, .string x.r.key, .slice x.p x.r.vs.length x.q] ∧ Below w.heap.size w V3 ∧ RAt V3 b (off + j * 3) z ∧ b < V3.heap.size) := ⟨Y.out.1.next hb, Y.out.2.1.trans (hb.mono Y.out.2.1.size), Y.out.2.2.1.next hb Y.out.2.2.2, Nat.lt_of_lt_of_le Y.out.2.2.2 hb.size⟩
        refine wHk hK ⟨Y.out.1.c3, Y.out.2.2.1⟩ ?_
        clear hK K hHeld hb hq
        intro hHeld
        cases rr
        · have HN : Hid (¬ rowsP ms) := HF.out (fun h => by have := HQ.out.2 h; cases this)
          clear HQ HT HF
          refine wTk 28 ?_
          refine wTk 29 ?_
          refine wTk 30 ?_
          refine wpAnyH_done (by kernel_rfl) ?_ _
          clear hHeld
          go_wp2
          go_ret
          exact ⟨false, rfl, by simp [HN.out], Y.out.2.1⟩
        · have HV : Hid (rowP x.r → rowsTo ms (k + 1)) := HT.out (HQ.out.1 rfl)
          clear HQ HT HF
          refine wTk 28 ?_
          refine wTk 29 ?_
          refine wTk 30 ?_
          refine wpAnyH_done (by kernel_rfl) ?_ _
          clear hHeld
          obtain ⟨gx, hgx⟩ : ∃ g, g = wr.heap.size := ⟨_, rfl⟩
          rw [← hgx] at Y ⊢
          clear hgx
          go_wp2
          go_loopw [5] (fun s5 wr => ∃ i : Nat, i ≤ x.r.vs.length ∧ s5 = .int .i64 i ∧ valsTo x.r i ∧ Box wr gx [.int .i64 x.r.part, .string x.r.key, .slice (some ⟨d, og, none⟩) x.r.vs.length x.q] ∧ Below w.heap.size w wr) (fun s5 _ => x.r.vs.length - (intOf s5).toNat)
          case atStart => exact ⟨0, by omega, rfl, vals_zero _, HP.out ▸ Y.out.1, Y.out.2.1⟩
          case round =>
            clear Y
            obtain ⟨i, hi, rfl, hV0, hX0, hB0⟩ := hrel
            have HV2 : Hid (valsTo x.r i) := hV0
            have Y : Hid (Box wr gx [.int .i64 x.r.part, .string x.r.key, .slice (some ⟨d, og, none⟩) x.r.vs.length x.q] ∧ Below w.heap.size w wr) := ⟨hX0, hB0⟩
            clear hV0 hX0 hB0
            obtain ⟨a0, a1, a2⟩ := Y.out.1.c3
            by_cases hil : i < x.r.vs.length
            · have hil' : (i : Int) < (x.r.vs.length : Int) := by omega
              have i0 : (0 : Int) ≤ (i : Int) := by omega
              have HCV : Hid (∀ W, Below w.heap.size w W → W.cell? ⟨d, og + i, none⟩ = some (.int .i64 x.r.vs[i])) := fun W hW => HGX.out i hil W hW
              have HS : Hid ((0 ≤ x.r.vs[i] ∧ x.r.vs[i] ≤ 999) → x.r.vs[i].tmod 4 = x.r.part → (∀ j (hj : j < x.r.vs.length), j + 1 = i → x.r.vs[j] < x.r.vs[i]) → valsTo x.r (i + 1)) := vals_succ HV2.out hil
              have HN1 : Hid (¬ (0 ≤ x.r.vs[i] ∧ x.r.vs[i] ≤ 999) → ¬ rowP x.r) := vals_no1 hil
              have HN2 : Hid (¬ x.r.vs[i].tmod 4 = x.r.part → ¬ rowP x.r) := vals_no2 hil
              have HN3 : Hid (∀ j (hj : j < x.r.vs.length), j + 1 = i → ¬ x.r.vs[j] < x.r.vs[i] → ¬ rowP x.r) := fun j hj e h => vals_no3 hil hj e h
              have HM : Hid (∀ i' (h : i' < x.r.vs.length) W, Below w.heap.size w W → W.cell? ⟨d, og + i', none⟩ = some (.int .i64 x.r.vs[i'])) := HGX.out
              clear HV2
              generalize x.r.vs[i] = v at *
              go_upto_region 12 with fail
              clear a0 a1 a2
              by_cases hv : 0 ≤ v ∧ v ≤ 999
              case neg =>
                have HN : Hid (¬ rowsP ms) := HNR.out (HN1.out hv)
                clear HS HN1 HN2 HN3 HM HNR HV
                refine wp_region_held_drew (S := (fun w' => (w'.cell? ⟨gx, 0, none⟩ = some (.int .i64 x.r.part) ∧ w'.cell? ⟨gx, 1, none⟩ = some (.string x.r.key) ∧ w'.cell? ⟨gx, 2, none⟩ = some (.slice (some ⟨d, og, none⟩) x.r.vs.length x.q)) ∧ w'.cell? ⟨d, og + i, none⟩ = some (.int .i64 v))) (by kernel_rfl) ?_ (fun hHeld => ?_)
                · (try dsimp only)
                  exact ⟨(Y.out.1.next (bel_drew _)).c3, HCV.out _ Y.out.2.drew⟩
                replace Y : Hid (Box wr.drew gx [.int .i64 x.r.part, .string x.r.key, .slice (some ⟨d, og, none⟩) x.r.vs.length x.q] ∧ Below w.heap.size w wr.drew) := ⟨Y.out.1.next (bel_drew _), Y.out.2.drew⟩
                have CV : Hid (wr.drew.cell? ⟨d, og + i, none⟩ = some (.int .i64 v)) := HCV.out _ Y.out.2
                generalize wr.drew = V1 at *
                refine wTk 0 ?_
                refine wTk 1 ?_
                refine wTk 2 ?_
                refine wTk 3 ?_
                refine wTk 4 ?_
                refine wRd 5 (fun K hK => ?_)
                go_simp
                go_at_call 18
                refine (in_no _ _ _ _ hv).mono ?_
                rintro e V2 ⟨rfl, rfl⟩
                (try simp only [])
                refine wHk hK ⟨Y.out.1.c3, CV.out⟩ ?_
                clear hK K hHeld
                intro hHeld
                refine wTk 6 ?_
                refine wTk 7 ?_
                refine wTn 8 ?_
                refine wTn 9 ?_
                refine wTn 10 ?_
                refine wTn 11 ?_
                refine wTn 12 ?_
                refine wTn 13 ?_
                refine wTn 14 ?_
                refine wTn 15 ?_
                refine wTn 16 ?_
                refine wTk 17 ?_
                refine wTk 18 ?_
                refine wTn 19 ?_
                refine wTn 20 ?_
                refine wTn 21 ?_
                refine wTn 22 ?_
                refine wTn 23 ?_
                refine wTn 24 ?_
                refine wTn 25 ?_
                refine wTn 26 ?_
                refine wTn 27 ?_
                refine wTn 28 ?_
                refine wTn 29 ?_
                refine wTn 30 ?_
                refine wTn 31 ?_
                refine wTn 32 ?_
                refine wTn 33 ?_
                refine wTn 34 ?_
                refine wTk 35 ?_
                refine wpAnyH_done (by kernel_rfl) ?_ _
                clear hHeld
                go_wp2
                go_ret
                exact ⟨false, rfl, by simp [HN.out], Y.out.2⟩
              have HR := tmod_small hv
              obtain ⟨tm, htm⟩ : ∃ t, v.tmod 4 = t := ⟨_, rfl⟩
              rw [htm] at HS HN2 HR
              by_cases h3 : tm = x.r.part
              case neg =>
                have HN : Hid (¬ rowsP ms) := HNR.out (HN2.out h3)
                have e3 : (tm == x.r.part) = false := beq_eq_false_iff_ne.2 h3
                clear HS HN1 HN2 HN3 HM HNR HV
                refine wp_region_held_drew (S := (fun w' => (w'.cell? ⟨gx, 0, none⟩ = some (.int .i64 x.r.part) ∧ w'.cell? ⟨gx, 1, none⟩ = some (.string x.r.key) ∧ w'.cell? ⟨gx, 2, none⟩ = some (.slice (some ⟨d, og, none⟩) x.r.vs.length x.q)) ∧ w'.cell? ⟨d, og + i, none⟩ = some (.int .i64 v))) (by kernel_rfl) ?_ (fun hHeld => ?_)
                · (try dsimp only)
                  exact ⟨(Y.out.1.next (bel_drew _)).c3, HCV.out _ Y.out.2.drew⟩
                replace Y : Hid (Box wr.drew gx [.int .i64 x.r.part, .string x.r.key, .slice (some ⟨d, og, none⟩) x.r.vs.length x.q] ∧ Below w.heap.size w wr.drew) := ⟨Y.out.1.next (bel_drew _), Y.out.2.drew⟩
                have CV : Hid (wr.drew.cell? ⟨d, og + i, none⟩ = some (.int .i64 v)) := HCV.out _ Y.out.2
                generalize wr.drew = V1 at *
                refine wTk 0 ?_
                refine wTk 1 ?_
                refine wTk 2 ?_
                refine wTk 3 ?_
                refine wTk 4 ?_
                refine wRd 5 (fun K hK => ?_)
                go_simp
                go_at_call 18
                refine (in_yes _ _ _ _ hv.1 hv.2).mono ?_
                rintro e V2 ⟨rfl, rfl⟩
                (try simp only [])
                refine wHk hK ⟨Y.out.1.c3, CV.out⟩ ?_
                clear hK K hHeld
                intro hHeld
                refine wTk 6 ?_
                refine wTk 7 ?_
                refine wTk 8 ?_
                refine wTk 9 ?_
                refine wTk 10 ?_
                refine wTk 11 ?_
                refine wTk 12 ?_
                refine wTk 13 ?_
                refine wTk 14 ?_
                refine wTk 15 ?_
                refine wTk 16 (v := .bool true) ?_
                refine wTk 17 ?_
                refine wTk 18 ?_
                refine wTn 19 ?_
                refine wTn 20 ?_
                refine wTn 21 ?_
                refine wTn 22 ?_
                refine wTn 23 ?_
                refine wTn 24 ?_
                refine wTn 25 ?_
                refine wTn 26 ?_
                refine wTn 27 ?_
                refine wTn 28 ?_
                refine wTn 29 ?_
                refine wTn 30 ?_
                refine wTn 31 ?_
                refine wTn 32 ?_
                refine wTn 33 ?_
                refine wTn 34 ?_
                refine wTk 35 ?_
                refine wpAnyH_done (by kernel_rfl) ?_ _
                clear hHeld
                go_wp2
                go_ret
                exact ⟨false, rfl, by simp [HN.out], Y.out.2⟩
              clear HN1 HN2
              replace HS : Hid ((∀ j (hj : j < x.r.vs.length), j + 1 = i → x.r.vs[j] < v) → valsTo x.r (i + 1)) := HS.out hv h3
              rw [h3] at htm HR
              clear h3
              rcases Nat.eq_zero_or_pos i with hz | hz
              · have HV2 : Hid (valsTo x.r (i + 1)) := HS.out (fun j hj e => by omega)
                have hz' : ¬ 0 < i := by omega
                clear HS HN3 HM HNR HV hz
                refine wp_region_held_drew (S := (fun w' => (w'.cell? ⟨gx, 0, none⟩ = some (.int .i64 x.r.part) ∧ w'.cell? ⟨gx, 1, none⟩ = some (.string x.r.key) ∧ w'.cell? ⟨gx, 2, none⟩ = some (.slice (some ⟨d, og, none⟩) x.r.vs.length x.q)) ∧ w'.cell? ⟨d, og + i, none⟩ = some (.int .i64 v))) (by kernel_rfl) ?_ (fun hHeld => ?_)
                · (try dsimp only)
                  exact ⟨(Y.out.1.next (bel_drew _)).c3, HCV.out _ Y.out.2.drew⟩
                replace Y : Hid (Box wr.drew gx [.int .i64 x.r.part, .string x.r.key, .slice (some ⟨d, og, none⟩) x.r.vs.length x.q] ∧ Below w.heap.size w wr.drew) := ⟨Y.out.1.next (bel_drew _), Y.out.2.drew⟩
                have CV : Hid (wr.drew.cell? ⟨d, og + i, none⟩ = some (.int .i64 v)) := HCV.out _ Y.out.2
                generalize wr.drew = V1 at *
                refine wTk 0 ?_
                refine wTk 1 ?_
                refine wTk 2 ?_
                refine wTk 3 ?_
                refine wTk 4 ?_
                refine wRd 5 (fun K hK => ?_)
                go_simp
                go_at_call 18
                refine (in_yes _ _ _ _ hv.1 hv.2).mono ?_
                rintro e V2 ⟨rfl, rfl⟩
                (try simp only [])
                refine wHk hK ⟨Y.out.1.c3, CV.out⟩ ?_
                clear hK K hHeld
                intro hHeld
                refine wTk 6 ?_
                refine wTk 7 ?_
                refine wTk 8 ?_
                refine wTk 9 ?_
                refine wTk 10 ?_
                refine wTk 11 ?_
                refine wTk 12 ?_
                refine wTk 13 ?_
                refine wTk 14 ?_
                refine wTk 15 ?_
                refine wTk 16 (v := .bool false) ?_
                refine wTk 17 ?_
                refine wTk 18 ?_
                refine wTk 19 ?_
                refine wTk 20 (v := .bool false) ?_
                refine wTk 21 ?_
                refine wTn 22 ?_
                refine wTn 23 ?_
                refine wTn 24 ?_
                refine wTn 25 ?_
                refine wTn 26 ?_
                refine wTn 27 ?_
                refine wTn 28 ?_
                refine wTn 29 ?_
                refine wTn 30 ?_
                refine wTn 31 ?_
                refine wTn 32 ?_
                refine wTn 33 ?_
                refine wTk 34 ?_
                refine wTk 35 ?_
                refine wpAnyH_done (by kernel_rfl) ?_ _
                clear hHeld
                go_wp2
                go_roundw
                case rel => exact ⟨i + 1, by omega, by go_num, HV2.out, Y.out.1, Y.out.2⟩
                case measure => simp [intOf]; omega
              · obtain ⟨j2, hj2⟩ : ∃ j, i = j + 1 := ⟨i - 1, by omega⟩
                have hjl : j2 < x.r.vs.length := by omega
                have HCU : Hid (∀ W, Below w.heap.size w W → W.cell? ⟨d, og + j2, none⟩ = some (.int .i64 x.r.vs[j2])) := fun W hW => HM.out j2 hjl W hW
                have hd : (i : Int) - 1 = (j2 : Int) := by omega
                have hw : IntKind.i64.wrap (j2 : Int) = (j2 : Int) := by rw [IntKind.wrap_i64]; omega
                have hjl' : (j2 : Int) < (x.r.vs.length : Int) := by omega
                have j0 : (0 : Int) ≤ (j2 : Int) := by omega
                have hdk : decide (0 < i) = true := decide_eq_true hz
                have HT : Hid (x.r.vs[j2] < v → valsTo x.r (i + 1)) := fun h => HS.out (fun i' hi' e => by
                  have : i' = j2 := by omega
                  subst this
                  exact h)
                have HF : Hid (¬ x.r.vs[j2] < v → ¬ rowP x.r) := fun h => HN3.out j2 hjl hj2.symm h
                clear HS HN3 HM hj2
                generalize x.r.vs[j2] = u at *
                by_cases huv : v ≤ u
                · have HN : Hid (¬ rowsP ms) := HNR.out (HF.out (by omega))
                  clear HT HF HNR HV
                  refine wp_region_held_drew (S := (fun w' => (w'.cell? ⟨gx, 0, none⟩ = some (.int .i64 x.r.part) ∧ w'.cell? ⟨gx, 1, none⟩ = some (.string x.r.key) ∧ w'.cell? ⟨gx, 2, none⟩ = some (.slice (some ⟨d, og, none⟩) x.r.vs.length x.q)) ∧ w'.cell? ⟨d, og + i, none⟩ = some (.int .i64 v) ∧ w'.cell? ⟨d, og + j2, none⟩ = some (.int .i64 u))) (by kernel_rfl) ?_ (fun hHeld => ?_)
                  · (try dsimp only)
                    exact ⟨(Y.out.1.next (bel_drew _)).c3, HCV.out _ Y.out.2.drew, HCU.out _ Y.out.2.drew⟩
                  replace Y : Hid (Box wr.drew gx [.int .i64 x.r.part, .string x.r.key, .slice (some ⟨d, og, none⟩) x.r.vs.length x.q] ∧ Below w.heap.size w wr.drew) := ⟨Y.out.1.next (bel_drew _), Y.out.2.drew⟩
                  have CV : Hid (wr.drew.cell? ⟨d, og + i, none⟩ = some (.int .i64 v)) := HCV.out _ Y.out.2
                  have CU : Hid (wr.drew.cell? ⟨d, og + j2, none⟩ = some (.int .i64 u)) := HCU.out _ Y.out.2
                  generalize wr.drew = V1 at *
                  refine wTk 0 ?_
                  refine wTk 1 ?_
                  refine wTk 2 ?_
                  refine wTk 3 ?_
                  refine wTk 4 ?_
                  refine wRd 5 (fun K hK => ?_)
                  go_simp
                  go_at_call 18
                  refine (in_yes _ _ _ _ hv.1 hv.2).mono ?_
                  rintro e V2 ⟨rfl, rfl⟩
                  (try simp only [])
                  refine wHk hK ⟨Y.out.1.c3, CV.out, CU.out⟩ ?_
                  clear hK K hHeld
                  intro hHeld
                  refine wTk 6 ?_
                  refine wTk 7 ?_
                  refine wTk 8 ?_
                  refine wTk 9 ?_
                  refine wTk 10 ?_
                  refine wTk 11 ?_
                  refine wTk 12 ?_
                  refine wTk 13 ?_
                  refine wTk 14 ?_
                  refine wTk 15 ?_
                  refine wTk 16 (v := .bool false) ?_
                  refine wTk 17 ?_
                  refine wTk 18 ?_
                  refine wTk 19 ?_
                  refine wTk 20 (v := .bool true) ?_
                  refine wTk 21 ?_
                  refine wTk 22 ?_
                  refine wTk 23 ?_
                  refine wTk 24 ?_
                  refine wTk 25 ?_
                  refine wTk 26 ?_
                  refine wTk 27 ?_
                  refine wTk 28 ?_
                  refine wTk 29 ?_
                  refine wTk 30 ?_
                  refine wTk 31 ?_
                  refine wTk 32 ?_
                  refine wTk 33 (v := .bool true) ?_
                  refine wTk 34 ?_
                  refine wTk 35 ?_
                  refine wpAnyH_done (by kernel_rfl) ?_ _
                  clear hHeld
                  go_wp2
                  go_ret
                  exact ⟨false, rfl, by simp [HN.out], Y.out.2⟩
                · have HV2 : Hid (valsTo x.r (i + 1)) := HT.out (by omega)
                  clear HT HF HNR HV
                  refine wp_region_held_drew (S := (fun w' => (w'.cell? ⟨gx, 0, none⟩ = some (.int .i64 x.r.part) ∧ w'.cell? ⟨gx, 1, none⟩ = some (.string x.r.key) ∧ w'.cell? ⟨gx, 2, none⟩ = some (.slice (some ⟨d, og, none⟩) x.r.vs.length x.q)) ∧ w'.cell? ⟨d, og + i, none⟩ = some (.int .i64 v) ∧ w'.cell? ⟨d, og + j2, none⟩ = some (.int .i64 u))) (by kernel_rfl) ?_ (fun hHeld => ?_)
                  · (try dsimp only)
                    exact ⟨(Y.out.1.next (bel_drew _)).c3, HCV.out _ Y.out.2.drew, HCU.out _ Y.out.2.drew⟩
                  replace Y : Hid (Box wr.drew gx [.int .i64 x.r.part, .string x.r.key, .slice (some ⟨d, og, none⟩) x.r.vs.length x.q] ∧ Below w.heap.size w wr.drew) := ⟨Y.out.1.next (bel_drew _), Y.out.2.drew⟩
                  have CV : Hid (wr.drew.cell? ⟨d, og + i, none⟩ = some (.int .i64 v)) := HCV.out _ Y.out.2
                  have CU : Hid (wr.drew.cell? ⟨d, og + j2, none⟩ = some (.int .i64 u)) := HCU.out _ Y.out.2
                  generalize wr.drew = V1 at *
                  refine wTk 0 ?_
                  refine wTk 1 ?_
                  refine wTk 2 ?_
                  refine wTk 3 ?_
                  refine wTk 4 ?_
                  refine wRd 5 (fun K hK => ?_)
                  go_simp
                  go_at_call 18
                  refine (in_yes _ _ _ _ hv.1 hv.2).mono ?_
                  rintro e V2 ⟨rfl, rfl⟩
                  (try simp only [])
                  refine wHk hK ⟨Y.out.1.c3, CV.out, CU.out⟩ ?_
                  clear hK K hHeld
                  intro hHeld
                  refine wTk 6 ?_
                  refine wTk 7 ?_
                  refine wTk 8 ?_
                  refine wTk 9 ?_
                  refine wTk 10 ?_
                  refine wTk 11 ?_
                  refine wTk 12 ?_
                  refine wTk 13 ?_
                  refine wTk 14 ?_
                  refine wTk 15 ?_
                  refine wTk 16 (v := .bool false) ?_
                  refine wTk 17 ?_
                  refine wTk 18 ?_
                  refine wTk 19 ?_
                  refine wTk 20 (v := .bool true) ?_
                  refine wTk 21 ?_
                  refine wTk 22 ?_
                  refine wTk 23 ?_
                  refine wTk 24 ?_
                  refine wTk 25 ?_
                  refine wTk 26 ?_
                  refine wTk 27 ?_
                  refine wTk 28 ?_
                  refine wTk 29 ?_
                  refine wTk 30 ?_
                  refine wTk 31 ?_
                  refine wTk 32 ?_
                  refine wTk 33 (v := .bool false) ?_
                  refine wTk 34 ?_
                  refine wTk 35 ?_
                  refine wpAnyH_done (by kernel_rfl) ?_ _
                  clear hHeld
                  go_wp2
                  go_roundw
                  case rel => exact ⟨i + 1, by omega, by go_num, HV2.out, Y.out.1, Y.out.2⟩
                  case measure => simp [intOf]; omega
            · have hil' : ¬ (i : Int) < (x.r.vs.length : Int) := by omega
              have HV3 : Hid (rowsTo ms (k + 1)) := HV.out (rows_yes HH.out (by omega) HV2.out)
              clear HV HV2 HNR
              go_wp2
              go_roundw
              case rel => exact ⟨k + 1, by omega, by go_num, HV3.out, Y.out.2⟩
              case measure => simp [intOf]; omega
    · have hkl' : ¬ (k : Int) < (ms.length : Int) := by omega
      have HO : Hid (rowsTo ms k) := HV.out
      clear HV
      by_cases h4 : (ms.length : Int) ≤ 400
      · have HN : Hid (rowsP ms) := rowsP_yes (by omega) (by omega) HO.out
        clear HO
        go_wp2
        go_ret
        exact ⟨true, rfl, by simp [HN.out], HB.out⟩
      · have HN : Hid (¬ rowsP ms) := fun h => by have := h.1; omega
        clear HO
        go_wp2
        go_ret
        exact ⟨false, rfl, by simp [HN.out], HB.out⟩
end Go.Proofs.Ytomcpdbaenohdaa
