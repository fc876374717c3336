/- What of a list of events was overwritten, on the specification's side. -/
import Derived.Test.YthcmkakijdnleaaRows
import Derived.WalkKit
import Derived.WalkSpells
import Derived.WalkLawsBesides
import Derived.Deep.QuietTactic
import Derived.BigQuiet
import Derived.Deep.RegionHeld3
import Derived.Test.YthcmkakijdnleaaOv
import Derived.Test.YthcmkakijdnleaaEs
import Derived.LoopN
import Derived.OwnWalk
import Derived.Laws.StructEq
namespace Go.Proofs.Ythcmkakijdnleaa
open Go.RowKit
set_option linter.unusedSimpArgs false
set_option linter.unusedVariables false

set_option maxRecDepth 20000 in
set_option maxHeartbeats 8000000 in
theorem specOver (lo q : Nat) (po : Option Addr) (l : List Ev) (p n : Int) (w : World) (hlm : (l.length : Int) ≤ 1048576) (hks : ∀ x ∈ l, x.key.size < 1099511627776) (hr0 : GRow lo w po (flatE l)) :
    Calls Try.prog 12 #[.slice po l.length q, .agg #[.int .i64 p, .int .i64 n]] w (Tov l p n w) := by
  have hr : Hid (GRow lo w po (flatE l)) := hr0
  clear hr0
  go_enter Try.func12, Try.ntmps12
  go_upto_region 1 with fail
  refine wp_gen (fun W => Box W w.heap.size [.int .i64 p, .int .i64 n] ∧ Below w.heap.size w W) ⟨box_mk, bel_alloc _ _⟩ (fun W0 hI => ?_)
  obtain ⟨gd, hgd⟩ : ∃ g, g = w.heap.size := ⟨_, rfl⟩
  have HD : Hid (w.heap.size ≤ gd) := by show _ ≤ _; omega
  have Y : Hid (Box W0 gd [.int .i64 p, .int .i64 n] ∧ Below w.heap.size w W0) := by rw [hgd]; exact hI
  rw [← hgd]
  clear hI hgd
  by_cases hl : 4096 < (l.length : Int)
  case pos =>
    have HF : Hid (ovP l p n false 2) := .inl ⟨by omega, rfl, rfl⟩
    clear hr
    go_wp2
    go_ret2
    exact ⟨false, 2, rfl, HF.out, Y.out.2⟩
  have HLE : Hid (l.length ≤ 4096) := by show _ ≤ _; omega
  go_wp2_with fail
  refine (specEvents lo q po l _ hlm hks (hr.out.next Y.out.2)).mono ?_
  rintro e1 W1 ⟨r1, rfl, hq, hb⟩
  replace Y : Hid (Box W1 gd [.int .i64 p, .int .i64 n] ∧ Below w.heap.size w W1) := ⟨Y.out.1.next hb, Y.out.2.trans (hb.mono Y.out.2.size)⟩
  have HQ : Hid (r1 = true ↔ eok l) := hq
  clear hb hq
  cases r1
  case false =>
    have HF : Hid (ovP l p n false 1) := .inr (.inl ⟨HLE.out, fun h => (by have := HQ.out.2 h.1; cases this), rfl, rfl⟩)
    clear HQ hr
    go_wp2
    go_ret2
    exact ⟨false, 1, rfl, HF.out, Y.out.2⟩
  have HE : Hid (eok l) := HQ.out.1 rfl
  clear HQ
  obtain ⟨d0, d1⟩ := Y.out.1.c2
  go_wp2_with fail
  refine (spec_dot p n _).mono ?_
  rintro e1 W2 ⟨rfl, hb⟩
  replace Y : Hid (Box W2 gd [.int .i64 p, .int .i64 n] ∧ Below w.heap.size w W2) := ⟨Y.out.1.next hb, Y.out.2.trans (hb.mono Y.out.2.size)⟩
  clear hb d0 d1
  cases hd : dotB p n
  case false =>
    have HF : Hid (ovP l p n false 1) := .inr (.inl ⟨HLE.out, fun h => (by rw [h.2] at hd; cases hd), rfl, rfl⟩)
    clear hd HE hr
    go_wp2
    go_ret2
    exact ⟨false, 1, rfl, HF.out, Y.out.2⟩
  have HDT : Hid (dotB p n = true) := hd
  have hdn : 0 ≤ p ∧ p < 3 ∧ 1 ≤ n ∧ n ≤ 9999 := of_decide_eq_true hd
  have HW : Hid ((0 ≤ p ∧ p < 3) ∧ wfI p ∧ wfI n) := ⟨⟨hdn.1, hdn.2.1⟩, wfI_of (by omega), wfI_of (by omega)⟩
  clear hd hdn
  go_wp2
  go_loopw [6] (fun s6 wr => ∃ k : Nat, k ≤ l.length ∧ s6 = .int .i64 k ∧ (∀ j (h : j < l.length), j < k → ¬ (l[j].p = p ∧ l[j].n = n)) ∧ Box wr gd [.int .i64 p, .int .i64 n] ∧ Below w.heap.size w wr) (fun s6 _ => l.length - (intOf s6).toNat)
  case atStart => exact ⟨0, by omega, rfl, fun j h h' => by omega, Y.out.1, Y.out.2⟩
  case round =>
    clear Y
    obtain ⟨k, hk, rfl, hF0, hX0, hB0⟩ := hrel
    have HF1 : Hid (∀ j (h : j < l.length), j < k → ¬ (l[j].p = p ∧ l[j].n = n)) := hF0
    have Y : Hid (Box wr gd [.int .i64 p, .int .i64 n] ∧ Below w.heap.size w wr) := ⟨hX0, hB0⟩
    clear hF0 hX0 hB0
    by_cases hkl : k < l.length
    · have hkl' : (k : Int) < (l.length : Int) := by omega
      have k0 : (0 : Int) ≤ (k : Int) := by omega
      rcases hr.out.e with h' | ⟨b, off, rfl, _, h2⟩
      · rw [h'] at hkl; simp at hkl
      have e1 := (h2 k hkl).next Y.out.2 (cell_lt (x := ⟨b, off + k * 8, none⟩) (h2 k hkl).1)
      have e4 : b < wr.heap.size := Nat.lt_of_lt_of_le (cell_lt (x := ⟨b, off + k * 8, none⟩) (h2 k hkl).1) Y.out.2.size
      have HMX0 : l[k] ∈ l := List.getElem_mem hkl
      have HOV : ∀ W, Below w.heap.size w W → (0 ≤ l[k].p ∧ l[k].p < 3) → Calls Try.prog 37 #[.slice (some ⟨b, off, none⟩) l.length q, .int .i64 k] W (Told (∃ f ∈ l, f.key = l[k].key ∧ knowE f l[k].p l[k].n) W) := fun W hW hp => over_any lo q k (some ⟨b, off, none⟩) l W hlm l[k] hkl rfl hp (hr.out.next hW)
      have HF2 : ¬ (l[k].p = p ∧ l[k].n = n) → ∀ j (h : j < l.length), j < k + 1 → ¬ (l[j].p = p ∧ l[j].n = n) := fun h j hj hjk => by
        by_cases e : j = k
        · subst e; exact h
        · exact HF1.out j hj (by omega)
      clear h2
      generalize l[k] = x at *
      have XX : Hid (EAt wr b (off + k * 8) x ∧ Box wr gd [.int .i64 p, .int .i64 n] ∧ b < wr.heap.size ∧ Below w.heap.size w wr) := ⟨e1, Y.out.1, e4, Y.out.2⟩
      have HMX : Hid (x ∈ l) := HMX0
      have HO : Hid (∀ W, Below w.heap.size w W → (0 ≤ x.p ∧ x.p < 3) → Calls Try.prog 37 #[.slice (some ⟨b, off, none⟩) l.length q, .int .i64 k] W (Told (∃ f ∈ l, f.key = x.key ∧ knowE f x.p x.n) W)) := HOV
      have HF0 : Hid (¬ (x.p = p ∧ x.n = n) → ∀ j (h : j < l.length), j < k + 1 → ¬ (l[j].p = p ∧ l[j].n = n)) := HF2
      clear e1 e4 HMX0 HF2 HF1 HOV Y
      go_upto_region 8 with fail
      have ev := eqd x.p x.n p n
      by_cases hpn : x.p = p ∧ x.n = n
      case neg =>
        have HF : Hid (∀ j (h : j < l.length), j < k + 1 → ¬ (l[j].p = p ∧ l[j].n = n)) := HF0.out hpn
        have hev : (x.p == p && x.n == n) = false := by
          cases h : (x.p == p && x.n == n) with
          | false => rfl
          | true => simp at h; exact (hpn h).elim
        rw [hev] at ev
        clear hev hpn HF0 HO
        refine wp_region_held_drew (S := (fun w' => (w'.cell? ⟨b, off + k * 8, none⟩ = some (.int .i64 x.p) ∧ w'.cell? ⟨b, off + k * 8 + 1, none⟩ = some (.int .i64 x.n) ∧ w'.cell? ⟨b, off + k * 8 + 2, none⟩ = some (.string x.key) ∧ w'.cell? ⟨b, off + k * 8 + 3, none⟩ = some (.int .i64 x.v) ∧ w'.cell? ⟨b, off + k * 8 + 4, none⟩ = some (.bool x.dead) ∧ w'.cell? ⟨b, off + k * 8 + 5, none⟩ = some (.int .i64 x.a) ∧ w'.cell? ⟨b, off + k * 8 + 6, none⟩ = some (.int .i64 x.b) ∧ w'.cell? ⟨b, off + k * 8 + 7, none⟩ = some (.int .i64 x.c)) ∧ w'.cell? ⟨gd, 0, none⟩ = some (.int .i64 p) ∧ w'.cell? ⟨gd, 1, none⟩ = some (.int .i64 n))) (by kernel_rfl) ?_ (fun hHeld => ?_)
        · (try dsimp only)
          exact ⟨XX.out.1.next (bel_drew _) XX.out.2.2.1, (XX.out.2.1.next (bel_drew _)).c2⟩
        replace XX : Hid (EAt wr.drew b (off + k * 8) x ∧ Box wr.drew gd [.int .i64 p, .int .i64 n] ∧ b < wr.drew.heap.size ∧ Below w.heap.size w wr.drew) := ⟨XX.out.1.next (bel_drew _) XX.out.2.2.1, XX.out.2.1.next (bel_drew _), Nat.lt_of_lt_of_le XX.out.2.2.1 (bel_drew _).size, XX.out.2.2.2.drew⟩
        generalize wr.drew = V1 at *
        refine wTk 0 ?_
        refine wTk 1 ?_
        refine wTk 2 ?_
        refine wTk 3 ?_
        refine wTk 4 ?_
        refine wTk 5 ?_
        refine wTk 6 (v := .bool false) ?_
        refine wpAnyH_done (by kernel_rfl) ?_ _
        clear hHeld
        clear ev
        go_wp2
        go_roundw
        case rel => exact ⟨k + 1, by omega, by go_num, HF.out, XX.out.2.1, XX.out.2.2.2⟩
        case measure => simp [intOf]; omega
      have HPN : Hid (x.p = p ∧ x.n = n) := hpn
      have hev : (x.p == p && x.n == n) = true := by simp [hpn]
      rw [hev] at ev
      clear hev hpn HF0
      refine wp_region_held_drew (S := (fun w' => (w'.cell? ⟨b, off + k * 8, none⟩ = some (.int .i64 x.p) ∧ w'.cell? ⟨b, off + k * 8 + 1, none⟩ = some (.int .i64 x.n) ∧ w'.cell? ⟨b, off + k * 8 + 2, none⟩ = some (.string x.key) ∧ w'.cell? ⟨b, off + k * 8 + 3, none⟩ = some (.int .i64 x.v) ∧ w'.cell? ⟨b, off + k * 8 + 4, none⟩ = some (.bool x.dead) ∧ w'.cell? ⟨b, off + k * 8 + 5, none⟩ = some (.int .i64 x.a) ∧ w'.cell? ⟨b, off + k * 8 + 6, none⟩ = some (.int .i64 x.b) ∧ w'.cell? ⟨b, off + k * 8 + 7, none⟩ = some (.int .i64 x.c)) ∧ w'.cell? ⟨gd, 0, none⟩ = some (.int .i64 p) ∧ w'.cell? ⟨gd, 1, none⟩ = some (.int .i64 n))) (by kernel_rfl) ?_ (fun hHeld => ?_)
      · (try dsimp only)
        exact ⟨XX.out.1.next (bel_drew _) XX.out.2.2.1, (XX.out.2.1.next (bel_drew _)).c2⟩
      replace XX : Hid (EAt wr.drew b (off + k * 8) x ∧ Box wr.drew gd [.int .i64 p, .int .i64 n] ∧ b < wr.drew.heap.size ∧ Below w.heap.size w wr.drew) := ⟨XX.out.1.next (bel_drew _) XX.out.2.2.1, XX.out.2.1.next (bel_drew _), Nat.lt_of_lt_of_le XX.out.2.2.1 (bel_drew _).size, XX.out.2.2.2.drew⟩
      generalize wr.drew = V1 at *
      refine wTk 0 ?_
      refine wTk 1 ?_
      refine wTk 2 ?_
      refine wTk 3 ?_
      refine wTk 4 ?_
      refine wTk 5 ?_
      refine wTk 6 (v := .bool true) ?_
      refine wpAnyH_done (by kernel_rfl) ?_ _
      clear hHeld
      clear ev
      go_wp2_with fail
      refine Calls.mono (HO.out V1 XX.out.2.2.2 (by rw [HPN.out.1]; exact HW.out.1)) ?_
      rintro e1 W5 ⟨rr, rfl, hq, hb⟩
      have HF : Hid (ovP l p n rr 0) := .inr (.inr (.inr ⟨HLE.out, ⟨HE.out, HDT.out⟩, x, HMX.out, HPN.out, by rw [← HPN.out.1, ← HPN.out.2]; exact hq, rfl⟩))
      have hB : Hid (Below w.heap.size w W5) := XX.out.2.2.2.trans (hb.mono XX.out.2.2.2.size)
      clear hb hq XX HO HMX
      go_wp2
      go_ret2
      exact ⟨rr, 0, rfl, HF.out, hB.out⟩
    · have hkl' : ¬ (k : Int) < (l.length : Int) := by omega
      have HF : Hid (ovP l p n false 5) := .inr (.inr (.inl ⟨HLE.out, ⟨HE.out, HDT.out⟩, fun e he hc => by
        obtain ⟨j, hj, rfl⟩ := List.getElem_of_mem he
        exact HF1.out j hj (by omega) hc, rfl, rfl⟩))
      clear HF1
      go_wp2
      go_ret2
      exact ⟨false, 5, rfl, HF.out, Y.out.2⟩
end Go.Proofs.Ythcmkakijdnleaa
