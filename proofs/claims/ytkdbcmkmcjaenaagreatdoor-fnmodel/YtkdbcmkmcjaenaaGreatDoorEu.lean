/- The law of EventText. -/
import Derived.Test.YtkdbcmkmcjaenaaGreatDoorRows
import Derived.WalkKit
import Derived.WalkSpells
import Derived.WalkLawsBesides
import Derived.Deep.QuietTactic
import Derived.BigQuiet
import Derived.Deep.RegionHeld3
import Derived.Test.YtkdbcmkmcjaenaaGreatDoorEt
import Derived.LoopN
import Derived.OwnWalk
namespace Go.Proofs.YtkdbcmkmcjaenaaGreatDoor
open Go.RowKit
set_option linter.unusedSimpArgs false
set_option linter.unusedVariables false

set_option maxRecDepth 20000 in
set_option maxHeartbeats 4000000 in
theorem specET (x : Ev) (A V X : ByteArray) (w : World) (hks : x.key.size < 1099511627776) (ht : evP x → TxS x A V X) :
    Calls Tryz.prog 16 #[.agg #[.int .i64 x.p, .int .i64 x.n, .string x.key, .int .i64 x.v, .bool x.dead, .int .i64 x.a, .int .i64 x.b, .int .i64 x.c]] w fun e w' => ∃ r c, e = .returned (.tuple #[.string r, .int .i64 c]) ∧ ((evP x ∧ r = etB A x.key V X ∧ c = 0) ∨ (¬ evP x ∧ r = ⟨#[]⟩ ∧ c = 1)) ∧ Below w.heap.size w w' := by
  have HI : Hid (evP x → TxS x A V X) := ht
  obtain ⟨bk, hbk⟩ := bool_of (keyP x.key)
  have HK : Hid (bk = true ↔ keyP x.key) := hbk
  clear hbk ht
  go_enter Tryz.func16, Tryz.ntmps16
  go_upto_region 1 with fail
  refine wp_gen (fun W => Box W w.heap.size [.int .i64 x.p, .int .i64 x.n, .string x.key, .int .i64 x.v, .bool x.dead, .int .i64 x.a, .int .i64 x.b, .int .i64 x.c] ∧ Below w.heap.size w W) ⟨box_mk, bel_alloc _ _⟩ (fun W0 hI => ?_)
  obtain ⟨ge, hge⟩ : ∃ g, g = w.heap.size := ⟨_, rfl⟩
  have Y : Hid (Box W0 ge [.int .i64 x.p, .int .i64 x.n, .string x.key, .int .i64 x.v, .bool x.dead, .int .i64 x.a, .int .i64 x.b, .int .i64 x.c] ∧ Below w.heap.size w W0) := by rw [hge]; exact hI
  rw [← hge]
  clear hI hge
  obtain ⟨a0, a1, a2, a3, a4, a5, a6, a7⟩ := Y.out.1.c8
  go_wp2_with fail
  refine (spec_dot x.p x.n _).mono ?_
  rintro e W1 ⟨rfl, hb⟩
  replace Y : Hid (Box W1 ge [.int .i64 x.p, .int .i64 x.n, .string x.key, .int .i64 x.v, .bool x.dead, .int .i64 x.a, .int .i64 x.b, .int .i64 x.c] ∧ Below w.heap.size w W1) := ⟨Y.out.1.next hb, Y.out.2.trans (hb.mono Y.out.2.size)⟩
  clear hb a0 a1 a2 a3 a4 a5 a6 a7
  obtain ⟨a0, a1, a2, a3, a4, a5, a6, a7⟩ := Y.out.1.c8
  cases hd : dotB x.p x.n
  case false =>
    have HF : Hid (¬ evP x) := fun h => by rw [h.1] at hd; cases hd
    clear hd HK HI
    go_wp2
    go_ret2
    exact ⟨⟨#[]⟩, 1, rfl, .inr ⟨HF.out, rfl, rfl⟩, Y.out.2⟩
  have HD : Hid (dotB x.p x.n = true) := hd
  clear hd
  go_wp2_with fail
  refine (specKey_any x.key bk HK.out _ hks).mono ?_
  rintro e w1 ⟨rfl, rfl⟩
  cases bk
  case false =>
    have HF : Hid (¬ evP x) := fun h => by have := HK.out.2 h.2.1; cases this
    clear HK HD HI
    go_wp2
    go_ret2
    exact ⟨⟨#[]⟩, 1, rfl, .inr ⟨HF.out, rfl, rfl⟩, Y.out.2⟩
  have HKt : Hid (keyP x.key) := HK.out.1 rfl
  clear HK
  by_cases hv : 0 ≤ x.v ∧ x.v ≤ 999
  case neg =>
    have HF : Hid (¬ evP x) := fun h => hv h.2.2.1.1
    have HVf : Hid (¬ (0 ≤ x.v ∧ x.v ≤ 999)) := hv
    clear hv HI HD HKt
    go_wp2_with fail
    refine (in_no _ _ _ _ HVf.out).mono ?_
    rintro e w1 ⟨rfl, rfl⟩
    go_wp2
    go_ret2
    exact ⟨⟨#[]⟩, 1, rfl, .inr ⟨HF.out, rfl, rfl⟩, Y.out.2⟩
  have HVr : Hid (0 ≤ x.v ∧ x.v ≤ 999) := hv
  clear hv
  go_wp2_with fail
  refine (in_yes _ _ _ _ HVr.out.1 HVr.out.2).mono ?_
  rintro e w1 ⟨rfl, rfl⟩
  cases hdd : x.dead
  · rw [hdd] at a4
    have HDD : Hid (x.dead = false) := hdd
    clear hdd
    go_wp2_with fail
    refine (spec_vv x.a x.b x.c _).mono ?_
    rintro e W2 ⟨rfl, hb⟩
    replace Y : Hid (Box W2 ge [.int .i64 x.p, .int .i64 x.n, .string x.key, .int .i64 x.v, .bool x.dead, .int .i64 x.a, .int .i64 x.b, .int .i64 x.c] ∧ Below w.heap.size w W2) := ⟨Y.out.1.next hb, Y.out.2.trans (hb.mono Y.out.2.size)⟩
    clear hb a0 a1 a2 a3 a4 a5 a6 a7
    cases hvv : vvB x.a x.b x.c
    case false =>
      have HF : Hid (¬ evP x) := fun h => by rw [h.2.2.2] at hvv; cases hvv
      clear hvv HI
      go_wp2
      go_ret2
      exact ⟨⟨#[]⟩, 1, rfl, .inr ⟨HF.out, rfl, rfl⟩, Y.out.2⟩
    have HE : Hid (evP x) := ⟨HD.out, HKt.out, ⟨HVr.out, fun h => by rw [HDD.out] at h; cases h⟩, hvv⟩
    have HT : Hid (TxS x A V X) := HI.out HE.out
    clear hvv HI HD HKt HVr
    obtain ⟨a0, a1, a2, a3, a4, a5, a6, a7⟩ := Y.out.1.c8
    go_wp2_with fail
    refine Calls.mono (specText x A V X W2 HT.out) ?_
    rintro e W3 ⟨rfl, hb⟩
    replace Y : Hid (Box W3 ge [.int .i64 x.p, .int .i64 x.n, .string x.key, .int .i64 x.v, .bool x.dead, .int .i64 x.a, .int .i64 x.b, .int .i64 x.c] ∧ Below w.heap.size w W3) := ⟨Y.out.1.next hb, Y.out.2.trans (hb.mono Y.out.2.size)⟩
    clear hb a0 a1 a2 a3 a4 a5 a6 a7
    go_wp2
    go_ret2
    exact ⟨_, 0, rfl, .inl ⟨HE.out, rfl, rfl⟩, Y.out.2⟩
  · rw [hdd] at a4
    have HDD : Hid (x.dead = true) := hdd
    clear hdd
    by_cases hv0 : x.v = 0
    case neg =>
      have HF : Hid (¬ evP x) := fun h => hv0 (h.2.2.1.2 HDD.out)
      have hn4 : (x.v == 0) = false := beq_eq_false_iff_ne.2 hv0
      clear HI HD HKt HDD HVr
      go_wp2
      go_ret2
      exact ⟨⟨#[]⟩, 1, rfl, .inr ⟨HF.out, rfl, rfl⟩, Y.out.2⟩
    have HV0 : Hid (x.v = 0) := hv0
    have hn4 : (x.v == 0) = true := beq_iff_eq.2 hv0
    clear hv0
    go_wp2_with fail
    refine (spec_vv x.a x.b x.c _).mono ?_
    rintro e W2 ⟨rfl, hb⟩
    replace Y : Hid (Box W2 ge [.int .i64 x.p, .int .i64 x.n, .string x.key, .int .i64 x.v, .bool x.dead, .int .i64 x.a, .int .i64 x.b, .int .i64 x.c] ∧ Below w.heap.size w W2) := ⟨Y.out.1.next hb, Y.out.2.trans (hb.mono Y.out.2.size)⟩
    clear hb a0 a1 a2 a3 a4 a5 a6 a7 hn4
    cases hvv : vvB x.a x.b x.c
    case false =>
      have HF : Hid (¬ evP x) := fun h => by rw [h.2.2.2] at hvv; cases hvv
      clear hvv HI
      go_wp2
      go_ret2
      exact ⟨⟨#[]⟩, 1, rfl, .inr ⟨HF.out, rfl, rfl⟩, Y.out.2⟩
    have HE : Hid (evP x) := ⟨HD.out, HKt.out, ⟨HVr.out, fun _ => HV0.out⟩, hvv⟩
    have HT : Hid (TxS x A V X) := HI.out HE.out
    clear hvv HI HD HKt HVr
    obtain ⟨a0, a1, a2, a3, a4, a5, a6, a7⟩ := Y.out.1.c8
    go_wp2_with fail
    refine Calls.mono (by have h := specText x A V X W2 HT.out; rw [HV0.out] at h; exact h) ?_
    rintro e W3 ⟨rfl, hb⟩
    replace Y : Hid (Box W3 ge [.int .i64 x.p, .int .i64 x.n, .string x.key, .int .i64 x.v, .bool x.dead, .int .i64 x.a, .int .i64 x.b, .int .i64 x.c] ∧ Below w.heap.size w W3) := ⟨Y.out.1.next hb, Y.out.2.trans (hb.mono Y.out.2.size)⟩
    clear hb a0 a1 a2 a3 a4 a5 a6 a7
    go_wp2
    go_ret2
    exact ⟨_, 0, rfl, .inl ⟨HE.out, rfl, rfl⟩, Y.out.2⟩
theorem tx_both (x : Ev) (h : evP x) : ∃ A V X, TxI x A V X ∧ TxS x A V X := by
  have hd : 0 ≤ x.p ∧ x.p < 3 ∧ 1 ≤ x.n ∧ x.n ≤ 9999 := of_decide_eq_true h.1
  have hv := of_decide_eq_true h.2.2.2
  have hw := h.2.2.1.1
  have hk : x.key.size ≤ 20000 := by have := h.2.1.2.1; omega
  obtain ⟨p, n, key, v, dead, a, b, c⟩ := x
  dsimp only at hd hv hw hk
  obtain ⟨n, rfl⟩ := Int.eq_ofNat_of_zero_le (show 0 ≤ n by omega)
  obtain ⟨v, rfl⟩ := Int.eq_ofNat_of_zero_le hw.1
  obtain ⟨a, rfl⟩ := Int.eq_ofNat_of_zero_le hv.1.1
  obtain ⟨b, rfl⟩ := Int.eq_ofNat_of_zero_le hv.2.1.1
  obtain ⟨c, rfl⟩ := Int.eq_ofNat_of_zero_le hv.2.2.1
  have La := dsN_len a
  have Lb := dsN_len b
  have Lc := dsN_len c
  have Lv := dsN_len v
  have Ln := dsN_len n
  have Lj : (vj (dsN a) (dsN b) (dsN c)).length ≤ 50000 := by simp [vj]; omega
  refine ⟨⟨(UInt8.ofNat (97 + p.toNat) :: dsN n).toArray⟩, if dead then ⟨#[33]⟩ else ⟨(dsN v).toArray⟩, ⟨(vj (dsN a) (dsN b) (dsN c)).toArray⟩, ⟨fun W ht => ?_, fun W ht => ⟨⟨(dsN v).toArray⟩, itoa_any v (by omega) W ht, rfl⟩, fun W ht => ?_, ?_⟩, ⟨fun W => ?_, fun hd W => ?_, fun hd => ?_, fun W => ?_, ?_⟩⟩
  · have hp : p = 0 ∨ p = 1 ∨ p = 2 := by omega
    rcases hp with rfl | rfl | rfl
    · exact impl_text0 n (by omega) W ht
    · exact impl_text1 n (by omega) W ht
    · exact impl_text2 n (by omega) W ht
  · exact impl_vtext a b c (dsN a) (dsN b) (dsN c) W ht (fun W h => itoa_any a (by omega) W h) (fun W h => itoa_any b (by omega) W h) (fun W h => itoa_any c (by omega) W h) (show _ ≤ _ by omega)
  · refine ⟨?_, hk, ?_, ?_⟩
    · show (UInt8.ofNat (97 + p.toNat) :: dsN n).toArray.size ≤ 20000
      simp; omega
    · cases dead
      · show (dsN v).toArray.size ≤ 20000
        simp; omega
      · show (#[33] : Array UInt8).size ≤ 20000
        simp
    · show (vj (dsN a) (dsN b) (dsN c)).toArray.size ≤ 100000
      simp; omega
  · exact spec_text p (UInt8.ofNat (97 + p.toNat)) n hd.1 hd.2.1 (by show _ = _; simp [UInt8.toNat_ofNat']; omega) (by omega) W
  · dsimp only at hd
    subst hd
    exact digits_any (v + 1) v (by omega) (by omega) W
  · dsimp only at hd
    subst hd
    rfl
  · exact spec_vtext a b c (dsN a) (dsN b) (dsN c) W (fun W => digits_any (a + 1) a (by omega) (by omega) W) (fun W => digits_any (b + 1) b (by omega) (by omega) W) (fun W => digits_any (c + 1) c (by omega) (by omega) W) (by omega) (by omega) (by omega)
  · refine ⟨?_, hk, ?_, ?_⟩
    · show (UInt8.ofNat (97 + p.toNat) :: dsN n).toArray.size ≤ 20000
      simp; omega
    · cases dead
      · show (dsN v).toArray.size ≤ 20000
        simp; omega
      · show (#[33] : Array UInt8).size ≤ 20000
        simp
    · show (vj (dsN a) (dsN b) (dsN c)).toArray.size ≤ 100000
      simp; omega
end Go.Proofs.YtkdbcmkmcjaenaaGreatDoor
