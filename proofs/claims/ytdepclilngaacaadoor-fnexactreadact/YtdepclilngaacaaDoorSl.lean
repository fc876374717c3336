/- The specification reads an act. -/
import Derived.Test.YtdepclilngaacaaDoorRows
import Derived.WalkKit
import Derived.WalkSpells
import Derived.WalkLawsBesides
import Derived.Deep.QuietTactic
import Derived.BigQuiet
import Derived.Deep.RegionHeld3
import Derived.Test.YtdepclilngaacaaDoorMs
import Derived.Test.YtdepclilngaacaaDoorZk
import Derived.LoopN
import Derived.BigQuiet
import Derived.Deep.Cut
import Derived.Deep.CutRange
import Derived.Deep.CutBlock
namespace Go.Proofs.YtdepclilngaacaaDoor
open Go.RowKit
set_option linter.unusedSimpArgs false
set_option linter.unusedVariables false

theorem bd (W : World) (n : Nat) : Below W.heap.size W (W.drewN n) := below_drewN (Below.refl _ _) n
set_option maxRecDepth 100000 in
set_option maxHeartbeats 40000000 in
theorem specL15 (s : ByteArray) (w : World) (hs : s.size ≤ 65536) : Calls Tryd.prog 7 #[.string s] w (LrQ s w) := by
  have R0 : Hid (Box (w.alloc (.cells #[.int .i64 0, .int .i64 0, .int .i64 0, .string ⟨#[]⟩, .int .i64 0, .int .i64 0, .bool false] 23)) w.heap.size zeroA.cells ∧ Below w.heap.size w (w.alloc (.cells #[.int .i64 0, .int .i64 0, .int .i64 0, .string ⟨#[]⟩, .int .i64 0, .int .i64 0, .bool false] 23)) ∧ (w.alloc (.cells #[.int .i64 0, .int .i64 0, .int .i64 0, .string ⟨#[]⟩, .int .i64 0, .int .i64 0, .bool false] 23)).heap.size = w.heap.size + 1) := ⟨box_mk, bel_alloc _ _, by simp⟩
  have HLN : Hid ((wordsB s).length ≤ s.size + 1 ∧ ∀ x ∈ wordsB s, 0 < x.size ∧ x.size ≤ s.size) := ⟨words_len s, words_ne s⟩
  go_enter Tryd.func7, Tryd.ntmps7
  go_wp2_with fail
  generalize (w.alloc (.cells #[.int .i64 0, .int .i64 0, .int .i64 0, .string ⟨#[]⟩, .int .i64 0, .int .i64 0, .bool false] 23)) = W0 at *
  refine Calls.mono (spWords s W0 hs) ?_
  rintro e W1 ⟨p, q, rfl, hq, hG, hb⟩
  have S1 : Hid (SS w (W1.alloc (.cells #[.int .i64 0, .int .i64 0, .int .i64 0, .string ⟨#[]⟩, .int .i64 0, .int .i64 0, .bool false] 23)) w.heap.size W1.heap.size zeroA p (wordsB s) ∧ (wordsB s).length ≤ q) := by
    have b1 : Box W1 w.heap.size zeroA.cells := R0.out.1.next hb
    have b2 : Box (W1.alloc (.cells #[.int .i64 0, .int .i64 0, .int .i64 0, .string ⟨#[]⟩, .int .i64 0, .int .i64 0, .bool false] 23)) W1.heap.size zeroA.cells := box_mk
    have hz := R0.out.2.2
    rw [hz] at hG
    refine ⟨⟨b1.next (bel_alloc _ _), b2, rfl, b1.lt, hG.next (bel_alloc _ _), fun x hx hn => ?_, (R0.out.2.1.trans (hb.mono R0.out.2.1.size)).trans ((bel_alloc _ _).mono (by have := b1.lt; omega))⟩, hq⟩
    rcases hG with h' | ⟨b', off', hp, hb', hc⟩
    · exact (hn (by simpa [txB] using h')).elim
    · rw [hx] at hp
      cases hp
      have hne : 0 < (txB (wordsB s)).length := by simp [txB]; exact List.length_pos_iff.2 hn
      exact cell_lt (x := ⟨b', off' + 0, none⟩) (hc 0 hne)
  clear hb hG hq R0
  go_wp2_with fail
  generalize (W1.alloc (.cells #[.int .i64 0, .int .i64 0, .int .i64 0, .string ⟨#[]⟩, .int .i64 0, .int .i64 0, .bool false] 23)) = W2 at *
  generalize W1.heap.size = g at *
  refine Calls.mono (sp_words W2) ?_
  rintro e W3 ⟨rfl, hG, hb⟩
  have S3 : Hid (SS w W3 w.heap.size g zeroA p (wordsB s) ∧ GRow (g + 1) W3 (some ⟨W2.heap.size, 0, none⟩) (txB kws)) := ⟨S1.out.1.next hb, hG.weak (by have := S1.out.1.a.lt; omega)⟩
  have HQ : Hid ((wordsB s).length ≤ q) := S1.out.2
  clear hb hG S1
  generalize W2.heap.size = gt at *
  cases hws : wordsB s with
  | nil =>
    have HB : Hid (¬ Good (wordsB s)) := (by rw [hws]; exact fun h => h)
    have S4 : Hid (SS w W3 w.heap.size g zeroA p (wordsB s)) := S3.out.1
    clear HLN HQ hws S3
    go_wp2
    go_loopw [7] (fun s7 wr => s7 = .int .i64 1 ∧ wr = W3) (fun _ _ => 0)
    case atStart => exact ⟨rfl, rfl⟩
    case round =>
      obtain ⟨rfl, rfl⟩ := hrel
      obtain ⟨rc0, rc1, rc2, rc3, rc4, rc5, rc6⟩ := (show Box _ w.heap.size [.int .i64 0, .int .i64 0, .int .i64 0, .string ⟨#[]⟩, .int .i64 0, .int .i64 0, .bool false] from S4.out.r).c7
      obtain ⟨rf0, rf1, rf2, rf3, rf4, rf5, rf6⟩ := (show Box _ w.heap.size [.int .i64 0, .int .i64 0, .int .i64 0, .string ⟨#[]⟩, .int .i64 0, .int .i64 0, .bool false] from S4.out.r).f7
      obtain ⟨ac0, ac1, ac2, ac3, ac4, ac5, ac6⟩ := (show Box _ g [.int .i64 zeroA.k, .int .i64 zeroA.n, .int .i64 zeroA.m, .string zeroA.key, .int .i64 zeroA.v, .int .i64 zeroA.p, .bool zeroA.bl] from S4.out.a).c7
      go_wp2
      refine bodyPost_ret (v := .tuple #[Av.val zeroA, .bool false]) (by simp [results, Tryd.results7, go_sem, rc0, rc1, rc2, rc3, rc4, rc5, rc6, rf0, rf1, rf2, rf3, rf4, rf5, rf6, Av.val]) rfl ?_
      refine LrQ.no HB.out ?_
      repeat refine Below.setCell ?_ (by simp) _
      exact S4.out.b
  | cons w0 t =>
    rw [hws] at S3 HQ HLN
    have HW : Hid (wordsB s = w0 :: t) := hws
    clear hws
    simp only [List.length_cons] at HQ ⊢
    have HT2 : Hid (t.length ≤ 65536) := (by have := HLN.out.1; simp at this; show _ ≤ _; omega)
    obtain ⟨b, off, rfl, _⟩ := S3.out.1.word (i := 0) (s := w0) rfl
    have n0 : (0 : Int) < ((t.length + 1 : Nat) : Int) := by omega
    have n1 : (0 : Int) < (t.length : Int) + 1 := by omega
    have S3' : Hid (SS w W3 w.heap.size g (k0A (kindTo w0 1)) (some ⟨b, off, none⟩) (w0 :: t) ∧ GRow (g + 1) W3 (some ⟨gt, 0, none⟩) (txB kws)) := by rw [kindTo_one]; exact S3.out
    clear S3
    go_wp2
    go_loopw [7] (fun s7 wr => ∃ i : Nat, 1 ≤ i ∧ i ≤ 15 ∧ s7 = .int .i64 i ∧ SS w wr w.heap.size g (k0A (kindTo w0 i)) (some ⟨b, off, none⟩) (w0 :: t) ∧ GRow (g + 1) wr (some ⟨gt, 0, none⟩) (txB kws)) (fun s7 _ => 15 - (intOf s7).toNat)
    case atStart => exact ⟨1, by omega, by omega, rfl, S3'.out⟩
    case round =>
      clear S3'
      obtain ⟨i, hi1, hi2, rfl, hS, hG⟩ := hrel
      have SI : Hid (SS w wr w.heap.size g (k0A (kindTo w0 i)) (some ⟨b, off, none⟩) (w0 :: t) ∧ GRow (g + 1) wr (some ⟨gt, 0, none⟩) (txB kws)) := ⟨hS, hG⟩
      clear hS hG
      by_cases hlt : i < 15
      · have hlt' : (i : Int) < 15 := by omega
        have i0 : (0 : Int) ≤ (i : Int) := by omega
        obtain ⟨b', off', hp, cw⟩ := SI.out.1.word (i := 0) (s := w0) rfl
        cases hp
        rw [Nat.add_zero] at cw
        have ck : wr.cell? ⟨gt, i, none⟩ = some (.string (wd i)) := by
          rcases SI.out.2 with h' | ⟨b', o', hp, _, hc⟩
          · have := congrArg List.length h'; simp [txB, kws] at this
          · cases hp
            have := GRow.at (lo := g + 1) hc (kws_at i hlt)
            rw [Nat.zero_add] at this
            exact this
        have ac0 := (SI.out.1.a.is 0 (by simp [Av.cells])).1
        have af0 := (SI.out.1.a.is 0 (by simp [Av.cells])).2
        simp only [Av.cells, k0A, List.getElem_cons_zero] at ac0 af0
        cases hh : hit w0 i
        · have hh' : ((wd i).toList == w0.toList) = false := hh
          have HK : Hid (kindTo w0 (i + 1) = kindTo w0 i) := kindTo_no hh
          clear hh
          go_wp2
          go_quiet (fail)
          go_wp2
          go_roundw
          case rel => exact ⟨i + 1, by omega, by omega, by go_num, by rw [HK.out]; exact SI.out.1.next (bd _ _), SI.out.2.next (bd _ _)⟩
          case measure => simp [intOf]; omega
        · have hh' : ((wd i).toList == w0.toList) = true := hh
          have HK : Hid (kindTo w0 (i + 1) = i) := kindTo_yes hlt hh
          clear hh
          go_wp2
          go_quiet (fail)
          go_wp2
          go_roundw
          case rel => exact ⟨i + 1, by omega, by omega, by go_num, by rw [HK.out]; exact (SI.out.1.next (bd _ _)).kp Kp.set (by have := (SI.out.1.next (bd _ nq)).a.set (i := 0) (u := .int .i64 (i : Int)) (by simp [Av.cells]); simpa [Av.cells, k0A] using this), (SI.out.2.next (bd _ _)).kp Kp.set (fun x hx _ e => by cases hx; have e' : gt = g := e; have := SI.out.2; rcases this with h' | ⟨b', o', hp, hb, _⟩; have := congrArg List.length h'; simp [txB, kws] at this; cases hp; omega)⟩
          case measure => simp [intOf]; omega
      · have hlt' : ¬ (i : Int) < 15 := by omega
        have hie : i = 15 := by omega
        have S5 : Hid (SS w wr w.heap.size g (k0A (kindN w0)) (some ⟨b, off, none⟩) (w0 :: t)) := by have := SI.out.1; rw [hie, kindTo_all] at this; exact this
        clear SI hie
        by_cases hk0 : kindN w0 = 0
        · have HB : Hid (¬ Good (wordsB s)) := (by rw [HW.out]; exact good_kind hk0)
          rw [hk0] at S5
          obtain ⟨rc0, rc1, rc2, rc3, rc4, rc5, rc6⟩ := (show Box _ w.heap.size [.int .i64 0, .int .i64 0, .int .i64 0, .string ⟨#[]⟩, .int .i64 0, .int .i64 0, .bool false] from S5.out.r).c7
          obtain ⟨rf0, rf1, rf2, rf3, rf4, rf5, rf6⟩ := (show Box _ w.heap.size [.int .i64 0, .int .i64 0, .int .i64 0, .string ⟨#[]⟩, .int .i64 0, .int .i64 0, .bool false] from S5.out.r).f7
          obtain ⟨ac0, ac1, ac2, ac3, ac4, ac5, ac6⟩ := (show Box _ g [.int .i64 (k0A 0).k, .int .i64 (k0A 0).n, .int .i64 (k0A 0).m, .string (k0A 0).key, .int .i64 (k0A 0).v, .int .i64 (k0A 0).p, .bool (k0A 0).bl] from S5.out.a).c7
          go_wp2
          refine bodyPost_ret (v := .tuple #[Av.val (k0A 0), .bool false]) (by simp [results, Tryd.results7, go_sem, rc0, rc1, rc2, rc3, rc4, rc5, rc6, rf0, rf1, rf2, rf3, rf4, rf5, rf6, Av.val]) rfl ?_
          refine LrQ.no HB.out ?_
          repeat refine Below.setCell ?_ (by simp) _
          exact S5.out.b
        obtain ⟨k, hk⟩ : ∃ k, k = kindN w0 := ⟨_, rfl⟩
        have HK : Hid (k = kindN w0 ∧ 1 ≤ k ∧ k < 15) := ⟨hk, by omega, by rw [hk]; exact kind_lt w0⟩
        rw [← hk] at S5 hk0
        clear hk
        have k1 : ((k : Int) == 0) = false := by simp; omega
        have q1 : (1 : Int) ≤ ((t.length + 1 : Nat) : Int) := by omega
        have q4 : (1 : Int) ≤ (t.length : Int) + 1 := by omega
        have q5 : (t.length : Int) + 1 ≤ (q : Int) := by have := HQ.out; omega
        have S6 : Hid (SS w wr w.heap.size g (k0A k) (if q = 1 then some (⟨b, off, none⟩ : Addr) else some ⟨b, off + 1, none⟩) t) := S5.out.tail2 HQ.out
        have ac0 := (S5.out.a.is 0 (by simp [Av.cells])).1
        simp only [Av.cells, k0A, List.getElem_cons_zero] at ac0
        clear S5
        go_upto_region 12 with fail
        generalize (if q = 1 then some (⟨b, off, none⟩ : Addr) else some ⟨b, off + 1, none⟩) = p2 at *
        obtain ⟨T, bb, hst⟩ : ∃ T bb, strip k t = (T, bb) := ⟨_, _, rfl⟩
        have HST : Hid (strip k t = (T, bb)) := hst
        clear hst
        obtain ⟨q2, hq2⟩ : ∃ q2, q2 = q - 1 := ⟨_, rfl⟩
        have HQ2 : Hid (t.length ≤ q2) := (by have := HQ.out; show _ ≤ _; omega)
        rw [← hq2]
        clear hq2 q1 q4 q5
        obtain ⟨n, hn⟩ : ∃ n, n = t.length := ⟨_, rfl⟩
        have HN : Hid (n = t.length) := hn
        rw [← hn] at HT2 HQ2 ⊢
        clear hn
        go_cut [60] from 44 to 60 (fun s60 wc => s60 = .bool bb ∧ wc = wr)
        case first =>
          rcases Nat.eq_zero_or_pos n with e | e
          · subst e
            have HB : Hid (false = bb) := by
              have h1 := HST.out
              have : t = [] := List.length_eq_zero_iff.1 HN.out.symm
              rw [this, strip_nil] at h1
              cases h1
              rfl
            go_wp2
            go_meet
            exact ⟨congrArg Value.bool HB.out, rfl⟩
          · obtain ⟨m, rfl⟩ : ∃ m, n = m + 1 := ⟨n - 1, by omega⟩
            obtain ⟨x, hl, hm⟩ := last_at HN.out
            have z1 : (0 : Int) < ((m + 1 : Nat) : Int) := by omega
            have z2 : (0 : Int) < (m : Int) + 1 := by omega
            by_cases hk2 : k ≤ 2
            · have hk2' : (k : Int) ≤ 2 := by omega
              obtain ⟨b2, o2, rfl, cw⟩ := S6.out.word hm
              have hd : (((m + 1 : Nat) : Int)) - 1 = (m : Int) := by omega
              have hd2 : (m : Int) + 1 - 1 = (m : Int) := by omega
              have hw1 : IntKind.i64.wrap (m : Int) = (m : Int) := by have := HT2.out; rw [IntKind.wrap_i64]; omega
              have m1 : (m : Int) < ((m + 1 : Nat) : Int) := by omega
              have m2 : (m : Int) < (m : Int) + 1 := by omega
              have m3 : (0 : Int) ≤ (m : Int) := by omega
              have HB : Hid (isBl x = bb) := by
                have h1 := HST.out
                cases hb : isBl x
                · rw [strip_no hl hb] at h1; cases h1; rfl
                · rw [strip_yes (by have := HK.out.2.1; omega) hl hb] at h1; cases h1; rfl
              have hb1 : (x.toList == [98, 108, 105, 110, 100]) = bb := HB.out
              clear hl hm hk2
              go_wp2
              go_meet
              exact ⟨rfl, rfl⟩
            · have hk2' : ¬ (k : Int) ≤ 2 := by omega
              have HB : Hid (false = bb) := by
                have h1 := HST.out
                rw [strip_kind (by omega) (by omega)] at h1
                cases h1
                rfl
              clear hl hm hk2
              go_wp2
              go_meet
              exact ⟨congrArg Value.bool HB.out, rfl⟩
        case rest =>
          obtain ⟨rfl, rfl⟩ := hcut
          go_upto_if 60 with fail
          go_cut [4] (fun s4 wd => ∃ q3, s4 = .slice p2 T.length q3 ∧ T.length ≤ q3 ∧ SS w wd w.heap.size g ⟨(k : Int), 0, 0, ⟨#[]⟩, 0, 0, bb⟩ p2 T)
          case first =>
            cases bb with
            | false =>
              have HT : Hid (t = T) := by
                have h1 := HST.out
                unfold strip at h1
                split at h1
                · cases h1
                · cases h1; rfl
              go_wp2
              go_meet
              exact ⟨q2, by rw [← HT.out, ← HN.out], by rw [← HT.out, ← HN.out]; exact HQ2.out, by rw [← HT.out]; exact S6.out⟩
            | true =>
              have HT : Hid (t.dropLast = T ∧ t ≠ []) := by
                have h1 := HST.out
                unfold strip at h1
                split at h1
                · rename_i h2
                  cases h1
                  obtain ⟨_, x, hx, _⟩ := h2
                  exact ⟨rfl, fun e => by rw [e] at hx; simp at hx⟩
                · cases h1
              obtain ⟨m, rfl⟩ : ∃ m, n = m + 1 := ⟨n - 1, by have := List.length_pos_iff.2 HT.out.2; have := HN.out; omega⟩
              have HTL : Hid (T.length = m) := (by show _ = _; rw [← HT.out.1, List.length_dropLast, ← HN.out]; rfl)
              have hd : (((m + 1 : Nat) : Int)) - 1 = (m : Int) := by omega
              have hd2 : (m : Int) + 1 - 1 = (m : Int) := by omega
              have hw1 : IntKind.i64.wrap (m : Int) = (m : Int) := by have := HT2.out; rw [IntKind.wrap_i64]; omega
              have m3 : (0 : Int) ≤ (m : Int) := by omega
              have m4 : (m : Int) ≤ (q2 : Int) := by have := HQ2.out; omega
              have ac6 := (S6.out.a.is 6 (by simp [Av.cells])).1
              have af6 := (S6.out.a.is 6 (by simp [Av.cells])).2
              simp only [Av.cells, k0A, List.getElem_cons_zero, List.getElem_cons_succ] at ac6 af6
              go_wp2
              go_meet
              refine ⟨_, by rw [HTL.out], by have := HTL.out; have := HQ2.out; omega, ?_⟩
              rw [← HT.out.1, List.dropLast_eq_take]
              exact S6.out.sub.kp Kp.set (by have := S6.out.a.set (i := 6) (u := .bool true) (by simp [Av.cells]); simpa [Av.cells, k0A] using this)
          case rest =>
            obtain ⟨q3, rfl, hq3, hS⟩ := hcut
            have SA : Hid (SS w wc w.heap.size g ⟨(k : Int), 0, 0, ⟨#[]⟩, 0, 0, bb⟩ p2 T) := hS
            have HG : Hid ((goodW k T ∧ (actOf k bb T).ok ↔ Good (wordsB s)) ∧ resA (wordsB s) = actOf k bb T) := by
              rw [HW.out]
              simp only [Good, resA]
              rw [← HK.out.1, HST.out]
              exact ⟨Iff.rfl, rfl⟩
            have HTX : Hid (T.length ≤ 65536 ∧ ∀ x ∈ T, x.size ≤ 65536) := by
              obtain ⟨j, hj⟩ := strip_sub (k := k) (ws := t)
              rw [HST.out] at hj
              have hj' : T = t.take j := hj
              refine ⟨by rw [hj', List.length_take]; have := HT2.out; have := HN.out; omega, fun x hx => ?_⟩
              have := (HLN.out.2 x (List.mem_cons_of_mem _ (List.mem_of_mem_take (by rw [hj'] at hx; exact hx)))).2
              omega
            have HK2 : Hid (1 ≤ k ∧ k < 15) := HK.out.2
            clear hq3 hS S6 HST HW HLN HQ HQ2 HN HT2 HK n0 n1
            obtain ⟨kd, hkd⟩ : ∃ kd, kd = keyed k := ⟨_, rfl⟩
            have HKD : Hid (kd = keyed k) := hkd
            clear hkd
            obtain ⟨nn, hnn⟩ : ∃ nn, nn = T.length := ⟨_, rfl⟩
            have HNN : Hid (nn = T.length ∧ nn ≤ 65536) := ⟨hnn, by have := HTX.out.1; omega⟩
            rw [← hnn]
            clear hnn
            go_wp2
            go_loopw [8, 9] (fun s8 s9 wr => ∃ (i vn : Nat) (vo : Option Addr) (vc : Nat), i ≤ nn ∧ vn ≤ i ∧ s9 = .int .i64 i ∧ s8 = .slice vo vn vc ∧ vn = (nk kd (T.take i)).length ∧ SS w wr w.heap.size g ⟨(k : Int), 0, 0, keyAt kd (T.take i), 0, 0, bb⟩ p2 T ∧ OwnG wr 3 1 (.slice vo vn vc) vn (ints (nvs (nk kd (T.take i)))) (g + 1) ∧ ∀ x ∈ nk kd (T.take i), nOK18 x) (fun _ s9 _ => nn - (intOf s9).toNat)
            case atStart => exact ⟨0, 0, _, _, by omega, by omega, rfl, rfl, by cases kd <;> simp [nk], by have := SA.out.next (bel_alloc _ (.cells #[] 3)); cases kd <;> simpa [keyAt] using this, by have := OwnG.lit (W := wc) (e := 3) (size := 1) (lo := g + 1) SA.out.a.lt; cases kd <;> simpa [nk, nvs, ints] using this, by intro x hx; cases kd <;> simp [nk] at hx⟩
            case round =>
              clear SA
              obtain ⟨i, vn, vo, vc, hi, hvi, rfl, rfl, hvn, hS, hO, hP⟩ := hrel
              have SI : Hid (SS w wr w.heap.size g ⟨(k : Int), 0, 0, keyAt kd (T.take i), 0, 0, bb⟩ p2 T ∧ OwnG wr 3 1 (.slice vo vn vc) vn (ints (nvs (nk kd (T.take i)))) (g + 1)) := ⟨hS, hO⟩
              have HP : Hid (vn = (nk kd (T.take i)).length ∧ ∀ x ∈ nk kd (T.take i), nOK18 x) := ⟨hvn, hP⟩
              clear hS hO hP hvn
              by_cases hlt : i < nn
              · have hlt' : (i : Int) < (nn : Int) := by omega
                have i0 : (0 : Int) ≤ (i : Int) := by omega
                have hnn := HNN.out.2
                obtain ⟨x, hx⟩ : ∃ x, T[i]? = some x := ⟨_, List.getElem?_eq_getElem (by have := HNN.out; omega)⟩
                obtain ⟨b2, o2, rfl, cw⟩ := SI.out.1.word hx
                have HX : Hid (T[i]? = some x) := hx
                have hxs := HTX.out.2 x (List.mem_of_getElem? hx)
                clear hx
                go_wp2_with fail
                refine Calls.mono (l03_any x wr hxs) ?_
                clear cw
                rintro e W5 ⟨nx, ok, rfl, hok, hnx, hb⟩
                have S5 : Hid (SS w W5 w.heap.size g ⟨(k : Int), 0, 0, keyAt kd (T.take i), 0, 0, bb⟩ (some ⟨b2, o2, none⟩) T ∧ OwnG W5 3 1 (.slice vo vn vc) vn (ints (nvs (nk kd (T.take i)))) (g + 1)) := ⟨SI.out.1.next hb, SI.out.2.next hb⟩
                clear hb SI
                have cw : W5.cell? ⟨b2, o2 + i, none⟩ = some (.string x) := by
                  obtain ⟨b', o', hp, h⟩ := S5.out.1.word HX.out
                  cases hp
                  exact h
                by_cases hkey : i = 1 ∧ kd = true
                · obtain ⟨rfl, hkd1⟩ := hkey
                  subst hkd1
                  have HK4 : Hid (k ≤ 2 ∨ k = 8) := (show k ≤ 2 ∨ k = 8 from of_decide_eq_true HKD.out.symm)
                  have HM : Hid _ := nk_key HX.out
                  have ac0 := (S5.out.1.a.is 0 (by simp [Av.cells])).1
                  have ac3 := (S5.out.1.a.is 3 (by simp [Av.cells])).1
                  have af3 := (S5.out.1.a.is 3 (by simp [Av.cells])).2
                  simp only [Av.cells, List.getElem_cons_zero, List.getElem_cons_succ] at ac0 ac3 af3
                  rcases (show ((k : Int) ≤ 2) ∨ (¬ ((k : Int) ≤ 2) ∧ (((k : Int) == 8) = true)) by
                      rcases HK4.out with h | h
                      · left; omega
                      · right; exact ⟨by omega, by simp [h]⟩) with h1 | ⟨h1, h2⟩
                  all_goals
                    go_wp2
                    go_roundw
                    case rel => exact ⟨1 + 1, vn, vo, vc, by omega, by omega, by go_num, rfl, by rw [HM.out.1]; exact HP.out.1, by rw [HM.out.2]; exact S5.out.1.kp Kp.set (by have := S5.out.1.a.set (i := 3) (u := .string x) (by simp [Av.cells]); simpa [Av.cells] using this), by rw [HM.out.1]; exact S5.out.2.kp Kp.set (fun z hz e => by have := S5.out.2.ge z hz; have e' : z = g := e; omega), by rw [HM.out.1]; exact HP.out.2⟩
                    case measure => simp [intOf]; omega
                have HM : Hid _ := nk_num HX.out hkey
                rcases (show ((((i : Int) == 1) = false)) ∨ ((((i : Int) == 1) = true) ∧ ¬ ((k : Int) ≤ 2) ∧ (((k : Int) == 8) = false)) by
                    by_cases h : i = 1
                    · right
                      have h2 : kd = false := by cases kd; rfl; exact (hkey ⟨h, rfl⟩).elim
                      have h3 : ¬ (k ≤ 2 ∨ k = 8) := of_decide_eq_false (h2.symm.trans HKD.out).symm
                      refine ⟨by simp [h], by omega, by simp; omega⟩
                    · left; simp; omega) with h1 | ⟨h1, h2, h3⟩
                all_goals
                  clear hkey
                  cases ok
                  · have HB : Hid (¬ Good (wordsB s)) := fun hg => by
                      have hw := nk_good HK2.out.1 HK2.out.2 (HG.out.1.2 hg).1
                      have hm : x ∈ nk (keyed k) T := by
                        rw [← HKD.out]
                        have hi1 : i < T.length := (List.getElem?_eq_some_iff.1 HX.out).1
                        exact nk_mem (i := i + 1) (by rw [HM.out.1]; simp)
                      have := hok.out.2 (hw.1 x hm)
                      cases this
                    have S6 : Hid (SS w W5 w.heap.size g ⟨(k : Int), 0, 0, keyAt kd (T.take i), 0, 0, bb⟩ (some ⟨b2, o2, none⟩) T) := S5.out.1
                    clear S5 hok hnx
                    obtain ⟨ay, hay⟩ : ∃ ay : Av, ay = ⟨(k : Int), 0, 0, keyAt kd (T.take i), 0, 0, bb⟩ := ⟨_, rfl⟩
                    have ac0' := (S6.out.a.is 0 (by simp [Av.cells])).1
                    simp only [Av.cells, List.getElem_cons_zero] at ac0'
                    rw [← hay] at S6
                    have hayk : ay.k = (k : Int) := by rw [hay]
                    clear hay ac0'
                    obtain ⟨rc0, rc1, rc2, rc3, rc4, rc5, rc6⟩ := (show Box _ w.heap.size [.int .i64 0, .int .i64 0, .int .i64 0, .string ⟨#[]⟩, .int .i64 0, .int .i64 0, .bool false] from S6.out.r).c7
                    obtain ⟨rf0, rf1, rf2, rf3, rf4, rf5, rf6⟩ := (show Box _ w.heap.size [.int .i64 0, .int .i64 0, .int .i64 0, .string ⟨#[]⟩, .int .i64 0, .int .i64 0, .bool false] from S6.out.r).f7
                    obtain ⟨ac0, ac1, ac2, ac3, ac4, ac5, ac6⟩ := (show Box _ g [.int .i64 ay.k, .int .i64 ay.n, .int .i64 ay.m, .string ay.key, .int .i64 ay.v, .int .i64 ay.p, .bool ay.bl] from S6.out.a).c7
                    rw [hayk] at ac0
                    go_wp2
                    refine bodyPost_ret (v := .tuple #[Av.val ay, .bool false]) (by simp [results, Tryd.results7, go_sem, rc0, rc1, rc2, rc3, rc4, rc5, rc6, rf0, rf1, rf2, rf3, rf4, rf5, rf6, Av.val, hayk]) rfl ?_
                    refine LrQ.no HB.out ?_
                    repeat refine Below.setCell ?_ (by simp) _
                    exact S6.out.b
                  · have HB : Hid (nOK18 x ∧ nx = nv (bl x)) := ⟨hok.out.1 rfl, hnx.out rfl⟩
                    clear hok hnx
                    have ac0 := (S5.out.1.a.is 0 (by simp [Av.cells])).1
                    simp only [Av.cells, List.getElem_cons_zero] at ac0
                    go_wp2_with (first | (at_builtin; refine wpList_appG elI rfl _ _ rfl (.slice vo vn vc) vn (ints (nvs (nk kd (T.take i)))) (g + 1) (vn + 1) rfl (S5.out.2.next (bel_alloc _ _)) (by have := S5.out.1.a.lt; simp; omega) (some ⟨W5.heap.size, 0, none⟩) 1 1 [.int .i64 nx] rfl rfl (fun u hu => by simp at hu; subst hu; rfl) 0 lit_row (by omega) (by omega) ?_) | fail)
                    intro v2 c2 W7 hO2 hG2 hS2
                    have Y : Hid (SS w W7 w.heap.size g ⟨(k : Int), 0, 0, keyAt kd (T.take i), 0, 0, bb⟩ (some ⟨b2, o2, none⟩) T ∧ OwnG W7 3 1 (.slice v2 (vn + 1) c2) (vn + 1) (ints (nvs (nk kd (T.take (i + 1))))) (g + 1)) := by
                      refine ⟨(S5.out.1.next (bel_alloc _ _)).gro hG2 (lo := g + 1) (fun z hz => S5.out.2.ge z hz) (by omega), ?_⟩
                      rw [HM.out.1]
                      have e : ints (nvs (nk kd (T.take i) ++ [x])) = ints (nvs (nk kd (T.take i))) ++ [.int .i64 nx] := by simp [ints, nvs, HB.out.2]
                      rw [e]
                      exact hO2
                    clear hO2 hG2 hS2 S5 ac0
                    go_wp2
                    go_roundw
                    case rel => exact ⟨i + 1, vn + 1, v2, c2, by omega, by omega, by go_num, by go_num, by rw [HM.out.1, List.length_append, ← HP.out.1]; rfl, by rw [HM.out.2]; exact Y.out.1, Y.out.2, fun y hy => by rw [HM.out.1] at hy; rcases List.mem_append.1 hy with h | h; exact HP.out.2 y h; simp at h; subst h; exact HB.out.1⟩
                    case measure => simp [intOf]; omega
              · have hlt' : ¬ (i : Int) < (nn : Int) := by omega
                have hie : i = nn := by omega
                have HE : Hid (T.take i = T) := List.take_of_length_le (by have := HNN.out; omega)
                rw [HE.out, HKD.out] at SI HP
                have HKEY : Hid (keyAt (keyed k) T = keyAt (keyed k) T) := rfl
                have HKY : Hid ((keyAt (keyed k) T).size < 1099511627776) := by
                  show _ < _
                  have h1 : (keyAt (keyed k) T).size ≤ 65536 := by
                    unfold keyAt
                    split
                    · rw [List.getD_eq_getElem?_getD]
                      cases h : T[1]? with
                      | none => show (⟨#[]⟩ : ByteArray).size ≤ 65536; decide
                      | some y => exact HTX.out.2 y (List.mem_of_getElem? h)
                    · show (⟨#[]⟩ : ByteArray).size ≤ 65536; decide
                  omega
                have HLV : Hid ((nvs (nk (keyed k) T)).length = vn) := by show _ = _; rw [HP.out.1]; simp [nvs]
                have HFIN : Hid (vn = wantN k ∧ (keyed k = true → (keyAt (keyed k) T).toList ≠ []) → ∀ (a1 : Av) (r : Bool), a1 = asmA k bb (nvs (nk (keyed k) T)) (keyAt (keyed k) T) → (r = true ↔ a1.ok) → ∀ W, Below w.heap.size w W → LrQ s w (.returned (.tuple #[a1.val, .bool r])) W) := by
                  rintro ⟨h1, h2⟩ a1 r ha hr W hB
                  have hf := nk_fin (bb := bb) HK2.out.1 HK2.out.2 ⟨HP.out.2, by rw [← HP.out.1]; exact h1, h2⟩
                  rw [← ha] at hf
                  refine ⟨a1, r, rfl, hr.trans (hf.1.trans HG.out.1), fun h => ?_, hB⟩
                  have hgd := hf.1.1 (hr.1 h)
                  rw [HG.out.2]
                  exact hf.2 hgd.1
                have HBD : Hid (¬ (vn = wantN k ∧ (keyed k = true → (keyAt (keyed k) T).toList ≠ [])) → ¬ Good (wordsB s)) := fun h hg => by
                  have := nk_good HK2.out.1 HK2.out.2 (HG.out.1.2 hg).1
                  exact h ⟨by rw [HP.out.1]; exact this.2.1, this.2.2⟩
                obtain ⟨KY, hky⟩ : ∃ KY, KY = keyAt (keyed k) T := ⟨_, rfl⟩
                have HK3 : Hid (KY = keyAt (keyed k) T) := hky
                rw [← hky] at SI HKY HBD HFIN HKEY
                clear hky HP HE hie HG HTX HKD HNN
                have k14 : (k : Int) < 15 := by have := HK2.out; omega
                have k0' : (0 : Int) ≤ (k : Int) := by omega
                have ac0 : ∀ o, (wr.alloc o).cell? ⟨g, 0, none⟩ = some (.int .i64 (k : Int)) := fun o => by
                  have := ((SI.out.1.next (bel_alloc wr o)).a.is 0 (by simp [Av.cells])).1
                  simpa [Av.cells] using this
                have cwant := want_cell wr k HK2.out.2
                unfold wantV at cwant
                go_upto_region 26 with fail
                refine wp_gen (fun W => Below wr.heap.size wr W) (bel_alloc _ _) (fun W6 hI => ?_)
                clear ac0 cwant
                have YV : Hid (SS w W6 w.heap.size g ⟨(k : Int), 0, 0, KY, 0, 0, bb⟩ p2 T ∧ OwnG W6 3 1 (.slice vo vn vc) vn (ints (nvs (nk (keyed k) T))) (g + 1)) := ⟨SI.out.1.next hI, SI.out.2.next hI⟩
                clear hI SI
                by_cases hw : vn = wantN k
                case neg =>
                  have HB : Hid (¬ Good (wordsB s)) := HBD.out (fun h => hw h.1)
                  have nk1 : (((vn : Nat) : Int) != ((wantN k : Nat) : Int)) = true := by simp; omega
                  clear hw HBD HFIN HKEY HKY
                  have Y : Hid (SS w W6 w.heap.size g ⟨(k : Int), 0, 0, KY, 0, 0, bb⟩ p2 T) := YV.out.1
                  clear YV
                  obtain ⟨rc0, rc1, rc2, rc3, rc4, rc5, rc6⟩ := (show Box _ w.heap.size [.int .i64 0, .int .i64 0, .int .i64 0, .string ⟨#[]⟩, .int .i64 0, .int .i64 0, .bool false] from Y.out.r).c7
                  obtain ⟨rf0, rf1, rf2, rf3, rf4, rf5, rf6⟩ := (show Box _ w.heap.size [.int .i64 0, .int .i64 0, .int .i64 0, .string ⟨#[]⟩, .int .i64 0, .int .i64 0, .bool false] from Y.out.r).f7
                  obtain ⟨ac0, ac1, ac2, ac3, ac4, ac5, ac6⟩ := (show Box _ g [.int .i64 (k : Int), .int .i64 0, .int .i64 0, .string KY, .int .i64 0, .int .i64 0, .bool bb] from Y.out.a).c7
                  go_wp2
                  refine bodyPost_ret (v := .tuple #[.agg #[.int .i64 (k : Int), .int .i64 0, .int .i64 0, .string KY, .int .i64 0, .int .i64 0, .bool bb], .bool false]) (by simp [results, Tryd.results7, go_sem, rc0, rc1, rc2, rc3, rc4, rc5, rc6, rf0, rf1, rf2, rf3, rf4, rf5, rf6]) rfl ?_
                  refine LrQ.no (a := ⟨(k : Int), 0, 0, KY, 0, 0, bb⟩) HB.out ?_
                  repeat refine Below.setCell ?_ (by simp) _
                  exact Y.out.b
                have nk1 : (((vn : Nat) : Int) != ((wantN k : Nat) : Int)) = false := by simp; omega
                by_cases hke : keyed k = true ∧ KY.toList = []
                case pos =>
                  have HB : Hid (¬ Good (wordsB s)) := HBD.out (fun h => h.2 hke.1 hke.2)
                  have ky : (KY.toList == []) = true := by simp [hke.2]
                  have HK4 : Hid (k ≤ 2 ∨ k = 8) := (show k ≤ 2 ∨ k = 8 from of_decide_eq_true hke.1)
                  clear hw hke HBD HFIN HKEY HKY
                  have Y : Hid (SS w W6 w.heap.size g ⟨(k : Int), 0, 0, KY, 0, 0, bb⟩ p2 T) := YV.out.1
                  clear YV
                  rcases (show ((k : Int) ≤ 2) ∨ (¬ ((k : Int) ≤ 2) ∧ (((k : Int) == 8) = true)) by
                      rcases HK4.out with h | h
                      · left; omega
                      · right; exact ⟨by omega, by simp [h]⟩) with h1 | ⟨h1, h2⟩
                  all_goals
                    obtain ⟨rc0, rc1, rc2, rc3, rc4, rc5, rc6⟩ := (show Box _ w.heap.size [.int .i64 0, .int .i64 0, .int .i64 0, .string ⟨#[]⟩, .int .i64 0, .int .i64 0, .bool false] from Y.out.r).c7
                    obtain ⟨rf0, rf1, rf2, rf3, rf4, rf5, rf6⟩ := (show Box _ w.heap.size [.int .i64 0, .int .i64 0, .int .i64 0, .string ⟨#[]⟩, .int .i64 0, .int .i64 0, .bool false] from Y.out.r).f7
                    obtain ⟨ac0, ac1, ac2, ac3, ac4, ac5, ac6⟩ := (show Box _ g [.int .i64 (k : Int), .int .i64 0, .int .i64 0, .string KY, .int .i64 0, .int .i64 0, .bool bb] from Y.out.a).c7
                    go_wp2
                    refine bodyPost_ret (v := .tuple #[.agg #[.int .i64 (k : Int), .int .i64 0, .int .i64 0, .string KY, .int .i64 0, .int .i64 0, .bool bb], .bool false]) (by simp [results, Tryd.results7, go_sem, rc0, rc1, rc2, rc3, rc4, rc5, rc6, rf0, rf1, rf2, rf3, rf4, rf5, rf6]) rfl ?_
                    refine LrQ.no (a := ⟨(k : Int), 0, 0, KY, 0, 0, bb⟩) HB.out ?_
                    repeat refine Below.setCell ?_ (by simp) _
                    exact Y.out.b
                have HOK : Hid (vn = wantN k ∧ (keyed k = true → KY.toList ≠ [])) := ⟨hw, fun h h' => hke ⟨h, h'⟩⟩
                have HUN : Hid (keyed k = false → KY = ⟨#[]⟩) := fun h => by rw [HK3.out, h]; rfl
                clear hw hke HBD HKEY
                rcases grp_k HK2.out.1 HK2.out.2 with hg | hg | hg | hg | hg | hg
                · -- put
                  have HWK : vn = 2 := HOK.out.1.trans (by rcases (show k = 1 by omega) with rfl <;> rfl)
                  have HWV : Hid (wantN k = 2) := (by rcases (show k = 1 by omega) with rfl <;> rfl)
                  have hv0 : (0 : Int) < (vn : Int) := by omega
                  have hv1 : (1 : Int) < (vn : Int) := by omega
                  have hvn0 : (0 : Int) ≤ (vn : Int) := by omega
                  have ky : (KY.toList == []) = false := by have := HOK.out.2 (by simp [keyed]; omega); simp [this]
                  have e1 : ((k : Int) == 1) = true := by simp; omega
                  have e8 : ((k : Int) == 8) = false := by simp; omega
                  have k2 : (k : Int) ≤ 2 := by omega
                  have w2 : (((wantN k : Nat) : Int) == 2) = true := by rw [HWV.out]; rfl
                  have HGK : Hid _ := hg
                  have HWK2 : Hid _ := HWK
                  clear hg HWK
                  obtain ⟨v0, v1, hvs⟩ : ∃ v0 v1, nvs (nk (keyed k) T) = [v0, v1] := lst2 (by rw [HLV.out]; exact HWK2.out)
                  have HVS : Hid (nvs (nk (keyed k) T) = [v0, v1]) := hvs
                  rw [hvs] at YV
                  clear hvs
                  obtain ⟨bv, ov, rfl, hgv⟩ := YV.out.2.gv (by simp)
                  have Y : Hid (SS w W6 w.heap.size g ⟨(k : Int), 0, 0, KY, 0, 0, bb⟩ p2 T ∧ GV g W6 bv ov [v0, v1]) := ⟨YV.out.1, hgv⟩
                  clear hgv YV
                  have ac0 := (Y.out.1.a.is 0 (by simp [Av.cells])).1
                  have ac3 := (Y.out.1.a.is 3 (by simp [Av.cells])).1
                  simp only [Av.cells, k0A, List.getElem_cons_zero, List.getElem_cons_succ] at ac0 ac3
                  go_wp2_with fail
                  refine Calls.mono (in_no (k : Int) 3 5 W6 (by have := HGK.out; omega)) ?_
                  rintro e W7 ⟨rfl, rfl⟩
                  clear ac0 ac3
                  have ac0 := (Y.out.1.a.is 0 (by simp [Av.cells])).1
                  have ac1 := (Y.out.1.a.is 1 (by simp [Av.cells])).1
                  have af1 := (Y.out.1.a.is 1 (by simp [Av.cells])).2
                  simp only [Av.cells, k0A, List.getElem_cons_zero, List.getElem_cons_succ] at ac0 ac1 af1
                  have cv0 := (Y.out.2.at_int (i := 0) (v := v0) rfl)
                  simp only [Nat.add_zero] at cv0
                  go_upto_region 31 with fail
                  refine wp_gen (fun W => SS w W w.heap.size g ⟨(k : Int), v0, 0, KY, 0, 0, bb⟩ p2 T ∧ GV g W bv ov [v0, v1]) ⟨Y.out.1.kp Kp.set (by have := Y.out.1.a.set (i := 1) (u := .int .i64 v0) (by simp [Av.cells]); simpa [Av.cells] using this), Y.out.2.kp Kp.set (by have := Y.out.2.lo; omega)⟩ (fun W' hI => ?_)
                  replace Y : Hid (SS w W' w.heap.size g ⟨(k : Int), v0, 0, KY, 0, 0, bb⟩ p2 T ∧ GV g W' bv ov [v0, v1]) := hI
                  clear hI ac0 ac1 af1 cv0
                  have ac0 := (Y.out.1.a.is 0 (by simp [Av.cells])).1
                  have ac4 := (Y.out.1.a.is 4 (by simp [Av.cells])).1
                  have af4 := (Y.out.1.a.is 4 (by simp [Av.cells])).2
                  simp only [Av.cells, k0A, List.getElem_cons_zero, List.getElem_cons_succ] at ac0 ac4 af4
                  have cv1 := (Y.out.2.at_int (i := 1) (v := v1) rfl)
                  go_upto_region 39 with fail
                  refine wp_gen (fun W => SS w W w.heap.size g ⟨(k : Int), v0, 0, KY, v1, 0, bb⟩ p2 T ∧ GV g W bv ov [v0, v1]) ⟨Y.out.1.kp Kp.set (by have := Y.out.1.a.set (i := 4) (u := .int .i64 v1) (by simp [Av.cells]); simpa [Av.cells] using this), Y.out.2.kp Kp.set (by have := Y.out.2.lo; omega)⟩ (fun W' hI => ?_)
                  replace Y : Hid (SS w W' w.heap.size g ⟨(k : Int), v0, 0, KY, v1, 0, bb⟩ p2 T ∧ GV g W' bv ov [v0, v1]) := hI
                  clear hI ac0 ac4 af4 cv1
                  obtain ⟨a1, ha1⟩ : ∃ a1 : Av, a1 = ⟨(k : Int), v0, 0, KY, v1, 0, bb⟩ := ⟨_, rfl⟩
                  rw [← ha1] at Y
                  have HA1 : Hid (a1 = ⟨(k : Int), v0, 0, KY, v1, 0, bb⟩) := ha1
                  clear ha1
                  refine wp_region_held_drew (S := (fun w' => w'.cell? ⟨g, 0, none⟩ = some (.int .i64 a1.k) ∧ w'.cell? ⟨g, 1, none⟩ = some (.int .i64 a1.n) ∧ w'.cell? ⟨g, 2, none⟩ = some (.int .i64 a1.m) ∧ w'.cell? ⟨g, 3, none⟩ = some (.string a1.key) ∧ w'.cell? ⟨g, 4, none⟩ = some (.int .i64 a1.v) ∧ w'.cell? ⟨g, 5, none⟩ = some (.int .i64 a1.p) ∧ w'.cell? ⟨g, 6, none⟩ = some (.bool a1.bl))) (by kernel_rfl) ?_ (fun hHeld => ?_)
                  · (try dsimp only)
                    exact (show Box _ g [.int .i64 a1.k, .int .i64 a1.n, .int .i64 a1.m, .string a1.key, .int .i64 a1.v, .int .i64 a1.p, .bool a1.bl] from (Y.out.1.next (bel_drew _)).a).c7
                  have Y2 : Hid (SS w W'.drew w.heap.size g a1 p2 T) := Y.out.1.next (bel_drew _)
                  clear Y
                  generalize W'.drew = V1 at *
                  refine wTk 0 ?_
                  refine wTk 1 ?_
                  refine wRd 2 (fun K hK => ?_)
                  go_simp
                  obtain ⟨r, hr0⟩ : ∃ r : Bool, r = true ↔ actP a1.k a1.n a1.m a1.v a1.p a1.key := by
                    by_cases h : actP a1.k a1.n a1.m a1.v a1.p a1.key
                    · exact ⟨true, fun _ => h, fun _ => rfl⟩
                    · exact ⟨false, fun e => (by cases e), fun e => (h e).elim⟩
                  have HR : Hid (r = true ↔ actP a1.k a1.n a1.m a1.v a1.p a1.key) := hr0
                  clear hr0
                  refine Calls.mono (specAct a1.k a1.n a1.m a1.v a1.p a1.key a1.bl r HR (by rw [HA1.out]; exact HKY) V1) ?_
                  rintro e V2 ⟨rfl, hb⟩
                  have Y3 : Hid (SS w V2 w.heap.size g a1 p2 T) := Y2.out.next hb
                  clear hb Y2
                  (try simp only [])
                  refine wHk hK (show Box V2 g [.int .i64 a1.k, .int .i64 a1.n, .int .i64 a1.m, .string a1.key, .int .i64 a1.v, .int .i64 a1.p, .bool a1.bl] from Y3.out.a).c7 ?_
                  clear hK K hHeld
                  intro hHeld
                  refine wRd 3 (fun K hK => ?_)
                  obtain ⟨rc0, rc1, rc2, rc3, rc4, rc5, rc6⟩ := (show Box _ w.heap.size [.int .i64 0, .int .i64 0, .int .i64 0, .string ⟨#[]⟩, .int .i64 0, .int .i64 0, .bool false] from Y3.out.r).c7
                  obtain ⟨rf0, rf1, rf2, rf3, rf4, rf5, rf6⟩ := (show Box _ w.heap.size [.int .i64 0, .int .i64 0, .int .i64 0, .string ⟨#[]⟩, .int .i64 0, .int .i64 0, .bool false] from Y3.out.r).f7
                  go_simp
                  (try simp only [])
                  have Y4 : Hid (Box (((((((V2.setCell ⟨w.heap.size, 0, none⟩ (.int .i64 a1.k)).setCell ⟨w.heap.size, 1, none⟩ (.int .i64 a1.n)).setCell ⟨w.heap.size, 2, none⟩ (.int .i64 a1.m)).setCell ⟨w.heap.size, 3, none⟩ (.string a1.key)).setCell ⟨w.heap.size, 4, none⟩ (.int .i64 a1.v)).setCell ⟨w.heap.size, 5, none⟩ (.int .i64 a1.p)).setCell ⟨w.heap.size, 6, none⟩ (.bool a1.bl)) w.heap.size [.int .i64 a1.k, .int .i64 a1.n, .int .i64 a1.m, .string a1.key, .int .i64 a1.v, .int .i64 a1.p, .bool a1.bl] ∧ Box (((((((V2.setCell ⟨w.heap.size, 0, none⟩ (.int .i64 a1.k)).setCell ⟨w.heap.size, 1, none⟩ (.int .i64 a1.n)).setCell ⟨w.heap.size, 2, none⟩ (.int .i64 a1.m)).setCell ⟨w.heap.size, 3, none⟩ (.string a1.key)).setCell ⟨w.heap.size, 4, none⟩ (.int .i64 a1.v)).setCell ⟨w.heap.size, 5, none⟩ (.int .i64 a1.p)).setCell ⟨w.heap.size, 6, none⟩ (.bool a1.bl)) g [.int .i64 a1.k, .int .i64 a1.n, .int .i64 a1.m, .string a1.key, .int .i64 a1.v, .int .i64 a1.p, .bool a1.bl] ∧ Below w.heap.size w (((((((V2.setCell ⟨w.heap.size, 0, none⟩ (.int .i64 a1.k)).setCell ⟨w.heap.size, 1, none⟩ (.int .i64 a1.n)).setCell ⟨w.heap.size, 2, none⟩ (.int .i64 a1.m)).setCell ⟨w.heap.size, 3, none⟩ (.string a1.key)).setCell ⟨w.heap.size, 4, none⟩ (.int .i64 a1.v)).setCell ⟨w.heap.size, 5, none⟩ (.int .i64 a1.p)).setCell ⟨w.heap.size, 6, none⟩ (.bool a1.bl))) := by
                    refine ⟨(show Box V2 w.heap.size [.int .i64 0, .int .i64 0, .int .i64 0, .string ⟨#[]⟩, .int .i64 0, .int .i64 0, .bool false] from Y3.out.r).s7, (show Box V2 g [.int .i64 a1.k, .int .i64 a1.n, .int .i64 a1.m, .string a1.key, .int .i64 a1.v, .int .i64 a1.p, .bool a1.bl] from Y3.out.a).o7 (by have := Y3.out.lt; omega), ?_⟩
                    repeat refine Below.setCell ?_ (by simp) _
                    exact Y3.out.b
                  clear rc0 rc1 rc2 rc3 rc4 rc5 rc6 rf0 rf1 rf2 rf3 rf4 rf5 rf6 Y3
                  refine wHk hK Y4.out.2.1.c7 ?_
                  clear hK K hHeld
                  intro hHeld
                  generalize (((((((V2.setCell ⟨w.heap.size, 0, none⟩ (.int .i64 a1.k)).setCell ⟨w.heap.size, 1, none⟩ (.int .i64 a1.n)).setCell ⟨w.heap.size, 2, none⟩ (.int .i64 a1.m)).setCell ⟨w.heap.size, 3, none⟩ (.string a1.key)).setCell ⟨w.heap.size, 4, none⟩ (.int .i64 a1.v)).setCell ⟨w.heap.size, 5, none⟩ (.int .i64 a1.p)).setCell ⟨w.heap.size, 6, none⟩ (.bool a1.bl)) = V3 at *
                  refine wTk 4 ?_
                  refine wpAnyH_done (by kernel_rfl) ?_ _
                  clear hHeld
                  obtain ⟨rc0, rc1, rc2, rc3, rc4, rc5, rc6⟩ := Y4.out.1.c7
                  go_wp2
                  refine bodyPost_ret (v := .tuple #[a1.val, .bool r]) (by simp [results, Tryd.results7, go_sem, rc0, rc1, rc2, rc3, rc4, rc5, rc6, Av.val]) rfl ?_
                  have HAS : a1 = asmA k bb (nvs (nk (keyed k) T)) KY := by
                    rw [HA1.out, HVS.out]
                    unfold asmA
                    rw [if_neg (by have := HGK.out; omega), if_pos (by have := HGK.out; omega)]
                    rfl
                  exact HFIN.out HOK.out a1 r HAS HR.out _ Y4.out.2.2
                · -- delete
                  have HWK : vn = 1 := HOK.out.1.trans (by rcases (show k = 2 by omega) with rfl <;> rfl)
                  have HWV : Hid (wantN k = 1) := (by rcases (show k = 2 by omega) with rfl <;> rfl)
                  have hv0 : (0 : Int) < (vn : Int) := by omega
                  have hvn0 : (0 : Int) ≤ (vn : Int) := by omega
                  have ky : (KY.toList == []) = false := by have := HOK.out.2 (by simp [keyed]; omega); simp [this]
                  have e1 : ((k : Int) == 1) = false := by simp; omega
                  have e8 : ((k : Int) == 8) = false := by simp; omega
                  have k2 : (k : Int) ≤ 2 := by omega
                  have w2 : (((wantN k : Nat) : Int) == 2) = false := by rw [HWV.out]; rfl
                  have HGK : Hid _ := hg
                  have HWK2 : Hid _ := HWK
                  clear hg HWK
                  obtain ⟨v0, hvs⟩ : ∃ v0, nvs (nk (keyed k) T) = [v0] := lst1 (by rw [HLV.out]; exact HWK2.out)
                  have HVS : Hid (nvs (nk (keyed k) T) = [v0]) := hvs
                  rw [hvs] at YV
                  clear hvs
                  obtain ⟨bv, ov, rfl, hgv⟩ := YV.out.2.gv (by simp)
                  have Y : Hid (SS w W6 w.heap.size g ⟨(k : Int), 0, 0, KY, 0, 0, bb⟩ p2 T ∧ GV g W6 bv ov [v0]) := ⟨YV.out.1, hgv⟩
                  clear hgv YV
                  have ac0 := (Y.out.1.a.is 0 (by simp [Av.cells])).1
                  have ac3 := (Y.out.1.a.is 3 (by simp [Av.cells])).1
                  simp only [Av.cells, k0A, List.getElem_cons_zero, List.getElem_cons_succ] at ac0 ac3
                  go_wp2_with fail
                  refine Calls.mono (in_no (k : Int) 3 5 W6 (by have := HGK.out; omega)) ?_
                  rintro e W7 ⟨rfl, rfl⟩
                  clear ac0 ac3
                  have ac0 := (Y.out.1.a.is 0 (by simp [Av.cells])).1
                  have ac1 := (Y.out.1.a.is 1 (by simp [Av.cells])).1
                  have af1 := (Y.out.1.a.is 1 (by simp [Av.cells])).2
                  simp only [Av.cells, k0A, List.getElem_cons_zero, List.getElem_cons_succ] at ac0 ac1 af1
                  have cv0 := (Y.out.2.at_int (i := 0) (v := v0) rfl)
                  simp only [Nat.add_zero] at cv0
                  go_upto_region 39 with fail
                  refine wp_gen (fun W => SS w W w.heap.size g ⟨(k : Int), v0, 0, KY, 0, 0, bb⟩ p2 T ∧ GV g W bv ov [v0]) ⟨Y.out.1.kp Kp.set (by have := Y.out.1.a.set (i := 1) (u := .int .i64 v0) (by simp [Av.cells]); simpa [Av.cells] using this), Y.out.2.kp Kp.set (by have := Y.out.2.lo; omega)⟩ (fun W' hI => ?_)
                  replace Y : Hid (SS w W' w.heap.size g ⟨(k : Int), v0, 0, KY, 0, 0, bb⟩ p2 T ∧ GV g W' bv ov [v0]) := hI
                  clear hI ac0 ac1 af1 cv0
                  obtain ⟨a1, ha1⟩ : ∃ a1 : Av, a1 = ⟨(k : Int), v0, 0, KY, 0, 0, bb⟩ := ⟨_, rfl⟩
                  rw [← ha1] at Y
                  have HA1 : Hid (a1 = ⟨(k : Int), v0, 0, KY, 0, 0, bb⟩) := ha1
                  clear ha1
                  refine wp_region_held_drew (S := (fun w' => w'.cell? ⟨g, 0, none⟩ = some (.int .i64 a1.k) ∧ w'.cell? ⟨g, 1, none⟩ = some (.int .i64 a1.n) ∧ w'.cell? ⟨g, 2, none⟩ = some (.int .i64 a1.m) ∧ w'.cell? ⟨g, 3, none⟩ = some (.string a1.key) ∧ w'.cell? ⟨g, 4, none⟩ = some (.int .i64 a1.v) ∧ w'.cell? ⟨g, 5, none⟩ = some (.int .i64 a1.p) ∧ w'.cell? ⟨g, 6, none⟩ = some (.bool a1.bl))) (by kernel_rfl) ?_ (fun hHeld => ?_)
                  · (try dsimp only)
                    exact (show Box _ g [.int .i64 a1.k, .int .i64 a1.n, .int .i64 a1.m, .string a1.key, .int .i64 a1.v, .int .i64 a1.p, .bool a1.bl] from (Y.out.1.next (bel_drew _)).a).c7
                  have Y2 : Hid (SS w W'.drew w.heap.size g a1 p2 T) := Y.out.1.next (bel_drew _)
                  clear Y
                  generalize W'.drew = V1 at *
                  refine wTk 0 ?_
                  refine wTk 1 ?_
                  refine wRd 2 (fun K hK => ?_)
                  go_simp
                  obtain ⟨r, hr0⟩ : ∃ r : Bool, r = true ↔ actP a1.k a1.n a1.m a1.v a1.p a1.key := by
                    by_cases h : actP a1.k a1.n a1.m a1.v a1.p a1.key
                    · exact ⟨true, fun _ => h, fun _ => rfl⟩
                    · exact ⟨false, fun e => (by cases e), fun e => (h e).elim⟩
                  have HR : Hid (r = true ↔ actP a1.k a1.n a1.m a1.v a1.p a1.key) := hr0
                  clear hr0
                  refine Calls.mono (specAct a1.k a1.n a1.m a1.v a1.p a1.key a1.bl r HR (by rw [HA1.out]; exact HKY) V1) ?_
                  rintro e V2 ⟨rfl, hb⟩
                  have Y3 : Hid (SS w V2 w.heap.size g a1 p2 T) := Y2.out.next hb
                  clear hb Y2
                  (try simp only [])
                  refine wHk hK (show Box V2 g [.int .i64 a1.k, .int .i64 a1.n, .int .i64 a1.m, .string a1.key, .int .i64 a1.v, .int .i64 a1.p, .bool a1.bl] from Y3.out.a).c7 ?_
                  clear hK K hHeld
                  intro hHeld
                  refine wRd 3 (fun K hK => ?_)
                  obtain ⟨rc0, rc1, rc2, rc3, rc4, rc5, rc6⟩ := (show Box _ w.heap.size [.int .i64 0, .int .i64 0, .int .i64 0, .string ⟨#[]⟩, .int .i64 0, .int .i64 0, .bool false] from Y3.out.r).c7
                  obtain ⟨rf0, rf1, rf2, rf3, rf4, rf5, rf6⟩ := (show Box _ w.heap.size [.int .i64 0, .int .i64 0, .int .i64 0, .string ⟨#[]⟩, .int .i64 0, .int .i64 0, .bool false] from Y3.out.r).f7
                  go_simp
                  (try simp only [])
                  have Y4 : Hid (Box (((((((V2.setCell ⟨w.heap.size, 0, none⟩ (.int .i64 a1.k)).setCell ⟨w.heap.size, 1, none⟩ (.int .i64 a1.n)).setCell ⟨w.heap.size, 2, none⟩ (.int .i64 a1.m)).setCell ⟨w.heap.size, 3, none⟩ (.string a1.key)).setCell ⟨w.heap.size, 4, none⟩ (.int .i64 a1.v)).setCell ⟨w.heap.size, 5, none⟩ (.int .i64 a1.p)).setCell ⟨w.heap.size, 6, none⟩ (.bool a1.bl)) w.heap.size [.int .i64 a1.k, .int .i64 a1.n, .int .i64 a1.m, .string a1.key, .int .i64 a1.v, .int .i64 a1.p, .bool a1.bl] ∧ Box (((((((V2.setCell ⟨w.heap.size, 0, none⟩ (.int .i64 a1.k)).setCell ⟨w.heap.size, 1, none⟩ (.int .i64 a1.n)).setCell ⟨w.heap.size, 2, none⟩ (.int .i64 a1.m)).setCell ⟨w.heap.size, 3, none⟩ (.string a1.key)).setCell ⟨w.heap.size, 4, none⟩ (.int .i64 a1.v)).setCell ⟨w.heap.size, 5, none⟩ (.int .i64 a1.p)).setCell ⟨w.heap.size, 6, none⟩ (.bool a1.bl)) g [.int .i64 a1.k, .int .i64 a1.n, .int .i64 a1.m, .string a1.key, .int .i64 a1.v, .int .i64 a1.p, .bool a1.bl] ∧ Below w.heap.size w (((((((V2.setCell ⟨w.heap.size, 0, none⟩ (.int .i64 a1.k)).setCell ⟨w.heap.size, 1, none⟩ (.int .i64 a1.n)).setCell ⟨w.heap.size, 2, none⟩ (.int .i64 a1.m)).setCell ⟨w.heap.size, 3, none⟩ (.string a1.key)).setCell ⟨w.heap.size, 4, none⟩ (.int .i64 a1.v)).setCell ⟨w.heap.size, 5, none⟩ (.int .i64 a1.p)).setCell ⟨w.heap.size, 6, none⟩ (.bool a1.bl))) := by
                    refine ⟨(show Box V2 w.heap.size [.int .i64 0, .int .i64 0, .int .i64 0, .string ⟨#[]⟩, .int .i64 0, .int .i64 0, .bool false] from Y3.out.r).s7, (show Box V2 g [.int .i64 a1.k, .int .i64 a1.n, .int .i64 a1.m, .string a1.key, .int .i64 a1.v, .int .i64 a1.p, .bool a1.bl] from Y3.out.a).o7 (by have := Y3.out.lt; omega), ?_⟩
                    repeat refine Below.setCell ?_ (by simp) _
                    exact Y3.out.b
                  clear rc0 rc1 rc2 rc3 rc4 rc5 rc6 rf0 rf1 rf2 rf3 rf4 rf5 rf6 Y3
                  refine wHk hK Y4.out.2.1.c7 ?_
                  clear hK K hHeld
                  intro hHeld
                  generalize (((((((V2.setCell ⟨w.heap.size, 0, none⟩ (.int .i64 a1.k)).setCell ⟨w.heap.size, 1, none⟩ (.int .i64 a1.n)).setCell ⟨w.heap.size, 2, none⟩ (.int .i64 a1.m)).setCell ⟨w.heap.size, 3, none⟩ (.string a1.key)).setCell ⟨w.heap.size, 4, none⟩ (.int .i64 a1.v)).setCell ⟨w.heap.size, 5, none⟩ (.int .i64 a1.p)).setCell ⟨w.heap.size, 6, none⟩ (.bool a1.bl)) = V3 at *
                  refine wTk 4 ?_
                  refine wpAnyH_done (by kernel_rfl) ?_ _
                  clear hHeld
                  obtain ⟨rc0, rc1, rc2, rc3, rc4, rc5, rc6⟩ := Y4.out.1.c7
                  go_wp2
                  refine bodyPost_ret (v := .tuple #[a1.val, .bool r]) (by simp [results, Tryd.results7, go_sem, rc0, rc1, rc2, rc3, rc4, rc5, rc6, Av.val]) rfl ?_
                  have HAS : a1 = asmA k bb (nvs (nk (keyed k) T)) KY := by
                    rw [HA1.out, HVS.out]
                    unfold asmA
                    rw [if_neg (by have := HGK.out; omega), if_neg (by have := HGK.out; omega), if_neg (by have := HGK.out; omega), if_neg (by rw [HWV.out]; decide)]
                    rfl
                  exact HFIN.out HOK.out a1 r HAS HR.out _ Y4.out.2.2
                · -- torn
                  have HWK : vn = 4 := HOK.out.1.trans (by rcases (show k = 8 by omega) with rfl <;> rfl)
                  have HWV : Hid (wantN k = 4) := (by rcases (show k = 8 by omega) with rfl <;> rfl)
                  have hv0 : (0 : Int) < (vn : Int) := by omega
                  have hv1 : (1 : Int) < (vn : Int) := by omega
                  have hv2 : (2 : Int) < (vn : Int) := by omega
                  have hv3 : (3 : Int) < (vn : Int) := by omega
                  have hvn0 : (0 : Int) ≤ (vn : Int) := by omega
                  have ky : (KY.toList == []) = false := by have := HOK.out.2 (by simp [keyed]; omega); simp [this]
                  have e1 : ((k : Int) == 1) = false := by simp; omega
                  have e8 : ((k : Int) == 8) = true := by simp; omega
                  have w2 : (((wantN k : Nat) : Int) == 2) = false := by rw [HWV.out]; rfl
                  have HGK : Hid _ := hg
                  have HWK2 : Hid _ := HWK
                  clear hg HWK
                  obtain ⟨v0, v1, v2, v3, hvs⟩ : ∃ v0 v1 v2 v3, nvs (nk (keyed k) T) = [v0, v1, v2, v3] := lst4 (by rw [HLV.out]; exact HWK2.out)
                  have HVS : Hid (nvs (nk (keyed k) T) = [v0, v1, v2, v3]) := hvs
                  rw [hvs] at YV
                  clear hvs
                  obtain ⟨bv, ov, rfl, hgv⟩ := YV.out.2.gv (by simp)
                  have Y : Hid (SS w W6 w.heap.size g ⟨(k : Int), 0, 0, KY, 0, 0, bb⟩ p2 T ∧ GV g W6 bv ov [v0, v1, v2, v3]) := ⟨YV.out.1, hgv⟩
                  clear hgv YV
                  have ac0 := (Y.out.1.a.is 0 (by simp [Av.cells])).1
                  have ac3 := (Y.out.1.a.is 3 (by simp [Av.cells])).1
                  simp only [Av.cells, k0A, List.getElem_cons_zero, List.getElem_cons_succ] at ac0 ac3
                  go_wp2_with fail
                  refine Calls.mono (in_no (k : Int) 3 5 W6 (by have := HGK.out; omega)) ?_
                  rintro e W7 ⟨rfl, rfl⟩
                  clear ac0 ac3
                  have ac0 := (Y.out.1.a.is 0 (by simp [Av.cells])).1
                  have ac1 := (Y.out.1.a.is 1 (by simp [Av.cells])).1
                  have af1 := (Y.out.1.a.is 1 (by simp [Av.cells])).2
                  simp only [Av.cells, k0A, List.getElem_cons_zero, List.getElem_cons_succ] at ac0 ac1 af1
                  have cv0 := (Y.out.2.at_int (i := 0) (v := v0) rfl)
                  simp only [Nat.add_zero] at cv0
                  go_upto_region 34 with fail
                  refine wp_gen (fun W => SS w W w.heap.size g ⟨(k : Int), v0, 0, KY, 0, 0, bb⟩ p2 T ∧ GV g W bv ov [v0, v1, v2, v3]) ⟨Y.out.1.kp Kp.set (by have := Y.out.1.a.set (i := 1) (u := .int .i64 v0) (by simp [Av.cells]); simpa [Av.cells] using this), Y.out.2.kp Kp.set (by have := Y.out.2.lo; omega)⟩ (fun W' hI => ?_)
                  replace Y : Hid (SS w W' w.heap.size g ⟨(k : Int), v0, 0, KY, 0, 0, bb⟩ p2 T ∧ GV g W' bv ov [v0, v1, v2, v3]) := hI
                  clear hI ac0 ac1 af1 cv0
                  have ac0 := (Y.out.1.a.is 0 (by simp [Av.cells])).1
                  have ac4 := (Y.out.1.a.is 4 (by simp [Av.cells])).1
                  have af4 := (Y.out.1.a.is 4 (by simp [Av.cells])).2
                  simp only [Av.cells, k0A, List.getElem_cons_zero, List.getElem_cons_succ] at ac0 ac4 af4
                  have cv1 := (Y.out.2.at_int (i := 1) (v := v1) rfl)
                  go_upto_region 35 with fail
                  refine wp_gen (fun W => SS w W w.heap.size g ⟨(k : Int), v0, 0, KY, v1, 0, bb⟩ p2 T ∧ GV g W bv ov [v0, v1, v2, v3]) ⟨Y.out.1.kp Kp.set (by have := Y.out.1.a.set (i := 4) (u := .int .i64 v1) (by simp [Av.cells]); simpa [Av.cells] using this), Y.out.2.kp Kp.set (by have := Y.out.2.lo; omega)⟩ (fun W' hI => ?_)
                  replace Y : Hid (SS w W' w.heap.size g ⟨(k : Int), v0, 0, KY, v1, 0, bb⟩ p2 T ∧ GV g W' bv ov [v0, v1, v2, v3]) := hI
                  clear hI ac0 ac4 af4 cv1
                  have ac0 := (Y.out.1.a.is 0 (by simp [Av.cells])).1
                  have ac5 := (Y.out.1.a.is 5 (by simp [Av.cells])).1
                  have af5 := (Y.out.1.a.is 5 (by simp [Av.cells])).2
                  simp only [Av.cells, k0A, List.getElem_cons_zero, List.getElem_cons_succ] at ac0 ac5 af5
                  have cv2 := (Y.out.2.at_int (i := 2) (v := v2) rfl)
                  go_upto_region 36 with fail
                  refine wp_gen (fun W => SS w W w.heap.size g ⟨(k : Int), v0, 0, KY, v1, v2, bb⟩ p2 T ∧ GV g W bv ov [v0, v1, v2, v3]) ⟨Y.out.1.kp Kp.set (by have := Y.out.1.a.set (i := 5) (u := .int .i64 v2) (by simp [Av.cells]); simpa [Av.cells] using this), Y.out.2.kp Kp.set (by have := Y.out.2.lo; omega)⟩ (fun W' hI => ?_)
                  replace Y : Hid (SS w W' w.heap.size g ⟨(k : Int), v0, 0, KY, v1, v2, bb⟩ p2 T ∧ GV g W' bv ov [v0, v1, v2, v3]) := hI
                  clear hI ac0 ac5 af5 cv2
                  have ac0 := (Y.out.1.a.is 0 (by simp [Av.cells])).1
                  have ac2 := (Y.out.1.a.is 2 (by simp [Av.cells])).1
                  have af2 := (Y.out.1.a.is 2 (by simp [Av.cells])).2
                  simp only [Av.cells, k0A, List.getElem_cons_zero, List.getElem_cons_succ] at ac0 ac2 af2
                  have cv3 := (Y.out.2.at_int (i := 3) (v := v3) rfl)
                  go_upto_region 39 with fail
                  refine wp_gen (fun W => SS w W w.heap.size g ⟨(k : Int), v0, v3, KY, v1, v2, bb⟩ p2 T ∧ GV g W bv ov [v0, v1, v2, v3]) ⟨Y.out.1.kp Kp.set (by have := Y.out.1.a.set (i := 2) (u := .int .i64 v3) (by simp [Av.cells]); simpa [Av.cells] using this), Y.out.2.kp Kp.set (by have := Y.out.2.lo; omega)⟩ (fun W' hI => ?_)
                  replace Y : Hid (SS w W' w.heap.size g ⟨(k : Int), v0, v3, KY, v1, v2, bb⟩ p2 T ∧ GV g W' bv ov [v0, v1, v2, v3]) := hI
                  clear hI ac0 ac2 af2 cv3
                  obtain ⟨a1, ha1⟩ : ∃ a1 : Av, a1 = ⟨(k : Int), v0, v3, KY, v1, v2, bb⟩ := ⟨_, rfl⟩
                  rw [← ha1] at Y
                  have HA1 : Hid (a1 = ⟨(k : Int), v0, v3, KY, v1, v2, bb⟩) := ha1
                  clear ha1
                  refine wp_region_held_drew (S := (fun w' => w'.cell? ⟨g, 0, none⟩ = some (.int .i64 a1.k) ∧ w'.cell? ⟨g, 1, none⟩ = some (.int .i64 a1.n) ∧ w'.cell? ⟨g, 2, none⟩ = some (.int .i64 a1.m) ∧ w'.cell? ⟨g, 3, none⟩ = some (.string a1.key) ∧ w'.cell? ⟨g, 4, none⟩ = some (.int .i64 a1.v) ∧ w'.cell? ⟨g, 5, none⟩ = some (.int .i64 a1.p) ∧ w'.cell? ⟨g, 6, none⟩ = some (.bool a1.bl))) (by kernel_rfl) ?_ (fun hHeld => ?_)
                  · (try dsimp only)
                    exact (show Box _ g [.int .i64 a1.k, .int .i64 a1.n, .int .i64 a1.m, .string a1.key, .int .i64 a1.v, .int .i64 a1.p, .bool a1.bl] from (Y.out.1.next (bel_drew _)).a).c7
                  have Y2 : Hid (SS w W'.drew w.heap.size g a1 p2 T) := Y.out.1.next (bel_drew _)
                  clear Y
                  generalize W'.drew = V1 at *
                  refine wTk 0 ?_
                  refine wTk 1 ?_
                  refine wRd 2 (fun K hK => ?_)
                  go_simp
                  obtain ⟨r, hr0⟩ : ∃ r : Bool, r = true ↔ actP a1.k a1.n a1.m a1.v a1.p a1.key := by
                    by_cases h : actP a1.k a1.n a1.m a1.v a1.p a1.key
                    · exact ⟨true, fun _ => h, fun _ => rfl⟩
                    · exact ⟨false, fun e => (by cases e), fun e => (h e).elim⟩
                  have HR : Hid (r = true ↔ actP a1.k a1.n a1.m a1.v a1.p a1.key) := hr0
                  clear hr0
                  refine Calls.mono (specAct a1.k a1.n a1.m a1.v a1.p a1.key a1.bl r HR (by rw [HA1.out]; exact HKY) V1) ?_
                  rintro e V2 ⟨rfl, hb⟩
                  have Y3 : Hid (SS w V2 w.heap.size g a1 p2 T) := Y2.out.next hb
                  clear hb Y2
                  (try simp only [])
                  refine wHk hK (show Box V2 g [.int .i64 a1.k, .int .i64 a1.n, .int .i64 a1.m, .string a1.key, .int .i64 a1.v, .int .i64 a1.p, .bool a1.bl] from Y3.out.a).c7 ?_
                  clear hK K hHeld
                  intro hHeld
                  refine wRd 3 (fun K hK => ?_)
                  obtain ⟨rc0, rc1, rc2, rc3, rc4, rc5, rc6⟩ := (show Box _ w.heap.size [.int .i64 0, .int .i64 0, .int .i64 0, .string ⟨#[]⟩, .int .i64 0, .int .i64 0, .bool false] from Y3.out.r).c7
                  obtain ⟨rf0, rf1, rf2, rf3, rf4, rf5, rf6⟩ := (show Box _ w.heap.size [.int .i64 0, .int .i64 0, .int .i64 0, .string ⟨#[]⟩, .int .i64 0, .int .i64 0, .bool false] from Y3.out.r).f7
                  go_simp
                  (try simp only [])
                  have Y4 : Hid (Box (((((((V2.setCell ⟨w.heap.size, 0, none⟩ (.int .i64 a1.k)).setCell ⟨w.heap.size, 1, none⟩ (.int .i64 a1.n)).setCell ⟨w.heap.size, 2, none⟩ (.int .i64 a1.m)).setCell ⟨w.heap.size, 3, none⟩ (.string a1.key)).setCell ⟨w.heap.size, 4, none⟩ (.int .i64 a1.v)).setCell ⟨w.heap.size, 5, none⟩ (.int .i64 a1.p)).setCell ⟨w.heap.size, 6, none⟩ (.bool a1.bl)) w.heap.size [.int .i64 a1.k, .int .i64 a1.n, .int .i64 a1.m, .string a1.key, .int .i64 a1.v, .int .i64 a1.p, .bool a1.bl] ∧ Box (((((((V2.setCell ⟨w.heap.size, 0, none⟩ (.int .i64 a1.k)).setCell ⟨w.heap.size, 1, none⟩ (.int .i64 a1.n)).setCell ⟨w.heap.size, 2, none⟩ (.int .i64 a1.m)).setCell ⟨w.heap.size, 3, none⟩ (.string a1.key)).setCell ⟨w.heap.size, 4, none⟩ (.int .i64 a1.v)).setCell ⟨w.heap.size, 5, none⟩ (.int .i64 a1.p)).setCell ⟨w.heap.size, 6, none⟩ (.bool a1.bl)) g [.int .i64 a1.k, .int .i64 a1.n, .int .i64 a1.m, .string a1.key, .int .i64 a1.v, .int .i64 a1.p, .bool a1.bl] ∧ Below w.heap.size w (((((((V2.setCell ⟨w.heap.size, 0, none⟩ (.int .i64 a1.k)).setCell ⟨w.heap.size, 1, none⟩ (.int .i64 a1.n)).setCell ⟨w.heap.size, 2, none⟩ (.int .i64 a1.m)).setCell ⟨w.heap.size, 3, none⟩ (.string a1.key)).setCell ⟨w.heap.size, 4, none⟩ (.int .i64 a1.v)).setCell ⟨w.heap.size, 5, none⟩ (.int .i64 a1.p)).setCell ⟨w.heap.size, 6, none⟩ (.bool a1.bl))) := by
                    refine ⟨(show Box V2 w.heap.size [.int .i64 0, .int .i64 0, .int .i64 0, .string ⟨#[]⟩, .int .i64 0, .int .i64 0, .bool false] from Y3.out.r).s7, (show Box V2 g [.int .i64 a1.k, .int .i64 a1.n, .int .i64 a1.m, .string a1.key, .int .i64 a1.v, .int .i64 a1.p, .bool a1.bl] from Y3.out.a).o7 (by have := Y3.out.lt; omega), ?_⟩
                    repeat refine Below.setCell ?_ (by simp) _
                    exact Y3.out.b
                  clear rc0 rc1 rc2 rc3 rc4 rc5 rc6 rf0 rf1 rf2 rf3 rf4 rf5 rf6 Y3
                  refine wHk hK Y4.out.2.1.c7 ?_
                  clear hK K hHeld
                  intro hHeld
                  generalize (((((((V2.setCell ⟨w.heap.size, 0, none⟩ (.int .i64 a1.k)).setCell ⟨w.heap.size, 1, none⟩ (.int .i64 a1.n)).setCell ⟨w.heap.size, 2, none⟩ (.int .i64 a1.m)).setCell ⟨w.heap.size, 3, none⟩ (.string a1.key)).setCell ⟨w.heap.size, 4, none⟩ (.int .i64 a1.v)).setCell ⟨w.heap.size, 5, none⟩ (.int .i64 a1.p)).setCell ⟨w.heap.size, 6, none⟩ (.bool a1.bl)) = V3 at *
                  refine wTk 4 ?_
                  refine wpAnyH_done (by kernel_rfl) ?_ _
                  clear hHeld
                  obtain ⟨rc0, rc1, rc2, rc3, rc4, rc5, rc6⟩ := Y4.out.1.c7
                  go_wp2
                  refine bodyPost_ret (v := .tuple #[a1.val, .bool r]) (by simp [results, Tryd.results7, go_sem, rc0, rc1, rc2, rc3, rc4, rc5, rc6, Av.val]) rfl ?_
                  have HAS : a1 = asmA k bb (nvs (nk (keyed k) T)) KY := by
                    rw [HA1.out, HVS.out]
                    unfold asmA
                    rw [if_neg (by have := HGK.out; omega), if_neg (by have := HGK.out; omega), if_pos (by have := HGK.out; omega)]
                    rfl
                  exact HFIN.out HOK.out a1 r HAS HR.out _ Y4.out.2.2
                · -- messages
                  have HWK : vn = 1 := HOK.out.1.trans (by rcases (show k = 3 ∨ k = 4 ∨ k = 5 by omega) with rfl | rfl | rfl <;> rfl)
                  have HWV : Hid (wantN k = 1) := (by rcases (show k = 3 ∨ k = 4 ∨ k = 5 by omega) with rfl | rfl | rfl <;> rfl)
                  have hv0 : (0 : Int) < (vn : Int) := by omega
                  have hvn0 : (0 : Int) ≤ (vn : Int) := by omega
                  have hky : KY = ⟨#[]⟩ := HUN.out (by simp [keyed]; omega)
                  have ky : (KY.toList == []) = true := by rw [hky, ByteArray.toList_eq]; rfl
                  have k2 : ¬ ((k : Int) ≤ 2) := by omega
                  clear hky
                  have e1 : ((k : Int) == 1) = false := by simp; omega
                  have e8 : ((k : Int) == 8) = false := by simp; omega
                  have w2 : (((wantN k : Nat) : Int) == 2) = false := by rw [HWV.out]; rfl
                  have HGK : Hid _ := hg
                  have HWK2 : Hid _ := HWK
                  clear hg HWK
                  obtain ⟨v0, hvs⟩ : ∃ v0, nvs (nk (keyed k) T) = [v0] := lst1 (by rw [HLV.out]; exact HWK2.out)
                  have HVS : Hid (nvs (nk (keyed k) T) = [v0]) := hvs
                  rw [hvs] at YV
                  clear hvs
                  obtain ⟨bv, ov, rfl, hgv⟩ := YV.out.2.gv (by simp)
                  have Y : Hid (SS w W6 w.heap.size g ⟨(k : Int), 0, 0, KY, 0, 0, bb⟩ p2 T ∧ GV g W6 bv ov [v0]) := ⟨YV.out.1, hgv⟩
                  clear hgv YV
                  have ac0 := (Y.out.1.a.is 0 (by simp [Av.cells])).1
                  have ac3 := (Y.out.1.a.is 3 (by simp [Av.cells])).1
                  simp only [Av.cells, k0A, List.getElem_cons_zero, List.getElem_cons_succ] at ac0 ac3
                  go_wp2_with fail
                  refine Calls.mono (in_yes (k : Int) 3 5 W6 (by have := HGK.out; omega) (by have := HGK.out; omega)) ?_
                  rintro e W7 ⟨rfl, rfl⟩
                  clear ac0 ac3
                  have ac0 := (Y.out.1.a.is 0 (by simp [Av.cells])).1
                  have ac2 := (Y.out.1.a.is 2 (by simp [Av.cells])).1
                  have af2 := (Y.out.1.a.is 2 (by simp [Av.cells])).2
                  simp only [Av.cells, k0A, List.getElem_cons_zero, List.getElem_cons_succ] at ac0 ac2 af2
                  have cv0 := (Y.out.2.at_int (i := 0) (v := v0) rfl)
                  simp only [Nat.add_zero] at cv0
                  go_upto_region 39 with fail
                  refine wp_gen (fun W => SS w W w.heap.size g ⟨(k : Int), 0, v0, KY, 0, 0, bb⟩ p2 T ∧ GV g W bv ov [v0]) ⟨Y.out.1.kp Kp.set (by have := Y.out.1.a.set (i := 2) (u := .int .i64 v0) (by simp [Av.cells]); simpa [Av.cells] using this), Y.out.2.kp Kp.set (by have := Y.out.2.lo; omega)⟩ (fun W' hI => ?_)
                  replace Y : Hid (SS w W' w.heap.size g ⟨(k : Int), 0, v0, KY, 0, 0, bb⟩ p2 T ∧ GV g W' bv ov [v0]) := hI
                  clear hI ac0 ac2 af2 cv0
                  obtain ⟨a1, ha1⟩ : ∃ a1 : Av, a1 = ⟨(k : Int), 0, v0, KY, 0, 0, bb⟩ := ⟨_, rfl⟩
                  rw [← ha1] at Y
                  have HA1 : Hid (a1 = ⟨(k : Int), 0, v0, KY, 0, 0, bb⟩) := ha1
                  clear ha1
                  refine wp_region_held_drew (S := (fun w' => w'.cell? ⟨g, 0, none⟩ = some (.int .i64 a1.k) ∧ w'.cell? ⟨g, 1, none⟩ = some (.int .i64 a1.n) ∧ w'.cell? ⟨g, 2, none⟩ = some (.int .i64 a1.m) ∧ w'.cell? ⟨g, 3, none⟩ = some (.string a1.key) ∧ w'.cell? ⟨g, 4, none⟩ = some (.int .i64 a1.v) ∧ w'.cell? ⟨g, 5, none⟩ = some (.int .i64 a1.p) ∧ w'.cell? ⟨g, 6, none⟩ = some (.bool a1.bl))) (by kernel_rfl) ?_ (fun hHeld => ?_)
                  · (try dsimp only)
                    exact (show Box _ g [.int .i64 a1.k, .int .i64 a1.n, .int .i64 a1.m, .string a1.key, .int .i64 a1.v, .int .i64 a1.p, .bool a1.bl] from (Y.out.1.next (bel_drew _)).a).c7
                  have Y2 : Hid (SS w W'.drew w.heap.size g a1 p2 T) := Y.out.1.next (bel_drew _)
                  clear Y
                  generalize W'.drew = V1 at *
                  refine wTk 0 ?_
                  refine wTk 1 ?_
                  refine wRd 2 (fun K hK => ?_)
                  go_simp
                  obtain ⟨r, hr0⟩ : ∃ r : Bool, r = true ↔ actP a1.k a1.n a1.m a1.v a1.p a1.key := by
                    by_cases h : actP a1.k a1.n a1.m a1.v a1.p a1.key
                    · exact ⟨true, fun _ => h, fun _ => rfl⟩
                    · exact ⟨false, fun e => (by cases e), fun e => (h e).elim⟩
                  have HR : Hid (r = true ↔ actP a1.k a1.n a1.m a1.v a1.p a1.key) := hr0
                  clear hr0
                  refine Calls.mono (specAct a1.k a1.n a1.m a1.v a1.p a1.key a1.bl r HR (by rw [HA1.out]; exact HKY) V1) ?_
                  rintro e V2 ⟨rfl, hb⟩
                  have Y3 : Hid (SS w V2 w.heap.size g a1 p2 T) := Y2.out.next hb
                  clear hb Y2
                  (try simp only [])
                  refine wHk hK (show Box V2 g [.int .i64 a1.k, .int .i64 a1.n, .int .i64 a1.m, .string a1.key, .int .i64 a1.v, .int .i64 a1.p, .bool a1.bl] from Y3.out.a).c7 ?_
                  clear hK K hHeld
                  intro hHeld
                  refine wRd 3 (fun K hK => ?_)
                  obtain ⟨rc0, rc1, rc2, rc3, rc4, rc5, rc6⟩ := (show Box _ w.heap.size [.int .i64 0, .int .i64 0, .int .i64 0, .string ⟨#[]⟩, .int .i64 0, .int .i64 0, .bool false] from Y3.out.r).c7
                  obtain ⟨rf0, rf1, rf2, rf3, rf4, rf5, rf6⟩ := (show Box _ w.heap.size [.int .i64 0, .int .i64 0, .int .i64 0, .string ⟨#[]⟩, .int .i64 0, .int .i64 0, .bool false] from Y3.out.r).f7
                  go_simp
                  (try simp only [])
                  have Y4 : Hid (Box (((((((V2.setCell ⟨w.heap.size, 0, none⟩ (.int .i64 a1.k)).setCell ⟨w.heap.size, 1, none⟩ (.int .i64 a1.n)).setCell ⟨w.heap.size, 2, none⟩ (.int .i64 a1.m)).setCell ⟨w.heap.size, 3, none⟩ (.string a1.key)).setCell ⟨w.heap.size, 4, none⟩ (.int .i64 a1.v)).setCell ⟨w.heap.size, 5, none⟩ (.int .i64 a1.p)).setCell ⟨w.heap.size, 6, none⟩ (.bool a1.bl)) w.heap.size [.int .i64 a1.k, .int .i64 a1.n, .int .i64 a1.m, .string a1.key, .int .i64 a1.v, .int .i64 a1.p, .bool a1.bl] ∧ Box (((((((V2.setCell ⟨w.heap.size, 0, none⟩ (.int .i64 a1.k)).setCell ⟨w.heap.size, 1, none⟩ (.int .i64 a1.n)).setCell ⟨w.heap.size, 2, none⟩ (.int .i64 a1.m)).setCell ⟨w.heap.size, 3, none⟩ (.string a1.key)).setCell ⟨w.heap.size, 4, none⟩ (.int .i64 a1.v)).setCell ⟨w.heap.size, 5, none⟩ (.int .i64 a1.p)).setCell ⟨w.heap.size, 6, none⟩ (.bool a1.bl)) g [.int .i64 a1.k, .int .i64 a1.n, .int .i64 a1.m, .string a1.key, .int .i64 a1.v, .int .i64 a1.p, .bool a1.bl] ∧ Below w.heap.size w (((((((V2.setCell ⟨w.heap.size, 0, none⟩ (.int .i64 a1.k)).setCell ⟨w.heap.size, 1, none⟩ (.int .i64 a1.n)).setCell ⟨w.heap.size, 2, none⟩ (.int .i64 a1.m)).setCell ⟨w.heap.size, 3, none⟩ (.string a1.key)).setCell ⟨w.heap.size, 4, none⟩ (.int .i64 a1.v)).setCell ⟨w.heap.size, 5, none⟩ (.int .i64 a1.p)).setCell ⟨w.heap.size, 6, none⟩ (.bool a1.bl))) := by
                    refine ⟨(show Box V2 w.heap.size [.int .i64 0, .int .i64 0, .int .i64 0, .string ⟨#[]⟩, .int .i64 0, .int .i64 0, .bool false] from Y3.out.r).s7, (show Box V2 g [.int .i64 a1.k, .int .i64 a1.n, .int .i64 a1.m, .string a1.key, .int .i64 a1.v, .int .i64 a1.p, .bool a1.bl] from Y3.out.a).o7 (by have := Y3.out.lt; omega), ?_⟩
                    repeat refine Below.setCell ?_ (by simp) _
                    exact Y3.out.b
                  clear rc0 rc1 rc2 rc3 rc4 rc5 rc6 rf0 rf1 rf2 rf3 rf4 rf5 rf6 Y3
                  refine wHk hK Y4.out.2.1.c7 ?_
                  clear hK K hHeld
                  intro hHeld
                  generalize (((((((V2.setCell ⟨w.heap.size, 0, none⟩ (.int .i64 a1.k)).setCell ⟨w.heap.size, 1, none⟩ (.int .i64 a1.n)).setCell ⟨w.heap.size, 2, none⟩ (.int .i64 a1.m)).setCell ⟨w.heap.size, 3, none⟩ (.string a1.key)).setCell ⟨w.heap.size, 4, none⟩ (.int .i64 a1.v)).setCell ⟨w.heap.size, 5, none⟩ (.int .i64 a1.p)).setCell ⟨w.heap.size, 6, none⟩ (.bool a1.bl)) = V3 at *
                  refine wTk 4 ?_
                  refine wpAnyH_done (by kernel_rfl) ?_ _
                  clear hHeld
                  obtain ⟨rc0, rc1, rc2, rc3, rc4, rc5, rc6⟩ := Y4.out.1.c7
                  go_wp2
                  refine bodyPost_ret (v := .tuple #[a1.val, .bool r]) (by simp [results, Tryd.results7, go_sem, rc0, rc1, rc2, rc3, rc4, rc5, rc6, Av.val]) rfl ?_
                  have HAS : a1 = asmA k bb (nvs (nk (keyed k) T)) KY := by
                    rw [HA1.out, HVS.out]
                    unfold asmA
                    rw [if_pos (by have := HGK.out; omega)]
                    rfl
                  exact HFIN.out HOK.out a1 r HAS HR.out _ Y4.out.2.2
                · -- nodes
                  have HWK : vn = 1 := HOK.out.1.trans (by rcases (show k = 6 ∨ k = 7 ∨ k = 10 ∨ k = 12 ∨ k = 14 by omega) with rfl | rfl | rfl | rfl | rfl <;> rfl)
                  have HWV : Hid (wantN k = 1) := (by rcases (show k = 6 ∨ k = 7 ∨ k = 10 ∨ k = 12 ∨ k = 14 by omega) with rfl | rfl | rfl | rfl | rfl <;> rfl)
                  have hv0 : (0 : Int) < (vn : Int) := by omega
                  have hvn0 : (0 : Int) ≤ (vn : Int) := by omega
                  have hky : KY = ⟨#[]⟩ := HUN.out (by simp [keyed]; omega)
                  have ky : (KY.toList == []) = true := by rw [hky, ByteArray.toList_eq]; rfl
                  have k2 : ¬ ((k : Int) ≤ 2) := by omega
                  clear hky
                  have e1 : ((k : Int) == 1) = false := by simp; omega
                  have e8 : ((k : Int) == 8) = false := by simp; omega
                  have w2 : (((wantN k : Nat) : Int) == 2) = false := by rw [HWV.out]; rfl
                  have HGK : Hid _ := hg
                  have HWK2 : Hid _ := HWK
                  clear hg HWK
                  obtain ⟨v0, hvs⟩ : ∃ v0, nvs (nk (keyed k) T) = [v0] := lst1 (by rw [HLV.out]; exact HWK2.out)
                  have HVS : Hid (nvs (nk (keyed k) T) = [v0]) := hvs
                  rw [hvs] at YV
                  clear hvs
                  obtain ⟨bv, ov, rfl, hgv⟩ := YV.out.2.gv (by simp)
                  have Y : Hid (SS w W6 w.heap.size g ⟨(k : Int), 0, 0, KY, 0, 0, bb⟩ p2 T ∧ GV g W6 bv ov [v0]) := ⟨YV.out.1, hgv⟩
                  clear hgv YV
                  have ac0 := (Y.out.1.a.is 0 (by simp [Av.cells])).1
                  have ac3 := (Y.out.1.a.is 3 (by simp [Av.cells])).1
                  simp only [Av.cells, k0A, List.getElem_cons_zero, List.getElem_cons_succ] at ac0 ac3
                  go_wp2_with fail
                  refine Calls.mono (in_no (k : Int) 3 5 W6 (by have := HGK.out; omega)) ?_
                  rintro e W7 ⟨rfl, rfl⟩
                  clear ac0 ac3
                  have ac0 := (Y.out.1.a.is 0 (by simp [Av.cells])).1
                  have ac1 := (Y.out.1.a.is 1 (by simp [Av.cells])).1
                  have af1 := (Y.out.1.a.is 1 (by simp [Av.cells])).2
                  simp only [Av.cells, k0A, List.getElem_cons_zero, List.getElem_cons_succ] at ac0 ac1 af1
                  have cv0 := (Y.out.2.at_int (i := 0) (v := v0) rfl)
                  simp only [Nat.add_zero] at cv0
                  go_upto_region 39 with fail
                  refine wp_gen (fun W => SS w W w.heap.size g ⟨(k : Int), v0, 0, KY, 0, 0, bb⟩ p2 T ∧ GV g W bv ov [v0]) ⟨Y.out.1.kp Kp.set (by have := Y.out.1.a.set (i := 1) (u := .int .i64 v0) (by simp [Av.cells]); simpa [Av.cells] using this), Y.out.2.kp Kp.set (by have := Y.out.2.lo; omega)⟩ (fun W' hI => ?_)
                  replace Y : Hid (SS w W' w.heap.size g ⟨(k : Int), v0, 0, KY, 0, 0, bb⟩ p2 T ∧ GV g W' bv ov [v0]) := hI
                  clear hI ac0 ac1 af1 cv0
                  obtain ⟨a1, ha1⟩ : ∃ a1 : Av, a1 = ⟨(k : Int), v0, 0, KY, 0, 0, bb⟩ := ⟨_, rfl⟩
                  rw [← ha1] at Y
                  have HA1 : Hid (a1 = ⟨(k : Int), v0, 0, KY, 0, 0, bb⟩) := ha1
                  clear ha1
                  refine wp_region_held_drew (S := (fun w' => w'.cell? ⟨g, 0, none⟩ = some (.int .i64 a1.k) ∧ w'.cell? ⟨g, 1, none⟩ = some (.int .i64 a1.n) ∧ w'.cell? ⟨g, 2, none⟩ = some (.int .i64 a1.m) ∧ w'.cell? ⟨g, 3, none⟩ = some (.string a1.key) ∧ w'.cell? ⟨g, 4, none⟩ = some (.int .i64 a1.v) ∧ w'.cell? ⟨g, 5, none⟩ = some (.int .i64 a1.p) ∧ w'.cell? ⟨g, 6, none⟩ = some (.bool a1.bl))) (by kernel_rfl) ?_ (fun hHeld => ?_)
                  · (try dsimp only)
                    exact (show Box _ g [.int .i64 a1.k, .int .i64 a1.n, .int .i64 a1.m, .string a1.key, .int .i64 a1.v, .int .i64 a1.p, .bool a1.bl] from (Y.out.1.next (bel_drew _)).a).c7
                  have Y2 : Hid (SS w W'.drew w.heap.size g a1 p2 T) := Y.out.1.next (bel_drew _)
                  clear Y
                  generalize W'.drew = V1 at *
                  refine wTk 0 ?_
                  refine wTk 1 ?_
                  refine wRd 2 (fun K hK => ?_)
                  go_simp
                  obtain ⟨r, hr0⟩ : ∃ r : Bool, r = true ↔ actP a1.k a1.n a1.m a1.v a1.p a1.key := by
                    by_cases h : actP a1.k a1.n a1.m a1.v a1.p a1.key
                    · exact ⟨true, fun _ => h, fun _ => rfl⟩
                    · exact ⟨false, fun e => (by cases e), fun e => (h e).elim⟩
                  have HR : Hid (r = true ↔ actP a1.k a1.n a1.m a1.v a1.p a1.key) := hr0
                  clear hr0
                  refine Calls.mono (specAct a1.k a1.n a1.m a1.v a1.p a1.key a1.bl r HR (by rw [HA1.out]; exact HKY) V1) ?_
                  rintro e V2 ⟨rfl, hb⟩
                  have Y3 : Hid (SS w V2 w.heap.size g a1 p2 T) := Y2.out.next hb
                  clear hb Y2
                  (try simp only [])
                  refine wHk hK (show Box V2 g [.int .i64 a1.k, .int .i64 a1.n, .int .i64 a1.m, .string a1.key, .int .i64 a1.v, .int .i64 a1.p, .bool a1.bl] from Y3.out.a).c7 ?_
                  clear hK K hHeld
                  intro hHeld
                  refine wRd 3 (fun K hK => ?_)
                  obtain ⟨rc0, rc1, rc2, rc3, rc4, rc5, rc6⟩ := (show Box _ w.heap.size [.int .i64 0, .int .i64 0, .int .i64 0, .string ⟨#[]⟩, .int .i64 0, .int .i64 0, .bool false] from Y3.out.r).c7
                  obtain ⟨rf0, rf1, rf2, rf3, rf4, rf5, rf6⟩ := (show Box _ w.heap.size [.int .i64 0, .int .i64 0, .int .i64 0, .string ⟨#[]⟩, .int .i64 0, .int .i64 0, .bool false] from Y3.out.r).f7
                  go_simp
                  (try simp only [])
                  have Y4 : Hid (Box (((((((V2.setCell ⟨w.heap.size, 0, none⟩ (.int .i64 a1.k)).setCell ⟨w.heap.size, 1, none⟩ (.int .i64 a1.n)).setCell ⟨w.heap.size, 2, none⟩ (.int .i64 a1.m)).setCell ⟨w.heap.size, 3, none⟩ (.string a1.key)).setCell ⟨w.heap.size, 4, none⟩ (.int .i64 a1.v)).setCell ⟨w.heap.size, 5, none⟩ (.int .i64 a1.p)).setCell ⟨w.heap.size, 6, none⟩ (.bool a1.bl)) w.heap.size [.int .i64 a1.k, .int .i64 a1.n, .int .i64 a1.m, .string a1.key, .int .i64 a1.v, .int .i64 a1.p, .bool a1.bl] ∧ Box (((((((V2.setCell ⟨w.heap.size, 0, none⟩ (.int .i64 a1.k)).setCell ⟨w.heap.size, 1, none⟩ (.int .i64 a1.n)).setCell ⟨w.heap.size, 2, none⟩ (.int .i64 a1.m)).setCell ⟨w.heap.size, 3, none⟩ (.string a1.key)).setCell ⟨w.heap.size, 4, none⟩ (.int .i64 a1.v)).setCell ⟨w.heap.size, 5, none⟩ (.int .i64 a1.p)).setCell ⟨w.heap.size, 6, none⟩ (.bool a1.bl)) g [.int .i64 a1.k, .int .i64 a1.n, .int .i64 a1.m, .string a1.key, .int .i64 a1.v, .int .i64 a1.p, .bool a1.bl] ∧ Below w.heap.size w (((((((V2.setCell ⟨w.heap.size, 0, none⟩ (.int .i64 a1.k)).setCell ⟨w.heap.size, 1, none⟩ (.int .i64 a1.n)).setCell ⟨w.heap.size, 2, none⟩ (.int .i64 a1.m)).setCell ⟨w.heap.size, 3, none⟩ (.string a1.key)).setCell ⟨w.heap.size, 4, none⟩ (.int .i64 a1.v)).setCell ⟨w.heap.size, 5, none⟩ (.int .i64 a1.p)).setCell ⟨w.heap.size, 6, none⟩ (.bool a1.bl))) := by
                    refine ⟨(show Box V2 w.heap.size [.int .i64 0, .int .i64 0, .int .i64 0, .string ⟨#[]⟩, .int .i64 0, .int .i64 0, .bool false] from Y3.out.r).s7, (show Box V2 g [.int .i64 a1.k, .int .i64 a1.n, .int .i64 a1.m, .string a1.key, .int .i64 a1.v, .int .i64 a1.p, .bool a1.bl] from Y3.out.a).o7 (by have := Y3.out.lt; omega), ?_⟩
                    repeat refine Below.setCell ?_ (by simp) _
                    exact Y3.out.b
                  clear rc0 rc1 rc2 rc3 rc4 rc5 rc6 rf0 rf1 rf2 rf3 rf4 rf5 rf6 Y3
                  refine wHk hK Y4.out.2.1.c7 ?_
                  clear hK K hHeld
                  intro hHeld
                  generalize (((((((V2.setCell ⟨w.heap.size, 0, none⟩ (.int .i64 a1.k)).setCell ⟨w.heap.size, 1, none⟩ (.int .i64 a1.n)).setCell ⟨w.heap.size, 2, none⟩ (.int .i64 a1.m)).setCell ⟨w.heap.size, 3, none⟩ (.string a1.key)).setCell ⟨w.heap.size, 4, none⟩ (.int .i64 a1.v)).setCell ⟨w.heap.size, 5, none⟩ (.int .i64 a1.p)).setCell ⟨w.heap.size, 6, none⟩ (.bool a1.bl)) = V3 at *
                  refine wTk 4 ?_
                  refine wpAnyH_done (by kernel_rfl) ?_ _
                  clear hHeld
                  obtain ⟨rc0, rc1, rc2, rc3, rc4, rc5, rc6⟩ := Y4.out.1.c7
                  go_wp2
                  refine bodyPost_ret (v := .tuple #[a1.val, .bool r]) (by simp [results, Tryd.results7, go_sem, rc0, rc1, rc2, rc3, rc4, rc5, rc6, Av.val]) rfl ?_
                  have HAS : a1 = asmA k bb (nvs (nk (keyed k) T)) KY := by
                    rw [HA1.out, HVS.out]
                    unfold asmA
                    rw [if_neg (by have := HGK.out; omega), if_neg (by have := HGK.out; omega), if_neg (by have := HGK.out; omega), if_neg (by rw [HWV.out]; decide)]
                    rfl
                  exact HFIN.out HOK.out a1 r HAS HR.out _ Y4.out.2.2
                · -- two
                  have HWK : vn = 2 := HOK.out.1.trans (by rcases (show k = 9 ∨ k = 11 ∨ k = 13 by omega) with rfl | rfl | rfl <;> rfl)
                  have HWV : Hid (wantN k = 2) := (by rcases (show k = 9 ∨ k = 11 ∨ k = 13 by omega) with rfl | rfl | rfl <;> rfl)
                  have hv0 : (0 : Int) < (vn : Int) := by omega
                  have hv1 : (1 : Int) < (vn : Int) := by omega
                  have hvn0 : (0 : Int) ≤ (vn : Int) := by omega
                  have hky : KY = ⟨#[]⟩ := HUN.out (by simp [keyed]; omega)
                  have ky : (KY.toList == []) = true := by rw [hky, ByteArray.toList_eq]; rfl
                  have k2 : ¬ ((k : Int) ≤ 2) := by omega
                  clear hky
                  have e1 : ((k : Int) == 1) = false := by simp; omega
                  have e8 : ((k : Int) == 8) = false := by simp; omega
                  have w2 : (((wantN k : Nat) : Int) == 2) = true := by rw [HWV.out]; rfl
                  have HGK : Hid _ := hg
                  have HWK2 : Hid _ := HWK
                  clear hg HWK
                  obtain ⟨v0, v1, hvs⟩ : ∃ v0 v1, nvs (nk (keyed k) T) = [v0, v1] := lst2 (by rw [HLV.out]; exact HWK2.out)
                  have HVS : Hid (nvs (nk (keyed k) T) = [v0, v1]) := hvs
                  rw [hvs] at YV
                  clear hvs
                  obtain ⟨bv, ov, rfl, hgv⟩ := YV.out.2.gv (by simp)
                  have Y : Hid (SS w W6 w.heap.size g ⟨(k : Int), 0, 0, KY, 0, 0, bb⟩ p2 T ∧ GV g W6 bv ov [v0, v1]) := ⟨YV.out.1, hgv⟩
                  clear hgv YV
                  have ac0 := (Y.out.1.a.is 0 (by simp [Av.cells])).1
                  have ac3 := (Y.out.1.a.is 3 (by simp [Av.cells])).1
                  simp only [Av.cells, k0A, List.getElem_cons_zero, List.getElem_cons_succ] at ac0 ac3
                  go_wp2_with fail
                  refine Calls.mono (in_no (k : Int) 3 5 W6 (by have := HGK.out; omega)) ?_
                  rintro e W7 ⟨rfl, rfl⟩
                  clear ac0 ac3
                  have ac0 := (Y.out.1.a.is 0 (by simp [Av.cells])).1
                  have ac1 := (Y.out.1.a.is 1 (by simp [Av.cells])).1
                  have af1 := (Y.out.1.a.is 1 (by simp [Av.cells])).2
                  simp only [Av.cells, k0A, List.getElem_cons_zero, List.getElem_cons_succ] at ac0 ac1 af1
                  have cv0 := (Y.out.2.at_int (i := 0) (v := v0) rfl)
                  simp only [Nat.add_zero] at cv0
                  go_upto_region 38 with fail
                  refine wp_gen (fun W => SS w W w.heap.size g ⟨(k : Int), v0, 0, KY, 0, 0, bb⟩ p2 T ∧ GV g W bv ov [v0, v1]) ⟨Y.out.1.kp Kp.set (by have := Y.out.1.a.set (i := 1) (u := .int .i64 v0) (by simp [Av.cells]); simpa [Av.cells] using this), Y.out.2.kp Kp.set (by have := Y.out.2.lo; omega)⟩ (fun W' hI => ?_)
                  replace Y : Hid (SS w W' w.heap.size g ⟨(k : Int), v0, 0, KY, 0, 0, bb⟩ p2 T ∧ GV g W' bv ov [v0, v1]) := hI
                  clear hI ac0 ac1 af1 cv0
                  have ac0 := (Y.out.1.a.is 0 (by simp [Av.cells])).1
                  have ac2 := (Y.out.1.a.is 2 (by simp [Av.cells])).1
                  have af2 := (Y.out.1.a.is 2 (by simp [Av.cells])).2
                  simp only [Av.cells, k0A, List.getElem_cons_zero, List.getElem_cons_succ] at ac0 ac2 af2
                  have cv1 := (Y.out.2.at_int (i := 1) (v := v1) rfl)
                  go_upto_region 39 with fail
                  refine wp_gen (fun W => SS w W w.heap.size g ⟨(k : Int), v0, v1, KY, 0, 0, bb⟩ p2 T ∧ GV g W bv ov [v0, v1]) ⟨Y.out.1.kp Kp.set (by have := Y.out.1.a.set (i := 2) (u := .int .i64 v1) (by simp [Av.cells]); simpa [Av.cells] using this), Y.out.2.kp Kp.set (by have := Y.out.2.lo; omega)⟩ (fun W' hI => ?_)
                  replace Y : Hid (SS w W' w.heap.size g ⟨(k : Int), v0, v1, KY, 0, 0, bb⟩ p2 T ∧ GV g W' bv ov [v0, v1]) := hI
                  clear hI ac0 ac2 af2 cv1
                  obtain ⟨a1, ha1⟩ : ∃ a1 : Av, a1 = ⟨(k : Int), v0, v1, KY, 0, 0, bb⟩ := ⟨_, rfl⟩
                  rw [← ha1] at Y
                  have HA1 : Hid (a1 = ⟨(k : Int), v0, v1, KY, 0, 0, bb⟩) := ha1
                  clear ha1
                  refine wp_region_held_drew (S := (fun w' => w'.cell? ⟨g, 0, none⟩ = some (.int .i64 a1.k) ∧ w'.cell? ⟨g, 1, none⟩ = some (.int .i64 a1.n) ∧ w'.cell? ⟨g, 2, none⟩ = some (.int .i64 a1.m) ∧ w'.cell? ⟨g, 3, none⟩ = some (.string a1.key) ∧ w'.cell? ⟨g, 4, none⟩ = some (.int .i64 a1.v) ∧ w'.cell? ⟨g, 5, none⟩ = some (.int .i64 a1.p) ∧ w'.cell? ⟨g, 6, none⟩ = some (.bool a1.bl))) (by kernel_rfl) ?_ (fun hHeld => ?_)
                  · (try dsimp only)
                    exact (show Box _ g [.int .i64 a1.k, .int .i64 a1.n, .int .i64 a1.m, .string a1.key, .int .i64 a1.v, .int .i64 a1.p, .bool a1.bl] from (Y.out.1.next (bel_drew _)).a).c7
                  have Y2 : Hid (SS w W'.drew w.heap.size g a1 p2 T) := Y.out.1.next (bel_drew _)
                  clear Y
                  generalize W'.drew = V1 at *
                  refine wTk 0 ?_
                  refine wTk 1 ?_
                  refine wRd 2 (fun K hK => ?_)
                  go_simp
                  obtain ⟨r, hr0⟩ : ∃ r : Bool, r = true ↔ actP a1.k a1.n a1.m a1.v a1.p a1.key := by
                    by_cases h : actP a1.k a1.n a1.m a1.v a1.p a1.key
                    · exact ⟨true, fun _ => h, fun _ => rfl⟩
                    · exact ⟨false, fun e => (by cases e), fun e => (h e).elim⟩
                  have HR : Hid (r = true ↔ actP a1.k a1.n a1.m a1.v a1.p a1.key) := hr0
                  clear hr0
                  refine Calls.mono (specAct a1.k a1.n a1.m a1.v a1.p a1.key a1.bl r HR (by rw [HA1.out]; exact HKY) V1) ?_
                  rintro e V2 ⟨rfl, hb⟩
                  have Y3 : Hid (SS w V2 w.heap.size g a1 p2 T) := Y2.out.next hb
                  clear hb Y2
                  (try simp only [])
                  refine wHk hK (show Box V2 g [.int .i64 a1.k, .int .i64 a1.n, .int .i64 a1.m, .string a1.key, .int .i64 a1.v, .int .i64 a1.p, .bool a1.bl] from Y3.out.a).c7 ?_
                  clear hK K hHeld
                  intro hHeld
                  refine wRd 3 (fun K hK => ?_)
                  obtain ⟨rc0, rc1, rc2, rc3, rc4, rc5, rc6⟩ := (show Box _ w.heap.size [.int .i64 0, .int .i64 0, .int .i64 0, .string ⟨#[]⟩, .int .i64 0, .int .i64 0, .bool false] from Y3.out.r).c7
                  obtain ⟨rf0, rf1, rf2, rf3, rf4, rf5, rf6⟩ := (show Box _ w.heap.size [.int .i64 0, .int .i64 0, .int .i64 0, .string ⟨#[]⟩, .int .i64 0, .int .i64 0, .bool false] from Y3.out.r).f7
                  go_simp
                  (try simp only [])
                  have Y4 : Hid (Box (((((((V2.setCell ⟨w.heap.size, 0, none⟩ (.int .i64 a1.k)).setCell ⟨w.heap.size, 1, none⟩ (.int .i64 a1.n)).setCell ⟨w.heap.size, 2, none⟩ (.int .i64 a1.m)).setCell ⟨w.heap.size, 3, none⟩ (.string a1.key)).setCell ⟨w.heap.size, 4, none⟩ (.int .i64 a1.v)).setCell ⟨w.heap.size, 5, none⟩ (.int .i64 a1.p)).setCell ⟨w.heap.size, 6, none⟩ (.bool a1.bl)) w.heap.size [.int .i64 a1.k, .int .i64 a1.n, .int .i64 a1.m, .string a1.key, .int .i64 a1.v, .int .i64 a1.p, .bool a1.bl] ∧ Box (((((((V2.setCell ⟨w.heap.size, 0, none⟩ (.int .i64 a1.k)).setCell ⟨w.heap.size, 1, none⟩ (.int .i64 a1.n)).setCell ⟨w.heap.size, 2, none⟩ (.int .i64 a1.m)).setCell ⟨w.heap.size, 3, none⟩ (.string a1.key)).setCell ⟨w.heap.size, 4, none⟩ (.int .i64 a1.v)).setCell ⟨w.heap.size, 5, none⟩ (.int .i64 a1.p)).setCell ⟨w.heap.size, 6, none⟩ (.bool a1.bl)) g [.int .i64 a1.k, .int .i64 a1.n, .int .i64 a1.m, .string a1.key, .int .i64 a1.v, .int .i64 a1.p, .bool a1.bl] ∧ Below w.heap.size w (((((((V2.setCell ⟨w.heap.size, 0, none⟩ (.int .i64 a1.k)).setCell ⟨w.heap.size, 1, none⟩ (.int .i64 a1.n)).setCell ⟨w.heap.size, 2, none⟩ (.int .i64 a1.m)).setCell ⟨w.heap.size, 3, none⟩ (.string a1.key)).setCell ⟨w.heap.size, 4, none⟩ (.int .i64 a1.v)).setCell ⟨w.heap.size, 5, none⟩ (.int .i64 a1.p)).setCell ⟨w.heap.size, 6, none⟩ (.bool a1.bl))) := by
                    refine ⟨(show Box V2 w.heap.size [.int .i64 0, .int .i64 0, .int .i64 0, .string ⟨#[]⟩, .int .i64 0, .int .i64 0, .bool false] from Y3.out.r).s7, (show Box V2 g [.int .i64 a1.k, .int .i64 a1.n, .int .i64 a1.m, .string a1.key, .int .i64 a1.v, .int .i64 a1.p, .bool a1.bl] from Y3.out.a).o7 (by have := Y3.out.lt; omega), ?_⟩
                    repeat refine Below.setCell ?_ (by simp) _
                    exact Y3.out.b
                  clear rc0 rc1 rc2 rc3 rc4 rc5 rc6 rf0 rf1 rf2 rf3 rf4 rf5 rf6 Y3
                  refine wHk hK Y4.out.2.1.c7 ?_
                  clear hK K hHeld
                  intro hHeld
                  generalize (((((((V2.setCell ⟨w.heap.size, 0, none⟩ (.int .i64 a1.k)).setCell ⟨w.heap.size, 1, none⟩ (.int .i64 a1.n)).setCell ⟨w.heap.size, 2, none⟩ (.int .i64 a1.m)).setCell ⟨w.heap.size, 3, none⟩ (.string a1.key)).setCell ⟨w.heap.size, 4, none⟩ (.int .i64 a1.v)).setCell ⟨w.heap.size, 5, none⟩ (.int .i64 a1.p)).setCell ⟨w.heap.size, 6, none⟩ (.bool a1.bl)) = V3 at *
                  refine wTk 4 ?_
                  refine wpAnyH_done (by kernel_rfl) ?_ _
                  clear hHeld
                  obtain ⟨rc0, rc1, rc2, rc3, rc4, rc5, rc6⟩ := Y4.out.1.c7
                  go_wp2
                  refine bodyPost_ret (v := .tuple #[a1.val, .bool r]) (by simp [results, Tryd.results7, go_sem, rc0, rc1, rc2, rc3, rc4, rc5, rc6, Av.val]) rfl ?_
                  have HAS : a1 = asmA k bb (nvs (nk (keyed k) T)) KY := by
                    rw [HA1.out, HVS.out]
                    unfold asmA
                    rw [if_neg (by have := HGK.out; omega), if_neg (by have := HGK.out; omega), if_neg (by have := HGK.out; omega), if_pos HWV.out]
                    rfl
                  exact HFIN.out HOK.out a1 r HAS HR.out _ Y4.out.2.2
end Go.Proofs.YtdepclilngaacaaDoor
