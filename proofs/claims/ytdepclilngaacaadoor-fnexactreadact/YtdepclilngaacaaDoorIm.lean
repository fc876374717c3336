/- The program reads an act. -/
import Derived.Test.YtdepclilngaacaaDoorRows
import Derived.WalkKit
import Derived.WalkSpells
import Derived.WalkLawsBesides
import Derived.Deep.QuietTactic
import Derived.BigQuiet
import Derived.Deep.RegionHeld3
import Derived.Test.YtdepclilngaacaaDoorMt
import Derived.Test.YtdepclilngaacaaDoorZk
import Derived.WalkMore
import Derived.ScopeJumps
import Derived.LoopN
namespace Go.Proofs.YtdepclilngaacaaDoor
open Go.RowKit
set_option linter.unusedSimpArgs false
set_option linter.unusedVariables false

theorem zero_val : zeroA.val = .agg #[.int .i64 0, .int .i64 0, .int .i64 0, .string ⟨#[]⟩, .int .i64 0, .int .i64 0, .bool false] := rfl
set_option maxRecDepth 100000 in
set_option maxHeartbeats 4000000 in
theorem implRead (s : ByteArray) (w : World) (tt : TypeId) (fr : Nat × Nat) (hc0 : w.heap[0]? = some (.cells arr tt fr)) : Calls Tryd.prog 5 #[.string s] w (RaQ s w) := by
  have h0lt : 0 < w.heap.size := by
    rcases Nat.lt_or_ge 0 w.heap.size with h' | h'
    · exact h'
    · rw [Array.getElem?_eq_none (show w.heap.size ≤ 0 from h')] at hc0; cases hc0
  have HT : Hid (0 < w.heap.size ∧ w.heap[0]? = some (.cells arr tt fr)) := ⟨h0lt, hc0⟩
  clear h0lt hc0
  by_cases hbig : 65536 < s.size
  · have hbig' : 65536 < (s.size : Int) := by omega
    have HR : Hid (RaP s zeroA 2) := .inl ⟨hbig, rfl, rfl⟩
    clear hbig
    go_enter Tryd.func5, Tryd.ntmps5
    go_wp2
    go_step3
    go_wp2
    rw [Exit.noGoto_ret]
    refine bodyPost_ret (v := .tuple #[zeroA.val, .int .i64 2]) (by simp [results, Tryd.results5, go_sem, zero_val]) rfl ⟨zeroA, 2, rfl, HR.out, ?_⟩
    repeat (first | exact Below.refl _ _ | refine Below.drew ?_ | refine below_drewN ?_ _ | refine Below.alloc ?_ (by first | (simp; done) | (simp; omega)) _ | refine Below.setCell ?_ (by first | (simp; done) | (simp; omega)) _)
  have hbig' : ¬ 65536 < (s.size : Int) := by omega
  have hsz : s.size ≤ 65536 := by omega
  have HLN : Hid ((wordsB s).length ≤ s.size + 1 ∧ ∀ x ∈ wordsB s, 0 < x.size ∧ x.size ≤ s.size) := ⟨words_len s, words_ne s⟩
  have S0 : Hid (St w ((w.alloc (.cells #[.int .i64 0, .int .i64 0, .int .i64 0, .string ⟨#[]⟩, .int .i64 0, .int .i64 0, .bool false] 23)).alloc (.cells #[.int .i64 0, .int .i64 0, .int .i64 0, .string ⟨#[]⟩, .int .i64 0, .int .i64 0, .bool false] 23)) w.heap.size zeroA none [] ∧ ((w.alloc (.cells #[.int .i64 0, .int .i64 0, .int .i64 0, .string ⟨#[]⟩, .int .i64 0, .int .i64 0, .bool false] 23)).alloc (.cells #[.int .i64 0, .int .i64 0, .int .i64 0, .string ⟨#[]⟩, .int .i64 0, .int .i64 0, .bool false] 23)).heap.size = w.heap.size + 2) := by
    have a1 := bel_alloc w (.cells #[.int .i64 0, .int .i64 0, .int .i64 0, .string ⟨#[]⟩, .int .i64 0, .int .i64 0, .bool false] 23)
    have a2 := bel_alloc (w.alloc (.cells #[.int .i64 0, .int .i64 0, .int .i64 0, .string ⟨#[]⟩, .int .i64 0, .int .i64 0, .bool false] 23)) (.cells #[.int .i64 0, .int .i64 0, .int .i64 0, .string ⟨#[]⟩, .int .i64 0, .int .i64 0, .bool false] 23)
    have b1 : Box (w.alloc (.cells #[.int .i64 0, .int .i64 0, .int .i64 0, .string ⟨#[]⟩, .int .i64 0, .int .i64 0, .bool false] 23)) w.heap.size zeroA.cells := box_mk
    have b2 : Box ((w.alloc (.cells #[.int .i64 0, .int .i64 0, .int .i64 0, .string ⟨#[]⟩, .int .i64 0, .int .i64 0, .bool false] 23)).alloc (.cells #[.int .i64 0, .int .i64 0, .int .i64 0, .string ⟨#[]⟩, .int .i64 0, .int .i64 0, .bool false] 23)) (w.alloc (.cells #[.int .i64 0, .int .i64 0, .int .i64 0, .string ⟨#[]⟩, .int .i64 0, .int .i64 0, .bool false] 23)).heap.size zeroA.cells := box_mk
    have e : (w.alloc (.cells #[.int .i64 0, .int .i64 0, .int .i64 0, .string ⟨#[]⟩, .int .i64 0, .int .i64 0, .bool false] 23)).heap.size = w.heap.size + 1 := by simp
    rw [e] at b2
    exact ⟨⟨b1.next a2, b2, rfl, .inl rfl, a1.trans (a2.mono (by simp))⟩, by simp⟩
  go_enter Tryd.func5, Tryd.ntmps5
  go_wp2
  refine wp_scope_jumps 0 (fun a' w' => (¬ Good (wordsB s)) ∧ Box w' w.heap.size zeroA.cells ∧ Below w.heap.size w w' ∧ ∃ (u0 u1 u3 u4 u5 u6 u7 u8 u9 u10 u11 u12 u13 u14 u15 u16 u17 u18 u19 u20 u21 u22 u23 u24 u25 u26 u27 u28 u29 u30 u31 u32 u33 u34 u35 u36 u37 u38 u39 u40 u41 u42 u43 u44 u45 u46 u47 u48 u49 u50 u51 u52 u53 u54 u55 u56 u57 u58 : Value), a' = { tmps := #[u0, u1, .pointer (some ⟨w.heap.size, 0, none⟩), u3, u4, u5, u6, u7, u8, u9, u10, u11, u12, u13, u14, u15, u16, u17, u18, u19, u20, u21, u22, u23, u24, u25, u26, u27, u28, u29, u30, u31, u32, u33, u34, u35, u36, u37, u38, u39, u40, u41, u42, u43, u44, u45, u46, u47, u48, u49, u50, u51, u52, u53, u54, u55, u56, u57, u58], defers := [] }) (fun _ _ => 0) rfl ?_ ?_
  · go_wp2_with fail
    generalize ((w.alloc (.cells #[.int .i64 0, .int .i64 0, .int .i64 0, .string ⟨#[]⟩, .int .i64 0, .int .i64 0, .bool false] 23)).alloc (.cells #[.int .i64 0, .int .i64 0, .int .i64 0, .string ⟨#[]⟩, .int .i64 0, .int .i64 0, .bool false] 23)) = W0 at *
    refine Calls.mono (implWords s W0 hsz) ?_
    rintro e W1 ⟨p, q, rfl, hq, hG, hb⟩
    have S1 : Hid (St w W1 w.heap.size zeroA p (wordsB s) ∧ (wordsB s).length ≤ q) := ⟨⟨(S0.out.1.next hb).r, (S0.out.1.next hb).a, rfl, by have := S0.out.2; rw [this] at hG; exact hG, (S0.out.1.next hb).b⟩, hq⟩
    clear hG hb hq S0
    cases hws : wordsB s with
    | nil =>
      have HB : Hid (¬ Good (wordsB s)) := (by rw [hws]; exact fun h => h)
      have HS : Hid (St w W1 w.heap.size zeroA p (wordsB s)) := S1.out.1
      clear S1 HLN HT hws
      go_wp2
      go_step3
      exact ⟨rfl, HB.out, HS.out.r, HS.out.b, ⟨_, _, _, _, _, _, _, _, _, _, _, _, _, _, _, _, _, _, _, _, _, _, _, _, _, _, _, _, _, _, _, _, _, _, _, _, _, _, _, _, _, _, _, _, _, _, _, _, _, _, _, _, _, _, _, _, _, _, rfl⟩⟩
    | cons w0 t =>
      rw [hws] at S1 HLN
      have HW : Hid (wordsB s = w0 :: t) := hws
      clear hws
      obtain ⟨b, off, rfl, hw0⟩ := S1.out.1.word (i := 0) (s := w0) rfl
      rw [Nat.add_zero] at hw0
      simp only [List.length_cons] at *
      have hn1 : ¬ ((t.length : Int) + 1 = 0) := by omega
      have hn2 : (((t.length + 1 : Nat) : Int) == 0) = false := by simp; omega
      have hn3 : (0 : Int) < ((t.length + 1 : Nat) : Int) := by omega
      go_wp2_with fail
      refine Calls.mono (impl_kind w0 W1 tt fr (by have := S1.out.1.b.block 0 HT.out.1; rw [this]; exact HT.out.2)) ?_
      rintro e W1 ⟨rfl, rfl⟩
      obtain ⟨k, hk⟩ : ∃ k, k = kindN w0 := ⟨_, rfl⟩
      have HK : Hid (k = kindN w0 ∧ k < 15) := ⟨hk, by rw [hk]; exact kind_lt w0⟩
      rw [← hk]
      clear hk hw0 hn1
      have ac0 := (S1.out.1.a.is 0 (by simp [Av.cells])).1
      have af0 := (S1.out.1.a.is 0 (by simp [Av.cells])).2
      simp only [Av.cells, zeroA, List.getElem_cons_zero] at ac0 af0
      go_upto_region 8 with fail
      refine wp_gen (fun W => St w W w.heap.size ⟨(k : Int), 0, 0, ⟨#[]⟩, 0, 0, false⟩ (some ⟨b, off, none⟩) (w0 :: t)) ?_ (fun W2 hI => ?_)
      · exact S1.out.1.kp Kp.set (by have := S1.out.1.a.set (i := 0) (u := .int .i64 (k : Int)) (by simp [Av.cells]); simpa [Av.cells, zeroA] using this)
      have S2 : Hid (St w W2.drew w.heap.size ⟨(k : Int), 0, 0, ⟨#[]⟩, 0, 0, false⟩ (if q = 1 then some (⟨b, off, none⟩ : Addr) else some ⟨b, off + 1, none⟩) t ∧ t.length + 1 ≤ q) := ⟨(hI.tail2 S1.out.2).next (bel_drew _), S1.out.2⟩
      clear hI S1 ac0 af0
      have HT2 : Hid (t.length ≤ 65536) := (by have := HLN.out.1; show _ ≤ _; omega)
      have q1 : (1 : Int) ≤ ((t.length + 1 : Nat) : Int) := by omega
      have q2 : ((t.length + 1 : Nat) : Int) ≤ (q : Int) := by have := S2.out.2; omega
      have q3 : (1 : Int) ≤ (q : Int) := by omega
      have q4 : (1 : Int) ≤ (t.length : Int) + 1 := by omega
      have q5 : (t.length : Int) + 1 ≤ (q : Int) := by omega
      have k0 := (S2.out.1.a.is 0 (by simp [Av.cells])).1
      simp only [Av.cells, List.getElem_cons_zero] at k0
      refine wp_region_held_drew (S := (fun w' => w'.cell? ⟨w.heap.size + 1, 0, none⟩ = some (.int .i64 (k : Int)))) (by kernel_rfl) ?_ (fun hHeld => ?_)
      · (try dsimp only)
        exact k0
      clear k0
      generalize W2.drew = V1 at *
      refine wTk 0 ?_
      refine wTk 1 ?_
      refine wTk 2 ?_
      refine wTk 3 ?_
      generalize (if q = 1 then some (⟨b, off, none⟩ : Addr) else some ⟨b, off + 1, none⟩) = p2 at *
      refine wRd 4 (fun K hK => ?_)
      go_simp
      obtain ⟨T, bb, hst⟩ : ∃ T bb, strip k t = (T, bb) := ⟨_, _, rfl⟩
      have S3 : Hid (St w V1 w.heap.size ⟨(k : Int), 0, 0, ⟨#[]⟩, 0, 0, false⟩ p2 T ∧ T.length ≤ 65536 ∧ ∀ x ∈ T, x.size ≤ 65536) := by
        obtain ⟨j, hj⟩ := strip_sub (k := k) (ws := t)
        rw [hst] at hj
        have hj' : T = t.take j := hj
        refine ⟨by rw [hj']; exact S2.out.1.sub, by rw [hj', List.length_take]; have := HT2.out; omega, fun x hx => ?_⟩
        have := (HLN.out.2 x (List.mem_cons_of_mem _ (List.mem_of_mem_take (by rw [hj'] at hx; exact hx)))).2
        omega
      have HC := blind_any _ k t t.length rfl p2 (q - 1) V1 S2.out.1.g (by have := S2.out.2; omega) HT2.out
      unfold WbA at HC
      rw [hst] at HC
      have HC2 : Hid _ := HC
      have HST : Hid (strip k t = (T, bb)) := hst
      clear HC hst q1 q2 q3 q4 q5 S2
      refine Calls.mono HC2.out ?_
      rintro e V2 ⟨q', rfl, hq', rfl⟩
      have HQ : Hid (T.length ≤ q') := hq'
      clear HC2 hq'
      (try simp only [])
      refine wHk hK hHeld ?_
      clear hK K hHeld
      intro hHeld
      refine wTk 5 ?_
      refine wTk 6 ?_
      refine wTk 7 ?_
      refine wTk 8 ?_
      refine wTk 9 ?_
      refine wRd 10 (fun K hK => ?_)
      have ac6 := (S3.out.1.a.is 6 (by simp [Av.cells])).1
      have af6 := (S3.out.1.a.is 6 (by simp [Av.cells])).2
      simp only [Av.cells, List.getElem_cons_zero, List.getElem_cons_succ] at ac6 af6
      go_simp
      (try simp only [])
      have S4 : Hid (St w (V2.setCell ⟨w.heap.size + 1, 6, none⟩ (.bool bb)) w.heap.size ⟨(k : Int), 0, 0, ⟨#[]⟩, 0, 0, bb⟩ p2 T) := S3.out.1.kp Kp.set (by have := S3.out.1.a.set (i := 6) (u := .bool bb) (by simp [Av.cells]); simpa [Av.cells] using this)
      have k1 := (S4.out.a.is 0 (by simp [Av.cells])).1
      simp only [Av.cells, List.getElem_cons_zero] at k1
      refine wHk hK k1 ?_
      clear hK K hHeld ac6 af6 k1
      intro hHeld
      generalize (V2.setCell ⟨w.heap.size + 1, 6, none⟩ (.bool bb)) = V3 at *
      refine wpAnyH_done (by kernel_rfl) ?_ _
      clear hHeld
      have k1 := (S4.out.a.is 0 (by simp [Av.cells])).1
      simp only [Av.cells, List.getElem_cons_zero] at k1
      go_wp2_with fail
      refine Calls.mono (fields_any k HK.out.2 V3) ?_
      rintro e V4 ⟨pf, qf, rfl, hG, hb⟩
      have S5 : Hid (St w V4 w.heap.size ⟨(k : Int), 0, 0, ⟨#[]⟩, 0, 0, bb⟩ p2 T) := S4.out.next hb
      have GF : Hid (GRow V3.heap.size V4 pf ((fs k).map fnV) ∧ w.heap.size + 2 ≤ V3.heap.size) := ⟨hG, by have := cell_lt (x := ⟨w.heap.size + 1, 0, none⟩) k1; simp at this; omega⟩
      clear hG hb k1 S4
      have HW2 : Hid (wordsB s = w0 :: t ∧ k = kindN w0 ∧ strip k t = (T, bb)) := ⟨HW.out, HK.out.1, HST.out⟩
      have HF : Hid (∀ f ∈ fs k, f = 20 ∨ f = 21 ∨ f = 22 ∨ f = 23 ∨ f = 24) := fs_mem k HK.out.2
      have HL : Hid (T.length ≤ 65536 ∧ (∀ x ∈ T, x.size ≤ 65536)) := S3.out.2
      clear S3 HW HK HST HLN HT2 HT hn2 hn3
      obtain ⟨FL, hFL⟩ : ∃ FL, FL = fs k := ⟨_, rfl⟩
      rw [← hFL] at GF HF ⊢
      have HFL : Hid (FL = fs k) := hFL
      clear hFL
      have HBAD : Hid (¬ (goodW k T ∧ (actOf k bb T).ok) → ¬ Good (wordsB s)) := by
        intro h hg
        rw [HW2.out.1] at hg
        simp only [Good] at hg
        rw [← HW2.out.2.1, HW2.out.2.2] at hg
        exact h hg
      have HGOOD : Hid (goodW k T ∧ (actOf k bb T).ok → s.size ≤ 65536 → RaP s (actOf k bb T) 0) := by
        intro h hz
        refine .inr (.inl ⟨hz, ?_, ?_, rfl⟩)
        · rw [HW2.out.1]
          simp only [Good]
          rw [← HW2.out.2.1, HW2.out.2.2]
          exact h
        · rw [HW2.out.1]
          simp only [resA]
          rw [← HW2.out.2.1, HW2.out.2.2]
      clear HW2
      unfold goodW actOf at HBAD HGOOD
      rw [← HFL.out] at HBAD HGOOD
      clear HFL
      by_cases hlen : FL.length = T.length
      case neg =>
        have hl2 : (((FL.length : Nat) : Int) != ((T.length : Nat) : Int)) = true := by simp; omega
        have HB : Hid (¬ Good (wordsB s)) := HBAD.out (fun h => hlen h.1.1)
        clear hlen HBAD HGOOD HF GF
        go_wp2
        go_step3
        exact ⟨rfl, HB.out, S5.out.r, S5.out.b, ⟨_, _, _, _, _, _, _, _, _, _, _, _, _, _, _, _, _, _, _, _, _, _, _, _, _, _, _, _, _, _, _, _, _, _, _, _, _, _, _, _, _, _, _, _, _, _, _, _, _, _, _, _, _, _, _, _, _, _, rfl⟩⟩
      have hl2 : (((FL.length : Nat) : Int) != ((T.length : Nat) : Int)) = false := by simp; omega
      obtain ⟨n, hn⟩ : ∃ n, n = FL.length := ⟨_, rfl⟩
      have hn2 : T.length = n := by omega
      have HN : Hid (n = FL.length ∧ T.length = n) := ⟨hn, hn2⟩
      have hn3 : n ≤ 65536 := by have := HL.out.1; omega
      have GF2 : Hid (GRow (w.heap.size + 2) V4 pf (FL.map fnV)) := GF.out.1.weak GF.out.2
      rw [← hn, hn2] at hl2 ⊢
      clear hlen hn hn2 GF
      go_wp2
      go_loopw [42] (fun s42 wr => ∃ i : Nat, i ≤ n ∧ s42 = .int .i64 i ∧ St w wr w.heap.size (foldA ((FL.zip T).take i) ⟨(k : Int), 0, 0, ⟨#[]⟩, 0, 0, bb⟩) p2 T ∧ GRow (w.heap.size + 2) wr pf (FL.map fnV) ∧ ∀ x ∈ (FL.zip T).take i, rdP x.1 x.2) (fun s42 _ => n - (intOf s42).toNat)
      case atStart => exact ⟨0, by omega, rfl, S5.out, GF2.out, fun x hx => by simp at hx⟩
      case round =>
        clear S5 GF2
        obtain ⟨i, hi, rfl, hS, hG, hP⟩ := hrel
        have SI : Hid (St w wr w.heap.size (foldA ((FL.zip T).take i) ⟨(k : Int), 0, 0, ⟨#[]⟩, 0, 0, bb⟩) p2 T ∧ GRow (w.heap.size + 2) wr pf (FL.map fnV)) := ⟨hS, hG⟩
        have HP : Hid (∀ x ∈ (FL.zip T).take i, rdP x.1 x.2) := hP
        clear hS hG hP
        by_cases hlt : i < n
        · have hlt' : (i : Int) < (n : Int) := by omega
          have i0 : (0 : Int) ≤ (i : Int) := by omega
          obtain ⟨f, hf⟩ : ∃ f, FL[i]? = some f := ⟨_, List.getElem?_eq_getElem (by have := HN.out; omega)⟩
          obtain ⟨x, hx⟩ : ∃ x, T[i]? = some x := ⟨_, List.getElem?_eq_getElem (by have := HN.out; omega)⟩
          obtain ⟨b2, o2, rfl, cw⟩ := SI.out.1.word hx
          obtain ⟨fb, fo, rfl, cf⟩ : ∃ fb fo, pf = some ⟨fb, fo, none⟩ ∧ wr.cell? ⟨fb, fo + i, none⟩ = some (fnV f) := by
            have hs : (FL.map fnV)[i]? = some (fnV f) := by rw [List.getElem?_map, hf]; rfl
            obtain ⟨hl, _⟩ := List.getElem?_eq_some_iff.1 hs
            rcases SI.out.2 with h' | ⟨fb, fo, rfl, _, hc⟩
            · rw [h'] at hl; simp at hl
            · exact ⟨fb, fo, rfl, GRow.at (lo := w.heap.size + 2) hc hs⟩
          have hfm := HF.out f (List.mem_of_getElem? hf)
          have HX : Hid ((FL.zip T)[i]? = some (f, x) ∧ (FL.zip T).take (i + 1) = (FL.zip T).take i ++ [(f, x)] ∧ x.size ≤ 65536) := ⟨zip_at hf hx, zip_take hf hx, HL.out.2 x (List.mem_of_getElem? hx)⟩
          clear hf hx
          unfold fnV at cf
          have HCALL : Hid (∀ a : Av, Box wr (w.heap.size + 1) a.cells → Calls Tryd.prog f #[.pointer (some ⟨w.heap.size + 1, 0, none⟩), .string x] wr (RdQ f (w.heap.size + 1) x a wr)) := fun a ha => rd_any hfm _ x a wr ha HX.out.2.2
          rcases hfm with rfl | rfl | rfl | rfl | rfl
          all_goals
            go_wp2_with fail
            refine Calls.mono (HCALL.out _ SI.out.1.a) ?_
            clear cw cf
            rintro e V5 ⟨r, a', rfl, hr, ha, hB, hK⟩
            have S6 : Hid (St w V5 w.heap.size a' _ T ∧ GRow (w.heap.size + 2) V5 _ (FL.map fnV)) := ⟨SI.out.1.kp hK hB, SI.out.2.kp hK (fun z hz hne e => by
              rcases SI.out.2 with h' | ⟨b', off', hp', hb', _⟩
              · exact hne h'
              · rw [hz] at hp'; cases hp'; have e' : b' = w.heap.size + 1 := e; omega)⟩
            clear hB hK HCALL
            cases r
            · have HB : Hid (¬ Good (wordsB s)) := HBAD.out (fun h => by have := hr.2 (h.1.2 _ (List.mem_of_getElem? HX.out.1)); cases this)
              clear hr ha SI HX HBAD HGOOD HP
              go_wp2
              go_step3
              exact ⟨rfl, HB.out, S6.out.1.r, S6.out.1.b, ⟨_, _, _, _, _, _, _, _, _, _, _, _, _, _, _, _, _, _, _, _, _, _, _, _, _, _, _, _, _, _, _, _, _, _, _, _, _, _, _, _, _, _, _, _, _, _, _, _, _, _, _, _, _, _, _, _, _, _, rfl⟩⟩
            · have HA : Hid (a' = foldA ((FL.zip T).take (i + 1)) ⟨(k : Int), 0, 0, ⟨#[]⟩, 0, 0, bb⟩) := by show _ = _; rw [HX.out.2.1, foldA_snoc]; exact ha rfl
              have HP2 : Hid (∀ x ∈ (FL.zip T).take (i + 1), rdP x.1 x.2) := fun y hy => by
                rw [HX.out.2.1] at hy
                rcases List.mem_append.1 hy with h' | h'
                · exact HP.out y h'
                · simp at h'; subst h'; exact hr.1 rfl
              clear hr ha SI HX HP
              go_wp2
              go_roundw
              case rel => exact ⟨i + 1, by omega, by go_num, by rw [← HA.out]; exact S6.out.1, S6.out.2, HP2.out⟩
              case measure => simp [intOf]; omega
        · have hlt' : ¬ (i : Int) < (n : Int) := by omega
          have hie : i = n := by omega
          have HE : Hid ((FL.zip T).take i = FL.zip T) := List.take_of_length_le (by rw [List.length_zip]; have := HN.out; omega)
          have HGW : Hid (FL.length = T.length ∧ ∀ x ∈ FL.zip T, rdP x.1 x.2) := ⟨by have := HN.out; omega, by have := HP.out; rw [HE.out] at this; exact this⟩
          rw [HE.out] at SI
          clear HE HP hie
          have HKY : Hid ((foldA (FL.zip T) ⟨(k : Int), 0, 0, ⟨#[]⟩, 0, 0, bb⟩).key.size < 1099511627776) := by
            have := foldA_key (FL.zip T) ⟨(k : Int), 0, 0, ⟨#[]⟩, 0, 0, bb⟩ (fun x hx => HL.out.2 _ (List.of_mem_zip hx).2) (by show (⟨#[]⟩ : ByteArray).size ≤ 65536; decide)
            show _ < _
            omega
          obtain ⟨a1, ha1⟩ : ∃ a1, a1 = foldA (FL.zip T) ⟨(k : Int), 0, 0, ⟨#[]⟩, 0, 0, bb⟩ := ⟨_, rfl⟩
          rw [← ha1] at SI HKY HBAD HGOOD
          clear ha1
          have S7 : Hid (St w wr w.heap.size a1 p2 T) := SI.out.1
          clear SI
          obtain ⟨r, hr0⟩ : ∃ r : Bool, r = true ↔ actP a1.k a1.n a1.m a1.v a1.p a1.key := by
            by_cases h : actP a1.k a1.n a1.m a1.v a1.p a1.key
            · exact ⟨true, fun _ => h, fun _ => rfl⟩
            · exact ⟨false, fun e => (by cases e), fun e => (h e).elim⟩
          have HR : Hid (r = true ↔ actP a1.k a1.n a1.m a1.v a1.p a1.key) := hr0
          clear hr0
          obtain ⟨ac0, ac1, ac2, ac3, ac4, ac5, ac6⟩ := (show Box wr (w.heap.size + 1) [.int .i64 a1.k, .int .i64 a1.n, .int .i64 a1.m, .string a1.key, .int .i64 a1.v, .int .i64 a1.p, .bool a1.bl] from S7.out.a).c7
          go_wp2_with fail
          refine Calls.mono (implAct a1.k a1.n a1.m a1.v a1.p a1.key a1.bl r HR HKY wr) ?_
          clear ac0 ac1 ac2 ac3 ac4 ac5 ac6
          rintro e V5 ⟨rfl, hb⟩
          have S8 : Hid (St w V5 w.heap.size a1 p2 T) := S7.out.next hb
          clear hb S7
          cases r
          · have HB : Hid (¬ Good (wordsB s)) := HBAD.out (fun h => by have := HR.out.2 h.2; cases this)
            clear HR HBAD HGOOD
            obtain ⟨rc0, rc1, rc2, rc3, rc4, rc5, rc6⟩ := (show Box _ w.heap.size [.int .i64 0, .int .i64 0, .int .i64 0, .string ⟨#[]⟩, .int .i64 0, .int .i64 0, .bool false] from S8.out.r).c7
            obtain ⟨rf0, rf1, rf2, rf3, rf4, rf5, rf6⟩ := (show Box _ w.heap.size [.int .i64 0, .int .i64 0, .int .i64 0, .string ⟨#[]⟩, .int .i64 0, .int .i64 0, .bool false] from S8.out.r).f7
            go_wp2
            go_step3
            go_wp2
            simp only [Exit.jump]
            refine bodyPost_ret (v := .tuple #[.agg #[.int .i64 0, .int .i64 0, .int .i64 0, .string ⟨#[]⟩, .int .i64 0, .int .i64 0, .bool false], .int .i64 3]) (by simp [results, Tryd.results5, go_sem, rc0, rc1, rc2, rc3, rc4, rc5, rc6, rf0, rf1, rf2, rf3, rf4, rf5, rf6]) rfl ⟨zeroA, 3, rfl, .inr (.inr ⟨hsz, HB.out, rfl, rfl⟩), ?_⟩
            repeat refine Below.setCell ?_ (by simp) _
            exact S8.out.b
          · have HB : Hid (RaP s a1 0) := HGOOD.out ⟨HGW.out, HR.out.1 rfl⟩ (by have := hbig'; omega)
            clear HR HBAD HGOOD
            obtain ⟨ac0, ac1, ac2, ac3, ac4, ac5, ac6⟩ := (show Box V5 (w.heap.size + 1) [.int .i64 a1.k, .int .i64 a1.n, .int .i64 a1.m, .string a1.key, .int .i64 a1.v, .int .i64 a1.p, .bool a1.bl] from S8.out.a).c7
            obtain ⟨rc0, rc1, rc2, rc3, rc4, rc5, rc6⟩ := (show Box _ w.heap.size [.int .i64 0, .int .i64 0, .int .i64 0, .string ⟨#[]⟩, .int .i64 0, .int .i64 0, .bool false] from S8.out.r).c7
            obtain ⟨rf0, rf1, rf2, rf3, rf4, rf5, rf6⟩ := (show Box _ w.heap.size [.int .i64 0, .int .i64 0, .int .i64 0, .string ⟨#[]⟩, .int .i64 0, .int .i64 0, .bool false] from S8.out.r).f7
            go_wp2
            simp only [Exit.jump]
            refine bodyPost_ret (v := .tuple #[a1.val, .int .i64 0]) (by simp [results, Tryd.results5, go_sem, rc0, rc1, rc2, rc3, rc4, rc5, rc6, rf0, rf1, rf2, rf3, rf4, rf5, rf6, Av.val]) rfl ⟨a1, 0, rfl, HB.out, ?_⟩
            repeat refine Below.setCell ?_ (by simp) _
            exact S8.out.b
  · rintro a' w' ⟨hbad, hB, hb, u0, u1, u3, u4, u5, u6, u7, u8, u9, u10, u11, u12, u13, u14, u15, u16, u17, u18, u19, u20, u21, u22, u23, u24, u25, u26, u27, u28, u29, u30, u31, u32, u33, u34, u35, u36, u37, u38, u39, u40, u41, u42, u43, u44, u45, u46, u47, u48, u49, u50, u51, u52, u53, u54, u55, u56, u57, u58, rfl⟩
    have S8 : Hid (Box w' w.heap.size zeroA.cells ∧ Below w.heap.size w w') := ⟨hB, hb⟩
    have HB : Hid (¬ Good (wordsB s)) := hbad
    clear hbad hB hb HT HLN S0
    obtain ⟨rc0, rc1, rc2, rc3, rc4, rc5, rc6⟩ := (show Box _ w.heap.size [.int .i64 0, .int .i64 0, .int .i64 0, .string ⟨#[]⟩, .int .i64 0, .int .i64 0, .bool false] from S8.out.1).c7
    obtain ⟨rf0, rf1, rf2, rf3, rf4, rf5, rf6⟩ := (show Box _ w.heap.size [.int .i64 0, .int .i64 0, .int .i64 0, .string ⟨#[]⟩, .int .i64 0, .int .i64 0, .bool false] from S8.out.1).f7
    go_wp2
    simp only [Exit.jump]
    refine bodyPost_ret (v := .tuple #[.agg #[.int .i64 0, .int .i64 0, .int .i64 0, .string ⟨#[]⟩, .int .i64 0, .int .i64 0, .bool false], .int .i64 3]) (by simp [results, Tryd.results5, go_sem, rc0, rc1, rc2, rc3, rc4, rc5, rc6, rf0, rf1, rf2, rf3, rf4, rf5, rf6]) rfl ⟨zeroA, 3, rfl, .inr (.inr ⟨hsz, HB.out, rfl, rfl⟩), ?_⟩
    repeat refine Below.setCell ?_ (by simp) _
    exact S8.out.2
end Go.Proofs.YtdepclilngaacaaDoor
