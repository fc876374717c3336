/- Marks of texts and of events; ModelKeys of the specification. -/
import Derived.Test.YthcmkakijdnleaaRows
import Derived.WalkKit
import Derived.WalkSpells
import Derived.WalkLawsBesides
import Derived.Deep.QuietTactic
import Derived.BigQuiet
import Derived.Deep.RegionHeld3
import Derived.Test.YthcmkakijdnleaaMq
import Derived.LoopN
import Derived.OwnWalk
import Derived.Lib.ConvBytes
namespace Go.Proofs.Ythcmkakijdnleaa
open Go.RowKit
set_option linter.unusedSimpArgs false
set_option linter.unusedVariables false
/-- The digits of k, none of 0. -/
def mtP (k : Nat) : List UInt8 := if h : k = 0 then [] else mtP (k / 10) ++ [UInt8.ofNat (48 + k % 10)]
termination_by k
decreasing_by omega
/-- The k-th mark. -/
def mt (k : Nat) : ByteArray := ⟨#[109]⟩ ++ ⟨(mtP k).toArray⟩
theorem conv_one (W : World) (b : Nat) (c : UInt8) (h : W.cell? ⟨b, 0, none⟩ = some (.int .u8 (c.toNat : Int))) : Sem.run Try.prog (convert 101 9 (.slice (some ⟨b, 0, none⟩) 1 1)) W = .ok (.string ⟨#[c]⟩) W := by
  have := run_convert_bytes_back (P := Try.prog) W 101 9 5 ⟨b, 0, none⟩ 1 [c] Try.underlying101 Try.underlying5 Try.underlying9 (fun j hj => by
    have hj0 : j = 0 := by simpa using hj
    subst hj0
    exact h)
  exact this
theorem u8_small (n : Nat) (h : n < 256) : (UInt8.ofNat n).toNat = n := by simp; omega
theorem mt_step (j : Nat) (out : ByteArray) (c : UInt8) (hj : 0 < j) (hc : c = UInt8.ofNat (48 + j % 10)) : mtP j ++ out.data.toList = mtP (j / 10) ++ ((⟨#[c]⟩ : ByteArray) ++ out).data.toList := by
  rw [mtP, dif_neg (by omega), hc]
  simp
set_option maxHeartbeats 2000000 in
theorem markText_any (k : Nat) (h1 : 1 ≤ k) (hk : k ≤ 1000000000) (w : World) :
    Calls Try.prog 47 #[.int .i64 k] w fun e w' => e = .returned (.string (mt k)) ∧ Below w.heap.size w w' := by
  have h0 : ¬ (k : Int) ≤ 0 := by omega
  go_enter Try.func47, Try.ntmps47
  go_wp2
  go_loopw [0, 3] (fun s0 s3 wr => ∃ (j : Nat) (out : ByteArray), j ≤ k ∧ s0 = .int .i64 j ∧ s3 = .string out ∧ out.size + j ≤ k ∧ mtP k = mtP j ++ out.data.toList ∧ Below w.heap.size w wr) (fun s0 _ _ => (intOf s0).toNat)
  case atStart => exact ⟨k, ⟨#[]⟩, by omega, rfl, rfl, (show 0 + k ≤ k by omega), by simp, Below.refl _ _⟩
  case round =>
    obtain ⟨j, out, hj, rfl, rfl, hs, hE0, hB0⟩ := hrel
    have hE : Hid (mtP k = mtP j ++ out.data.toList) := hE0
    have hB : Hid (Below w.heap.size w wr) := hB0
    clear hE0 hB0
    by_cases hp : 0 < j
    · have hp' : (0 : Int) < (j : Int) := by omega
      have hp2 : (0 : Int) ≤ (j : Int) := by omega
      have q1 : IntKind.i64.wrap ((j : Int) / 10) = (j : Int) / 10 := by rw [IntKind.wrap_i64]; omega
      have q2 : ((j : Int)).tmod 10 = (j : Int) % 10 := Int.tmod_eq_emod_of_nonneg hp2
      have q3 : IntKind.i64.wrap (48 + (j : Int) % 10) = 48 + (j : Int) % 10 := by rw [IntKind.wrap_i64]; omega
      have q4 : IntKind.u8.wrap (48 + (j : Int) % 10) = 48 + (j : Int) % 10 := by unfold IntKind.wrap; simp [IntKind.bits, IntKind.signed]; omega
      have q5 : ((j : Int)).tdiv 10 = (j : Int) / 10 := Int.tdiv_eq_ediv_of_nonneg hp2
      obtain ⟨c, hc⟩ : ∃ c : UInt8, c = UInt8.ofNat (48 + j % 10) := ⟨_, rfl⟩
      have hcn : (c.toNat : Int) = 48 + (j : Int) % 10 := by rw [hc, u8_small _ (by omega)]; omega
      have hcv := conv_one (wr.alloc (.cells #[.int .u8 (48 + (j : Int) % 10)] 5)) wr.heap.size c (by rw [hcn]; go_simp)
      have HS : Hid (mtP k = mtP (j / 10) ++ ((⟨#[c]⟩ : ByteArray) ++ out).data.toList) := by show _ = _; rw [hE.out, mt_step j out c hp hc]
      have HZ : Hid (((⟨#[c]⟩ : ByteArray) ++ out).size + j / 10 ≤ k) := by
        show _ ≤ _
        rw [ByteArray.size_append, show (⟨#[c]⟩ : ByteArray).size = 1 from rfl]
        omega
      have hov : ¬ 9223372036854775807 < 1 + out.size := by omega
      have hov' : ¬ 9223372036854775807 < out.size + 1 := by omega
      have B1 : Hid (∀ o, Below w.heap.size w (wr.alloc o)) := fun o => (bel_next hB (bel_alloc _ _)).out
      clear hc hcn
      go_wp2
      go_roundw
      case rel => exact ⟨j / 10, ⟨#[c]⟩ ++ out, by omega, by first | rfl | go_num | simp, by first | rfl | simp, HZ.out, HS.out, B1.out _⟩
      case measure => simp [intOf]; omega
    · have hp' : ¬ (0 : Int) < (j : Int) := by omega
      have hov : ¬ 9223372036854775807 < 1 + out.size := by omega
      have hov' : ¬ 9223372036854775807 < out.size + 1 := by omega
      have HR : Hid (mt k = ⟨#[109]⟩ ++ out) := by
        show _ = _
        have e : mtP j = [] := by rw [mtP, dif_pos (by omega)]
        unfold mt
        rw [hE.out, e]
        simp
      go_wp2
      go_ret
      exact ⟨by rw [HR.out]; rfl, hB.out⟩

open Go.Sort
theorem TR.kp {E : Nat → Prop} {lo : Nat} {w w' : World} {p : Option Addr} {l : List (List UInt8)} (h : TR lo w p l) (k : Kp E w w') (hn : ∀ b, lo ≤ b → ¬ E b) : TR lo w' p l := by
  refine ⟨?_, ?_⟩
  · rcases h.row with h' | ⟨b, off, h1, h2, h3⟩
    · exact .inl h'
    · refine .inr ⟨b, off, h1, h2, fun j hj => ?_⟩
      have hc := h3 j hj
      rw [World.cell?_of_block (w := w) (k.block _ (cell_lt (x := ⟨b, off + j, none⟩) hc) (hn _ h2))]
      exact hc
  · rcases h.wr with h' | ⟨g, h1, h2, h3, h4⟩
    · exact .inl h'
    · exact .inr ⟨g, h1, h2, Nat.lt_of_lt_of_le h3 k.size, fun j hj => ⟨by rw [World.cell?_of_block (w := w) (k.block _ h3 (hn _ h2))]; exact (h4 j hj).1, by rw [World.frozen?_of_block (w := w) (k.block _ h3 (hn _ h2))]; exact (h4 j hj).2⟩⟩
/-- A row of texts that holds the marks from k on in its first j places. -/
def MI (lo : Nat) (w : World) (p : Option Addr) (n k j : Nat) : Prop := n = 0 ∨ ∃ g, p = some ⟨g, 0, none⟩ ∧ lo ≤ g ∧ g < w.heap.size ∧ There w g n ∧ ∀ i, i < j → w.cell? ⟨g, i, none⟩ = some (.string (mt (k + i)))
theorem MI.next {lo : Nat} {w w' : World} {p : Option Addr} {n k j : Nat} (h : MI lo w p n k j) (hb : Below w.heap.size w w') : MI lo w' p n k j := by
  rcases h with h | ⟨g, h1, h2, h3, h4, h5⟩
  · exact .inl h
  · exact .inr ⟨g, h1, h2, Nat.lt_of_lt_of_le h3 hb.size, h4.next hb h3, fun i hi => cell_next hb (h5 i hi) h3⟩
theorem TR.mi {lo : Nat} {w : World} {p : Option Addr} {l : List (List UInt8)} (h : TR lo w p l) (k : Nat) : MI lo w p l.length k 0 := by
  rcases h.wr with h' | ⟨g, h1, h2, h3, h4⟩
  · exact .inl (by rw [h']; rfl)
  · exact .inr ⟨g, h1, h2, h3, h4, fun i hi => by omega⟩
set_option maxHeartbeats 2000000 in
theorem markStrs_any (lo q n k : Nat) (p : Option Addr) (w : World) (hn : n ≤ 1048576) (h1 : 1 ≤ k) (hk : k ≤ 100000000) (hT0 : MI lo w p n k 0) :
    Calls Try.prog 24 #[.slice p n q, .int .i64 k] w fun e w' => e = .returned (.int .i64 ((k : Int) + n)) ∧ Kp (fun b => lo ≤ b) w w' ∧ MI lo w' p n k n := by
  have hT : Hid (MI lo w p n k 0) := hT0
  clear hT0
  go_enter Try.func24, Try.ntmps24
  go_wp2
  go_loopw [1, 5] (fun s1 s5 wr => ∃ j : Nat, j ≤ n ∧ s5 = .int .i64 j ∧ s1 = .int .i64 ((k : Int) + j) ∧ Kp (fun b => lo ≤ b) w wr ∧ MI lo wr p n k j) (fun _ s5 _ => n - (intOf s5).toNat)
  case atStart => exact ⟨0, by omega, rfl, by simp, Kp.of_below (Below.refl _ _), hT.out⟩
  case round =>
    obtain ⟨j, hj, rfl, rfl, hG0, hM0⟩ := hrel
    have hG : Hid (Kp (fun b => lo ≤ b) w wr) := hG0
    have hM : Hid (MI lo wr p n k j) := hM0
    clear hG0 hT hM0
    by_cases hjn : j < n
    · have hjn' : (j : Int) < (n : Int) := by omega
      have j0 : (0 : Int) ≤ (j : Int) := by omega
      rcases hM.out with h' | ⟨g, rfl, hlg, hgl, hT1, hM1⟩
      · omega
      have YM : Hid (lo ≤ g ∧ g < wr.heap.size ∧ There wr g n ∧ ∀ i, i < j → wr.cell? ⟨g, i, none⟩ = some (.string (mt (k + i)))) := ⟨hlg, hgl, hT1, hM1⟩
      clear hlg hgl hT1 hM1 hM
      have hkj : (k : Int) + (j : Int) = ((k + j : Nat) : Int) := by omega
      have MT : Hid (∀ W, Calls Try.prog 47 #[.int .i64 ((k : Int) + (j : Int))] W fun e w' => e = .returned (.string (mt (k + j))) ∧ Below W.heap.size W w') := fun W => by rw [hkj]; exact markText_any (k + j) (by omega) (by omega) W
      clear hkj
      go_wp2_with fail
      refine Calls.mono (MT.out _) ?_
      rintro e w1 ⟨rfl, hb⟩
      have hG1 : Hid (Kp (fun b => lo ≤ b) w w1) := hG.out.trans (Kp.of_below (E := fun b => lo ≤ b) hb) (fun _ _ h => h) (fun _ _ h => h)
      replace YM : Hid (lo ≤ g ∧ g < w1.heap.size ∧ There w1 g n ∧ ∀ i, i < j → w1.cell? ⟨g, i, none⟩ = some (.string (mt (k + i)))) := ⟨YM.out.1, Nat.lt_of_lt_of_le YM.out.2.1 hb.size, YM.out.2.2.1.next hb YM.out.2.1, fun i hi => cell_next hb (YM.out.2.2.2 i hi) YM.out.2.1⟩
      clear hb hG MT
      obtain ⟨v0, y0⟩ := Option.isSome_iff_exists.1 (YM.out.2.2.1 j hjn).1
      have z0 := (YM.out.2.2.1 j hjn).2
      have G2 : Hid (Kp (fun b => lo ≤ b) w (w1.setCell ⟨g, j, none⟩ (.string (mt (k + j))))) := hG1.out.trans Kp.set (fun _ _ h => h) (fun x _ h => by rw [h]; exact YM.out.1)
      have M2 : Hid (MI lo (w1.setCell ⟨g, j, none⟩ (.string (mt (k + j)))) (some ⟨g, 0, none⟩) n k (j + 1)) := .inr ⟨g, rfl, YM.out.1, by simpa [World.setCell] using YM.out.2.1, YM.out.2.2.1.set, fun i hi => by
        by_cases e : i = j
        · subst e; exact cell_same y0
        · exact cell_oth (YM.out.2.2.2 i (by omega)) e⟩
      clear hG1 YM
      generalize mt (k + j) = mm at *
      go_wp2
      go_roundw
      case rel => exact ⟨j + 1, by omega, by go_num, by go_num, G2.out, M2.out⟩
      case measure => simp [intOf]; omega
    · have hjn' : ¬ (j : Int) < (n : Int) := by omega
      have e : j = n := by omega
      subst e
      go_wp2
      go_ret
      exact ⟨rfl, hG.out, hM.out⟩
set_option maxHeartbeats 2000000 in
theorem heldStrs_any (lo q n k : Nat) (p : Option Addr) (w : World) (hn : n ≤ 1048576) (h1 : 1 ≤ k) (hk : k ≤ 100000000) (hT0 : MI lo w p n k n) :
    Calls Try.prog 25 #[.slice p n q, .int .i64 k] w fun e w' => e = .returned (.int .i64 ((k : Int) + n)) ∧ Below w.heap.size w w' := by
  have hT : Hid (MI lo w p n k n) := hT0
  clear hT0
  go_enter Try.func25, Try.ntmps25
  go_wp2
  go_loopw [1, 5] (fun s1 s5 wr => ∃ j : Nat, j ≤ n ∧ s5 = .int .i64 j ∧ s1 = .int .i64 ((k : Int) + j) ∧ Below w.heap.size w wr) (fun _ s5 _ => n - (intOf s5).toNat)
  case atStart => exact ⟨0, by omega, rfl, by simp, Below.refl _ _⟩
  case round =>
    obtain ⟨j, hj, rfl, rfl, hB0⟩ := hrel
    have hB : Hid (Below w.heap.size w wr) := hB0
    clear hB0
    by_cases hjn : j < n
    · have hjn' : (j : Int) < (n : Int) := by omega
      have j0 : (0 : Int) ≤ (j : Int) := by omega
      rcases hT.out with h' | ⟨g, rfl, _, hgl, _, hM1⟩
      · omega
      have HC : Hid (∀ W, Below w.heap.size w W → W.cell? ⟨g, j, none⟩ = some (.string (mt (k + j)))) := fun W h => cell_next h (hM1 j hjn) hgl
      have hkj : (k : Int) + (j : Int) = ((k + j : Nat) : Int) := by omega
      have MT : Hid (∀ W, Calls Try.prog 47 #[.int .i64 ((k : Int) + (j : Int))] W fun e w' => e = .returned (.string (mt (k + j))) ∧ Below W.heap.size W w') := fun W => by rw [hkj]; exact markText_any (k + j) (by omega) (by omega) W
      clear hkj hM1 hgl
      generalize mt (k + j) = mm at *
      go_upto_region 3 with fail
      refine wp_region_held_drew (S := (fun w' => w'.cell? ⟨g, j, none⟩ = some (.string mm))) (by kernel_rfl) ?_ (fun hHeld => ?_)
      · (try dsimp only)
        exact HC.out _ (hB.out.trans ((bel_drew _).mono hB.out.size))
      replace hB : Hid (Below w.heap.size w wr.drew) := hB.out.trans ((bel_drew _).mono hB.out.size)
      generalize wr.drew = V1 at *
      refine wTk 0 ?_
      refine wTk 1 ?_
      refine wTk 2 ?_
      refine wTk 3 ?_
      refine wTk 4 ?_
      refine wRd 5 (fun K hK => ?_)
      go_simp
      go_at_call 47
      refine Calls.mono (MT.out _) ?_
      rintro e W2 ⟨rfl, hb⟩
      (try simp only [])
      replace hB : Hid (Below w.heap.size w W2) := hB.out.trans (hb.mono hB.out.size)
      refine wHk hK (HC.out _ hB.out) ?_
      clear hb hK K hHeld MT
      intro hHeld
      refine wTk 6 ?_
      refine wpAnyH_done (by kernel_rfl) ?_ _
      clear hHeld
      clear HC
      go_wp2
      go_roundw
      case rel => exact ⟨j + 1, by omega, by go_num, by go_num, hB.out⟩
      case measure => simp [intOf]; omega
    · have hjn' : ¬ (j : Int) < (n : Int) := by omega
      have e : j = n := by omega
      subst e
      go_wp2
      go_ret
      exact ⟨rfl, hB.out⟩
set_option maxHeartbeats 2000000 in
theorem eqStrs_same (lo lo2 q q2 n : Nat) (p p2 : Option Addr) (rs : List (List UInt8)) (w : World) (hl : rs.length = n) (hm : n ≤ 1048576) (hr0 : GRow lo w p (txt rs)) (hs0 : GRow lo2 w p2 (txt rs)) :
    Calls Try.prog 23 #[.slice p n q, .slice p2 n q2] w fun e w' => e = .returned (.bool true) ∧ Below w.heap.size w w' := by
  have hr : Hid _ := hr0
  have hs : Hid _ := hs0
  have HL : Hid (rs.length = n) := hl
  clear hr0 hs0 hl
  go_enter Try.func23, Try.ntmps23
  go_wp2
  go_loopw [5] (fun s5 wr => ∃ k : Nat, k ≤ n ∧ s5 = .int .i64 k ∧ Below w.heap.size w wr) (fun s5 _ => n - (intOf s5).toNat)
  case atStart => exact ⟨0, by omega, rfl, Below.refl _ _⟩
  case round =>
    obtain ⟨k, hk, rfl, hB0⟩ := hrel
    have hB : Hid (Below w.heap.size w wr) := hB0
    clear hB0
    by_cases hkl : k < n
    · have hkl' : (k : Int) < (n : Int) := by omega
      have kz : k < (txt rs).length := by rw [txt_len, HL.out]; exact hkl
      rcases hr.out with h' | ⟨b, off, rfl, _, h2⟩
      · rw [h'] at kz; simp at kz
      rcases hs.out with h' | ⟨c, oft, rfl, _, h3⟩
      · rw [h'] at kz; simp at kz
      have x0 := cell_next hB.out (h2 k kz) (cell_lt (x := ⟨b, off + k, none⟩) (h2 k kz))
      have y0 := cell_next hB.out (h3 k kz) (cell_lt (x := ⟨c, oft + k, none⟩) (h3 k kz))
      obtain ⟨s, hs⟩ : ∃ s : ByteArray, (txt rs)[k] = .string s := ⟨_, by simp [txt, encStr]; rfl⟩
      rw [hs] at x0 y0
      have k0 : (0 : Int) ≤ (k : Int) := by omega
      clear h2 h3 hs
      go_wp2
      go_quiet (fail)
      go_wp2
      go_roundw
      case rel => first | exact ⟨k + 1, by omega, by go_num, below_drewN hB.out _⟩ | exact ⟨k + 1, by omega, by go_num, hB.out.drew⟩ | ((repeat apply Exists.intro); exact ⟨⟨k + 1, by omega, by go_num, below_drewN hB.out _⟩, rfl⟩)
      case measure => simp [intOf]; omega
    · have hkl' : ¬ (k : Int) < (n : Int) := by omega
      go_wp2
      go_ret
      exact ⟨rfl, hB.out⟩

set_option maxRecDepth 20000 in
set_option maxHeartbeats 4000000 in
theorem specMk (lo q : Nat) (po : Option Addr) (l : List Ev) (w : World) (hl1 : (l.length : Int) ≤ 1048576) (hks : ∀ x ∈ l, x.key.size < 1099511627776) (hr0 : GRow lo w po (flatE l)) :
    Calls Try.prog 21 #[.slice po l.length q] w (Tmk l w) := by
  have hr : Hid (GRow lo w po (flatE l)) := hr0
  clear hr0
  go_enter Try.func21, Try.ntmps21
  by_cases hl : 4096 < (l.length : Int)
  case pos =>
    have HF : Hid (mkP l [] 2) := .inl ⟨by omega, rfl, rfl⟩
    clear hr
    go_wp2
    go_ret2
    exact Tmk.mk (rs := []) rfl HF.out (TR.nil _ _ _) (bel_alloc _ _)
  have HLE : Hid (l.length ≤ 4096) := by show _ ≤ _; omega
  go_wp2_with fail
  refine (specEvents lo q po l w hl1 hks hr.out).mono ?_
  rintro e1 W1 ⟨r1, rfl, hq, hb⟩
  have HB : Hid (Below w.heap.size w W1) := hb
  have HQ : Hid (r1 = true ↔ eok l) := hq
  clear hb hq
  cases r1
  case false =>
    have HF : Hid (mkP l [] 1) := .inr (.inl ⟨HLE.out, fun h => (by have := HQ.out.2 h; cases this), rfl, rfl⟩)
    clear HQ hr
    go_wp2
    go_ret2
    exact Tmk.mk (rs := []) rfl HF.out (TR.nil _ _ _) (HB.out.trans ((bel_alloc _ _).mono HB.out.size))
  have HE : Hid (eok l) := HQ.out.1 rfl
  clear HQ
  go_wp2_with fail
  refine (keys_any lo q po l W1 HLE.out (hr.out.next HB.out)).mono ?_
  rintro e1 W2 ⟨g, c, rfl, hT, hb⟩
  have HT : Hid (TR w.heap.size W2 (some ⟨g, 0, none⟩) (risen (keysE l)) ∧ Below w.heap.size w W2) := ⟨hT.weak HB.out.size, HB.out.trans (hb.mono HB.out.size)⟩
  have HR : Hid (mkP l (risen (keysE l)) 0) := .inr (.inr ⟨HLE.out, HE.out, rfl, rfl⟩)
  clear hT hb HB hr HE HLE
  go_wp2
  go_ret2
  exact Tmk.mk rfl HR.out HT.out.1 HT.out.2

set_option maxRecDepth 20000 in
set_option maxHeartbeats 8000000 in
theorem markEs_any (g q n : Nat) (k : Int) (w : World) (hn : n ≤ 1048576) (hk0 : 1 ≤ k) (hk : k ≤ 100000000) (hT0 : There w g (n * 8)) (hg0 : g < w.heap.size) :
    Calls Try.prog 18 #[.slice (some ⟨g, 0, none⟩) n q, .int .i64 k] w fun e w' => ∃ c : Int, e = .returned (.int .i64 c) ∧ 0 ≤ c ∧ w.grownBy w' (some g) := by
  have hT : Hid (There w g (n * 8) ∧ g < w.heap.size) := ⟨hT0, hg0⟩
  clear hT0 hg0
  go_enter Try.func18, Try.ntmps18
  go_wp2
  go_loopw [1, 5] (fun s1 s5 wr => ∃ j : Nat, j ≤ n ∧ s5 = .int .i64 j ∧ (∃ c0 : Int, s1 = .int .i64 c0 ∧ c0 = k + 8 * (j : Int)) ∧ w.grownBy wr (some g) ∧ There wr g (n * 8) ∧ g < wr.heap.size) (fun _ s5 _ => n - (intOf s5).toNat)
  case atStart => exact ⟨0, by omega, rfl, ⟨k, rfl, by simp⟩, gb_refl _ _, hT.out.1, hT.out.2⟩
  case round =>
    obtain ⟨j, hj, rfl, ⟨c0, rfl, hc0⟩, hG0, hT0, hg0⟩ := hrel
    have Y : Hid (w.grownBy wr (some g) ∧ There wr g (n * 8) ∧ g < wr.heap.size) := ⟨hG0, hT0, hg0⟩
    clear hG0 hT0 hT hg0
    by_cases hjn : j < n
    · have hjn' : (j : Int) < (n : Int) := by omega
      have j0 : (0 : Int) ≤ (j : Int) := by omega
      obtain ⟨c1, hc1⟩ : ∃ x : Int, x = c0 + 1 := ⟨_, rfl⟩
      have e1 : IntKind.i64.wrap (c0 + 1) = c1 := by rw [IntKind.wrap_i64]; omega
      obtain ⟨c2, hc2⟩ : ∃ x : Int, x = c1 + 1 := ⟨_, rfl⟩
      have e2 : IntKind.i64.wrap (c1 + 1) = c2 := by rw [IntKind.wrap_i64]; omega
      obtain ⟨c3, hc3⟩ : ∃ x : Int, x = c2 + 1 := ⟨_, rfl⟩
      have e3 : IntKind.i64.wrap (c2 + 1) = c3 := by rw [IntKind.wrap_i64]; omega
      obtain ⟨c4, hc4⟩ : ∃ x : Int, x = c3 + 1 := ⟨_, rfl⟩
      have e4 : IntKind.i64.wrap (c3 + 1) = c4 := by rw [IntKind.wrap_i64]; omega
      obtain ⟨c5, hc5⟩ : ∃ x : Int, x = c4 + 1 := ⟨_, rfl⟩
      have e5 : IntKind.i64.wrap (c4 + 1) = c5 := by rw [IntKind.wrap_i64]; omega
      obtain ⟨c6, hc6⟩ : ∃ x : Int, x = c5 + 1 := ⟨_, rfl⟩
      have e6 : IntKind.i64.wrap (c5 + 1) = c6 := by rw [IntKind.wrap_i64]; omega
      obtain ⟨c7, hc7⟩ : ∃ x : Int, x = c6 + 1 := ⟨_, rfl⟩
      have e7 : IntKind.i64.wrap (c6 + 1) = c7 := by rw [IntKind.wrap_i64]; omega
      obtain ⟨c8, hc8⟩ : ∃ x : Int, x = c7 + 1 := ⟨_, rfl⟩
      have e8 : IntKind.i64.wrap (c7 + 1) = c8 := by rw [IntKind.wrap_i64]; omega
      have HC8 : Hid (c8 = k + 8 * ((j + 1 : Nat) : Int)) := by show _ = _; omega
      have MT : Hid (∀ W, Calls Try.prog 47 #[.int .i64 c2] W fun e w' => ∃ s, e = .returned (.string s) ∧ Below W.heap.size W w') := fun W => by
        obtain ⟨m, hm⟩ : ∃ m : Nat, c2 = (m : Int) := ⟨c2.toNat, by omega⟩
        rw [hm]
        exact (markText_any m (by omega) (by omega) W).mono (fun e w' h => ⟨_, h.1, h.2⟩)
      clear hc0 hc1 hc2 hc3 hc4 hc5 hc6 hc7 hc8
      obtain ⟨v0, y0⟩ := Option.isSome_iff_exists.1 (Y.out.2.1 (j * 8) (by omega)).1
      have z0 := (Y.out.2.1 (j * 8) (by omega)).2
      obtain ⟨v1, y1⟩ := Option.isSome_iff_exists.1 (Y.out.2.1 (j * 8 + 1) (by omega)).1
      have z1 := (Y.out.2.1 (j * 8 + 1) (by omega)).2
      go_wp2_with fail
      refine (MT.out _).mono ?_
      rintro e w1 ⟨s, rfl, hb⟩
      clear MT y0 z0 y1 z1
      have hg1 : g < ((wr.setCell ⟨g, j * 8, none⟩ (.int .i64 c0)).setCell ⟨g, j * 8 + 1, none⟩ (.int .i64 c1)).heap.size := by simpa [World.setCell] using Y.out.2.2
      replace Y : Hid (w.grownBy w1 (some g) ∧ There w1 g (n * 8) ∧ g < w1.heap.size) := ⟨gb_trans (gb_trans (gb_trans Y.out.1 (gb_set _ _ _ _)) (gb_set _ _ _ _)) (gb_below hb), (Y.out.2.1.set.set).next hb hg1, Nat.lt_of_lt_of_le hg1 hb.size⟩
      clear hb hg1
      obtain ⟨v2, y2⟩ := Option.isSome_iff_exists.1 (Y.out.2.1 (j * 8 + 2) (by omega)).1
      have z2 := (Y.out.2.1 (j * 8 + 2) (by omega)).2
      obtain ⟨v3, y3⟩ := Option.isSome_iff_exists.1 (Y.out.2.1 (j * 8 + 3) (by omega)).1
      have z3 := (Y.out.2.1 (j * 8 + 3) (by omega)).2
      obtain ⟨v4, y4⟩ := Option.isSome_iff_exists.1 (Y.out.2.1 (j * 8 + 4) (by omega)).1
      have z4 := (Y.out.2.1 (j * 8 + 4) (by omega)).2
      obtain ⟨v5, y5⟩ := Option.isSome_iff_exists.1 (Y.out.2.1 (j * 8 + 5) (by omega)).1
      have z5 := (Y.out.2.1 (j * 8 + 5) (by omega)).2
      obtain ⟨v6, y6⟩ := Option.isSome_iff_exists.1 (Y.out.2.1 (j * 8 + 6) (by omega)).1
      have z6 := (Y.out.2.1 (j * 8 + 6) (by omega)).2
      obtain ⟨v7, y7⟩ := Option.isSome_iff_exists.1 (Y.out.2.1 (j * 8 + 7) (by omega)).1
      have z7 := (Y.out.2.1 (j * 8 + 7) (by omega)).2
      go_wp2
      refine wp_loop_rounds 4 ?_
      repeat (rw [rounds_succ]; go_wp2)
      go_roundw
      case rel => exact ⟨j + 1, by omega, by go_num, ⟨c8, by go_num, HC8.out⟩, gb_trans (gb_trans (gb_trans (gb_trans (gb_trans (gb_trans Y.out.1 (gb_set _ _ _ _)) (gb_set _ _ _ _)) (gb_set _ _ _ _)) (gb_set _ _ _ _)) (gb_set _ _ _ _)) (gb_set _ _ _ _), Y.out.2.1.set.set.set.set.set.set, by simpa [World.setCell] using Y.out.2.2⟩
      case measure => simp [intOf]; omega
    · have hjn' : ¬ (j : Int) < (n : Int) := by omega
      go_wp2
      go_ret
      exact ⟨_, rfl, by omega, Y.out.1⟩
end Go.Proofs.Ythcmkakijdnleaa
