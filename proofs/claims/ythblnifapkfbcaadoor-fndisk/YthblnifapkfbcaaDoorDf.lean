/- Texts that are drawn of alike codes are alike. -/
import Derived.Test.YthblnifapkfbcaaDoorRows
import Derived.WalkKit
import Derived.WalkSpells
import Derived.WalkLawsBesides
import Derived.Deep.QuietTactic
import Derived.BigQuiet
import Derived.Deep.RegionHeld3
import Derived.Test.YthblnifapkfbcaaDoorDx
import Derived.LoopN
import Derived.RegionTactic
import Derived.BigRegion
namespace Go.Proofs.YthblnifapkfbcaaDoor
open Go.RowKit
set_option linter.unusedSimpArgs false
set_option linter.unusedVariables false

set_option maxHeartbeats 1000000 in
theorem byte_seedF (g len cap : Nat) (ao : Option Addr) (k s : Int) (w : World) (hk0 : 0 ≤ k) (hk : (len : Int) ≤ k) (hkm : k < 3000) (hs0 : 0 ≤ s) (hs : s < 2147483648) (hgs : g < w.heap.size)
    (c0 : w.cell? ⟨g, 0, none⟩ = some (.slice ao len cap)) (c1 : w.cell? ⟨g, 1, none⟩ = some (.int .i64 k)) (c2 : w.cell? ⟨g, 2, none⟩ = some (.int .i64 s))
    (f1 : w.frozen? ⟨g, 1, none⟩ = false) (f2 : w.frozen? ⟨g, 2, none⟩ = false) :
    Calls Tryd.prog 35 #[.pointer (some ⟨g, 0, none⟩)] w fun e w' => e = .returned (.int .i64 ((s * 1103515245 + 12345) % 2147483648 / 65536 % 256)) ∧ SrcAt w' g ao len cap (k + 1) ((s * 1103515245 + 12345) % 2147483648) ∧ w.grownBy w' (some g) := by
  have hkk : ¬ k + 1 ≤ (len : Int) := by omega
  have hdd : decide (k + 1 ≤ (len : Int)) = false := by simpa using hkk
  have hk3 : ¬ 3000 < k + 1 := by omega
  go_enter Tryd.func35, Tryd.ntmps35
  go_wp2
  go_quiet (fail)
  go_wp2
  go_ret
  refine ⟨rfl, ⟨by go_simp, by go_simp, by go_simp, by go_simp, by go_simp, by simpa [World.setCell] using hgs, by omega, by omega⟩, ?_⟩
  · exact ((grown_set _ _ _ _).trans (grown_drewN _ _ _)).trans (grown_set _ _ _ _)
/-- The next byte, and the seed behind it. -/
def byV (zs : List Int) (len : Nat) (k s : Int) : Int := if k < (len : Int) then zs.getD k.toNat 0 else if k < 3000 then (s * 1103515245 + 12345) % 2147483648 / 65536 % 256 else 0
def byS (zs : List Int) (len : Nat) (k s : Int) : Int := if k < (len : Int) then (s * 31 + zs.getD k.toNat 0 + 7) % 2147483648 else if k < 3000 then (s * 1103515245 + 12345) % 2147483648 else s
theorem byte_fun (g len cap : Nat) (ao : Option Addr) (zs : List Int) (k s : Int) (w : World) (h : SrcAt w g ao len cap k s) (hr : Gen.IsRow .u8 w ao len cap zs) (hn : ∀ x, ao = some x → 0 < cap → x.block ≠ g) (hl : (len : Int) ≤ 1048576) (hk0 : 0 ≤ k) (hk : k ≤ 1000000000) :
    (0 ≤ byV zs len k s ∧ byV zs len k s ≤ 255) ∧ Calls Tryd.prog 35 #[.pointer (some ⟨g, 0, none⟩)] w fun e w' => e = .returned (.int .i64 (byV zs len k s)) ∧ SrcAt w' g ao len cap (k + 1) (byS zs len k s) ∧ w.grownBy w' (some g) := by
  obtain ⟨c0, c1, c2, f1, f2, hg, hs0, hs⟩ := h
  unfold byV byS
  by_cases h1 : k < (len : Int)
  · rw [if_pos h1, if_pos h1]
    rcases hr with ⟨_, e, _⟩ | ⟨x, hx, r1, r2, r3, r4, r5⟩
    · exfalso; omega
    · subst hx
      obtain ⟨bb, off, spot⟩ := x
      have r00 := r4 0 (by omega)
      have hspot : spot = none := by simpa [Addr.add] using World.cell?_spot r00
      subst hspot
      have r40 := r4 k.toNat (by omega)
      rw [add_none] at r40
      have hz := bounds_u8 (r5 (zs.getD k.toNat 0) (by rw [List.getD_eq_getElem?_getD, List.getElem?_eq_getElem (by omega)]; exact List.getElem_mem _))
      exact ⟨⟨hz.1, hz.2⟩, byte_in g bb off len cap k s _ w (hn _ rfl (by omega)) hk0 h1 hl hz.1 hz.2 hs0 hs hg c0 c1 c2 f1 f2 r40⟩
  · rw [if_neg h1, if_neg h1]
    by_cases h2 : k < 3000
    · rw [if_pos h2, if_pos h2]
      exact ⟨by omega, byte_seedF g len cap ao k s w hk0 (by omega) h2 hs0 hs hg c0 c1 c2 f1 f2⟩
    · rw [if_neg h2, if_neg h2]
      exact ⟨by omega, byte_far g len cap ao k s w (by omega) (by omega) hk hs0 hs hg c0 c1 c2 f1 f2⟩
set_option maxHeartbeats 1000000 in
theorem next_fun (g len cap : Nat) (ao : Option Addr) (zs : List Int) (k s m : Int) (hm : 2 ≤ m) (hm' : m ≤ 256) (w : World) (h : SrcAt w g ao len cap k s) (hr : Gen.IsRow .u8 w ao len cap zs) (hn : ∀ x, ao = some x → 0 < cap → x.block ≠ g) (hl : (len : Int) ≤ 1048576) (hk0 : 0 ≤ k) (hk : k ≤ 1000000000) :
    Calls Tryd.prog 27 #[.pointer (some ⟨g, 0, none⟩), .int .i64 m] w fun e w' => e = .returned (.int .i64 (byV zs len k s % m)) ∧ SrcAt w' g ao len cap (k + 1) (byS zs len k s) ∧ w.grownBy w' (some g) := by
  obtain ⟨⟨n0, n1⟩, hcall⟩ := byte_fun g len cap ao zs k s w h hr hn hl hk0 hk
  generalize byV zs len k s = n at *
  generalize byS zs len k s = t at *
  have HC : Hid _ := hcall
  clear h hr hn hcall
  have hm1 : ¬ m ≤ 1 := by omega
  go_enter Tryd.func27, Tryd.ntmps27
  go_wp2_with fail
  refine Calls.mono HC.out ?_
  rintro e w1 ⟨rfl, hS0, hG0⟩
  have hS : Hid (SrcAt w1 g ao len cap (k + 1) t) := hS0
  have hG : Hid (w.grownBy w1 (some g)) := hG0
  clear hS0 hG0
  go_wp2_with fail
  go_ret
  exact ⟨rfl, hS.out, hG.out⟩
/-- The seed and the letters, one by one. -/
def sdF (zs : List Int) (len : Nat) (k s : Int) : Nat → Int
  | 0 => s
  | i + 1 => byS zs len (k + i) (sdF zs len k s i)
def ltF (zs : List Int) (len : Nat) (k s : Int) (i : Nat) : UInt8 := UInt8.ofNat (97 + (byV zs len (k + i) (sdF zs len k s i) % 26).toNat)
def lsF (zs : List Int) (len : Nat) (k s : Int) (n : Nat) : List UInt8 := (List.range n).map (ltF zs len k s)
theorem lsF_succ (zs : List Int) (len : Nat) (k s : Int) (n : Nat) : lsF zs len k s (n + 1) = lsF zs len k s n ++ [ltF zs len k s n] := by simp [lsF, List.range_succ]
theorem lsF_len (zs : List Int) (len : Nat) (k s : Int) (n : Nat) : (lsF zs len k s n).length = n := by simp [lsF]
/-- The text that is drawn. -/
def tOf (zs : List Int) (len n : Nat) : ByteArray := ⟨(lsF zs len 0 ((len : Int) % 1000) n).toArray⟩
theorem tOf_size (zs : List Int) (len n : Nat) : (tOf zs len n).size = n := by
  have : (tOf zs len n).size = (lsF zs len 0 ((len : Int) % 1000) n).length := by simp [tOf, ByteArray.size]
  rw [this, lsF_len]
def SoF (w : World) (g : Nat) (zs : List Int) (len : Nat) (k s : Int) (n : Nat) (e : Ending) (w' : World) : Prop := e = .returned (.string ⟨(lsF zs len k s n).toArray⟩) ∧ w.grownBy w' (some g)
set_option maxHeartbeats 4000000 in
theorem some_fun (g len cap : Nat) (ao : Option Addr) (zs : List Int) (k s : Int) (n : Nat) (w : World) (h : SrcAt w g ao len cap k s) (hr : Gen.IsRow .u8 w ao len cap zs) (hn : ∀ x, ao = some x → 0 < cap → x.block ≠ g) (hold : ∀ x, ao = some x → 0 < cap → x.block < w.heap.size) (hl : (len : Int) ≤ 1048576) (hk0 : 0 ≤ k) (hk : k ≤ 900000000) (hn30 : n ≤ 1000) :
    Calls Tryd.prog 20 #[.pointer (some ⟨g, 0, none⟩), .int .i64 (n : Int)] w fun e w' => SoF w g zs len k s n e w' := by
  obtain ⟨i0, hi0, hz0, hz1, hz2⟩ := info_parts info_u8
  have HI : Hid (Tryd.prog.info? 5 = some i0 ∧ i0.zero = some (.int .u8 0) ∧ i0.size = 1 ∧ i0.bytes = 1) := ⟨hi0, hz0, hz1, hz2⟩
  have hgw : g < w.heap.size := h.2.2.2.2.2.1
  have HN : Hid (∀ x, ao = some x → 0 < cap → x.block ≠ g) := hn
  have HOLD : Hid (∀ x, ao = some x → 0 < cap → x.block < w.heap.size) := hold
  have S0 : Hid (SI w (w.alloc (.cells #[] 5)) g ao len cap zs (k + (0 : Nat)) (.slice (some ⟨w.heap.size, 0, none⟩) 0 0) 0 [] ∧ SrcAt (w.alloc (.cells #[] 5)) g ao len cap (k + (0 : Nat)) s) :=
    ⟨⟨⟨s, by have := h.alloc (ob := .cells #[] 5); simpa using this⟩, row_alloc hr, World.ownsRow_lit (base := 0) (e := 5) (size := 1) w #[] 0 (Nat.zero_le _) (by unfold maxLen; omega) (by simp), rfl, fun b hb => by simp [Value.ownBlock] at hb; omega, ⟨_, _, rfl⟩, World.grownBy_alloc w _ _⟩, by have := h.alloc (ob := .cells #[] 5); simpa using this⟩
  clear h hr hn hold hi0 hz0 hz1 hz2
  go_enter Tryd.func20, Tryd.ntmps20
  go_wp2
  go_loopw [5, 6] (fun s5 s6 wr => ∃ (i : Nat) (v : Value), i ≤ n ∧ s6 = .int .i64 i ∧ s5 = v ∧ (SI w wr g ao len cap zs (k + i) v i (lsF zs len k s i) ∧ SrcAt wr g ao len cap (k + i) (sdF zs len k s i))) (fun _ s6 _ => n - (intOf s6).toNat)
  case atStart => exact ⟨0, _, by omega, rfl, rfl, S0.out⟩
  case round =>
    clear S0
    obtain ⟨i, v, hi, rfl, rfl, hS0, hA0⟩ := hrel
    have SS : Hid (SI w wr g ao len cap zs (k + i) u5 i (lsF zs len k s i)) := hS0
    have SA : Hid (SrcAt wr g ao len cap (k + i) (sdF zs len k s i)) := hA0
    clear hS0 hA0
    have kk : (0 : Int) ≤ (i : Int) := by omega
    by_cases hlt : i < n
    · have hlt' : (i : Int) < (n : Int) := by omega
      have CN : Hid (Calls Tryd.prog 27 #[.pointer (some ⟨g, 0, none⟩), .int .i64 26] wr fun e w' => e = .returned (.int .i64 (byV zs len (k + i) (sdF zs len k s i) % 26)) ∧ SrcAt w' g ao len cap (k + i + 1) (sdF zs len k s (i + 1)) ∧ wr.grownBy w' (some g)) := next_fun g len cap ao zs (k + i) (sdF zs len k s i) 26 (by omega) (by omega) wr SA.out SS.out.row HN.out hl (by omega) (by omega)
      obtain ⟨a, ha⟩ : ∃ a, a = byV zs len (k + i) (sdF zs len k s i) % 26 := ⟨_, rfl⟩
      have a0 : 0 ≤ a := by rw [ha]; exact Int.emod_nonneg _ (by omega)
      have a1 : a < 26 := by rw [ha]; exact Int.emod_lt_of_pos _ (by omega)
      obtain ⟨c, hc⟩ : ∃ c : UInt8, c = ltF zs len k s i := ⟨_, rfl⟩
      have hcn : (c.toNat : Int) = 97 + a := by rw [hc]; unfold ltF; rw [← ha, u8_small _ (by omega)]; omega
      have HC : Hid ((c.toNat : Int) = 97 + a ∧ c = ltF zs len k s i) := ⟨hcn, hc⟩
      rw [← ha] at CN
      clear hc hcn ha
      go_wp2_with fail
      refine Calls.mono CN.out ?_
      rintro e w1 ⟨rfl, hS1', hG1'⟩
      have HS1 : Hid (SrcAt w1 g ao len cap (k + i + 1) (sdF zs len k s (i + 1))) := hS1'
      have HG1 : Hid (wr.grownBy w1 (some g)) := hG1'
      clear hS1' hG1'
      have q1 : IntKind.i64.wrap (97 + a) = 97 + a := by rw [IntKind.wrap_i64]; omega
      have q2 : IntKind.u8.wrap (97 + a) = 97 + a := by unfold IntKind.wrap; simp [IntKind.bits, IntKind.signed]; omega
      have hgv : Hid ((u5).ownBlock ≠ some g) := fun e => by have := SS.out.ge g e; omega
      have OW : Hid ((w1.alloc (.cells #[.int .u8 (97 + a)] 5)).ownsRow 0 5 1 u5 i (B8 (lsF zs len k s i))) := (own_by SS.out.own HG1.out hgv.out).alloc _
      have CE : Hid (∀ j u, ([.int .u8 (97 + a)] : List Value)[j]? = some u → (w1.alloc (.cells #[.int .u8 (97 + a)] 5)).cell? ((⟨w1.heap.size, 0, none⟩ : Addr).add j) = some u) := fun j u hu => by
        cases j with
        | zero => simp at hu; subst hu; show (w1.alloc _).cell? ⟨w1.heap.size, 0, none⟩ = _; go_simp
        | succ j => simp at hu
      go_wp2_with (at_builtin; refine wpList_append2 rfl (.tmp 13) (.tmp 18) 22 rfl 5 i0 (.int .u8 0) 1 1 Tryd.underlying22 HI.out.1 HI.out.2.1 HI.out.2.2.1 HI.out.2.2.2 rfl (by decide) u5 i (B8 (lsF zs len k s i)) rfl OW.out ⟨w1.heap.size, 0, none⟩ 1 1 [.int .u8 (97 + a)] rfl rfl CE.out (fun u hu => by simp at hu; subst hu; rfl) (by unfold maxLen; omega) (by omega) ?_; intro v' w3 ho hg; have O3 : Hid _ := ho; have G3 : Hid _ := hg; clear ho hg)
      have S3 : Hid (SI w w3 g ao len cap zs (k + i + 1) v' (i + 1) (lsF zs len k s (i + 1)) ∧ SrcAt w3 g ao len cap (k + i + 1) (sdF zs len k s (i + 1))) := by
        refine ⟨?_, (HS1.out.alloc (ob := .cells #[.int .u8 (97 + a)] 5)).gro G3.out hgv.out⟩
        rw [lsF_succ, ← HC.out.2]
        exact SS.out.app hgw HOLD.out HN.out HS1.out HG1.out (by rw [HC.out.1]; exact O3.out) G3.out
      go_wp2
      go_roundw
      case rel => exact ⟨i + 1, v', by omega, by go_num, rfl, by have := S3.out; rw [show k + ((i + 1 : Nat) : Int) = k + (i : Int) + 1 by omega]; exact this⟩
      case measure => simp [intOf]; omega
    · have hlt' : ¬ (i : Int) < (n : Int) := by omega
      obtain ⟨b, cp, rfl⟩ := SS.out.at_
      have hcv := run_convert_bytes_back (P := Tryd.prog) wr 22 9 5 ⟨b, 0, none⟩ cp (lsF zs len k s i) Tryd.underlying22 Tryd.underlying5 Tryd.underlying9 (fun j hj => by
        have h1 := SS.out.own.cellAt j (by have := SS.out.len; omega)
        rw [B8_at _ j hj] at h1
        rw [add_none, Nat.zero_add]
        exact h1)
      rw [lsF_len] at hcv
      have HR : Hid (i = n) := (show i = n by omega)
      obtain ⟨res, hres⟩ : ∃ res : ByteArray, res = ⟨(lsF zs len k s i).toArray⟩ := ⟨_, rfl⟩
      have HRES : Hid (res = ⟨(lsF zs len k s i).toArray⟩) := hres
      rw [← hres] at hcv
      clear hres
      go_wp2
      go_ret
      refine ⟨?_, SS.out.grown⟩
      rw [← HR.out, ← HRES.out]
      rfl
set_option maxHeartbeats 2000000 in
theorem textF_any (ao : Option Addr) (len cap : Nat) (zs : List Int) (n : Nat) (w : World) (hl : (len : Int) ≤ 1048576) (hn30 : n ≤ 1000) (hr0 : Gen.IsRow .u8 w ao len cap zs) :
    Calls Tryd.prog 6 #[.slice ao len cap, .int .i64 (n : Int)] w fun e w' => e = .returned (.string (tOf zs len n)) ∧ Below w.heap.size w w' := by
  have RR : Hid (Gen.IsRow .u8 w ao len cap zs) := hr0
  clear hr0
  have HT : Hid (tOf zs len n = ⟨(lsF zs len 0 ((len : Int) % 1000) n).toArray⟩) := rfl
  generalize tOf zs len n = t at *
  go_enter Tryd.func6, Tryd.ntmps6
  go_wp2_with fail
  refine (source_any len cap ao _ hl).mono ?_
  rintro e w1 ⟨rfl, rfl⟩
  go_wp2_with fail
  refine (some_fun w.heap.size len cap ao zs 0 ((len : Int) % 1000) n _ ?_ (row_alloc RR.out) (fun x hx hc => by have := row_lt RR.out x hx hc; omega) (fun x hx hc => by have := row_lt RR.out x hx hc; simp; omega) hl (by omega) (by omega) hn30).mono ?_
  · exact ⟨by go_simp, by go_simp, by go_simp, by go_simp, by go_simp, by simp, by omega, by omega⟩
  rintro e w2 ⟨rfl, hg⟩
  rw [← HT.out]
  have HB : Hid (Below w.heap.size w w2) := grown_below ((World.grownBy_alloc w _ _).trans hg) (Nat.le_refl _) (Nat.le_refl _)
  clear hg
  go_wp2
  go_ret
  exact ⟨rfl, HB.out⟩
end Go.Proofs.YthblnifapkfbcaaDoor
