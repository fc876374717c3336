/- What the laws draw: numbers and texts. -/
import Derived.Test.YthblnifapkfbcaaDoorRows
import Derived.WalkKit
import Derived.WalkSpells
import Derived.WalkLawsBesides
import Derived.Deep.QuietTactic
import Derived.BigQuiet
import Derived.Deep.RegionHeld3
import Derived.Test.YthblnifapkfbcaaDoorSrc
import Derived.Test.YthblnifapkfbcaaDoorTa
import Derived.LoopN
import Derived.Lib.ConvBytes
namespace Go.Proofs.YthblnifapkfbcaaDoor
open Go.RowKit
set_option linter.unusedSimpArgs false
set_option linter.unusedVariables false

theorem row_cell {W : World} {ao : Option Addr} {len cap : Nat} {zs : List Int} (hr : Gen.IsRow .u8 W ao len cap zs) (hl : 0 < len) : ∃ b off, ao = some ⟨b, off, none⟩ ∧ ∀ j, j < len → ∃ z : Int, 0 ≤ z ∧ z ≤ 255 ∧ W.cell? ⟨b, off + j, none⟩ = some (.int .u8 z) := by
  rcases hr with ⟨_, h, _⟩ | ⟨x, rfl, h1, h2, h3, h4, h5⟩
  · omega
  · obtain ⟨b, off, spot⟩ := x
    have c0 := h4 0 (by omega)
    have hspot : spot = none := by
      have := World.cell?_spot (a := _) (w := W) (by simpa [Addr.add] using c0)
      simpa using this
    subst hspot
    refine ⟨b, off, rfl, fun j hj => ⟨zs.getD j 0, ?_⟩⟩
    have hm : zs.getD j 0 ∈ zs := by
      rw [List.getD_eq_getElem?_getD, List.getElem?_eq_getElem (by omega)]
      exact List.getElem_mem _
    have hw := h5 _ hm
    have cj := h4 j (by omega)
    rw [add_none] at cj
    generalize zs.getD j 0 = z at *
    have hmin : IntKind.u8.min = 0 := by decide
    have hmax : IntKind.u8.max = 255 := by decide
    simp [Lit.wf, hmin, hmax] at hw
    exact ⟨by omega, by omega, cj⟩
/-- What a drawn number is. -/
def AtP (W : World) (n : Nat) (e : Ending) (w' : World) : Prop := ∃ r : Nat, e = .returned (.int .i64 (r : Int)) ∧ Below W.heap.size W w' ∧ (r < n ∨ r = 0)
set_option maxHeartbeats 4000000 in
theorem at_any (ao : Option Addr) (len cap : Nat) (zs : List Int) (i : Int) (n : Nat) (w : World) (hi0 : 0 ≤ i) (hi : i ≤ 2) (hn : n ≤ 1048576) (hl : len ≤ 1048576) (hr0 : Gen.IsRow .u8 w ao len cap zs) :
    Calls Tryd.prog 9 #[.slice ao len cap, .int .i64 i, .int .i64 (n : Int)] w fun e w' => AtP w n e w' := by
  by_cases h1 : n ≤ 1
  · have h1' : (n : Int) ≤ 1 := by omega
    go_enter Tryd.func9, Tryd.ntmps9
    go_wp2
    go_ret
    exact ⟨0, rfl, Below.refl _ _, .inr rfl⟩
  have h1' : ¬ (n : Int) ≤ 1 := by omega
  have hn0 : ¬ (n : Int) = 0 := by omega
  have hnb : ((n : Int) == 0) = false := beq_eq_false_iff_ne.2 hn0
  by_cases hz : len = 0
  · subst hz
    have q1 : IntKind.i64.wrap (i * 7) = i * 7 := by rw [IntKind.wrap_i64]; omega
    obtain ⟨r, hr⟩ : ∃ r : Nat, (i * 7).tmod (n : Int) = (r : Int) := ⟨((i * 7) % (n : Int)).toNat, by rw [Int.tmod_eq_emod_of_nonneg (by omega)]; have := Int.emod_nonneg (i * 7) hn0; omega⟩
    have hrl : r < n := by
      have h2 := Int.emod_lt_of_pos (i * 7) (show (0 : Int) < (n : Int) by omega)
      rw [Int.tmod_eq_emod_of_nonneg (by omega)] at hr
      omega
    have q2 : IntKind.i64.wrap (r : Int) = (r : Int) := by rw [IntKind.wrap_i64]; omega
    go_enter Tryd.func9, Tryd.ntmps9
    go_wp2
    go_ret
    exact ⟨r, rfl, Below.refl _ _, .inl hrl⟩
  have hl0 : ¬ (len : Int) = 0 := by omega
  have hlb : ((len : Int) == 0) = false := beq_eq_false_iff_ne.2 hl0
  obtain ⟨b, off, rfl, hcell⟩ := row_cell hr0 (by omega)
  obtain ⟨a1, ha1, hb1⟩ : ∃ a1 : Nat, i.tmod (len : Int) = (a1 : Int) ∧ a1 < len := ⟨(i % (len : Int)).toNat, by rw [Int.tmod_eq_emod_of_nonneg hi0]; have := Int.emod_nonneg i hl0; omega, by have := Int.emod_lt_of_pos i (show (0 : Int) < (len : Int) by omega); have := Int.emod_nonneg i hl0; omega⟩
  obtain ⟨a2, ha2, hb2⟩ : ∃ a2 : Nat, (i + 1).tmod (len : Int) = (a2 : Int) ∧ a2 < len := ⟨((i + 1) % (len : Int)).toNat, by rw [Int.tmod_eq_emod_of_nonneg (by omega)]; have := Int.emod_nonneg (i + 1) hl0; omega, by have := Int.emod_lt_of_pos (i + 1) (show (0 : Int) < (len : Int) by omega); have := Int.emod_nonneg (i + 1) hl0; omega⟩
  obtain ⟨a3, ha3, hb3⟩ : ∃ a3 : Nat, i.tdiv (len : Int) = (a3 : Int) ∧ a3 ≤ 2 := ⟨(i / (len : Int)).toNat, by rw [Int.tdiv_eq_ediv_of_nonneg hi0]; have := Int.ediv_nonneg hi0 (show (0 : Int) ≤ (len : Int) by omega); omega, by have := Int.ediv_le_self (len : Int) hi0; omega⟩
  obtain ⟨z1, p1, p1', x1⟩ := hcell a1 hb1
  obtain ⟨z2, p2, p2', x2⟩ := hcell a2 hb2
  have k1 : (0 : Int) ≤ (a1 : Int) := by omega
  have k1' : (a1 : Int) < (len : Int) := by omega
  have k2 : (0 : Int) ≤ (a2 : Int) := by omega
  have k2' : (a2 : Int) < (len : Int) := by omega
  have q0 : IntKind.i64.wrap (i + 1) = i + 1 := by rw [IntKind.wrap_i64]; omega
  have q1 : IntKind.i64.wrap (a1 : Int) = (a1 : Int) := by rw [IntKind.wrap_i64]; omega
  have q2 : IntKind.i64.wrap (a2 : Int) = (a2 : Int) := by rw [IntKind.wrap_i64]; omega
  have q3 : IntKind.i64.wrap (a3 : Int) = (a3 : Int) := by rw [IntKind.wrap_i64]; omega
  have q4 : IntKind.i64.wrap z1 = z1 := by rw [IntKind.wrap_i64]; omega
  have q5 : IntKind.i64.wrap z2 = z2 := by rw [IntKind.wrap_i64]; omega
  have q6 : IntKind.i64.wrap (z1 * 31) = z1 * 31 := by rw [IntKind.wrap_i64]; omega
  have q7 : IntKind.i64.wrap (z1 * 31 + z2) = z1 * 31 + z2 := by rw [IntKind.wrap_i64]; omega
  have q8 : IntKind.i64.wrap (z1 * 31 + z2 + (a3 : Int)) = z1 * 31 + z2 + (a3 : Int) := by rw [IntKind.wrap_i64]; omega
  obtain ⟨r, hr, hrl⟩ : ∃ r : Nat, (z1 * 31 + z2 + (a3 : Int)).tmod (n : Int) = (r : Int) ∧ r < n := ⟨((z1 * 31 + z2 + (a3 : Int)) % (n : Int)).toNat, by rw [Int.tmod_eq_emod_of_nonneg (by omega)]; have := Int.emod_nonneg (z1 * 31 + z2 + (a3 : Int)) hn0; omega, by have := Int.emod_lt_of_pos (z1 * 31 + z2 + (a3 : Int)) (show (0 : Int) < (n : Int) by omega); have := Int.emod_nonneg (z1 * 31 + z2 + (a3 : Int)) hn0; omega⟩
  have q9 : IntKind.i64.wrap (r : Int) = (r : Int) := by rw [IntKind.wrap_i64]; omega
  clear hcell hr0
  go_enter Tryd.func9, Tryd.ntmps9
  go_wp2
  go_quiet (fail)
  go_wp2
  go_ret
  exact ⟨r, rfl, below_drewN (Below.refl _ _) _, .inl hrl⟩
theorem info_u8 : (Tryd.prog.info? 5).map (fun i => (i.zero, i.size, i.bytes)) = some (some (.int .u8 0), 1, 1) := by kernel_rfl
def B8 (l : List UInt8) : List Value := l.map fun c => Value.int .u8 (c.toNat : Int)
theorem B8_at (l : List UInt8) (i : Nat) (h : i < l.length) : (B8 l)[i]? = some (.int .u8 ((l[i]).toNat : Int)) := by simp [B8, h]
set_option maxHeartbeats 1000000 in
theorem source_any (len cap : Nat) (ao : Option Addr) (w : World) (hl : (len : Int) ≤ 1048576) :
    Calls Tryd.prog 14 #[.slice ao len cap] w fun e w' => e = .returned (.pointer (some ⟨w.heap.size, 0, none⟩)) ∧ w' = w.alloc (.cells #[.slice ao len cap, .int .i64 0, .int .i64 ((len : Int) % 1000)] 52) := by
  go_enter Tryd.func14, Tryd.ntmps14
  go_wp2
  go_ret
  exact ⟨rfl, rfl⟩
/-- What drawing letters keeps. -/
structure SI (w wr : World) (g : Nat) (ao : Option Addr) (len cap : Nat) (zs : List Int) (k : Int) (v : Value) (n : Nat) (l : List UInt8) : Prop where
  src : ∃ s, SrcAt wr g ao len cap k s
  row : Gen.IsRow .u8 wr ao len cap zs
  own : wr.ownsRow 0 5 1 v n (B8 l)
  len : n = l.length
  ge : ∀ b, v.ownBlock = some b → w.heap.size ≤ b
  at_ : ∃ b c, v = .slice (some ⟨b, 0, none⟩) n c
  grown : w.grownBy wr (some g)
theorem own_by {w w' : World} {e n g : Nat} {v : Value} {xs : List Value} (h : w.ownsRow 0 e 1 v n xs) (hg : w.grownBy w' (some g)) (hne : v.ownBlock ≠ some g) : w'.ownsRow 0 e 1 v n xs := by
  refine ⟨h.1, ?_⟩
  rcases h.2 with h' | ⟨b, cap, cur, rfl, hg', hh, r⟩
  · exact .inl h'
  · refine .inr ⟨b, cap, cur, rfl, hg', ?_, r⟩
    rw [hg.block b (by
      rcases Nat.lt_or_ge b w.heap.size with h' | h'
      · exact h'
      · rw [Array.getElem?_eq_none h'] at hh; cases hh) (fun e => hne e)]
    exact hh
theorem SrcAt.gro {w w' : World} {g : Nat} {ao : Option Addr} {len cap : Nat} {k s : Int} {v v' : Value} (h : SrcAt w g ao len cap k s) (hg : Gro w w' v v') (hne : v.ownBlock ≠ some g) : SrcAt w' g ao len cap k s := by
  obtain ⟨c0, c1, c2, f1, f2, hl, hs⟩ := h
  have hb := hg.grown.block g hl (fun e => hne e.symm)
  exact ⟨hg.cell c0 hne, hg.cell c1 hne, hg.cell c2 hne, by rw [World.frozen?_of_block (w := w) hb]; exact f1, by rw [World.frozen?_of_block (w := w) hb]; exact f2, Nat.lt_of_lt_of_le hl hg.size, hs⟩
theorem SI.app {w wr w1 w3 : World} {g : Nat} {ao : Option Addr} {len cap : Nat} {zs : List Int} {k t1 : Int} {v v' : Value} {n : Nat} {l : List UInt8} {c : UInt8} {ob : Obj} (h : SI w wr g ao len cap zs k v n l) (hgw : g < w.heap.size) (hold : ∀ x, ao = some x → 0 < cap → x.block < w.heap.size) (hn : ∀ x, ao = some x → 0 < cap → x.block ≠ g) (hS : SrcAt w1 g ao len cap (k + 1) t1) (hG : wr.grownBy w1 (some g))
    (hO : w3.ownsRow 0 5 1 v' (n + 1) (B8 l ++ [.int .u8 (c.toNat : Int)])) (hg : Gro (w1.alloc ob) w3 v v') : SI w w3 g ao len cap zs (k + 1) v' (n + 1) (l ++ [c]) := by
  have hne : v.ownBlock ≠ some g := fun e => by have := h.ge g e; omega
  have hsz : w.heap.size ≤ w1.heap.size := Nat.le_trans h.grown.size hG.size
  have hgr : w.grownBy w3 (some g) := by
    refine grown_then (grown_then (h.grown.trans hG) (World.grownBy_alloc w1 ob none) (fun j e => by cases e)) hg.grown (fun j e => ?_)
    exact .inl (h.ge j e)
  have hap := hg.fresh
  refine ⟨⟨t1, (hS.alloc (ob := ob)).gro hg hne⟩, ?_, ?_, by simp [h.len], ?_, ?_, hgr⟩
  · refine row_kept (row_grown h.row hn hG) fun x i u hx hc hcell => ?_
    have h1 := (World.grownBy_alloc w1 ob none).cell hcell (by simp)
    exact hg.grown.cell h1 (fun e => by
      have h2 := hold x hx hc
      rw [add_block] at e
      have := h.ge _ e.symm
      omega)
  · rw [show B8 (l ++ [c]) = B8 l ++ [.int .u8 (c.toNat : Int)] by simp [B8]]; exact hO
  · intro b hb
    rcases hap b hb with h' | h'
    · exact h.ge b h'
    · simp at h'; omega
  · rcases hO.2 with ⟨_, h0⟩ | ⟨b, cap', cur, rfl, _⟩
    · omega
    · exact ⟨b, cap', rfl⟩
/-- What drawing a text leaves. -/
def SoP (w : World) (g : Nat) (ao : Option Addr) (len cap : Nat) (zs : List Int) (k : Int) (n : Nat) (e : Ending) (w' : World) : Prop := ∃ (t : ByteArray) (s' : Int), e = .returned (.string t) ∧ t.size = n ∧ SrcAt w' g ao len cap (k + n) s' ∧ Gen.IsRow .u8 w' ao len cap zs ∧ w.grownBy w' (some g)
set_option maxHeartbeats 4000000 in
theorem some_any (g len cap : Nat) (ao : Option Addr) (zs : List Int) (k s : Int) (n : Nat) (w : World) (h : SrcAt w g ao len cap k s) (hr : Gen.IsRow .u8 w ao len cap zs) (hn : ∀ x, ao = some x → 0 < cap → x.block ≠ g) (hold : ∀ x, ao = some x → 0 < cap → x.block < w.heap.size) (hl : (len : Int) ≤ 1048576) (hk0 : 0 ≤ k) (hk : k ≤ 900000000) (hn30 : n ≤ 1000) :
    Calls Tryd.prog 20 #[.pointer (some ⟨g, 0, none⟩), .int .i64 (n : Int)] w fun e w' => SoP w g ao len cap zs k n e w' := by
  obtain ⟨i0, hi0, hz0, hz1, hz2⟩ := info_parts info_u8
  have HI : Hid (Tryd.prog.info? 5 = some i0 ∧ i0.zero = some (.int .u8 0) ∧ i0.size = 1 ∧ i0.bytes = 1) := ⟨hi0, hz0, hz1, hz2⟩
  have hgw : g < w.heap.size := h.2.2.2.2.2.1
  have HN : Hid (∀ x, ao = some x → 0 < cap → x.block ≠ g) := hn
  have HOLD : Hid (∀ x, ao = some x → 0 < cap → x.block < w.heap.size) := hold
  have S0 : Hid (SI w (w.alloc (.cells #[] 5)) g ao len cap zs (k + (0 : Nat)) (.slice (some ⟨w.heap.size, 0, none⟩) 0 0) 0 []) :=
    ⟨⟨s, by have := h.alloc (ob := .cells #[] 5); simpa using this⟩, row_alloc hr, World.ownsRow_lit (base := 0) (e := 5) (size := 1) w #[] 0 (Nat.zero_le _) (by unfold maxLen; omega) (by simp), rfl, fun b hb => by simp [Value.ownBlock] at hb; omega, ⟨_, _, rfl⟩, World.grownBy_alloc w _ _⟩
  clear h hr hn hold hi0 hz0 hz1 hz2
  go_enter Tryd.func20, Tryd.ntmps20
  go_wp2
  go_loopw [5, 6] (fun s5 s6 wr => ∃ (i : Nat) (v : Value) (l : List UInt8), i ≤ n ∧ s6 = .int .i64 i ∧ s5 = v ∧ SI w wr g ao len cap zs (k + i) v i l) (fun _ s6 _ => n - (intOf s6).toNat)
  case atStart => exact ⟨0, _, [], by omega, rfl, rfl, S0.out⟩
  case round =>
    clear S0
    obtain ⟨i, v, l, hi, rfl, rfl, hS0⟩ := hrel
    have SS : Hid (SI w wr g ao len cap zs (k + i) u5 i l) := hS0
    clear hS0
    have kk : (0 : Int) ≤ (i : Int) := by omega
    by_cases hlt : i < n
    · have hlt' : (i : Int) < (n : Int) := by omega
      obtain ⟨s1, hs1⟩ := SS.out.src
      go_wp2_with fail
      refine (next_any g len cap ao zs (k + i) s1 26 (by omega) (by omega) _ hs1 SS.out.row HN.out hl (by omega) (by omega)).mono ?_
      rintro e w1 ⟨a, t1, ⟨a0, a1⟩, rfl, hS1', hG1'⟩
      have HS1 : Hid (SrcAt w1 g ao len cap (k + i + 1) t1) := hS1'
      have HG1 : Hid (wr.grownBy w1 (some g)) := hG1'
      clear hS1' hG1' hs1
      have q1 : IntKind.i64.wrap (97 + a) = 97 + a := by rw [IntKind.wrap_i64]; omega
      have q2 : IntKind.u8.wrap (97 + a) = 97 + a := by unfold IntKind.wrap; simp [IntKind.bits, IntKind.signed]; omega
      obtain ⟨c, hc⟩ : ∃ c : UInt8, (c.toNat : Int) = 97 + a := ⟨UInt8.ofNat (97 + a.toNat), by rw [u8_small _ (by omega)]; omega⟩
      have HC : Hid ((c.toNat : Int) = 97 + a) := hc
      clear hc
      have hgv : Hid ((u5).ownBlock ≠ some g) := fun e => by have := SS.out.ge g e; omega
      have OW : Hid ((w1.alloc (.cells #[.int .u8 (97 + a)] 5)).ownsRow 0 5 1 u5 i (B8 l)) := (own_by SS.out.own HG1.out hgv.out).alloc _
      have CE : Hid (∀ j u, ([.int .u8 (97 + a)] : List Value)[j]? = some u → (w1.alloc (.cells #[.int .u8 (97 + a)] 5)).cell? ((⟨w1.heap.size, 0, none⟩ : Addr).add j) = some u) := fun j u hu => by
        cases j with
        | zero => simp at hu; subst hu; show (w1.alloc _).cell? ⟨w1.heap.size, 0, none⟩ = _; go_simp
        | succ j => simp at hu
      go_wp2_with (at_builtin; refine wpList_append2 rfl (.tmp 13) (.tmp 18) 22 rfl 5 i0 (.int .u8 0) 1 1 Tryd.underlying22 HI.out.1 HI.out.2.1 HI.out.2.2.1 HI.out.2.2.2 rfl (by decide) u5 i (B8 l) rfl OW.out ⟨w1.heap.size, 0, none⟩ 1 1 [.int .u8 (97 + a)] rfl rfl CE.out (fun u hu => by simp at hu; subst hu; rfl) (by unfold maxLen; omega) (by omega) ?_; intro v' w3 ho hg; have O3 : Hid _ := ho; have G3 : Hid _ := hg; clear ho hg)
      have S3 : Hid (SI w w3 g ao len cap zs (k + i + 1) v' (i + 1) (l ++ [c])) := SS.out.app hgw HOLD.out HN.out HS1.out HG1.out (by rw [HC.out]; exact O3.out) G3.out
      go_wp2
      go_roundw
      case rel => exact ⟨i + 1, v', l ++ [c], by omega, by go_num, rfl, by have := S3.out; rw [show k + ((i + 1 : Nat) : Int) = k + (i : Int) + 1 by omega]; exact this⟩
      case measure => simp [intOf]; omega
    · have hlt' : ¬ (i : Int) < (n : Int) := by omega
      obtain ⟨b, cp, rfl⟩ := SS.out.at_
      have hcv := run_convert_bytes_back (P := Tryd.prog) wr 22 9 5 ⟨b, 0, none⟩ cp l Tryd.underlying22 Tryd.underlying5 Tryd.underlying9 (fun j hj => by
        have h1 := SS.out.own.cellAt j (by have := SS.out.len; omega)
        rw [B8_at l j hj] at h1
        rw [add_none, Nat.zero_add]
        exact h1)
      have hll : l.length = i := SS.out.len.symm
      rw [hll] at hcv
      obtain ⟨s1, hs1⟩ := SS.out.src
      have HS : Hid _ := hs1
      have HR : Hid (i = n) := (show i = n by omega)
      have HL : Hid (l.length = i) := hll
      clear hs1 hll
      go_wp2
      go_ret
      refine ⟨⟨l.toArray⟩, s1, rfl, ?_, ?_, SS.out.row, SS.out.grown⟩
      · have : (⟨l.toArray⟩ : ByteArray).size = l.length := by simp [ByteArray.size]
        rw [this, HL.out, HR.out]
      · rw [← HR.out]; exact HS.out
/-- What a drawn text is. -/
def TxP (w : World) (n : Nat) (e : Ending) (w' : World) : Prop := ∃ t : ByteArray, e = .returned (.string t) ∧ t.size = n ∧ Below w.heap.size w w'
set_option maxHeartbeats 2000000 in
theorem textOf_any (ao : Option Addr) (len cap : Nat) (zs : List Int) (n : Nat) (w : World) (hl : (len : Int) ≤ 1048576) (hn30 : n ≤ 1000) (hr0 : Gen.IsRow .u8 w ao len cap zs) :
    Calls Tryd.prog 6 #[.slice ao len cap, .int .i64 (n : Int)] w fun e w' => TxP w n e w' := by
  have RR : Hid (Gen.IsRow .u8 w ao len cap zs) := hr0
  clear hr0
  have q : IntKind.i64.wrap ((len : Int).tmod 1000) = (len : Int) % 1000 := by rw [Int.tmod_eq_emod_of_nonneg (by omega), IntKind.wrap_i64]; omega
  go_enter Tryd.func6, Tryd.ntmps6
  go_wp2_with fail
  refine (source_any len cap ao _ hl).mono ?_
  rintro e w1 ⟨rfl, rfl⟩
  go_wp2_with fail
  refine (some_any w.heap.size len cap ao zs 0 ((len : Int) % 1000) n _ ?_ (row_alloc RR.out) (fun x hx hc => by have := row_lt RR.out x hx hc; omega) (fun x hx hc => by have := row_lt RR.out x hx hc; simp; omega) hl (by omega) (by omega) hn30).mono ?_
  · exact ⟨by go_simp, by go_simp, by go_simp, by go_simp, by go_simp, by simp, by omega, by omega⟩
  rintro e w2 ⟨t, s', rfl, ht, _, _, hg⟩
  have HB : Hid (Below w.heap.size w w2) := grown_below ((World.grownBy_alloc w _ _).trans hg) (Nat.le_refl _) (Nat.le_refl _)
  clear hg
  go_wp2
  go_ret
  exact ⟨t, rfl, ht, HB.out⟩
end Go.Proofs.YthblnifapkfbcaaDoor
