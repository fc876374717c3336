/- Rows of a view: sizes, copies, alike ones. -/
import Derived.Test.YtomcpdbaenohdaaRows
import Derived.WalkKit
import Derived.WalkSpells
import Derived.WalkLawsBesides
import Derived.Deep.QuietTactic
import Derived.BigQuiet
import Derived.Deep.RegionHeld3
import Derived.Test.YtomcpdbaenohdaaRa
import Derived.LoopN
import Derived.OwnWalk
import Derived.Laws.StructEq
namespace Go.Proofs.Ytomcpdbaenohdaa
open Go.RowKit
set_option linter.unusedSimpArgs false
set_option linter.unusedVariables false

/-- The block of an address. -/
def blk : Option Addr → Nat
  | some a => a.block
  | none => 0
/-- A row's numbers, in a block of their own from lo on that may be written. -/
structure Sub (lo : Nat) (W : World) (m : Rm) : Prop where
  at' : m.p = some ⟨blk m.p, 0, none⟩
  lo : lo ≤ blk m.p
  up : blk m.p < W.heap.size
  wr : There W (blk m.p) m.r.vs.length
  is : ∀ i (h : i < m.r.vs.length), W.cell? ⟨blk m.p, i, none⟩ = some (.int .i64 m.r.vs[i])
theorem Sub.next {lo : Nat} {W W' : World} {m : Rm} (h : Sub lo W m) (hb : Below W.heap.size W W') : Sub lo W' m := ⟨h.at', h.lo, Nat.lt_of_lt_of_le h.up hb.size, h.wr.next hb h.up, fun i hi => cell_next hb (h.is i hi) h.up⟩
theorem Sub.weak {lo lo' : Nat} {W : World} {m : Rm} (h : Sub lo W m) (hl : lo' ≤ lo) : Sub lo' W m := ⟨h.at', Nat.le_trans hl h.lo, h.up, h.wr, h.is⟩
theorem Sub.grow {lo : Nat} {W : World} {m : Rm} (h : Sub lo W m) : GRow lo W m.p (ints m.r.vs) := .inr ⟨blk m.p, 0, h.at', h.lo, i_row (fun i hi => by simpa using h.is i hi)⟩
theorem Sub.oth {lo : Nat} {W : World} {m : Rm} {g k : Nat} {u : Value} (h : Sub lo W m) (hne : blk m.p ≠ g) : Sub lo (W.setCell ⟨g, k, none⟩ u) m :=
  ⟨h.at', h.lo, by simpa [World.setCell] using h.up, h.wr.set, fun i hi => cell_set (h.is i hi) hne⟩
/-- Rows in a block g of n, that may be written; each one's numbers in a block of its own, the later the row the later the block. -/
structure RW (lo : Nat) (W : World) (g n : Nat) (ms : List Rm) : Prop where
  ge : lo ≤ g
  up : g < W.heap.size
  wr : There W g (n * 3)
  le : ms.length ≤ n
  is : ∀ i (h : i < ms.length), RAt W g (i * 3) ms[i]
  sub : ∀ m ∈ ms, Sub lo W m ∧ blk m.p ≠ g
  apart : ∀ i j (hi : i < ms.length) (hj : j < ms.length), i < j → blk ms[i].p < blk ms[j].p
theorem RW.next {lo : Nat} {W W' : World} {g n : Nat} {ms : List Rm} (h : RW lo W g n ms) (hb : Below W.heap.size W W') : RW lo W' g n ms := ⟨h.ge, Nat.lt_of_lt_of_le h.up hb.size, h.wr.next hb h.up, h.le, fun i hi => (h.is i hi).next hb h.up, fun m hm => ⟨(h.sub m hm).1.next hb, (h.sub m hm).2⟩, h.apart⟩
theorem RW.rr {lo : Nat} {W : World} {g n : Nat} {ms : List Rm} (h : RW lo W g n ms) : RR lo W (some ⟨g, 0, none⟩) ms := ⟨.inr ⟨g, 0, rfl, h.ge, r_row ms 0 (fun i hi => by simpa using h.is i hi)⟩, fun m hm => (h.sub m hm).1.grow⟩
theorem RW.add {lo : Nat} {W : World} {g n : Nat} {ms : List Rm} {x : Rm} (h : RW lo W g n ms) (hk : ms.length < n) (hx : Sub lo W x) (hg : g < blk x.p) (hl : ∀ m ∈ ms, blk m.p < blk x.p) :
    RW lo (((W.setCell ⟨g, ms.length * 3, none⟩ (.int .i64 x.r.part)).setCell ⟨g, ms.length * 3 + 1, none⟩ (.string x.r.key)).setCell ⟨g, ms.length * 3 + 2, none⟩ (.slice x.p x.r.vs.length x.q)) g n (ms ++ [x]) := by
  refine ⟨h.ge, by simpa [World.setCell] using h.up, h.wr.set.set.set, by simp; omega, fun i hi => ?_, fun m hm => ?_, fun i j hi hj hij => ?_⟩
  · rcases Nat.lt_or_ge i ms.length with q | q
    · rw [List.getElem_append_left q]; exact (h.is i q).kept (by omega)
    · have e : i = ms.length := by simp at hi; omega
      subst e
      simp
      exact There.put3 h.wr (by omega)
  · rcases List.mem_append.1 hm with hm | hm
    · exact ⟨(((h.sub m hm).1.oth (h.sub m hm).2).oth (h.sub m hm).2).oth (h.sub m hm).2, (h.sub m hm).2⟩
    · have e : m = x := by simpa using hm
      subst e
      exact ⟨((hx.oth (by omega)).oth (by omega)).oth (by omega), by omega⟩
  · rcases Nat.lt_or_ge j ms.length with q | q
    · rw [List.getElem_append_left q, List.getElem_append_left (by omega)]; exact h.apart i j (by omega) q hij
    · have e : j = ms.length := by simp at hj; omega
      subst e
      rw [List.getElem_append_left (by omega)]
      simp
      exact hl _ (List.getElem_mem _)
theorem szL_nil (n : Int) : szL [] n = n := rfl
theorem szL_drop {ms : List Rm} {k : Nat} (h : k < ms.length) (n : Int) : szL ((ms.map Rm.r).drop k) n = if sz1 ms[k].r n < 0 then -1 else szL ((ms.map Rm.r).drop (k + 1)) (sz1 ms[k].r n) := by
  rw [List.drop_eq_getElem_cons (by simpa using h)]
  simp [szL]
theorem sz1_le {r : Rw} {n : Int} (h : ¬ sz1 r n < 0) : 0 ≤ sz1 r n ∧ sz1 r n ≤ n := by
  have := sz1_ok h
  omega

set_option maxHeartbeats 1000000 in
theorem szRs_any (lo q : Nat) (p : Option Addr) (ms : List Rm) (m : Int) (w : World) (h0 : 0 ≤ m) (hn : m ≤ 1048576) (hm : (ms.length : Int) ≤ 9223372036854775807) (hx : ∀ x ∈ ms, (x.r.vs.length : Int) ≤ 9223372036854775807 ∧ (x.r.key.size : Int) ≤ 9223372036854775807) (hr0 : RR lo w p ms) :
    Calls Try.prog 6 #[.slice p ms.length q, .int .i64 m] w fun e w' => e = .returned (.int .i64 (szRs (ms.map Rm.r) m)) ∧ Below w.heap.size w w' := by
  have hr : Hid _ := hr0.row.r
  clear hr0
  have hw : IntKind.i64.wrap (m - ms.length) = m - ms.length := by rw [IntKind.wrap_i64]; omega
  by_cases hd : m - (ms.length : Int) < 0
  · have HS : Hid (szRs (ms.map Rm.r) m = -1) := by show _ = _; unfold szRs; rw [List.length_map, if_pos hd]
    go_enter Try.func6, Try.ntmps6
    go_wp2
    go_ret
    exact ⟨ret_int HS.out.symm, Below.refl _ _⟩
  · have HS : Hid (szRs (ms.map Rm.r) m = szL (ms.map Rm.r) (m - ms.length)) := by show _ = _; unfold szRs; rw [List.length_map, if_neg hd]
    go_enter Try.func6, Try.ntmps6
    go_wp2
    go_loopw [1, 5] (fun s1 s5 wr => ∃ (k : Nat) (c : Int), k ≤ ms.length ∧ s5 = .int .i64 k ∧ s1 = .int .i64 c ∧ 0 ≤ c ∧ c ≤ 1048576 ∧ szL (ms.map Rm.r) (m - ms.length) = szL ((ms.map Rm.r).drop k) c ∧ Below w.heap.size w wr) (fun _ s5 _ => ms.length - (intOf s5).toNat)
    case atStart => exact ⟨0, m - ms.length, by omega, rfl, rfl, by omega, by omega, rfl, Below.refl _ _⟩
    case round =>
      obtain ⟨k, c, hk, rfl, rfl, hc0, hc1, hS0, hB0⟩ := hrel
      have hS : Hid _ := hS0
      have hB : Hid (Below w.heap.size w wr) := hB0
      clear hS0 hB0
      by_cases hkl : k < ms.length
      · have hkl' : (k : Int) < (ms.length : Int) := by omega
        rcases hr.out with h' | ⟨b, off, rfl, _, h2⟩
        · rw [h'] at hkl; simp at hkl
        obtain ⟨x0, x1, x2⟩ := (h2 k hkl).next hB.out (cell_lt (x := ⟨b, off + k * 3, none⟩) (h2 k hkl).1)
        have hy := hx ms[k] (List.getElem_mem _)
        have HD : Hid _ := szL_drop hkl c
        have HL : Hid (¬ sz1 ms[k].r c < 0 → 0 ≤ sz1 ms[k].r c ∧ sz1 ms[k].r c ≤ c) := sz1_le
        go_wp2_with fail
        refine (szR_any ms[k] c wr hc0 hc1 hy.1 hy.2).mono ?_
        rintro e w1 ⟨rfl, hb⟩
        have hB1 : Hid (Below w.heap.size w w1) := hB.out.trans (hb.mono hB.out.size)
        clear hb x0 x1 x2 hy hB
        generalize sz1 ms[k].r c = z at *
        by_cases hz : z < 0
        · have HZ : Hid (szRs (ms.map Rm.r) m = -1) := by show _ = _; rw [HS.out, hS.out, HD.out, if_pos hz]
          clear HD hS HS HL
          go_wp2
          go_ret
          exact ⟨ret_int HZ.out.symm, hB1.out⟩
        · have HZ : Hid (szL (ms.map Rm.r) (m - ms.length) = szL ((ms.map Rm.r).drop (k + 1)) z) := by show _ = _; rw [hS.out, HD.out, if_neg hz]
          have HL' := HL.out (by omega)
          clear HD hS HL
          go_wp2
          go_roundw
          case rel => exact ⟨k + 1, z, by omega, by go_num, rfl, by omega, by omega, HZ.out, hB1.out⟩
          case measure => simp [intOf]; omega
      · have hkl' : ¬ (k : Int) < (ms.length : Int) := by omega
        have HZ : Hid (szRs (ms.map Rm.r) m = c) := by show _ = _; rw [HS.out, hS.out, List.drop_of_length_le (by simp; omega)]; rfl
        clear hS HS
        go_wp2
        go_ret
        exact ⟨ret_int HZ.out.symm, hB.out⟩
set_option maxHeartbeats 2000000 in
theorem toR_any (lo : Nat) (x : Rm) (w : World) (hm : (x.r.vs.length : Int) ≤ 1048576) (hr0 : GRow lo w x.p (ints x.r.vs)) :
    Calls Try.prog 21 #[.agg #[.int .i64 x.r.part, .string x.r.key, .slice x.p x.r.vs.length x.q]] w fun e w' => ∃ y : Rm, y.r = x.r ∧ e = .returned (.agg #[.int .i64 y.r.part, .string y.r.key, .slice y.p y.r.vs.length y.q]) ∧ Below w.heap.size w w' ∧ Sub w.heap.size w' y := by
  have hr : Hid (GRow lo w x.p (ints x.r.vs)) := hr0
  clear hr0
  have X : Hid (∀ o1 o2 o3, Below w.heap.size w (((w.alloc o1).alloc o2).alloc o3)) := fun o1 o2 o3 => (((Below.refl _ _).alloc (Nat.le_refl _) _).alloc (by simp) _).alloc (by simp; omega) _
  go_enter Try.func21, Try.ntmps21
  go_upto_region 2 with fail
  refine wp_gen (fun W => Box W w.heap.size [.int .i64 x.r.part, .string x.r.key, .slice x.p x.r.vs.length x.q] ∧ Box W (w.heap.size + 1) [.int .i64 0, .string ⟨#[]⟩, .slice none 0 0] ∧ Box W (w.heap.size + 1 + 1) [.int .i64 0, .string ⟨#[]⟩, .slice none 0 0] ∧ Below w.heap.size w W) ⟨box_mk.alloc.alloc, ?_, ?_, X.out _ _ _⟩ (fun W0 hI => ?_)
  · have := (box_mk (W := w.alloc (.cells #[.int .i64 x.r.part, .string x.r.key, .slice x.p x.r.vs.length x.q] 37)) (t := 38) (vs := [.int .i64 0, .string ⟨#[]⟩, .slice none 0 0])).alloc (ob := .cells #[.int .i64 0, .string ⟨#[]⟩, .slice none 0 0] 38)
    simpa using this
  · have := box_mk (W := (w.alloc (.cells #[.int .i64 x.r.part, .string x.r.key, .slice x.p x.r.vs.length x.q] 37)).alloc (.cells #[.int .i64 0, .string ⟨#[]⟩, .slice none 0 0] 38)) (t := 38) (vs := [.int .i64 0, .string ⟨#[]⟩, .slice none 0 0])
    simpa using this
  have Y : Hid _ := hI
  clear hI X
  obtain ⟨a0, a1, a2⟩ := Y.out.1.c3
  obtain ⟨b0, b1, b2⟩ := Y.out.2.2.1.c3
  obtain ⟨f0, f1, f2⟩ := Y.out.2.2.1.f3
  go_upto_region 4 with fail
  have Y2 : Hid (Box ((W0.setCell ⟨w.heap.size + 1 + 1, 0, none⟩ (.int .i64 x.r.part)).setCell ⟨w.heap.size + 1 + 1, 1, none⟩ (.string x.r.key)) w.heap.size [.int .i64 x.r.part, .string x.r.key, .slice x.p x.r.vs.length x.q] ∧ Box ((W0.setCell ⟨w.heap.size + 1 + 1, 0, none⟩ (.int .i64 x.r.part)).setCell ⟨w.heap.size + 1 + 1, 1, none⟩ (.string x.r.key)) (w.heap.size + 1) [.int .i64 0, .string ⟨#[]⟩, .slice none 0 0] ∧ Box ((W0.setCell ⟨w.heap.size + 1 + 1, 0, none⟩ (.int .i64 x.r.part)).setCell ⟨w.heap.size + 1 + 1, 1, none⟩ (.string x.r.key)) (w.heap.size + 1 + 1) [.int .i64 x.r.part, .string x.r.key, .slice none 0 0] ∧ Below w.heap.size w ((W0.setCell ⟨w.heap.size + 1 + 1, 0, none⟩ (.int .i64 x.r.part)).setCell ⟨w.heap.size + 1 + 1, 1, none⟩ (.string x.r.key))) := by
    refine ⟨(Y.out.1.oth (by omega)).oth (by omega), (Y.out.2.1.oth (by omega)).oth (by omega), ?_, bel_in (bel_in Y.out.2.2.2 (by omega)) (by omega)⟩
    have := (Y.out.2.2.1.set (i := 0) (u := .int .i64 x.r.part) (by simp)).set (i := 1) (u := .string x.r.key) (by simp)
    simpa using this
  clear a0 a1 a2 b0 b1 b2 f0 f1 f2 Y
  generalize ((W0.setCell ⟨w.heap.size + 1 + 1, 0, none⟩ (.int .i64 x.r.part)).setCell ⟨w.heap.size + 1 + 1, 1, none⟩ (.string x.r.key)) = W1 at *
  obtain ⟨a0, a1, a2⟩ := Y2.out.1.c3
  go_wp2_with fail
  refine (toIs_any lo x.q x.p x.r.vs _ hm (hr.out.next Y2.out.2.2.2)).mono ?_
  rintro e1 W2 ⟨rfl, hb, hG, hT, hl⟩
  have HG : Hid (Sub w.heap.size W2 ⟨x.r, some ⟨W1.heap.size, 0, none⟩, x.r.vs.length⟩) := by
    refine ⟨rfl, Y2.out.2.2.2.size, hl, hT, fun i hi => ?_⟩
    rcases hG with h' | ⟨b, off, h1, h2, h3⟩
    · rw [ints_nil h'] at hi; simp at hi
    · cases h1
      have := h3 i (by simpa [ints] using hi)
      show W2.cell? ⟨W1.heap.size, i, none⟩ = _
      simpa [ints] using this
  have hne : Hid (W1.heap.size ≠ w.heap.size + 1 ∧ W1.heap.size ≠ w.heap.size + 1 + 1) := by
    have h1 := Y2.out.2.1.lt
    have h2 := Y2.out.2.2.1.lt
    exact ⟨by omega, by omega⟩
  have Y3 : Hid (Box W2 (w.heap.size + 1) [.int .i64 0, .string ⟨#[]⟩, .slice none 0 0] ∧ Box W2 (w.heap.size + 1 + 1) [.int .i64 x.r.part, .string x.r.key, .slice none 0 0] ∧ Below w.heap.size w W2) := ⟨Y2.out.2.1.next hb, Y2.out.2.2.1.next hb, Y2.out.2.2.2.trans (hb.mono Y2.out.2.2.2.size)⟩
  clear hb hG hT hl a0 a1 a2 Y2
  obtain ⟨a0, a1, a2⟩ := Y3.out.1.c3
  obtain ⟨g0, g1, g2⟩ := Y3.out.1.f3
  obtain ⟨b0, b1, b2⟩ := Y3.out.2.1.c3
  obtain ⟨f0, f1, f2⟩ := Y3.out.2.1.f3
  generalize W1.heap.size = gg at *
  go_wp2_with fail
  have Z := (Y3.out.1.oth (q := w.heap.size + 1 + 1) (i := 2) (u := .slice (some ⟨gg, 0, none⟩) x.r.vs.length x.r.vs.length) (by omega)).s3 (u0 := .int .i64 x.r.part) (u1 := .string x.r.key) (u2 := .slice (some ⟨gg, 0, none⟩) x.r.vs.length x.r.vs.length)
  obtain ⟨z0, z1, z2⟩ := Z.c3
  clear a0 a1 a2 g0 g1 g2 b0 b1 b2 f0 f1 f2 Z
  refine bodyPost_ret (v := .agg #[.int .i64 x.r.part, .string x.r.key, .slice (some ⟨gg, 0, none⟩) x.r.vs.length x.r.vs.length]) (by simp [results, Try.results21, go_sem, z0, z1, z2]) rfl ⟨⟨x.r, some ⟨gg, 0, none⟩, x.r.vs.length⟩, rfl, rfl, ?_, ?_⟩
  · refine bel_in (bel_in (bel_in (bel_in Y3.out.2.2 (by omega)) (by omega)) (by omega)) (by omega)
  · exact (((HG.out.oth hne.out.2).oth hne.out.1).oth hne.out.1).oth hne.out.1

set_option maxHeartbeats 2000000 in
theorem toRs_any (lo q : Nat) (p : Option Addr) (ms : List Rm) (w : World) (hm : (ms.length : Int) ≤ 1048576) (hx : ∀ x ∈ ms, (x.r.vs.length : Int) ≤ 1048576) (hr0 : RR lo w p ms) :
    Calls Try.prog 8 #[.slice p ms.length q] w fun e w' => ∃ ns : List Rm, ns.map Rm.r = ms.map Rm.r ∧ e = .returned (.slice (some ⟨w.heap.size, 0, none⟩) ms.length ms.length) ∧ Below w.heap.size w w' ∧ RW w.heap.size w' w.heap.size ms.length ns := by
  have hr : Hid _ := hr0.row.r
  have hsub : Hid (∀ m ∈ ms, GRow lo w m.p (ints m.r.vs)) := hr0.sub
  clear hr0
  obtain ⟨w0, hrun, hown, hgrow⟩ := run_make_full (P := Try.prog) w w.heap.size 25 38 ((Try.prog.info? 38).getD default) (.agg #[.int .i64 0, .string ⟨#[]⟩, .slice none 0 0]) 3 Try.underlying25 (by kernel_rfl) (by kernel_rfl) (by kernel_rfl) .i64 .i64 ms.length
    (by have : ((Try.prog.info? 38).getD default).bytes = 48 := by kernel_rfl
        rw [this]; omega) (by unfold maxLen; omega) (Nat.le_refl _)
  have hT : Hid (There w0 w.heap.size (ms.length * 3)) := made_thereN hown
  have hB : Hid (Below w.heap.size w w0) := (Below.refl _ _).grown hgrow (Nat.le_refl _) (fun k e => by cases e)
  have hlt : Hid (w.heap.size < w0.heap.size) := (hown.lt w.heap.size rfl).2
  clear hown hgrow
  go_enter Try.func8, Try.ntmps8
  go_wp2
  clear hrun
  go_loopw [4] (fun s4 wr => ∃ ns : List Rm, ns.length ≤ ms.length ∧ s4 = .int .i64 (ns.length : Nat) ∧ Below w.heap.size w wr ∧ RW w.heap.size wr w.heap.size ms.length ns ∧ ns.map Rm.r = (ms.map Rm.r).take ns.length) (fun s4 _ => ms.length - (intOf s4).toNat)
  case atStart => exact ⟨[], by simp, rfl, hB.out, ⟨Nat.le_refl _, hlt.out, hT.out, by simp, fun i h => by simp at h, fun m h => by simp at h, fun i j h => by simp at h⟩, rfl⟩
  case round =>
    clear hT hB hlt
    obtain ⟨ns, hk, rfl, hB0, hW0, hS0⟩ := hrel
    have hB : Hid (Below w.heap.size w wr) := hB0
    have hW : Hid (RW w.heap.size wr w.heap.size ms.length ns) := hW0
    have hS : Hid (ns.map Rm.r = (ms.map Rm.r).take ns.length) := hS0
    clear hB0 hW0 hS0
    by_cases hkl : ns.length < ms.length
    · have hkl' : (ns.length : Int) < (ms.length : Int) := by omega
      rcases hr.out with h' | ⟨b, off, rfl, _, h2⟩
      · rw [h'] at hkl; simp at hkl
      obtain ⟨k, hkk⟩ : ∃ k, k = ns.length := ⟨_, rfl⟩
      rw [← hkk] at hkl hkl' hk ⊢
      have HK : Hid (k = ns.length) := hkk
      clear hkk
      obtain ⟨x0, x1, x2⟩ := (h2 k hkl).next hB.out (cell_lt (x := ⟨b, off + k * 3, none⟩) (h2 k hkl).1)
      go_wp2_with fail
      refine (toR_any lo ms[k] wr (hx _ (List.getElem_mem _)) ((hsub.out _ (List.getElem_mem _)).next hB.out)).mono ?_
      rintro e w1 ⟨y, hy, rfl, hb, hY⟩
      have HY : Hid (y.r = ms[k].r) := hy
      have HW : Hid (RW w.heap.size w1 w.heap.size ms.length ns) := hW.out.next hb
      have HB : Hid (Below w.heap.size w w1) := hB.out.trans (hb.mono hB.out.size)
      have HU : Hid (Sub wr.heap.size w1 y ∧ w.heap.size < wr.heap.size ∧ ∀ m ∈ ns, blk m.p < wr.heap.size) := ⟨hY, hW.out.up, fun m hm => (hW.out.sub m hm).1.up⟩
      obtain ⟨v0, y0⟩ := Option.isSome_iff_exists.1 (HW.out.wr (k * 3) (by omega)).1
      obtain ⟨v1, y1⟩ := Option.isSome_iff_exists.1 (HW.out.wr (k * 3 + 1) (by omega)).1
      obtain ⟨v2, y2⟩ := Option.isSome_iff_exists.1 (HW.out.wr (k * 3 + 2) (by omega)).1
      have z0 := (HW.out.wr (k * 3) (by omega)).2
      have z1 := (HW.out.wr (k * 3 + 1) (by omega)).2
      have z2 := (HW.out.wr (k * 3 + 2) (by omega)).2
      clear hb hY hW hB x0 x1 x2 hy h2 hr
      go_wp2_with fail
      go_roundw
      case rel =>
        have hl := HK.out
        refine ⟨ns ++ [y], by simp; omega, by simp [← hl], ((HB.out.setCell (Nat.le_refl _) _).setCell (Nat.le_refl _) _).setCell (Nat.le_refl _) _, ?_, ?_⟩
        · rw [hl]
          exact HW.out.add (by omega) (HU.out.1.weak (by have := HB.out.size; have := HU.out.2.1; omega)) (by have := HU.out.1.lo; have := HU.out.2.1; omega) (fun m hm => by have := HU.out.1.lo; have := HU.out.2.2 m hm; omega)
        · rw [List.map_append, hS.out, List.length_append]
          simp only [List.length_cons, List.length_nil, List.map_cons, List.map_nil, HY.out]
          rw [← hl, List.take_succ_eq_append_getElem (by simpa using hkl)]
          simp
      case measure => simp [intOf]; omega
    · have hkl' : ¬ (ns.length : Int) < (ms.length : Int) := by omega
      go_wp2
      go_ret
      refine ⟨ns, ?_, rfl, hB.out, hW.out⟩
      rw [hS.out, List.take_of_length_le (by simp; omega)]
set_option maxHeartbeats 1000000 in
theorem eqIs_same (lo lo2 q q2 : Nat) (p p2 : Option Addr) (l : List Int) (w : World) (hm : (l.length : Int) ≤ 1048576) (hr0 : GRow lo w p (ints l)) (hs0 : GRow lo2 w p2 (ints l)) :
    Calls Try.prog 41 #[.slice p l.length q, .slice p2 l.length q2] w fun e w' => e = .returned (.bool true) ∧ Below w.heap.size w w' := by
  have hr : Hid _ := hr0.i
  have hs : Hid _ := hs0.i
  clear hr0 hs0
  go_enter Try.func41, Try.ntmps41
  go_wp2
  go_loopw [5] (fun s5 wr => ∃ k : Nat, k ≤ l.length ∧ s5 = .int .i64 k ∧ Below w.heap.size w wr) (fun s5 _ => l.length - (intOf s5).toNat)
  case atStart => exact ⟨0, by omega, rfl, Below.refl _ _⟩
  case round =>
    obtain ⟨k, hk, rfl, hB0⟩ := hrel
    have hB : Hid (Below w.heap.size w wr) := hB0
    clear hB0
    by_cases hkl : k < l.length
    · have hkl' : (k : Int) < (l.length : Int) := by omega
      rcases hr.out with h' | ⟨b, off, rfl, _, h2⟩
      · rw [h'] at hkl; simp at hkl
      rcases hs.out with h' | ⟨c, oft, rfl, _, h3⟩
      · rw [h'] at hkl; simp at hkl
      have x0 := cell_next hB.out (h2 k hkl) (cell_lt (x := ⟨b, off + k, none⟩) (h2 k hkl))
      have y0 := cell_next hB.out (h3 k hkl) (cell_lt (x := ⟨c, oft + k, none⟩) (h3 k hkl))
      have k0 : (0 : Int) ≤ (k : Int) := by omega
      clear h2 h3 hr hs
      go_wp2
      go_quiet (fail)
      go_wp2
      go_roundw
      case rel => exact ⟨k + 1, by omega, by go_num, below_drewN hB.out _⟩
      case measure => simp [intOf]; omega
    · have hkl' : ¬ (k : Int) < (l.length : Int) := by omega
      go_wp2
      go_ret
      exact ⟨rfl, hB.out⟩
set_option maxHeartbeats 1000000 in
theorem eqR_same (lo lo2 : Nat) (x y : Rm) (w : World) (hxy : x.r = y.r) (hm : (x.r.vs.length : Int) ≤ 1048576) (hr0 : GRow lo w x.p (ints x.r.vs)) (hs0 : GRow lo2 w y.p (ints y.r.vs)) :
    Calls Try.prog 24 #[.agg #[.int .i64 x.r.part, .string x.r.key, .slice x.p x.r.vs.length x.q], .agg #[.int .i64 y.r.part, .string y.r.key, .slice y.p y.r.vs.length y.q]] w fun e w' => e = .returned (.bool true) ∧ Below w.heap.size w w' := by
  obtain ⟨⟨pt, ky, vs⟩, px, qx⟩ := x
  obtain ⟨ry, py, qy⟩ := y
  dsimp only at hxy hm hr0 hs0 ⊢
  subst hxy
  dsimp only at hs0 ⊢
  have hb0 : Hid (∀ o1 o2, Below w.heap.size w ((w.alloc o1).alloc o2)) := fun o1 o2 => ((Below.refl _ _).alloc (Nat.le_refl _) _).alloc (by simp) _
  have hr : Hid (GRow lo w px (ints vs)) := hr0
  have hs : Hid (GRow lo2 w py (ints vs)) := hs0
  clear hr0 hs0
  go_enter Try.func24, Try.ntmps24
  go_upto_region 1 with fail
  refine wp_gen (fun W => Box W w.heap.size [.int .i64 pt, .string ky, .slice px vs.length qx] ∧ Box W (w.heap.size + 1) [.int .i64 pt, .string ky, .slice py vs.length qy] ∧ Below w.heap.size w W) ⟨box_mk.alloc, ?_, hb0.out _ _⟩ (fun W0 hI => ?_)
  · have := box_mk (W := w.alloc (.cells #[.int .i64 pt, .string ky, .slice px vs.length qx] 38)) (t := 38) (vs := [.int .i64 pt, .string ky, .slice py vs.length qy])
    simpa using this
  have Y : Hid _ := hI
  clear hI hb0
  obtain ⟨a0, a1, a2⟩ := Y.out.1.c3
  obtain ⟨b0, b1, b2⟩ := Y.out.2.1.c3
  go_wp2_with fail
  refine (eqIs_same lo lo2 qx qy px py vs _ hm (hr.out.next Y.out.2.2) (hs.out.next Y.out.2.2)).mono ?_
  rintro e1 W2 ⟨rfl, hb⟩
  have hB : Hid (Below w.heap.size w W2) := Y.out.2.2.trans (hb.mono Y.out.2.2.size)
  clear hb a0 a1 a2 b0 b1 b2 Y
  go_wp2
  go_ret
  exact ⟨rfl, hB.out⟩
theorem r_keep6 {W w1 : World} {b off c oft k : Nat} {x y : Rm} (hb : Below W.drew.heap.size W.drew w1) (h : RAt W b (off + k * 3) x ∧ RAt W c (oft + k * 3) y) : w1.cell? ⟨b, off + k * 3, none⟩ = some (.int .i64 x.r.part) ∧ w1.cell? ⟨b, off + k * 3 + 1, none⟩ = some (.string x.r.key) ∧ w1.cell? ⟨b, off + k * 3 + 2, none⟩ = some (.slice x.p x.r.vs.length x.q) ∧ w1.cell? ⟨c, oft + k * 3, none⟩ = some (.int .i64 y.r.part) ∧ w1.cell? ⟨c, oft + k * 3 + 1, none⟩ = some (.string y.r.key) ∧ w1.cell? ⟨c, oft + k * 3 + 2, none⟩ = some (.slice y.p y.r.vs.length y.q) := by
  have h1 := h.1.next hb (cell_lt (x := ⟨b, off + k * 3, none⟩) h.1.1)
  have h2 := h.2.next hb (cell_lt (x := ⟨c, oft + k * 3, none⟩) h.2.1)
  exact ⟨h1.1, h1.2.1, h1.2.2, h2.1, h2.2.1, h2.2.2⟩
theorem map_r {ms ns : List Rm} (h : ns.map Rm.r = ms.map Rm.r) {k : Nat} (hk : k < ms.length) (hk' : k < ns.length) : ms[k].r = ns[k].r := by
  have := congrArg (fun l : List Rw => l[k]?) h
  simp [hk, hk'] at this
  exact this.symm
theorem len_r {ms ns : List Rm} (h : ns.map Rm.r = ms.map Rm.r) : ns.length = ms.length := by simpa using congrArg List.length h
set_option maxHeartbeats 1000000 in
theorem eqRs_same (lo lo2 q q2 n : Nat) (p p2 : Option Addr) (ms ns : List Rm) (w : World) (hl : ms.length = n) (hs : ns.map Rm.r = ms.map Rm.r) (hm : (n : Int) ≤ 1048576) (hx : ∀ x ∈ ms, (x.r.vs.length : Int) ≤ 1048576) (hr0 : RR lo w p ms) (hs0 : RR lo2 w p2 ns) :
    Calls Try.prog 10 #[.slice p n q, .slice p2 n q2] w fun e w' => e = .returned (.bool true) ∧ Below w.heap.size w w' := by
  have hr : Hid _ := hr0.row.r
  have ht : Hid _ := hs0.row.r
  have hu : Hid (∀ m ∈ ms, GRow lo w m.p (ints m.r.vs)) := hr0.sub
  have hv : Hid (∀ m ∈ ns, GRow lo2 w m.p (ints m.r.vs)) := hs0.sub
  have HL : Hid (ms.length = n) := hl
  have HL2 : Hid (ns.length = n) := (len_r hs).trans hl
  have HS : Hid _ := hs
  clear hr0 hs0 hl hs
  go_enter Try.func10, Try.ntmps10
  go_wp2
  go_loopw [5] (fun s5 wr => ∃ k : Nat, k ≤ n ∧ s5 = .int .i64 k ∧ Below w.heap.size w wr) (fun s5 _ => n - (intOf s5).toNat)
  case atStart => exact ⟨0, by omega, rfl, Below.refl _ _⟩
  case round =>
    obtain ⟨k, hk, rfl, hB0⟩ := hrel
    have hB : Hid (Below w.heap.size w wr) := hB0
    clear hB0
    by_cases hkl : k < n
    · have hkl' : (k : Int) < (n : Int) := by omega
      have hk1 : k < ms.length := by rw [HL.out]; exact hkl
      have hk2 : k < ns.length := by rw [HL2.out]; exact hkl
      rcases hr.out with h' | ⟨b, off, rfl, _, h2⟩
      · rw [h'] at hk1; simp at hk1
      rcases ht.out with h' | ⟨c, oft, rfl, _, h3⟩
      · rw [h'] at hk2; simp at hk2
      have X : Hid (RAt wr b (off + k * 3) ms[k]) := (h2 k hk1).next hB.out (cell_lt (x := ⟨b, off + k * 3, none⟩) (h2 k hk1).1)
      have Y : Hid (RAt wr c (oft + k * 3) ns[k]) := (h3 k hk2).next hB.out (cell_lt (x := ⟨c, oft + k * 3, none⟩) (h3 k hk2).1)
      have k0 : (0 : Int) ≤ (k : Int) := by omega
      have HE : Hid (∀ W, Below w.heap.size w W → Calls Try.prog 24 #[.agg #[.int .i64 ms[k].r.part, .string ms[k].r.key, .slice ms[k].p ms[k].r.vs.length ms[k].q], .agg #[.int .i64 ns[k].r.part, .string ns[k].r.key, .slice ns[k].p ns[k].r.vs.length ns[k].q]] W fun e w' => e = .returned (.bool true) ∧ Below W.heap.size W w') := fun W hW => eqR_same lo lo2 ms[k] ns[k] W (map_r HS.out hk1 hk2) (hx _ (List.getElem_mem _)) ((hu.out _ (List.getElem_mem _)).next hW) ((hv.out _ (List.getElem_mem _)).next hW)
      clear h2 h3 hr ht hu hv
      generalize ms[k] = x at *
      generalize ns[k] = y at *
      obtain ⟨x0, x1, x2⟩ := X.out
      obtain ⟨y0, y1, y2⟩ := Y.out
      go_wp2_with fail
      go_region_held3 (fun w' => w'.cell? ⟨b, off + k * 3, none⟩ = some (.int .i64 x.r.part) ∧ w'.cell? ⟨b, off + k * 3 + 1, none⟩ = some (.string x.r.key) ∧ w'.cell? ⟨b, off + k * 3 + 2, none⟩ = some (.slice x.p x.r.vs.length x.q) ∧ w'.cell? ⟨c, oft + k * 3, none⟩ = some (.int .i64 y.r.part) ∧ w'.cell? ⟨c, oft + k * 3 + 1, none⟩ = some (.string y.r.key) ∧ w'.cell? ⟨c, oft + k * 3 + 2, none⟩ = some (.slice y.p y.r.vs.length y.q)) (first | (with_reducible assumption) | exact ⟨x0, x1, x2, y0, y1, y2⟩) (first | (go_at_call 24; refine (HE.out _ hB.out.drew).mono ?_; rintro e w1 ⟨rfl, hb⟩; have hK := r_keep6 hb ⟨X.out, Y.out⟩))
      have hB1 : Hid (Below w.heap.size w w1) := hB.out.drew.trans (hb.mono hB.out.size)
      clear hb hK X Y x0 x1 x2 y0 y1 y2
      go_wp2
      go_roundw
      case rel => exact ⟨k + 1, by omega, by go_num, hB1.out⟩
      case measure => simp [intOf]; omega
    · have hkl' : ¬ (k : Int) < (n : Int) := by omega
      go_wp2
      go_ret
      exact ⟨rfl, hB.out⟩
end Go.Proofs.Ytomcpdbaenohdaa
