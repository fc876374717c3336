/- SameRows of both sides: just alike rows are told so. -/
import Derived.Test.YtomcpdbaenohdaaRows
import Derived.WalkKit
import Derived.WalkSpells
import Derived.WalkLawsBesides
import Derived.Deep.QuietTactic
import Derived.BigQuiet
import Derived.Deep.RegionHeld3
import Derived.Test.YtomcpdbaenohdaaRb
import Derived.LoopN
import Derived.OwnWalk
import Derived.Laws.StructEq
namespace Go.Proofs.Ytomcpdbaenohdaa
open Go.RowKit
set_option linter.unusedSimpArgs false
set_option linter.unusedVariables false

/-- A call answers whether P holds. -/
def Told (P : Prop) (w : World) (e : Ending) (w' : World) : Prop := ∃ r : Bool, e = .returned (.bool r) ∧ (r = true ↔ P) ∧ Below w.heap.size w w'
theorem take_eq {A : Type} {a b : List A} {k : Nat} (h : a.take k = b.take k) (ha : k < a.length) (hb : k < b.length) (e : a[k] = b[k]) : a.take (k + 1) = b.take (k + 1) := by
  rw [List.take_succ_eq_append_getElem ha, List.take_succ_eq_append_getElem hb, h, e]
theorem take_all {A : Type} {a b : List A} {k : Nat} (h : a.take k = b.take k) (ha : a.length ≤ k) (hb : b.length ≤ k) : a = b := by
  rwa [List.take_of_length_le ha, List.take_of_length_le hb] at h
theorem ne_at {A : Type} {a b : List A} {k : Nat} (ha : k < a.length) (hb : k < b.length) (e : ¬ a[k] = b[k]) : ¬ a = b := fun h => e (by subst h; rfl)
set_option maxHeartbeats 1000000 in
theorem eqL_any (lo lo2 q q2 : Nat) (p p2 : Option Addr) (l l2 : List Int) (w : World) (hm : (l.length : Int) ≤ 1048576) (hm2 : (l2.length : Int) ≤ 1048576) (hr0 : GRow lo w p (ints l)) (hs0 : GRow lo2 w p2 (ints l2)) :
    Calls Try.prog 48 #[.slice p l.length q, .slice p2 l2.length q2] w (Told (l = l2) w) := by
  have hr : Hid _ := hr0.i
  have hs : Hid _ := hs0.i
  clear hr0 hs0
  by_cases hl : l.length = l2.length
  case neg =>
    have hn : ¬ (l.length : Int) = (l2.length : Int) := by omega
    have HN : Hid (¬ l = l2) := fun h => hl (by rw [h])
    clear hr hs
    go_enter Try.func48, Try.ntmps48
    go_wp2
    go_ret
    exact ⟨false, rfl, by simp [HN.out], Below.refl _ _⟩
  have HL : Hid (l.length = l2.length) := hl
  have hq : (l.length : Int) = (l2.length : Int) := by omega
  obtain ⟨n, hn⟩ : ∃ n, n = l.length := ⟨_, rfl⟩
  rw [← HL.out, ← hn]
  have HN : Hid (n = l.length) := hn
  rw [← hn] at hm
  clear hn hl hq hm2
  go_enter Try.func48, Try.ntmps48
  go_wp2
  go_loopw [5, 13] (fun _ s13 wr => ∃ k : Nat, k ≤ n ∧ s13 = .int .i64 k ∧ l.take k = l2.take k ∧ Below w.heap.size w wr) (fun _ s13 _ => n - (intOf s13).toNat)
  case atStart => exact ⟨0, by omega, rfl, rfl, Below.refl _ _⟩
  case round =>
    obtain ⟨k, hk, rfl, hS0, hB0⟩ := hrel
    have hB : Hid (Below w.heap.size w wr) := hB0
    have hS : Hid (l.take k = l2.take k) := hS0
    clear hB0 hS0
    by_cases hkl : k < n
    · have hkl' : (k : Int) < (n : Int) := by omega
      have k1 : k < l.length := by rw [← HN.out]; exact hkl
      have k2 : k < l2.length := by rw [← HL.out]; exact k1
      rcases hr.out with h' | ⟨b, off, rfl, _, h2⟩
      · rw [h'] at k1; simp at k1
      rcases hs.out with h' | ⟨c, oft, rfl, _, h3⟩
      · rw [h'] at k2; simp at k2
      have x0 := cell_next hB.out (h2 k k1) (cell_lt (x := ⟨b, off + k, none⟩) (h2 k k1))
      have y0 := cell_next hB.out (h3 k k2) (cell_lt (x := ⟨c, oft + k, none⟩) (h3 k k2))
      have k0 : (0 : Int) ≤ (k : Int) := by omega
      have HT : Hid (l[k] = l2[k] → l.take (k + 1) = l2.take (k + 1)) := take_eq hS.out k1 k2
      have HE : Hid (¬ l[k] = l2[k] → ¬ l = l2) := ne_at k1 k2
      clear h2 h3 hr hs hS
      generalize l[k] = u at *
      generalize l2[k] = v at *
      by_cases huv : u = v
      · have HT' : Hid (l.take (k + 1) = l2.take (k + 1)) := HT.out huv
        subst huv
        clear HT HE
        go_wp2
        go_quiet (fail)
        go_wp2
        go_roundw
        case rel => exact ⟨k + 1, by omega, by go_num, HT'.out, below_drewN hB.out _⟩
        case measure => simp [intOf]; omega
      · have HE' : Hid (¬ l = l2) := HE.out huv
        clear HT HE
        go_wp2
        go_quiet (fail)
        go_wp2
        go_ret
        exact ⟨false, rfl, by simp [HE'.out], below_drewN hB.out _⟩
    · have hkl' : ¬ (k : Int) < (n : Int) := by omega
      have HE : Hid (l = l2) := take_all hS.out (by rw [← HN.out]; omega) (by rw [← HL.out, ← HN.out]; omega)
      clear hS
      go_wp2
      go_ret
      exact ⟨true, rfl, by simp [HE.out], hB.out⟩
theorem kl_inj {a b : ByteArray} (h : a.toList = b.toList) : a = b := by
  rw [ByteArray.toList_eq, ByteArray.toList_eq] at h
  exact ByteArray.ext (Array.toList_inj.1 h)
theorem rw_ext {x y : Rw} : x = y ↔ x.part = y.part ∧ x.key = y.key ∧ x.vs = y.vs := by
  cases x
  cases y
  simp
set_option maxHeartbeats 1000000 in
theorem sameR_any (lo lo2 : Nat) (x y : Rm) (w : World) (hm : (x.r.vs.length : Int) ≤ 1048576) (hm2 : (y.r.vs.length : Int) ≤ 1048576) (hr0 : GRow lo w x.p (ints x.r.vs)) (hs0 : GRow lo2 w y.p (ints y.r.vs)) :
    Calls Try.prog 33 #[.agg #[.int .i64 x.r.part, .string x.r.key, .slice x.p x.r.vs.length x.q], .agg #[.int .i64 y.r.part, .string y.r.key, .slice y.p y.r.vs.length y.q]] w (Told (x.r = y.r) w) := by
  have hb0 : Hid (∀ o1 o2, Below w.heap.size w ((w.alloc o1).alloc o2)) := fun o1 o2 => ((Below.refl _ _).alloc (Nat.le_refl _) _).alloc (by simp) _
  have hr : Hid (GRow lo w x.p (ints x.r.vs)) := hr0
  have hs : Hid (GRow lo2 w y.p (ints y.r.vs)) := hs0
  clear hr0 hs0
  go_enter Try.func33, Try.ntmps33
  go_upto_region 1 with fail
  refine wp_gen (fun W => Box W w.heap.size [.int .i64 x.r.part, .string x.r.key, .slice x.p x.r.vs.length x.q] ∧ Box W (w.heap.size + 1) [.int .i64 y.r.part, .string y.r.key, .slice y.p y.r.vs.length y.q] ∧ Below w.heap.size w W) ⟨box_mk.alloc, ?_, hb0.out _ _⟩ (fun W0 hI => ?_)
  · have := box_mk (W := w.alloc (.cells #[.int .i64 x.r.part, .string x.r.key, .slice x.p x.r.vs.length x.q] 38)) (t := 38) (vs := [.int .i64 y.r.part, .string y.r.key, .slice y.p y.r.vs.length y.q])
    simpa using this
  have Y : Hid _ := hI
  clear hI hb0
  obtain ⟨a0, a1, a2⟩ := Y.out.1.c3
  obtain ⟨b0, b1, b2⟩ := Y.out.2.1.c3
  have HX : Hid (x.r = y.r ↔ x.r.part = y.r.part ∧ x.r.key = y.r.key ∧ x.r.vs = y.r.vs) := rw_ext
  by_cases hp : x.r.part = y.r.part
  case neg =>
    have HN : Hid (¬ x.r = y.r) := by rw [HX.out]; exact fun h => hp h.1
    go_wp2
    go_ret
    exact ⟨false, rfl, by simp [HN.out], Y.out.2.2⟩
  by_cases hk : x.r.key = y.r.key
  case neg =>
    have HN : Hid (¬ x.r = y.r) := by rw [HX.out]; exact fun h => hk h.2.1
    have hkl : ¬ x.r.key.toList = y.r.key.toList := fun h => hk (kl_inj h)
    go_wp2
    go_ret
    exact ⟨false, rfl, by simp [HN.out], Y.out.2.2⟩
  have HC : Hid (Calls Try.prog 48 #[.slice x.p x.r.vs.length x.q, .slice y.p y.r.vs.length y.q] W0 (Told (x.r.vs = y.r.vs) W0)) := eqL_any lo lo2 x.q y.q x.p y.p x.r.vs y.r.vs _ hm hm2 (hr.out.next Y.out.2.2) (hs.out.next Y.out.2.2)
  have HE : Hid (x.r = y.r ↔ x.r.vs = y.r.vs) := by rw [HX.out]; exact ⟨fun h => h.2.2, fun h => ⟨hp, hk, h⟩⟩
  have hkl : x.r.key.toList = y.r.key.toList := by rw [hk]
  clear HX hr hs hk
  go_wp2_with fail
  refine HC.out.mono ?_
  rintro e1 W2 ⟨r, rfl, hq, hb⟩
  have hB : Hid (Below w.heap.size w W2) := Y.out.2.2.trans (hb.mono Y.out.2.2.size)
  have HQ : Hid (r = true ↔ x.r = y.r) := hq.trans HE.out.symm
  clear hb hq HE HC a0 a1 a2 b0 b1 b2 Y
  go_wp2
  go_ret
  exact ⟨r, rfl, HQ.out, hB.out⟩

set_option maxHeartbeats 2000000 in
theorem eqF_any (lo lo2 q q2 : Nat) (p p2 : Option Addr) (ms ns : List Rm) (w : World) (hm : (ms.length : Int) ≤ 1048576) (hm2 : (ns.length : Int) ≤ 1048576) (hx : ∀ x ∈ ms, (x.r.vs.length : Int) ≤ 1048576) (hy : ∀ x ∈ ns, (x.r.vs.length : Int) ≤ 1048576) (hr0 : RR lo w p ms) (hs0 : RR lo2 w p2 ns) :
    Calls Try.prog 32 #[.slice p ms.length q, .slice p2 ns.length q2, .func (.func 33) #[] #[]] w (Told (ms.map Rm.r = ns.map Rm.r) w) := by
  have hr : Hid _ := hr0.row.r
  have hs : Hid _ := hs0.row.r
  have hu : Hid (∀ m ∈ ms, GRow lo w m.p (ints m.r.vs)) := hr0.sub
  have hv : Hid (∀ m ∈ ns, GRow lo2 w m.p (ints m.r.vs)) := hs0.sub
  clear hr0 hs0
  by_cases hl : ms.length = ns.length
  case neg =>
    have hn : ¬ (ms.length : Int) = (ns.length : Int) := by omega
    have HN : Hid (¬ ms.map Rm.r = ns.map Rm.r) := fun h => hl (by simpa using congrArg List.length h)
    clear hr hs
    go_enter Try.func32, Try.ntmps32
    go_wp2
    go_ret
    exact ⟨false, rfl, by simp [HN.out], Below.refl _ _⟩
  have HL : Hid (ms.length = ns.length) := hl
  obtain ⟨n, hn⟩ : ∃ n, n = ms.length := ⟨_, rfl⟩
  rw [← HL.out, ← hn]
  have HN : Hid (n = ms.length) := hn
  rw [← hn] at hm
  clear hn hl hm2
  go_enter Try.func32, Try.ntmps32
  go_wp2
  go_loopw [7, 8, 9, 17] (fun _ _ _ s17 wr => ∃ k : Nat, k ≤ n ∧ s17 = .int .i64 k ∧ (ms.map Rm.r).take k = (ns.map Rm.r).take k ∧ Below w.heap.size w wr) (fun _ _ _ s17 _ => n - (intOf s17).toNat)
  case atStart => exact ⟨0, by omega, rfl, rfl, Below.refl _ _⟩
  case round =>
    obtain ⟨k, hk, rfl, hS0, hB0⟩ := hrel
    have hB : Hid (Below w.heap.size w wr) := hB0
    have hS : Hid ((ms.map Rm.r).take k = (ns.map Rm.r).take k) := hS0
    clear hB0 hS0
    by_cases hkl : k < n
    · have hkl' : (k : Int) < (n : Int) := by omega
      have k1 : k < ms.length := by rw [← HN.out]; exact hkl
      have k2 : k < ns.length := by rw [← HL.out]; exact k1
      rcases hr.out with h' | ⟨b, off, rfl, _, h2⟩
      · rw [h'] at k1; simp at k1
      rcases hs.out with h' | ⟨c, oft, rfl, _, h3⟩
      · rw [h'] at k2; simp at k2
      have X : Hid (RAt wr b (off + k * 3) ms[k]) := (h2 k k1).next hB.out (cell_lt (x := ⟨b, off + k * 3, none⟩) (h2 k k1).1)
      have Y : Hid (RAt wr c (oft + k * 3) ns[k] ∧ c < wr.heap.size) := ⟨(h3 k k2).next hB.out (cell_lt (x := ⟨c, oft + k * 3, none⟩) (h3 k k2).1), Nat.lt_of_lt_of_le (cell_lt (x := ⟨c, oft + k * 3, none⟩) (h3 k k2).1) hB.out.size⟩
      have k0 : (0 : Int) ≤ (k : Int) := by omega
      have HT : Hid (ms[k].r = ns[k].r → (ms.map Rm.r).take (k + 1) = (ns.map Rm.r).take (k + 1)) := fun h => take_eq hS.out (by simpa using k1) (by simpa using k2) (by simpa using h)
      have HE : Hid (¬ ms[k].r = ns[k].r → ¬ ms.map Rm.r = ns.map Rm.r) := fun h => ne_at (k := k) (by simpa using k1) (by simpa using k2) (by simpa using h)
      have HC : Hid (∀ W, Below w.heap.size w W → Calls Try.prog 33 #[.agg #[.int .i64 ms[k].r.part, .string ms[k].r.key, .slice ms[k].p ms[k].r.vs.length ms[k].q], .agg #[.int .i64 ns[k].r.part, .string ns[k].r.key, .slice ns[k].p ns[k].r.vs.length ns[k].q]] W (Told (ms[k].r = ns[k].r) W)) := fun W hW => sameR_any lo lo2 ms[k] ns[k] W (hx _ (List.getElem_mem _)) (hy _ (List.getElem_mem _)) ((hu.out _ (List.getElem_mem _)).next hW) ((hv.out _ (List.getElem_mem _)).next hW)
      clear h2 h3 hr hs hS hu hv
      generalize ms[k] = x at *
      generalize ns[k] = y at *
      obtain ⟨x0, x1, x2⟩ := X.out
      go_upto_region 6 with fail
      refine wp_gen (fun W => Box W wr.heap.size [.int .i64 x.r.part, .string x.r.key, .slice x.p x.r.vs.length x.q] ∧ Below wr.heap.size wr W) ⟨box_mk, bel_alloc _ _⟩ (fun W1 hI => ?_)
      have HI : Hid (Box W1 wr.heap.size [.int .i64 x.r.part, .string x.r.key, .slice x.p x.r.vs.length x.q] ∧ Below w.heap.size w W1 ∧ RAt W1 c (oft + k * 3) y) := ⟨hI.1, hB.out.trans (hI.2.mono hB.out.size), Y.out.1.next hI.2 Y.out.2⟩
      clear hI x0 x1 x2 X Y hB
      obtain ⟨y0, y1, y2⟩ := HI.out.2.2
      go_upto_region 7 with fail
      refine wp_gen (fun W => Box W W1.heap.size [.int .i64 y.r.part, .string y.r.key, .slice y.p y.r.vs.length y.q] ∧ Below W1.heap.size W1 W) ⟨box_mk, bel_alloc _ _⟩ (fun W2 hI => ?_)
      have HJ : Hid (Box W2 wr.heap.size [.int .i64 x.r.part, .string x.r.key, .slice x.p x.r.vs.length x.q] ∧ Box W2 W1.heap.size [.int .i64 y.r.part, .string y.r.key, .slice y.p y.r.vs.length y.q] ∧ Below w.heap.size w W2) := ⟨HI.out.1.next hI.2, hI.1, HI.out.2.1.trans (hI.2.mono HI.out.2.1.size)⟩
      clear hI y0 y1 y2 HI
      obtain ⟨a0, a1, a2⟩ := HJ.out.1.c3
      obtain ⟨b0, b1, b2⟩ := HJ.out.2.1.c3
      go_wp2_with fail
      refine (HC.out _ HJ.out.2.2).mono ?_
      rintro e1 W3 ⟨r, rfl, hq, hb⟩
      have hB1 : Hid (Below w.heap.size w W3) := HJ.out.2.2.trans (hb.mono HJ.out.2.2.size)
      have HQ : Hid (r = true ↔ x.r = y.r) := hq
      clear hb hq HC a0 a1 a2 b0 b1 b2 HJ
      cases r
      · have HE' : Hid (¬ ms.map Rm.r = ns.map Rm.r) := HE.out (by rw [← HQ.out]; simp)
        clear HT HE HQ
        go_wp2
        go_ret
        exact ⟨false, rfl, by simp [HE'.out], hB1.out⟩
      · have HT' : Hid ((ms.map Rm.r).take (k + 1) = (ns.map Rm.r).take (k + 1)) := HT.out (by rw [← HQ.out])
        clear HT HE HQ
        go_wp2
        go_roundw
        case rel => exact ⟨k + 1, by omega, by go_num, HT'.out, hB1.out⟩
        case measure => simp [intOf]; omega
    · have hkl' : ¬ (k : Int) < (n : Int) := by omega
      have HE : Hid (ms.map Rm.r = ns.map Rm.r) := take_all hS.out (by simp; rw [← HN.out]; omega) (by simp; rw [← HL.out, ← HN.out]; omega)
      clear hS
      go_wp2
      go_ret
      exact ⟨true, rfl, by simp [HE.out], hB.out⟩
set_option maxHeartbeats 1000000 in
theorem implSame (lo lo2 q q2 : Nat) (p p2 : Option Addr) (ms ns : List Rm) (w : World) (hm : (ms.length : Int) ≤ 1048576) (hm2 : (ns.length : Int) ≤ 1048576) (hx : ∀ x ∈ ms, (x.r.vs.length : Int) ≤ 1048576) (hy : ∀ x ∈ ns, (x.r.vs.length : Int) ≤ 1048576) (hr0 : RR lo w p ms) (hs0 : RR lo2 w p2 ns) :
    Calls Try.prog 16 #[.slice p ms.length q, .slice p2 ns.length q2] w (Told (ms.length ≤ 4096 ∧ ns.length ≤ 4096 ∧ ms.map Rm.r = ns.map Rm.r) w) := by
  have HC : Hid _ := eqF_any lo lo2 q q2 p p2 ms ns w hm hm2 hx hy hr0 hs0
  clear hr0 hs0
  by_cases h1 : (ms.length : Int) ≤ 4096
  case neg =>
    go_enter Try.func16, Try.ntmps16
    go_wp2
    go_ret
    exact ⟨false, rfl, by simp; omega, Below.refl _ _⟩
  by_cases h2 : (ns.length : Int) ≤ 4096
  case neg =>
    go_enter Try.func16, Try.ntmps16
    go_wp2
    go_ret
    exact ⟨false, rfl, by simp; omega, Below.refl _ _⟩
  go_enter Try.func16, Try.ntmps16
  go_wp2_with fail
  refine Calls.mono HC.out ?_
  rintro e1 W3 ⟨r, rfl, hq, hb⟩
  have HB : Hid (Below w.heap.size w W3) := hb
  have HQ : Hid (r = true ↔ ms.map Rm.r = ns.map Rm.r) := hq
  clear hb hq HC
  go_wp2
  go_ret
  exact ⟨r, rfl, HQ.out.trans ⟨fun h => ⟨by omega, by omega, h⟩, fun h => h.2.2⟩, HB.out⟩
end Go.Proofs.Ytomcpdbaenohdaa
