/- SameRows of the specification: just alike rows are told so. -/
import Derived.Test.YtomcpdbaenohdaaRows
import Derived.WalkKit
import Derived.WalkSpells
import Derived.WalkLawsBesides
import Derived.Deep.QuietTactic
import Derived.BigQuiet
import Derived.Deep.RegionHeld3
import Derived.Test.YtomcpdbaenohdaaSr
import Derived.LoopN
import Derived.OwnWalk
import Derived.Laws.StructEq
namespace Go.Proofs.Ytomcpdbaenohdaa
open Go.RowKit
set_option linter.unusedSimpArgs false
set_option linter.unusedVariables false

set_option maxRecDepth 20000 in
set_option maxHeartbeats 4000000 in
theorem specSame (lo lo2 q q2 : Nat) (p p2 : Option Addr) (ms ns : List Rm) (w : World) (hm : (ms.length : Int) ≤ 1048576) (hm2 : (ns.length : Int) ≤ 1048576) (hx : ∀ x ∈ ms, (x.r.vs.length : Int) ≤ 1048576) (hy : ∀ x ∈ ns, (x.r.vs.length : Int) ≤ 1048576) (hr0 : RR lo w p ms) (hs0 : RR lo2 w p2 ns) :
    Calls Try.prog 15 #[.slice p ms.length q, .slice p2 ns.length q2] w (Told (ms.length ≤ 4096 ∧ ns.length ≤ 4096 ∧ ms.map Rm.r = ns.map Rm.r) w) := by
  have hr : Hid _ := hr0.row.r
  have hs : Hid _ := hs0.row.r
  have hu : Hid (∀ m ∈ ms, GRow lo w m.p (ints m.r.vs)) := hr0.sub
  have hv : Hid (∀ m ∈ ns, GRow lo2 w m.p (ints m.r.vs)) := hs0.sub
  clear hr0 hs0
  by_cases h1 : (4096 : Int) < (ms.length : Int)
  case pos =>
    go_enter Try.func15, Try.ntmps15
    go_wp2
    go_ret
    exact ⟨false, rfl, by simp; omega, Below.refl _ _⟩
  by_cases h2 : (4096 : Int) < (ns.length : Int)
  case pos =>
    go_enter Try.func15, Try.ntmps15
    go_wp2
    go_ret
    exact ⟨false, rfl, by simp; omega, Below.refl _ _⟩
  have HM : Hid (∀ P : Prop, (ms.length ≤ 4096 ∧ ns.length ≤ 4096 ∧ P) ↔ P) := fun P => ⟨fun h => h.2.2, fun h => ⟨by omega, by omega, h⟩⟩
  by_cases hl : ms.length = ns.length
  case neg =>
    have hn : ¬ (ms.length : Int) = (ns.length : Int) := by omega
    have HN : Hid (¬ ms.map Rm.r = ns.map Rm.r) := fun h => hl (by simpa using congrArg List.length h)
    clear hr hs
    go_enter Try.func15, Try.ntmps15
    go_wp2
    go_ret
    exact ⟨false, rfl, by rw [HM.out]; simp [HN.out], Below.refl _ _⟩
  have HL : Hid (ms.length = ns.length) := hl
  obtain ⟨n, hn⟩ : ∃ n, n = ms.length := ⟨_, rfl⟩
  have HN : Hid (n = ms.length) := hn
  suffices hgoal : Calls Try.prog 15 #[.slice p n q, .slice p2 n q2] w (Told (ms.map Rm.r = ns.map Rm.r) w) by
    rw [← HL.out, ← hn]
    refine hgoal.mono ?_
    rintro e w' ⟨r, rfl, h3, h4⟩
    refine ⟨r, rfl, ?_, h4⟩
    rw [h3, hn, HL.out]
    have := HM.out (ms.map Rm.r = ns.map Rm.r)
    rw [HL.out] at this
    exact this.symm
  rw [← hn] at hm h1
  rw [← hl, ← hn] at h2
  clear hn hl hm2 HM
  go_enter Try.func15, Try.ntmps15
  go_wp2
  go_loopw [5, 6] (fun s5 _ wr => ∃ k : Nat, k ≤ n ∧ s5 = .int .i64 k ∧ (ms.map Rm.r).take k = (ns.map Rm.r).take k ∧ Below w.heap.size w wr) (fun s5 _ _ => n - (intOf s5).toNat)
  case atStart => exact ⟨0, by omega, rfl, rfl, Below.refl _ _⟩
  case round =>
    obtain ⟨k, hk, rfl, hS0, hB0⟩ := hrel
    have hB : Hid (Below w.heap.size w wr) := hB0
    have hS : Hid ((ms.map Rm.r).take k = (ns.map Rm.r).take k) := hS0
    clear hB0 hS0
    by_cases hkl : k < n
    · have hkl' : (k : Int) < (n : Int) := by omega
      have k1 : k < ms.length := by rw [← HN.out]; exact hkl
      have k2 : k < ns.length := by rw [← HL.out]; exact k1
      rcases hr.out with h' | ⟨b, off, rfl, _, h2'⟩
      · rw [h'] at k1; simp at k1
      rcases hs.out with h' | ⟨c, oft, rfl, _, h3⟩
      · rw [h'] at k2; simp at k2
      have XY : Hid (∀ W, Below w.heap.size w W → RAt W b (off + k * 3) ms[k] ∧ RAt W c (oft + k * 3) ns[k]) := fun W hW => ⟨(h2' k k1).next hW (cell_lt (x := ⟨b, off + k * 3, none⟩) (h2' k k1).1), (h3 k k2).next hW (cell_lt (x := ⟨c, oft + k * 3, none⟩) (h3 k k2).1)⟩
      have k0 : (0 : Int) ≤ (k : Int) := by omega
      have HT : Hid (ms[k].r = ns[k].r → (ms.map Rm.r).take (k + 1) = (ns.map Rm.r).take (k + 1)) := fun h => take_eq hS.out (by simpa using k1) (by simpa using k2) (by simpa using h)
      have HE : Hid (¬ ms[k].r = ns[k].r → ¬ ms.map Rm.r = ns.map Rm.r) := fun h => ne_at (k := k) (by simpa using k1) (by simpa using k2) (by simpa using h)
      have GX : Hid (GRow lo w ms[k].p (ints ms[k].r.vs)) := hu.out _ (List.getElem_mem _)
      have GY : Hid (GRow lo2 w ns[k].p (ints ns[k].r.vs)) := hv.out _ (List.getElem_mem _)
      have mx := hx ms[k] (List.getElem_mem _)
      have my := hy ns[k] (List.getElem_mem _)
      clear h2' h3 hr hs hS hu hv hx hy
      generalize ms[k] = x at *
      generalize ns[k] = y at *
      have HX : Hid (x.r = y.r ↔ x.r.part = y.r.part ∧ x.r.key = y.r.key ∧ x.r.vs = y.r.vs) := rw_ext
      obtain ⟨⟨x0, x1, x2⟩, y0, y1, y2⟩ := XY.out wr hB.out
      by_cases hp : x.r.part = y.r.part
      case neg =>
        have HE' : Hid (¬ ms.map Rm.r = ns.map Rm.r) := HE.out (by rw [HX.out]; exact fun h => hp h.1)
        have e1 : (x.r.part != y.r.part) = true := by simpa using hp
        have e1' : decide (x.r.part = y.r.part) = false := by simpa using hp
        clear HT HE XY HX
        go_wp2
        go_quiet (fail)
        go_wp2
        go_ret
        exact ⟨false, rfl, by simp [HE'.out], below_drewN hB.out _⟩
      have e1 : (x.r.part != y.r.part) = false := by simpa using hp
      have e1' : decide (x.r.part = y.r.part) = true := by simpa using hp
      by_cases hk' : x.r.key = y.r.key
      case neg =>
        have HE' : Hid (¬ ms.map Rm.r = ns.map Rm.r) := HE.out (by rw [HX.out]; exact fun h => hk' h.2.1)
        have hkl : ¬ x.r.key.toList = y.r.key.toList := fun h => hk' (kl_inj h)
        have e2 : (x.r.key.toList != y.r.key.toList) = true := by simpa using hkl
        have e2' : decide (x.r.key.toList = y.r.key.toList) = false := by simpa using hkl
        clear HT HE XY HX
        go_wp2
        go_quiet (fail)
        go_wp2
        go_ret
        exact ⟨false, rfl, by simp [HE'.out], below_drewN hB.out _⟩
      have hkl : x.r.key.toList = y.r.key.toList := by rw [hk']
      have e2 : (x.r.key.toList != y.r.key.toList) = false := by simpa using hkl
      have e2' : decide (x.r.key.toList = y.r.key.toList) = true := by simpa using hkl
      by_cases hlen : x.r.vs.length = y.r.vs.length
      case neg =>
        have HE' : Hid (¬ ms.map Rm.r = ns.map Rm.r) := HE.out (by rw [HX.out]; exact fun h => hlen (by rw [h.2.2]))
        have hln : ¬ (x.r.vs.length : Int) = (y.r.vs.length : Int) := by omega
        have e3 : ((x.r.vs.length : Int) != (y.r.vs.length : Int)) = true := by simpa using hln
        clear HT HE XY HX hk'
        go_wp2
        go_quiet (fail)
        go_wp2
        go_ret
        exact ⟨false, rfl, by simp [HE'.out], below_drewN hB.out _⟩
      have HT' : Hid (x.r.vs = y.r.vs → (ms.map Rm.r).take (k + 1) = (ns.map Rm.r).take (k + 1)) := fun h => HT.out (by rw [HX.out]; exact ⟨hp, hk', h⟩)
      have HE2 : Hid (¬ x.r.vs = y.r.vs → ¬ ms.map Rm.r = ns.map Rm.r) := fun h => HE.out (by rw [HX.out]; exact fun h' => h h'.2.2)
      obtain ⟨j0, hj0⟩ : ∃ j, j = x.r.vs.length := ⟨_, rfl⟩
      have HJ : Hid (j0 = x.r.vs.length ∧ j0 = y.r.vs.length) := ⟨hj0, by omega⟩
      rw [← hj0] at x2 mx
      rw [← hlen, ← hj0] at y2 my
      have XY2 : Hid (∀ W, Below w.heap.size w W → W.cell? ⟨b, off + k * 3 + 2, none⟩ = some (.slice x.p j0 x.q) ∧ W.cell? ⟨c, oft + k * 3 + 2, none⟩ = some (.slice y.p j0 y.q)) := fun W hW => by
        have := XY.out W hW
        exact ⟨by rw [hj0]; exact this.1.2.2, by rw [hj0, hlen]; exact this.2.2.2⟩
      clear HT HE HX hk' hj0 hlen XY
      have hI : Hid _ := GX.out.i
      have hJ : Hid _ := GY.out.i
      clear GX GY
      go_wp2
      go_quiet (fail)
      have hB1 : Hid (Below w.heap.size w (wr.drewN nq)) := below_drewN hB.out _
      clear hB x0 x1 x2 y0 y1 y2 hp hkl e1 e2 e1' e2'
      generalize wr.drewN nq = wq at *
      go_wp2
      go_loopw [6] (fun s6 wr => ∃ j : Nat, j ≤ j0 ∧ s6 = .int .i64 j ∧ x.r.vs.take j = y.r.vs.take j ∧ Below w.heap.size w wr) (fun s6 _ => j0 - (intOf s6).toNat)
      case atStart => exact ⟨0, by omega, rfl, rfl, hB1.out⟩
      case round =>
        obtain ⟨j, hj, rfl, hS0, hB0⟩ := hrel
        have hB : Hid (Below w.heap.size w wr) := hB0
        have hS : Hid (x.r.vs.take j = y.r.vs.take j) := hS0
        clear hB0 hS0 hB1
        obtain ⟨x2, y2⟩ := XY2.out wr hB.out
        by_cases hjl : j < j0
        · have hjl' : (j : Int) < (j0 : Int) := by omega
          have j1 : j < x.r.vs.length := by rw [← HJ.out.1]; exact hjl
          have j2 : j < y.r.vs.length := by rw [← HJ.out.2]; exact hjl
          rcases hI.out with h' | ⟨d, of, hpx, _, h2'⟩
          · rw [h'] at j1; simp at j1
          rcases hJ.out with h' | ⟨f, og, hpy, _, h3⟩
          · rw [h'] at j2; simp at j2
          rw [hpx] at x2
          rw [hpy] at y2
          have u0 := cell_next hB.out (h2' j j1) (cell_lt (x := ⟨d, of + j, none⟩) (h2' j j1))
          have v0 := cell_next hB.out (h3 j j2) (cell_lt (x := ⟨f, og + j, none⟩) (h3 j j2))
          have z0 : (0 : Int) ≤ (j : Int) := by omega
          have HA : Hid (x.r.vs[j] = y.r.vs[j] → x.r.vs.take (j + 1) = y.r.vs.take (j + 1)) := take_eq hS.out j1 j2
          have HZ : Hid (¬ x.r.vs[j] = y.r.vs[j] → ¬ x.r.vs = y.r.vs) := ne_at j1 j2
          clear h2' h3 hI hJ hS hpx hpy
          generalize x.r.vs[j] = u at *
          generalize y.r.vs[j] = v at *
          by_cases huv : u = v
          · have HA' : Hid (x.r.vs.take (j + 1) = y.r.vs.take (j + 1)) := HA.out huv
            subst huv
            clear HA HZ HE2
            go_wp2
            go_quiet (fail)
            go_wp2
            go_roundw
            case rel => exact ⟨j + 1, by omega, by go_num, HA'.out, below_drewN hB.out _⟩
            case measure => simp [intOf]; omega
          · have HE' : Hid (¬ ms.map Rm.r = ns.map Rm.r) := HE2.out (HZ.out huv)
            clear HA HZ HE2 HT'
            go_wp2
            go_quiet (fail)
            go_wp2
            go_ret
            exact ⟨false, rfl, by simp [HE'.out], below_drewN hB.out _⟩
        · have hjl' : ¬ (j : Int) < (j0 : Int) := by omega
          have HE' : Hid ((ms.map Rm.r).take (k + 1) = (ns.map Rm.r).take (k + 1)) := HT'.out (take_all hS.out (by rw [← HJ.out.1]; omega) (by rw [← HJ.out.2]; omega))
          clear hS HT' HE2
          go_wp2
          go_roundw
          case rel => exact ⟨k + 1, by omega, by go_num, HE'.out, hB.out⟩
          case measure => simp [intOf]; omega
    · have hkl' : ¬ (k : Int) < (n : Int) := by omega
      have HE : Hid (ms.map Rm.r = ns.map Rm.r) := take_all hS.out (by simp; rw [← HN.out]; omega) (by simp; rw [← HL.out, ← HN.out]; omega)
      clear hS
      go_wp2
      go_ret
      exact ⟨true, rfl, by simp [HE.out], hB.out⟩
end Go.Proofs.Ytomcpdbaenohdaa
