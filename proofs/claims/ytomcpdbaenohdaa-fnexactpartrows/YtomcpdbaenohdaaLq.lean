/- The law of PartRows: what it leans on. -/
import Derived.Test.YtomcpdbaenohdaaRows
import Derived.WalkKit
import Derived.WalkSpells
import Derived.WalkLawsBesides
import Derived.Deep.QuietTactic
import Derived.BigQuiet
import Derived.Deep.RegionHeld3
import Derived.Test.YtomcpdbaenohdaaSo
import Derived.Test.YtomcpdbaenohdaaLr
import Derived.LoopN
namespace Go.Proofs.Ytomcpdbaenohdaa
open Go.RowKit
set_option linter.unusedSimpArgs false
set_option linter.unusedVariables false

/-- How many marks rows take. -/
def cR : List Rw → Nat
  | [] => 0
  | r :: l => r.vs.length + 2 + cR l
theorem cntL_r : ∀ ms : List Rm, cntL ms = cR (ms.map Rm.r)
  | [] => rfl
  | m :: l => by simp [cntL, cR, cntL_r l]
theorem cR_filter (f : Rw → Bool) : ∀ l : List Rw, cR (l.filter f) ≤ cR l
  | [] => by simp [cR]
  | r :: l => by
    rw [List.filter_cons]
    have := cR_filter f l
    split
    · simp only [cR]; omega
    · simp only [cR]; omega
theorem cR_tot : ∀ l : List Rw, cR l ≤ 2 * l.length + tot l
  | [] => by simp [cR]
  | r :: l => by
    have := cR_tot l
    simp only [cR, tot, List.length_cons]
    omega
theorem PartQ.sub {aa : List Rm} {pt c : Int} {L : List Rw} (h : PartQ aa pt c L) : cR L ≤ cR (aa.map Rm.r) ∧ L.length ≤ aa.length ∧ ∀ r ∈ L, r ∈ aa.map Rm.r := by
  have h0 : L = [] ∨ L = (aa.map Rm.r).filter (fun r => decide (r.part = pt)) := by
    rcases h with ⟨_, _, h⟩ | ⟨_, _, _, h⟩ | ⟨_, _, _, _, h⟩ | ⟨_, _, _, _, h⟩
    · exact .inl h
    · exact .inl h
    · exact .inl h
    · exact .inr h
  rcases h0 with rfl | rfl
  · exact ⟨by simp [cR], by simp, fun r hr => by simp at hr⟩
  · refine ⟨cR_filter _ _, ?_, fun r hr => (List.mem_filter.1 hr).1⟩
    have := List.length_filter_le (fun r : Rw => decide (r.part = pt)) (aa.map Rm.r)
    rw [List.length_map] at this
    exact this
theorem TI.rr {lo : Nat} {W : World} {po : Option Addr} {pc : Nat} {ns : List Rm} (h : TI lo W po pc ns) : RR lo W po ns := by
  refine ⟨?_, fun m hm => (h.sub m hm).1.grow⟩
  obtain ⟨p2, c2, e2, _, hG⟩ := h.own.grow
  cases e2
  exact hG
/-- Rows that a call has made, in blocks from lo on and below hi. -/
structure TB (lo hi : Nat) (W : World) (po : Option Addr) (pc : Nat) (ns : List Rm) : Prop where
  t : TI lo W po pc ns
  o : ∀ k, (Value.slice po ns.length pc).ownBlock = some k → k < hi
  s : ∀ m ∈ ns, blk m.p < hi
theorem TI.tb {lo : Nat} {W : World} {po : Option Addr} {pc : Nat} {ns : List Rm} (h : TI lo W po pc ns) : TB lo W.heap.size W po pc ns := ⟨h, fun k hk => (h.own.lt k hk).2, fun m hm => (h.sub m hm).1.up⟩
theorem TB.next {lo hi : Nat} {W W' : World} {po : Option Addr} {pc : Nat} {ns : List Rm} (h : TB lo hi W po pc ns) (hb : Below W.heap.size W W') : TB lo hi W' po pc ns := ⟨h.t.next hb, h.o, h.s⟩
theorem TB.kp {lo hi l2 h2 : Nat} {W W' : World} {po : Option Addr} {pc : Nat} {ns : List Rm} (h : TB lo hi W po pc ns) (k : Kp (fun b => l2 ≤ b ∧ b < h2) W W') (ha : hi ≤ l2 ∨ h2 ≤ lo) : TB lo hi W' po pc ns := by
  refine ⟨⟨h.t.own.kp k (fun b hb => ?_), fun m hm => ⟨(h.t.sub m hm).1.kp k ?_, (h.t.sub m hm).2⟩, h.t.apart⟩, h.o, h.s⟩
  · have h1 := h.o b hb
    have h3 := h.t.own.ge b hb
    omega
  · have h1 := h.s m hm
    have h3 := (h.t.sub m hm).1.lo
    omega
/-- Rows that are marked. -/
def MkT (lo : Nat) (W : World) (po : Option Addr) (ns : List Rm) : Prop := ns = [] ∨ ∃ g, po = some ⟨g, 0, none⟩ ∧ RW lo W g ns.length (mkL ns 1)
theorem MkT.next {lo : Nat} {W W' : World} {po : Option Addr} {ns : List Rm} (h : MkT lo W po ns) (hb : Below W.heap.size W W') : MkT lo W' po ns := by
  rcases h with h | ⟨g, h1, h2⟩
  · exact .inl h
  · exact .inr ⟨g, h1, h2.next hb⟩
set_option maxHeartbeats 1000000 in
theorem mark0_any (q k : Nat) (p : Option Addr) (w : World) :
    Calls Try.prog 13 #[.slice p 0 q, .int .i64 k] w fun e w' => e = .returned (.int .i64 k) ∧ w' = w := by
  go_enter Try.func13, Try.ntmps13
  go_wp2
  go_loopw [1, 5] (fun s1 s5 wr => s5 = .int .i64 0 ∧ s1 = .int .i64 k ∧ wr = w) (fun _ s5 _ => 0)
  case atStart => exact ⟨rfl, rfl, rfl⟩
  case round =>
    obtain ⟨rfl, rfl, rfl⟩ := hrel
    go_wp2
    go_ret
    exact ⟨rfl, rfl⟩
set_option maxHeartbeats 1000000 in
theorem held0_any (q k : Nat) (p : Option Addr) (w : World) :
    Calls Try.prog 14 #[.slice p 0 q, .int .i64 k] w fun e w' => e = .returned (.int .i64 k) ∧ w' = w := by
  go_enter Try.func14, Try.ntmps14
  go_wp2
  go_loopw [1, 5] (fun s1 s5 wr => s5 = .int .i64 0 ∧ s1 = .int .i64 k ∧ wr = w) (fun _ s5 _ => 0)
  case atStart => exact ⟨rfl, rfl, rfl⟩
  case round =>
    obtain ⟨rfl, rfl, rfl⟩ := hrel
    go_wp2
    go_ret
    exact ⟨rfl, rfl⟩
theorem markT_any (lo hi q : Nat) (po : Option Addr) (ns : List Rm) (w : World) (hm : ns.length ≤ 1048576) (hx : ∀ x ∈ ns, x.r.vs.length ≤ 1048576) (hk : 1 + cntL ns ≤ 100000000) (h : ns = [] ∨ ∃ g, po = some ⟨g, 0, none⟩ ∧ RW lo w g ns.length ns ∧ g < hi ∧ ∀ m ∈ ns, blk m.p < hi) :
    Calls Try.prog 13 #[.slice po ns.length q, .int .i64 1] w fun e w' => e = .returned (.int .i64 ((1 + cntL ns : Nat) : Int)) ∧ Kp (fun b => lo ≤ b ∧ b < hi) w w' ∧ MkT lo w' po ns := by
  rcases h with rfl | ⟨g, rfl, hR, hg, hs⟩
  · refine (mark0_any q 1 po w).mono ?_
    rintro e w' ⟨rfl, rfl⟩
    exact ⟨rfl, Kp.of_below (Below.refl _ _), .inl rfl⟩
  · refine (markRs_any lo g q 1 ns w hm hx hk hR).mono ?_
    rintro e w' ⟨rfl, hK, hR'⟩
    refine ⟨rfl, ⟨hK.os, hK.tape, hK.output, hK.size, fun b hb hn => hK.block b hb (fun e => hn ?_)⟩, .inr ⟨g, rfl, hR'⟩⟩
    rcases e with rfl | ⟨m, hm, rfl⟩
    · exact ⟨hR.ge, hg⟩
    · exact ⟨(hR.sub m hm).1.lo, hs m hm⟩
theorem heldT_any (lo q : Nat) (po : Option Addr) (ns : List Rm) (w : World) (hm : ns.length ≤ 1048576) (hx : ∀ x ∈ ns, x.r.vs.length ≤ 1048576) (hk : 1 + cntL ns ≤ 100000000) (h : MkT lo w po ns) :
    Calls Try.prog 14 #[.slice po ns.length q, .int .i64 1] w fun e w' => e = .returned (.int .i64 ((1 + cntL ns : Nat) : Int)) ∧ Below w.heap.size w w' := by
  rcases h with rfl | ⟨g, rfl, hR⟩
  · refine (held0_any q 1 po w).mono ?_
    rintro e w' ⟨rfl, rfl⟩
    exact ⟨rfl, Below.refl _ _⟩
  · exact heldRs_any lo g q 1 ns w hm hx hk hR
theorem RW.ready {lo : Nat} {W : World} {n : Nat} {ms : List Rm} {g : Nat} (h : RW lo W g n ms) (hn : ms.length = n) : ms = [] ∨ ∃ g', some (⟨g, 0, none⟩ : Addr) = some ⟨g', 0, none⟩ ∧ RW lo W g' ms.length ms ∧ g' < W.heap.size ∧ ∀ m ∈ ms, blk m.p < W.heap.size := .inr ⟨g, rfl, hn ▸ h, h.up, fun m hm => (h.sub m hm).1.up⟩
theorem TB.ready {lo hi : Nat} {W : World} {po : Option Addr} {pc : Nat} {ns : List Rm} (h : TB lo hi W po pc ns) : ns = [] ∨ ∃ g, po = some ⟨g, 0, none⟩ ∧ RW lo W g ns.length ns ∧ g < hi ∧ ∀ m ∈ ns, blk m.p < hi := by
  by_cases h0 : ns = []
  · exact .inl h0
  · obtain ⟨g, rfl, hR⟩ := h.t.rw h0
    exact .inr ⟨g, rfl, hR, h.o g rfl, h.s⟩
theorem bel_kp {w W W' : World} {lo hi : Nat} (h : Hid (Below w.heap.size w W)) (k : Kp (fun b => lo ≤ b ∧ b < hi) W W') (hl : w.heap.size ≤ lo) : Hid (Below w.heap.size w W') := h.out.trans (k.below h.out.size (fun b hb e => by omega))
theorem specP_of (lo n q : Nat) (p : Option Addr) (aa ms : List Rm) (pt : Int) (w : World) (hl : aa.length = n) (ha : ms.map Rm.r = aa.map Rm.r) (hm : (n : Int) ≤ 1048576) (hx : ∀ x ∈ aa, (x.r.vs.length : Int) ≤ 1048576) (hk : ∀ x ∈ aa, x.r.key.size < 1099511627776) (hr0 : RR lo w p ms) :
    Calls Try.prog 11 #[.slice p n q, .int .i64 pt] w (PtP aa pt w) := by
  have e1 := (len_r ha).trans hl
  rw [← e1] at hm ⊢
  refine (specPart lo q p ms pt w hm (vs_le ha hx) (fun x h => ?_) hr0).mono ?_
  · have : x.r ∈ aa.map Rm.r := ha ▸ List.mem_map_of_mem h
    obtain ⟨y, hy, e⟩ := List.mem_map.1 this
    rw [← e]
    exact hk y hy
  · rintro e w' ⟨c, L, po, pc, ns, h1, h2⟩
    exact ⟨c, L, po, pc, ns, h1.same ha, h2⟩
theorem implP_of (lo n q : Nat) (p : Option Addr) (aa ms : List Rm) (pt : Int) (w : World) (hl : aa.length = n) (ha : ms.map Rm.r = aa.map Rm.r) (hm : (n : Int) ≤ 1048576) (hx : ∀ x ∈ aa, (x.r.vs.length : Int) ≤ 1048576) (hk : ∀ x ∈ aa, x.r.key.size < 1099511627776) (hr0 : RR lo w p ms) :
    Calls Try.prog 12 #[.slice p n q, .int .i64 pt] w (PtP aa pt w) := by
  have e1 := (len_r ha).trans hl
  rw [← e1] at hm ⊢
  refine (implPart lo q p ms pt w hm (vs_le ha hx) (fun x h => ?_) hr0).mono ?_
  · have : x.r ∈ aa.map Rm.r := ha ▸ List.mem_map_of_mem h
    obtain ⟨y, hy, e⟩ := List.mem_map.1 this
    rw [← e]
    exact hk y hy
  · rintro e w' ⟨c, L, po, pc, ns, h1, h2⟩
    exact ⟨c, L, po, pc, ns, h1.same ha, h2⟩
theorem szRs_cnt {aa : List Rm} {m : Int} (h : ¬ szRs (aa.map Rm.r) m < 0) (hm : m ≤ 1048576) : cR (aa.map Rm.r) ≤ 4000000 := by
  have h1 := szRs_ok h
  have h2 := cR_tot (aa.map Rm.r)
  rw [List.length_map] at h1 h2
  omega
theorem in_aa {aa : List Rm} {L : List Rw} {ns : List Rm} (hs : ∀ r ∈ L, r ∈ aa.map Rm.r) (hn : ns.map Rm.r = L) (hx : ∀ x ∈ aa, (x.r.vs.length : Int) ≤ 1048576) : ∀ x ∈ ns, (x.r.vs.length : Int) ≤ 1048576 := fun x hxn => by
  have h1 : x.r ∈ aa.map Rm.r := hs _ (hn ▸ List.mem_map_of_mem hxn)
  obtain ⟨y, hy, e⟩ := List.mem_map.1 h1
  rw [← e]
  exact hx y hy
end Go.Proofs.Ytomcpdbaenohdaa
