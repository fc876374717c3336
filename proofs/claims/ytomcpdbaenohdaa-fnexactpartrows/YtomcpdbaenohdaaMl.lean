/- Rows of a view are marked. -/
import Derived.Test.YtomcpdbaenohdaaRows
import Derived.WalkKit
import Derived.WalkSpells
import Derived.WalkLawsBesides
import Derived.Deep.QuietTactic
import Derived.BigQuiet
import Derived.Deep.RegionHeld3
import Derived.Test.YtomcpdbaenohdaaMt
import Derived.LoopN
namespace Go.Proofs.Ytomcpdbaenohdaa
open Go.RowKit
set_option linter.unusedSimpArgs false
set_option linter.unusedVariables false

theorem set_mid {α : Type} (a b : List α) (x y : α) (j : Nat) (h : a.length = j) : (a ++ x :: b).set j y = a ++ y :: b := by
  subst h
  rw [List.set_append_right _ _ (Nat.le_refl _), Nat.sub_self, List.set_cons_zero]
theorem mid_at {ms : List Rm} {j k : Nat} (h : j < ms.length) : mkL (ms.take j) k ++ ms.drop j = mkL (ms.take j) k ++ ms[j] :: ms.drop (j + 1) := by rw [List.drop_eq_getElem_cons h]
theorem mid_len {ms : List Rm} {j k : Nat} (h : j ≤ ms.length) : (mkL (ms.take j) k).length = j := by rw [mkL_len, List.length_take]; omega
theorem mid_next {ms : List Rm} {j k : Nat} (h : j < ms.length) : (mkL (ms.take j) k ++ ms.drop j).set j (mkM ms[j] (k + cntL (ms.take j))) = mkL (ms.take (j + 1)) k ++ ms.drop (j + 1) := by
  rw [mid_at h, set_mid _ _ _ _ _ (mid_len (by omega)), mkL_take h, List.append_assoc, List.singleton_append]
theorem mid_get {ms : List Rm} {j k : Nat} (h : j < ms.length) (h' : j < (mkL (ms.take j) k ++ ms.drop j).length) : (mkL (ms.take j) k ++ ms.drop j)[j] = ms[j] := by
  have e : (mkL (ms.take j) k ++ ms.drop j)[j]? = some ms[j] := by
    rw [List.getElem?_append_right (by rw [mid_len (by omega)]; exact Nat.le_refl _), mid_len (by omega), Nat.sub_self, List.getElem?_drop]
    simp [h]
  rw [List.getElem?_eq_getElem h'] at e
  exact Option.some.inj e
theorem mid_tot {ms : List Rm} {j k : Nat} (h : j ≤ ms.length) : (mkL (ms.take j) k ++ ms.drop j).length = ms.length := by rw [List.length_append, mid_len h, List.length_drop]; omega
def KB (g : Nat) (ms : List Rm) : Nat → Prop := fun b => b = g ∨ ∃ m ∈ ms, b = blk m.p
set_option maxRecDepth 20000 in
set_option maxHeartbeats 4000000 in
theorem markRs_any (lo g q k : Nat) (ms : List Rm) (w : World) (hm : ms.length ≤ 1048576) (hx : ∀ x ∈ ms, x.r.vs.length ≤ 1048576) (hk : k + cntL ms ≤ 100000000) (hR0 : RW lo w g ms.length ms) :
    Calls Try.prog 13 #[.slice (some ⟨g, 0, none⟩) ms.length q, .int .i64 k] w fun e w' => e = .returned (.int .i64 ((k + cntL ms : Nat) : Int)) ∧ Kp (KB g ms) w w' ∧ RW lo w' g ms.length (mkL ms k) := by
  have hR : Hid (RW lo w g ms.length ms) := hR0
  have hX : Hid (∀ x ∈ ms, x.r.vs.length ≤ 1048576) := hx
  clear hR0 hx
  go_enter Try.func13, Try.ntmps13
  go_wp2
  go_loopw [1, 5] (fun s1 s5 wr => ∃ j : Nat, j ≤ ms.length ∧ s5 = .int .i64 j ∧ s1 = .int .i64 ((k + cntL (ms.take j) : Nat) : Int) ∧ Kp (KB g ms) w wr ∧ RW lo wr g ms.length (mkL (ms.take j) k ++ ms.drop j)) (fun _ s5 _ => ms.length - (intOf s5).toNat)
  case atStart => exact ⟨0, by omega, rfl, by simp [cntL], Kp.of_below (Below.refl _ _), by simpa [mkL] using hR.out⟩
  case round =>
    obtain ⟨j, hj, rfl, rfl, hG0, hT0⟩ := hrel
    have hG : Hid (Kp (KB g ms) w wr) := hG0
    have hT : Hid (RW lo wr g ms.length (mkL (ms.take j) k ++ ms.drop j)) := hT0
    clear hG0 hT0 hR
    by_cases hjn : j < ms.length
    · have hjn' : (j : Int) < (ms.length : Int) := by omega
      have j0 : (0 : Int) ≤ (j : Int) := by omega
      have hjl : j < (mkL (ms.take j) k ++ ms.drop j).length := by rw [mid_tot (by omega)]; exact hjn
      have hce := cntL_at hjn
      have hvl := hX.out _ (List.getElem_mem hjn)
      have HN : Hid (∀ W', RW lo W' g ms.length ((mkL (ms.take j) k ++ ms.drop j).set j (mkM (mkL (ms.take j) k ++ ms.drop j)[j] (k + cntL (ms.take j)))) → Kp (fun b => b = g ∨ b = blk (mkL (ms.take j) k ++ ms.drop j)[j].p) wr W' → RW lo W' g ms.length (mkL (ms.take (j + 1)) k ++ ms.drop (j + 1)) ∧ Kp (KB g ms) w W') := fun W' h1 h2 => by
        rw [mid_get hjn hjl] at h1 h2
        rw [mid_next hjn] at h1
        exact ⟨h1, hG.out.trans h2 (fun _ _ h => h) (fun x _ h => h.elim .inl (fun h => .inr ⟨_, List.getElem_mem hjn, h⟩))⟩
      have HC : Hid (k + cntL (ms.take (j + 1)) = k + cntL (ms.take j) + ((mkL (ms.take j) k ++ ms.drop j)[j].r.vs.length + 2)) := by
        show _ = _
        rw [mid_get hjn hjl, cntL_take hjn]
        omega
      have hvl2 : (mkL (ms.take j) k ++ ms.drop j)[j].r.vs.length ≤ 1048576 := by rw [mid_get hjn hjl]; exact hvl
      have hkb : k + cntL (ms.take j) ≤ 100000000 - 2 := by omega
      clear hce hvl
      generalize hcc : k + cntL (ms.take j) = c at *
      clear hcc
      generalize mkL (ms.take j) k ++ ms.drop j = l at *
      have HM : Hid (∀ w1 w2, Below (wr.setCell ⟨g, j * 3, none⟩ (.int .i64 (c : Nat))).heap.size (wr.setCell ⟨g, j * 3, none⟩ (.int .i64 (c : Nat))) w1 → (w1.setCell ⟨g, j * 3 + 1, none⟩ (.string (mt (c + 1)))).grownBy w2 (some (blk l[j].p)) → There w2 (blk l[j].p) l[j].r.vs.length → (∀ i, i < l[j].r.vs.length → w2.cell? ⟨blk l[j].p, i, none⟩ = some (.int .i64 (((c + 2 : Nat) : Int) + i))) → RW lo w2 g ms.length (l.set j (mkM l[j] c)) ∧ Kp (fun b => b = g ∨ b = blk l[j].p) wr w2) := fun w1 w2 h1 h2 h3 h4 => hT.out.mark hjl h1 h2 h3 h4
      have SB : Hid (Sub lo wr l[j] ∧ blk l[j].p ≠ g) := hT.out.sub _ (List.getElem_mem hjl)
      have AT : Hid (RAt wr g (j * 3) l[j]) := hT.out.is j hjl
      have TH : Hid (There wr g (ms.length * 3) ∧ g < wr.heap.size) := ⟨hT.out.wr, hT.out.up⟩
      clear hT hG
      generalize hxx : l[j] = x at *
      clear hxx
      have h3 : j * 3 + 2 < ms.length * 3 := by omega
      obtain ⟨v0, y0⟩ := Option.isSome_iff_exists.1 (TH.out.1 (j * 3) (by omega)).1
      have z0 := (TH.out.1 (j * 3) (by omega)).2
      have e1 : IntKind.i64.wrap ((c : Int) + 1) = ((c + 1 : Nat) : Int) := by rw [IntKind.wrap_i64]; omega
      have e2 : IntKind.i64.wrap (((c + 1 : Nat) : Int) + 1) = ((c + 2 : Nat) : Int) := by rw [IntKind.wrap_i64]; omega
      have MT : Hid (∀ W, Calls Try.prog 29 #[.int .i64 ((c + 1 : Nat) : Int)] W fun e w' => e = .returned (.string (mt (c + 1))) ∧ Below W.heap.size W w') := fun W => markText_any (c + 1) (by omega) (by omega) W
      generalize hd : (((c + 1 : Nat)) : Int) = d1 at *
      go_wp2_with fail
      refine (MT.out _).mono ?_
      rintro e w1 ⟨rfl, hb⟩
      have HB : Hid (Below (wr.setCell ⟨g, j * 3, none⟩ (.int .i64 (c : Nat))).heap.size (wr.setCell ⟨g, j * 3, none⟩ (.int .i64 (c : Nat))) w1) := hb
      have hg1 : g < (wr.setCell ⟨g, j * 3, none⟩ (.int .i64 (c : Nat))).heap.size := by simpa [World.setCell] using TH.out.2
      have T1 : Hid (There w1 g (ms.length * 3)) := (TH.out.1.set).next hb hg1
      have A1 : Hid (w1.cell? ⟨g, j * 3 + 2, none⟩ = some (.slice x.p x.r.vs.length x.q)) := cell_next hb (cell_oth AT.out.2.2 (by omega)) hg1
      have S1 : Hid (Sub lo w1 x ∧ blk x.p ≠ g) := ⟨(SB.out.1.oth SB.out.2).next hb, SB.out.2⟩
      clear hb y0 z0
      obtain ⟨v1, y1⟩ := Option.isSome_iff_exists.1 (T1.out (j * 3 + 1) (by omega)).1
      have z1 := (T1.out (j * 3 + 1) (by omega)).2
      generalize hm : mt (c + 1) = mm at *
      have A2 : (w1.setCell ⟨g, j * 3 + 1, none⟩ (.string mm)).cell? ⟨g, j * 3 + 2, none⟩ = some (.slice x.p x.r.vs.length x.q) := cell_oth A1.out (by omega)
      have S2 : Hid (Sub lo (w1.setCell ⟨g, j * 3 + 1, none⟩ (.string mm)) x) := S1.out.1.oth S1.out.2
      have MI : Hid (Calls Try.prog 30 #[.slice x.p x.r.vs.length x.q, .int .i64 ((c + 2 : Nat) : Int)] (w1.setCell ⟨g, j * 3 + 1, none⟩ (.string mm)) fun e w' => e = .returned (.int .i64 (((c + 2 : Nat) : Int) + x.r.vs.length)) ∧ (w1.setCell ⟨g, j * 3 + 1, none⟩ (.string mm)).grownBy w' (some (blk x.p)) ∧ There w' (blk x.p) x.r.vs.length ∧ ∀ i, i < x.r.vs.length → w'.cell? ⟨blk x.p, i, none⟩ = some (.int .i64 (((c + 2 : Nat) : Int) + i))) := by
        have h := markIs_any (blk x.p) x.r.vs.length x.q (c + 2) (w1.setCell ⟨g, j * 3 + 1, none⟩ (.string mm)) hvl2 (by omega) S2.out.wr
        rw [← S2.out.at'] at h
        exact h
      generalize hf : (((c + 2 : Nat)) : Int) = d2 at *
      go_wp2_with fail
      refine MI.out.mono ?_
      rintro e w2 ⟨rfl, hg, hT2, hv⟩
      have HD : Hid (RW lo w2 g ms.length (mkL (ms.take (j + 1)) k ++ ms.drop (j + 1)) ∧ Kp (KB g ms) w w2) := by
        have h := HM.out w1 w2 HB.out hg hT2 hv
        exact HN.out w2 h.1 h.2
      have hc := HC.out
      have hc2 : d2 + (x.r.vs.length : Int) = ((k + cntL (ms.take (j + 1)) : Nat) : Int) := by omega
      clear hg hT2 hv HM HN HB T1 A1 S1 S2 A2 y1 z1 MI HC
      go_wp2
      go_roundw
      case rel => exact ⟨j + 1, by omega, by go_num, congrArg (Value.int .i64) (by omega), HD.out.2, HD.out.1⟩
      case measure => simp [intOf]; omega
    · have hjn' : ¬ (j : Int) < (ms.length : Int) := by omega
      have e : j = ms.length := by omega
      subst e
      go_wp2
      go_ret
      refine ⟨by first | rfl | (rw [List.take_length]; rfl), hG.out, ?_⟩
      have := hT.out
      rw [List.take_length, List.drop_length, List.append_nil] at this
      exact this

set_option maxRecDepth 20000 in
set_option maxHeartbeats 4000000 in
theorem heldRs_any (lo g q k : Nat) (ms : List Rm) (w : World) (hm : ms.length ≤ 1048576) (hx : ∀ x ∈ ms, x.r.vs.length ≤ 1048576) (hk : k + cntL ms ≤ 100000000) (hR0 : RW lo w g ms.length (mkL ms k)) :
    Calls Try.prog 14 #[.slice (some ⟨g, 0, none⟩) ms.length q, .int .i64 k] w fun e w' => e = .returned (.int .i64 ((k + cntL ms : Nat) : Int)) ∧ Below w.heap.size w w' := by
  have hR : Hid (RW lo w g ms.length (mkL ms k)) := hR0
  have hX : Hid (∀ x ∈ ms, x.r.vs.length ≤ 1048576) := hx
  clear hR0 hx
  go_enter Try.func14, Try.ntmps14
  go_wp2
  go_loopw [1, 5] (fun s1 s5 wr => ∃ j : Nat, j ≤ ms.length ∧ s5 = .int .i64 j ∧ s1 = .int .i64 ((k + cntL (ms.take j) : Nat) : Int) ∧ Below w.heap.size w wr) (fun _ s5 _ => ms.length - (intOf s5).toNat)
  case atStart => exact ⟨0, by omega, rfl, by simp [cntL], Below.refl _ _⟩
  case round =>
    obtain ⟨j, hj, rfl, rfl, hB0⟩ := hrel
    have hB : Hid (Below w.heap.size w wr) := hB0
    clear hB0
    by_cases hjn : j < ms.length
    · have hjn' : (j : Int) < (ms.length : Int) := by omega
      have j0 : (0 : Int) ≤ (j : Int) := by omega
      have hjl : j < (mkL ms k).length := by rw [mkL_len]; exact hjn
      have hce := cntL_at hjn
      have hvl := hX.out _ (List.getElem_mem hjn)
      have hc := cntL_take hjn
      have AT : Hid (RAt w g (j * 3) (mkM ms[j] (k + cntL (ms.take j)))) := by
        have := hR.out.is j hjl
        rw [mkL_at hjn] at this
        exact this
      have SB : Hid (Sub lo w (mkM ms[j] (k + cntL (ms.take j)))) := by
        have := (hR.out.sub _ (List.getElem_mem hjl)).1
        rw [mkL_at hjn] at this
        exact this
      have HU : Hid (g < w.heap.size) := hR.out.up
      have hkb : k + cntL (ms.take j) + (ms[j].r.vs.length + 2) ≤ 100000000 := by omega
      have HC : Hid (k + cntL (ms.take (j + 1)) = k + cntL (ms.take j) + (ms[j].r.vs.length + 2)) := by show _ = _; omega
      clear hce hc hR
      generalize hcc : k + cntL (ms.take j) = c at *
      clear hcc
      generalize hxx : ms[j] = x at *
      clear hxx
      have A1 := AT.out.next hB.out HU.out
      have SI : Hid (∀ W, Below w.heap.size w W → Calls Try.prog 31 #[.slice x.p x.r.vs.length x.q, .int .i64 ((c + 2 : Nat) : Int)] W fun e w' => e = .returned (.int .i64 (((c + 2 : Nat) : Int) + x.r.vs.length)) ∧ w' = W) := fun W hW => by
        have hs := SB.out.next hW
        have h := heldIs_any (blk x.p) x.r.vs.length x.q (c + 2) W hvl (by omega) (fun i hi => by
          have h2 := hs.is i (by show i < (mk1 x.r c).vs.length; rw [mk1_len]; exact hi)
          rw [show W.cell? ⟨blk (mkM x c).p, i, none⟩ = W.cell? ⟨blk x.p, i, none⟩ from rfl] at h2
          rw [h2]
          simp [mkM, mk1])
        have e : x.p = some ⟨blk x.p, 0, none⟩ := hs.at'
        rw [← e] at h
        exact h
      obtain ⟨a0, a1, a2⟩ := A1
      simp only [mkM, mk1] at a0 a1
      have a2' : wr.cell? ⟨g, j * 3 + 2, none⟩ = some (.slice x.p x.r.vs.length x.q) := by
        have : wr.cell? ⟨g, j * 3 + 2, none⟩ = some (.slice x.p (mk1 x.r c).vs.length x.q) := a2
        rw [mk1_len] at this
        exact this
      clear a2 SB AT
      have HG : Hid (g < wr.heap.size) := Nat.lt_of_lt_of_le HU.out hB.out.size
      have HA : Hid (∀ W, Below wr.heap.size wr W → W.cell? ⟨g, j * 3 + 2, none⟩ = some (.slice x.p x.r.vs.length x.q)) := fun W hW => cell_next hW a2' HG.out
      have e1 : IntKind.i64.wrap ((c : Int) + 1) = ((c + 1 : Nat) : Int) := by rw [IntKind.wrap_i64]; omega
      have e2 : IntKind.i64.wrap (((c + 1 : Nat) : Int) + 1) = ((c + 2 : Nat) : Int) := by rw [IntKind.wrap_i64]; omega
      have MT : Hid (∀ W, Calls Try.prog 29 #[.int .i64 ((c + 1 : Nat) : Int)] W fun e w' => e = .returned (.string (mt (c + 1))) ∧ Below W.heap.size W w') := fun W => markText_any (c + 1) (by omega) (by omega) W
      generalize hd : (((c + 1 : Nat)) : Int) = d1 at *
      generalize hm : mt (c + 1) = mm at *
      clear a2'
      go_upto_region 7 with fail
      go_region_held3 (fun w' => w'.cell? ⟨g, j * 3 + 1, none⟩ = some (.string mm)) (first | (with_reducible assumption) | exact a1) (first | (go_at_call 29; refine (MT.out _).mono ?_; rintro e w1 ⟨rfl, hb⟩; have hK := cell_next hb a1 HG.out))
      have hB1 : Hid (Below wr.heap.size wr w1) := (bel_drew wr).trans hb
      have HB2 : Hid (Below w.heap.size w w1) := bel_next hB hB1.out
      have a2 := HA.out _ hB1.out
      clear hb hK a0 a1
      generalize hf : (((c + 2 : Nat)) : Int) = d2 at *
      have hn0 : ¬ d2 + (x.r.vs.length : Int) < 0 := by omega
      go_wp2_with fail
      refine (SI.out _ HB2.out).mono ?_
      rintro e w2 ⟨rfl, hw2⟩
      subst hw2
      have hc2 : Hid (d2 + (x.r.vs.length : Int) = ((k + cntL (ms.take (j + 1)) : Nat) : Int)) := by have := HC.out; show _ = _; omega
      clear HC
      go_wp2
      go_roundw
      case rel => exact ⟨j + 1, by omega, by go_num, congrArg (Value.int .i64) (by have := hc2.out; omega), HB2.out⟩
      case measure => simp [intOf]; omega
    · have hjn' : ¬ (j : Int) < (ms.length : Int) := by omega
      have e : j = ms.length := by omega
      subst e
      go_wp2
      go_ret
      exact ⟨by first | rfl | (rw [List.take_length]; rfl), hB.out⟩
end Go.Proofs.Ytomcpdbaenohdaa
