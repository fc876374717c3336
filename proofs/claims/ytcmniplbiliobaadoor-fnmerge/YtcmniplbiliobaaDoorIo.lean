/- An object is right: as the program reckons it. -/
import Derived.Test.YtcmniplbiliobaaDoorRows
import Derived.WalkKit
import Derived.WalkSpells
import Derived.WalkLawsBesides
import Derived.Deep.QuietTactic
import Derived.BigQuiet
import Derived.Deep.RegionHeld3
import Derived.Test.YtcmniplbiliobaaDoorIm
import Derived.Test.YtcmniplbiliobaaDoorSd
import Derived.LoopN
import Derived.Deep.RegionWith
namespace Go.Proofs.YtcmniplbiliobaaDoor
open Go.RowKit
set_option linter.unusedSimpArgs false
set_option linter.unusedVariables false

def Good (l : List Sib) (a b c : Int) (i : Nat) (h : i < l.length) : Prop := sibOK l[i].p l[i].n l[i].v l[i].d = true ∧ decide (l[i].n ≤ comp a b c l[i].p) = true ∧ ∀ h0 : 0 < i, dotsI l[i - 1].p l[i - 1].n l[i].p l[i].n < 0
def OkP (l : List Sib) (a b c : Int) : Prop := l.length ≤ 100 ∧ vvB a b c = true ∧ ∀ i (h : i < l.length), Good l a b c i h
theorem sib_node {x : Sib} (h : sibOK x.p x.n x.v x.d = true) : 0 ≤ x.p ∧ x.p < 3 := by
  unfold sibOK dotB at h
  simp at h
  omega

theorem box_alloc {w : World} {o : Obj} {g j : Nat} {v : Value} (h : w.cell? ⟨g, j, none⟩ = some v) (hg : g < w.heap.size) : (w.alloc o).cell? ⟨g, j, none⟩ = some v :=
  cell_next ((Below.refl _ _).alloc (Nat.le_refl _) _) h hg
theorem ok_keep5 {W w1 : World} {g h p q : Nat} {ao : Option Addr} {n cap : Nat} {x y : Sib} (hb : Below W.drew.heap.size W.drew w1) (c0 : W.cell? ⟨g, 0, none⟩ = some (.slice ao n cap)) (c1 : W.cell? ⟨h, 0, none⟩ = some (.int .i64 y.p)) (c2 : W.cell? ⟨h, 1, none⟩ = some (.int .i64 y.n)) (c3 : W.cell? ⟨p, q, none⟩ = some (.int .i64 x.p)) (c4 : W.cell? ⟨p, q + 1, none⟩ = some (.int .i64 x.n)) : w1.cell? ⟨g, 0, none⟩ = some (.slice ao n cap) ∧ w1.cell? ⟨h, 0, none⟩ = some (.int .i64 y.p) ∧ w1.cell? ⟨h, 1, none⟩ = some (.int .i64 y.n) ∧ w1.cell? ⟨p, q, none⟩ = some (.int .i64 x.p) ∧ w1.cell? ⟨p, q + 1, none⟩ = some (.int .i64 x.n) :=
  ⟨cell_next hb c0 (cell_lt (x := ⟨g, 0, none⟩) c0), cell_next hb c1 (cell_lt (x := ⟨h, 0, none⟩) c1), cell_next hb c2 (cell_lt (x := ⟨h, 1, none⟩) c2), cell_next hb c3 (cell_lt (x := ⟨p, q, none⟩) c3), cell_next hb c4 (cell_lt (x := ⟨p, q + 1, none⟩) c4)⟩
theorem obj_cells {w W : World} (hb : Below w.heap.size w W) : True := trivial
def oS (g h p : Nat) (q o : Nat) (ao : Option Addr) (n cap : Nat) (x y : Sib) (w : World) : Prop := w.cell? ⟨g, 0, none⟩ = some (.slice ao n cap) ∧ w.cell? ⟨h, 0, none⟩ = some (.int .i64 y.p) ∧ w.cell? ⟨h, 1, none⟩ = some (.int .i64 y.n) ∧ w.cell? ⟨p, q, none⟩ = some (.int .i64 x.p) ∧ w.cell? ⟨p, q + 1, none⟩ = some (.int .i64 x.n)

set_option maxHeartbeats 4000000 in
theorem implOK_any (cap : Nat) (ao : Option Addr) (l : List Sib) (a b c : Int) (r : Bool) (hres : Hid (r = true ↔ OkP l a b c)) (w : World) (hm : (l.length : Int) ≤ 1048576) (hr0 : SibRow w ao l) :
    Calls Tryd.prog 33 #[.agg #[.slice ao l.length cap, .int .i64 a, .int .i64 b, .int .i64 c]] w fun e w' => e = .returned (.bool r) ∧ Below w.heap.size w w' := by
  have hr : Hid (SibRow w ao l) := hr0
  clear hr0
  by_cases hlen : l.length ≤ 100
  case neg =>
    have HR : Hid (r = false) := bool_no hres (fun h => hlen h.1)
    have d0 : decide ((100 : Int) < (l.length : Int)) = true := decide_eq_true (by omega)
    have d1 : (100 : Int) < (l.length : Int) := by omega
    clear hlen
    go_enter Tryd.func33, Tryd.ntmps33
    go_wp2
    go_ret
    refine ⟨ret_bool HR.out.symm, ?_⟩
    repeat (first | exact Below.refl _ _ | refine Below.drew ?_ | refine below_drewN ?_ _ | refine Below.alloc ?_ (by first | (simp; done) | (simp; omega)) _ | refine Below.setCell ?_ (by first | (simp; done) | (simp; omega)) _)
  have d0 : decide ((100 : Int) < (l.length : Int)) = false := decide_eq_false (by omega)
  cases hv : vvB a b c
  · have HR : Hid (r = false) := bool_no hres (fun h => by rw [h.2.1] at hv; cases hv)
    go_enter Tryd.func33, Tryd.ntmps33
    go_wp2_with fail
    refine (impl_vv a b c _).mono ?_
    rintro e w1 ⟨rfl, hb⟩
    have hB : Hid (Below w.heap.size w w1) := ((Below.refl _ _).alloc (Nat.le_refl _) _).trans (hb.mono (by simp))
    clear hb
    go_wp2
    go_ret
    exact ⟨ret_bool HR.out.symm, hB.out⟩
  have HV : Hid (vvB a b c = true) := hv
  have HN : Hid (l.length ≤ 100) := hlen
  go_enter Tryd.func33, Tryd.ntmps33
  go_wp2_with fail
  refine (impl_vv a b c _).mono ?_
  rintro e w1 ⟨rfl, hb⟩
  have hB : Hid (Below w.heap.size w w1) := ((Below.refl _ _).alloc (Nat.le_refl _) _).trans (hb.mono (by simp))
  have C0 := cell_next hb (b := w.heap.size) (o := 0) (v := .slice ao l.length cap) (by go_simp) (by simp)
  have C1 := cell_next hb (b := w.heap.size) (o := 1) (v := .int .i64 a) (by go_simp) (by simp)
  have C2 := cell_next hb (b := w.heap.size) (o := 2) (v := .int .i64 b) (by go_simp) (by simp)
  have C3 := cell_next hb (b := w.heap.size) (o := 3) (v := .int .i64 c) (by go_simp) (by simp)
  have hz := hb.size
  simp at hz
  clear hb hlen
  go_wp2
  clear hv
  go_loopw [18] (fun s18 wr => ∃ k : Nat, k ≤ l.length ∧ s18 = .int .i64 k ∧ Below w.heap.size w wr ∧ (∀ i (h : i < l.length), i < k → Good l a b c i h) ∧ w.heap.size < wr.heap.size ∧ wr.cell? ⟨w.heap.size, 0, none⟩ = some (.slice ao l.length cap) ∧ wr.cell? ⟨w.heap.size, 1, none⟩ = some (.int .i64 a) ∧ wr.cell? ⟨w.heap.size, 2, none⟩ = some (.int .i64 b) ∧ wr.cell? ⟨w.heap.size, 3, none⟩ = some (.int .i64 c)) (fun s18 _ => l.length - (intOf s18).toNat)
  case atStart => exact ⟨0, by omega, rfl, hB.out, fun i h h' => by omega, by omega, C0, C1, C2, C3⟩
  case round =>
    clear hB C0 C1 C2 C3 hz
    obtain ⟨k, hk, rfl, hB0, hG0, hz, C0, C1, C2, C3⟩ := hrel
    have hB : Hid (Below w.heap.size w wr) := hB0
    have hG : Hid (∀ i (h : i < l.length), i < k → Good l a b c i h) := hG0
    clear hB0 hG0
    by_cases hkl : k < l.length
    · have hkl' : (k : Int) < (l.length : Int) := by omega
      have k0 : (0 : Int) ≤ (k : Int) := by omega
      rcases hr.out with h' | ⟨p, off, rfl, h2⟩
      · rw [h'] at hkl; simp at hkl
      obtain ⟨x0, x1, x2, x3⟩ := (h2 k hkl).next hB.out (cell_lt (x := ⟨p, off + k * 4, none⟩) (h2 k hkl).1)
      have hH2 : Hid (∀ i (h : i < l.length), SibAt w p (off + i * 4) l[i]) := h2
      clear h2
      go_wp2_with fail
      refine (implSib_any l[k].p l[k].n l[k].v l[k].d _).mono ?_
      rintro e w2 ⟨rfl, hb⟩
      have hz2 := hb.size
      simp at hz2
      have hB2 : Hid (Below w.heap.size w w2) := (hB.out.alloc (by omega) _).trans (hb.mono (by simp; omega))
      have D0 := cell_next hb (b := wr.heap.size) (o := 0) (v := .int .i64 l[k].p) (by go_simp) (by simp)
      have D1 := cell_next hb (b := wr.heap.size) (o := 1) (v := .int .i64 l[k].n) (by go_simp) (by simp)
      have E0 := cell_next hb (box_alloc C0 hz) (by simp; omega)
      have E1 := cell_next hb (box_alloc C1 hz) (by simp; omega)
      have E2 := cell_next hb (box_alloc C2 hz) (by simp; omega)
      have E3 := cell_next hb (box_alloc C3 hz) (by simp; omega)
      clear hb C0 C1 C2 C3 x0 x1 x2 x3 hB
      cases hs : sibOK l[k].p l[k].n l[k].v l[k].d
      · have HR : Hid (r = false) := bool_no hres (fun h => by rw [(h.2.2 k hkl).1] at hs; cases hs)
        go_wp2
        go_ret
        exact ⟨ret_bool HR.out.symm, hB2.out⟩
      have HS : Hid (sibOK l[k].p l[k].n l[k].v l[k].d = true) := hs
      obtain ⟨n0, n3⟩ := sib_node hs
      go_wp2_with fail
      refine (knows_any a b c l[k].p l[k].n _ n0 n3).mono ?_
      rintro e w3 ⟨rfl, hb⟩
      have hz3 := hb.size
      have hB3 : Hid (Below w.heap.size w w3) := hB2.out.trans (hb.mono (by omega))
      have D0' := cell_next hb D0 (by omega)
      have D1' := cell_next hb D1 (by omega)
      have F0 := cell_next hb E0 (by omega)
      have F1 := cell_next hb E1 (by omega)
      have F2 := cell_next hb E2 (by omega)
      have F3 := cell_next hb E3 (by omega)
      have hz4 : Hid (w.heap.size < w3.heap.size) := by show _ < _; omega
      clear hb D0 D1 E0 E1 E2 E3 hB2
      cases hk1 : decide (l[k].n ≤ comp a b c l[k].p)
      · have HR : Hid (r = false) := bool_no hres (fun h => by rw [(h.2.2 k hkl).2.1] at hk1; cases hk1)
        go_wp2
        go_ret
        exact ⟨ret_bool HR.out.symm, hB3.out⟩
      have HK : Hid (decide (l[k].n ≤ comp a b c l[k].p) = true) := hk1
      clear n0 n3
      rcases Nat.eq_zero_or_pos k with hk0 | hk0
      · subst hk0
        have hG1 : ∀ i (h : i < l.length), i < 0 + 1 → Good l a b c i h := fun i h h3 => by
          have e : i = 0 := by omega
          subst e
          exact ⟨HS.out, HK.out, fun h0 => by omega⟩
        clear hs hk1
        go_wp2
        go_quiet (fail)
        go_wp2
        go_roundw
        case rel => first | exact ⟨0 + 1, by omega, by go_num, below_drewN hB3.out _, hG1, hz4.out, F0, F1, F2, F3⟩ | ((repeat apply Exists.intro); exact ⟨⟨0 + 1, by omega, by go_num, below_drewN hB3.out _, hG1, hz4.out, F0, F1, F2, F3⟩, rfl⟩)
        case measure => simp [intOf]; omega
      · obtain ⟨j, hj⟩ : ∃ j, k = j + 1 := ⟨k - 1, by omega⟩
        have hjk : (k : Int) - 1 = (j : Int) := by omega
        have HJ : Hid (k = j + 1) := hj
        have hjl : j < l.length := by omega
        obtain ⟨y0, y1, _, _⟩ := (hH2.out j hjl).next hB3.out (cell_lt (x := ⟨p, off + j * 4, none⟩) (hH2.out j hjl).1)
        have j0 : (0 : Int) ≤ (j : Int) := by omega
        have jl : (j : Int) < (l.length : Int) := by omega
        have jk : decide (0 < k) = true := decide_eq_true (by omega)
        have jw : IntKind.i64.wrap (j : Int) = (j : Int) := IntWalk.i64_in _ (by omega)
        clear hj hk0
        clear hs hk1
        cases hd : decide (0 ≤ dotsI l[j].p l[j].n l[k].p l[k].n)
        · have HD : Hid (dotsI l[j].p l[j].n l[k].p l[k].n < 0) := by
            have := of_decide_eq_false hd
            show _ < _
            omega
          have hG1 : ∀ i (h : i < l.length), i < k + 1 → Good l a b c i h := fun i h h3 => by
            by_cases e : i = k
            · subst e; exact ⟨HS.out, HK.out, fun _ => by have e := HJ.out; subst e; simpa using HD.out⟩
            · exact hG.out i h (by omega)
          go_wp2
          go_region_held3 (fun w' => w'.cell? ⟨w.heap.size, 0, none⟩ = some (.slice (some ⟨p, off, none⟩) l.length cap) ∧ w'.cell? ⟨wr.heap.size, 0, none⟩ = some (.int .i64 l[k].p) ∧ w'.cell? ⟨wr.heap.size, 1, none⟩ = some (.int .i64 l[k].n) ∧ w'.cell? ⟨p, off + j * 4, none⟩ = some (.int .i64 l[j].p) ∧ w'.cell? ⟨p, off + j * 4 + 1, none⟩ = some (.int .i64 l[j].n)) (first | (with_reducible assumption) | exact ⟨F0, D0', D1', y0, y1⟩) (first | (go_at_call 64; refine (cmpDots_any l[j].p l[j].n l[k].p l[k].n _).mono ?_; rintro e w4 ⟨rfl, hb⟩; have hK := ok_keep5 hb F0 D0' D1' y0 y1))
          have hB4 : Hid (Below w.heap.size w w4) := hB3.out.drew.trans (hb.mono hB3.out.size)
          have G0 := cell_next hb F0 hz4.out
          have G1 := cell_next hb F1 hz4.out
          have G2 := cell_next hb F2 hz4.out
          have G3 := cell_next hb F3 hz4.out
          have hz5 : Hid (w.heap.size < w4.heap.size) := Nat.lt_of_lt_of_le hz4.out hb.size
          clear hb hK F0 F1 F2 F3 D0' D1' y0 y1
          go_wp2
          go_roundw
          case rel => first | exact ⟨k + 1, by omega, by go_num, hB4.out, hG1, hz5.out, G0, G1, G2, G3⟩ | ((repeat apply Exists.intro); exact ⟨⟨k + 1, by omega, by go_num, hB4.out, hG1, hz5.out, G0, G1, G2, G3⟩, rfl⟩)
          case measure => simp [intOf]; omega
        · have HR : Hid (r = false) := bool_no hres (fun h => by
            have h1 := (h.2.2 k hkl).2.2 (by have := HJ.out; omega)
            have h2 := of_decide_eq_true hd
            have e := HJ.out
            subst e
            simp at h1
            omega)
          go_wp2
          go_region_held3 (fun w' => w'.cell? ⟨w.heap.size, 0, none⟩ = some (.slice (some ⟨p, off, none⟩) l.length cap) ∧ w'.cell? ⟨wr.heap.size, 0, none⟩ = some (.int .i64 l[k].p) ∧ w'.cell? ⟨wr.heap.size, 1, none⟩ = some (.int .i64 l[k].n) ∧ w'.cell? ⟨p, off + j * 4, none⟩ = some (.int .i64 l[j].p) ∧ w'.cell? ⟨p, off + j * 4 + 1, none⟩ = some (.int .i64 l[j].n)) (first | (with_reducible assumption) | exact ⟨F0, D0', D1', y0, y1⟩) (first | (go_at_call 64; refine (cmpDots_any l[j].p l[j].n l[k].p l[k].n _).mono ?_; rintro e w4 ⟨rfl, hb⟩; have hK := ok_keep5 hb F0 D0' D1' y0 y1))
          have hB4 : Hid (Below w.heap.size w w4) := hB3.out.drew.trans (hb.mono hB3.out.size)
          clear hb hK F0 F1 F2 F3 D0' D1' y0 y1
          go_wp2
          go_ret
          exact ⟨ret_bool HR.out.symm, hB4.out⟩
    · have hkl' : ¬ (k : Int) < (l.length : Int) := by omega
      have HR : Hid (r = true) := bool_yes hres ⟨HN.out, HV.out, fun i h => hG.out i h (by omega)⟩
      go_wp2
      go_ret
      exact ⟨ret_bool HR.out.symm, hB.out⟩
end Go.Proofs.YtcmniplbiliobaaDoor
