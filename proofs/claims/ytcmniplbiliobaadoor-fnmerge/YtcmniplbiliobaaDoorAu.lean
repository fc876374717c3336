/- appendUnknown: what a context does not know is laid behind. -/
import Derived.Test.YtcmniplbiliobaaDoorRows
import Derived.WalkKit
import Derived.WalkSpells
import Derived.WalkLawsBesides
import Derived.Deep.QuietTactic
import Derived.BigQuiet
import Derived.Deep.RegionHeld3
import Derived.Test.YtcmniplbiliobaaDoorAp
import Derived.Test.YtcmniplbiliobaaDoorIo
import Derived.LoopN
namespace Go.Proofs.YtcmniplbiliobaaDoor
open Go.RowKit
set_option linter.unusedSimpArgs false
set_option linter.unusedVariables false

theorem info_sib : (Tryd.prog.info? 74).map (fun i => (i.zero, i.size, i.bytes)) = some (some (.agg #[.int .i64 0, .int .i64 0, .int .i64 0, .bool false]), 4, 32) := by kernel_rfl
def fil (a b c : Int) (l : List Sib) : List Sib := l.filter fun s => !decide (s.n ≤ comp a b c s.p)
theorem fil_miss {a b c : Int} {l : List Sib} {k : Nat} (h : k < l.length) (hd : decide (l[k].n ≤ comp a b c l[k].p) = true) : fil a b c (l.take (k + 1)) = fil a b c (l.take k) := by
  unfold fil
  rw [List.take_succ_eq_append_getElem h, List.filter_append, List.filter_cons_of_neg (by simp [hd]), List.filter_nil, List.append_nil]
theorem fil_hit {a b c : Int} {l : List Sib} {k : Nat} (h : k < l.length) (hd : decide (l[k].n ≤ comp a b c l[k].p) = false) : fil a b c (l.take (k + 1)) = fil a b c (l.take k) ++ [l[k]] := by
  unfold fil
  rw [List.take_succ_eq_append_getElem h, List.filter_append, List.filter_cons_of_pos (by simp [hd]), List.filter_nil]
theorem fil_le (a b c : Int) (l : List Sib) (k : Nat) : (fil a b c (l.take k)).length ≤ k := by
  refine Nat.le_trans (List.length_filter_le _ _) ?_
  simp
  omega
theorem own_cast {w : World} {base e size n n' : Nat} {v : Value} {xs xs' : List Value} (h : w.ownsRow base e size v n xs) (h1 : n = n') (h2 : xs = xs') : w.ownsRow base e size v n' xs' := by subst h1; subst h2; exact h
theorem lit_at {W : World} {x : Sib} {t : TypeId} : SibAt (W.alloc (.cells #[.int .i64 x.p, .int .i64 x.n, .int .i64 x.v, .bool x.d] t)) W.heap.size 0 x := by
  refine ⟨?_, ?_, ?_, ?_⟩ <;> go_simp
theorem addr_add (b o j : Nat) : ((⟨b, o, none⟩ : Addr).add j) = ⟨b, o + j, none⟩ := by
  unfold Addr.add
  by_cases hk : j = 0 <;> simp [hk]
theorem one_cells {W : World} {g : Nat} {x : Sib} (h : SibAt W g 0 x) : ∀ j u, (flat [x])[j]? = some u → W.cell? ((⟨g, 0, none⟩ : Addr).add j) = some u := by
  intro j u hu
  rw [addr_add]
  refine flat_cells (l := [x]) (off := 0) rfl (fun i hi => ?_) j u hu
  have : i = 0 := by simpa using hi
  subst this
  simpa using h
theorem Gro.none_ne {b : Nat} : Value.ownBlock (.slice none 0 0) ≠ some b := by simp [Value.ownBlock]
/-- What one round does where the sibling is laid behind. -/
theorem au_hit {w wr w2 w3 : World} {v vr v' : Value} {o1 o2 : Obj} {m0 l : List Sib} {a b c : Int} {k e : Nat} (hk : k < l.length) (hd : decide (l[k].n ≤ comp a b c l[k].p) = false) (G : Gro w wr v vr) (hb : Below (wr.alloc o1).heap.size (wr.alloc o1) w2) (hg : Gro (w2.alloc o2) w3 vr v')
    (hown : w3.ownsRow 0 e 4 v' ((m0 ++ fil a b c (l.take k)).length + 1) (flat (m0 ++ fil a b c (l.take k)) ++ flat [l[k]])) :
    Gro w w3 v v' ∧ w3.ownsRow 0 e 4 v' (m0 ++ fil a b c (l.take (k + 1))).length (flat (m0 ++ fil a b c (l.take (k + 1)))) := by
  refine ⟨G.trans ((Gro.of_below ((Below.refl _ _).alloc (Nat.le_refl _) _)).trans ((Gro.of_below hb).trans ((Gro.of_below ((Below.refl _ _).alloc (Nat.le_refl _) _)).trans hg))), own_cast hown ?_ ?_⟩
  · rw [fil_hit hk hd]; simp; omega
  · rw [fil_hit hk hd, ← List.append_assoc, flat_append _ [l[k]]]

set_option maxHeartbeats 4000000 in
theorem au_any (cap : Nat) (ao : Option Addr) (l m0 : List Sib) (a b c : Int) (v : Value) (w : World) (hm : m0.length + l.length ≤ 2097152) (hn : ∀ i (h : i < l.length), 0 ≤ l[i].p ∧ l[i].p < 3) (hr0 : SibRow w ao l) (hne0 : ∀ x, ao = some x → l ≠ [] → v.ownBlock ≠ some x.block) (ho0 : w.ownsRow 0 74 4 v m0.length (flat m0)) :
    Calls Tryd.prog 67 #[v, .agg #[.int .i64 a, .int .i64 b, .int .i64 c], .slice ao l.length cap] w fun e w' => ∃ v', e = .returned v' ∧ w'.ownsRow 0 74 4 v' (m0 ++ fil a b c l).length (flat (m0 ++ fil a b c l)) ∧ Gro w w' v v' := by
  have hr : Hid (SibRow w ao l) := hr0
  have hne : Hid (∀ x, ao = some x → l ≠ [] → v.ownBlock ≠ some x.block) := hne0
  have ho : Hid (w.ownsRow 0 74 4 v m0.length (flat m0)) := ho0
  have hnn : Hid (∀ i (h : i < l.length), 0 ≤ l[i].p ∧ l[i].p < 3) := hn
  have hvn : Hid (v.ownBlock ≠ some w.heap.size) := fun e => by have := (ho0.lt _ e).2; omega
  clear hr0 hne0 ho0 hn
  obtain ⟨i0, hi, hz0, hz1, hz2⟩ := info_parts info_sib
  have HI : Hid (Tryd.prog.info? 74 = some i0 ∧ i0.zero = some (.agg #[.int .i64 0, .int .i64 0, .int .i64 0, .bool false]) ∧ i0.size = 4 ∧ i0.bytes = 32) := ⟨hi, hz0, hz1, hz2⟩
  clear hi hz0 hz1 hz2
  go_enter Tryd.func67, Tryd.ntmps67
  go_wp2
  go_loopw [0, 11] (fun s0 s11 wr => ∃ k : Nat, k ≤ l.length ∧ s11 = .int .i64 k ∧ Gro w wr v s0 ∧ wr.ownsRow 0 74 4 s0 (m0 ++ fil a b c (l.take k)).length (flat (m0 ++ fil a b c (l.take k))) ∧ w.heap.size < wr.heap.size ∧ s0.ownBlock ≠ some w.heap.size ∧ wr.cell? ⟨w.heap.size, 0, none⟩ = some (.int .i64 a) ∧ wr.cell? ⟨w.heap.size, 1, none⟩ = some (.int .i64 b) ∧ wr.cell? ⟨w.heap.size, 2, none⟩ = some (.int .i64 c)) (fun _ s11 _ => l.length - (intOf s11).toNat)
  case atStart => exact ⟨0, by omega, rfl, Gro.of_below ((Below.refl _ _).alloc (Nat.le_refl _) _), own_cast (ho.out.alloc _) (by simp [fil]) (by simp [fil]), by simp, hvn.out, by go_simp, by go_simp, by go_simp⟩
  case round =>
    obtain ⟨k, hk, rfl, hG0, hO0, hz, hv0, C0, C1, C2⟩ := hrel
    have hG : Hid (Gro w wr v u0) := hG0
    have hO : Hid (wr.ownsRow 0 74 4 u0 (m0 ++ fil a b c (l.take k)).length (flat (m0 ++ fil a b c (l.take k)))) := hO0
    have hV : Hid (u0.ownBlock ≠ some w.heap.size) := hv0
    clear hG0 hO0 hv0
    by_cases hkl : k < l.length
    · have hkl' : (k : Int) < (l.length : Int) := by omega
      have k0 : (0 : Int) ≤ (k : Int) := by omega
      obtain ⟨n0, n3⟩ := hnn.out k hkl
      rcases hG.out.row hr.out (fun q hq => hne.out q hq (fun h => by rw [h] at hkl; simp at hkl)) with h' | ⟨p, off, rfl, h2⟩
      · rw [h'] at hkl; simp at hkl
      obtain ⟨x0, x1, x2, x3⟩ := h2 k hkl
      have E0 : ∀ o, (wr.alloc o).cell? ⟨w.heap.size, 0, none⟩ = some (.int .i64 a) := fun o => box_alloc C0 hz
      have E1 : ∀ o, (wr.alloc o).cell? ⟨w.heap.size, 1, none⟩ = some (.int .i64 b) := fun o => box_alloc C1 hz
      have E2 : ∀ o, (wr.alloc o).cell? ⟨w.heap.size, 2, none⟩ = some (.int .i64 c) := fun o => box_alloc C2 hz
      clear h2
      go_wp2_with fail
      refine (knows_any a b c l[k].p l[k].n _ n0 n3).mono ?_
      rintro e w2 ⟨rfl, hb0⟩
      have hb : Hid (Below _ _ w2) := hb0
      have D0 := cell_next hb0 (b := wr.heap.size) (o := 0) (v := .int .i64 l[k].p) (by go_simp) (by simp)
      have D1 := cell_next hb0 (b := wr.heap.size) (o := 1) (v := .int .i64 l[k].n) (by go_simp) (by simp)
      have D2 := cell_next hb0 (b := wr.heap.size) (o := 2) (v := .int .i64 l[k].v) (by go_simp) (by simp)
      have D3 := cell_next hb0 (b := wr.heap.size) (o := 3) (v := .bool l[k].d) (by go_simp) (by simp)
      have H0 : Hid (w2.cell? ⟨w.heap.size, 0, none⟩ = some (.int .i64 a)) := cell_next hb0 (E0 _) (by simp; omega)
      have H1 : Hid (w2.cell? ⟨w.heap.size, 1, none⟩ = some (.int .i64 b)) := cell_next hb0 (E1 _) (by simp; omega)
      have H2 : Hid (w2.cell? ⟨w.heap.size, 2, none⟩ = some (.int .i64 c)) := cell_next hb0 (E2 _) (by simp; omega)
      have hz2 := hb0.size
      simp at hz2
      have hO2 : Hid (w2.ownsRow 0 74 4 u0 (m0 ++ fil a b c (l.take k)).length (flat (m0 ++ fil a b c (l.take k)))) := own_next (hO.out.alloc _) hb0
      have HF := fil_le a b c l k
      have HL : Hid ((m0 ++ fil a b c (l.take k)).length + 1 ≤ 2097153) := by
        show _ ≤ _
        simp only [List.length_append]
        omega
      clear hb0 HF hO x0 x1 x2 x3 E0 E1 E2 C0 C1 C2
      cases hk1 : decide (l[k].n ≤ comp a b c l[k].p)
      · have HK : Hid (decide (l[k].n ≤ comp a b c l[k].p) = false) := hk1
        go_wp2_with (first
          | (at_builtin; refine wpList_append2 rfl _ _ 29 rfl 74 i0 (.agg #[.int .i64 0, .int .i64 0, .int .i64 0, .bool false]) 4 32 Tryd.underlying29 HI.out.1 HI.out.2.1 HI.out.2.2.1 HI.out.2.2.2 rfl (by decide) _ _ _ rfl (hO2.out.alloc _) ⟨w2.heap.size, 0, none⟩ 1 1 (flat [l[k]]) rfl rfl (one_cells lit_at) (flat_one _) ?c3 ?c4 ?_)
          | go_in)
        case c3 => have := HL.out; unfold maxLen; omega
        case c4 => have := HL.out; omega
        intro v' w3 hown' hgro
        obtain ⟨G3, O3⟩ := au_hit (m0 := m0) hkl HK.out hG.out hb.out hgro (own_cast hown' (by simp) rfl)
        have hz3 : Hid (w.heap.size < w3.heap.size) := Nat.lt_of_lt_of_le (by simp; omega) hgro.size
        have hV3 : Hid (v'.ownBlock ≠ some w.heap.size) := hgro.ne (by simp; omega) hV.out
        have I0 : Hid (w3.cell? ⟨w.heap.size, 0, none⟩ = some (.int .i64 a)) := hgro.cell (box_alloc H0.out (by omega)) hV.out
        have I1 : Hid (w3.cell? ⟨w.heap.size, 1, none⟩ = some (.int .i64 b)) := hgro.cell (box_alloc H1.out (by omega)) hV.out
        have I2 : Hid (w3.cell? ⟨w.heap.size, 2, none⟩ = some (.int .i64 c)) := hgro.cell (box_alloc H2.out (by omega)) hV.out
        have G4 : Hid (Gro w w3 v v') := G3
        have O4 : Hid (w3.ownsRow 0 74 4 v' (m0 ++ fil a b c (l.take (k + 1))).length (flat (m0 ++ fil a b c (l.take (k + 1))))) := O3
        clear G3 O3 hown' hgro hk1 D0 D1 D2 D3
        go_wp2
        go_roundw
        case rel => first | exact ⟨k + 1, by omega, by go_num, G4.out, O4.out, hz3.out, hV3.out, I0.out, I1.out, I2.out⟩ | ((repeat apply Exists.intro); exact ⟨⟨k + 1, by omega, by go_num, G4.out, O4.out, hz3.out, hV3.out, I0.out, I1.out, I2.out⟩, rfl⟩)
        case measure => simp [intOf]; omega
      · have HK : Hid (decide (l[k].n ≤ comp a b c l[k].p) = true) := hk1
        have G4 : Hid (Gro w w2 v u0) := hG.out.trans ((Gro.of_below ((Below.refl _ _).alloc (Nat.le_refl _) _)).trans (Gro.of_below hb.out))
        have O4 : Hid (w2.ownsRow 0 74 4 u0 (m0 ++ fil a b c (l.take (k + 1))).length (flat (m0 ++ fil a b c (l.take (k + 1))))) := by rw [fil_miss hkl HK.out]; exact hO2.out
        have hz3 : Hid (w.heap.size < w2.heap.size) := by show _ < _; omega
        go_wp2
        go_roundw
        case rel => first | exact ⟨k + 1, by omega, by go_num, G4.out, O4.out, hz3.out, hV.out, H0.out, H1.out, H2.out⟩ | ((repeat apply Exists.intro); exact ⟨⟨k + 1, by omega, by go_num, G4.out, O4.out, hz3.out, hV.out, H0.out, H1.out, H2.out⟩, rfl⟩)
        case measure => simp [intOf]; omega
    · have hkl' : ¬ (k : Int) < (l.length : Int) := by omega
      have e : k = l.length := by omega
      subst e
      go_wp2
      go_ret
      exact ⟨_, rfl, own_cast hO.out (by simp) (by simp), hG.out⟩
end Go.Proofs.YtcmniplbiliobaaDoor
