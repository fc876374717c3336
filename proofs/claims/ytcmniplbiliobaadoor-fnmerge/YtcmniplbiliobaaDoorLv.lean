/- LiveValues, of both sides. -/
import Derived.Test.YtcmniplbiliobaaDoorRows
import Derived.WalkKit
import Derived.WalkSpells
import Derived.WalkLawsBesides
import Derived.Deep.QuietTactic
import Derived.BigQuiet
import Derived.Deep.RegionHeld3
import Derived.Test.YtcmniplbiliobaaDoorAu
import Derived.Test.YtcmniplbiliobaaDoorMk
import Derived.Test.YtcmniplbiliobaaDoorSp
import Derived.Test.YtcmniplbiliobaaDoorLk
import Derived.LoopN
namespace Go.Proofs.YtcmniplbiliobaaDoor
open Go.RowKit
set_option linter.unusedSimpArgs false
set_option linter.unusedVariables false

theorem info_int : (Tryd.prog.info? 3).map (fun i => (i.zero, i.size, i.bytes)) = some (some (.int .i64 0), 1, 8) := by kernel_rfl
def live (l : List Sib) : List Int := (l.filter fun s => !s.d).map fun s => s.v
theorem live_miss {l : List Sib} {k : Nat} (h : k < l.length) (hd : l[k].d = true) : live (l.take (k + 1)) = live (l.take k) := by
  unfold live
  rw [List.take_succ_eq_append_getElem h, List.filter_append, List.filter_cons_of_neg (by simp [hd]), List.filter_nil, List.append_nil]
theorem live_hit {l : List Sib} {k : Nat} (h : k < l.length) (hd : l[k].d = false) : live (l.take (k + 1)) = live (l.take k) ++ [l[k].v] := by
  unfold live
  rw [List.take_succ_eq_append_getElem h, List.filter_append, List.filter_cons_of_pos (by simp [hd]), List.filter_nil, List.map_append]
  rfl
theorem live_le (l : List Sib) (k : Nat) : (live (l.take k)).length ≤ k := by
  unfold live
  rw [List.length_map]
  refine Nat.le_trans (List.length_filter_le _ _) ?_
  simp
  omega
theorem live_len (l : List Sib) : (live l).length ≤ l.length := by
  have := live_le l l.length
  simpa using this
theorem int_lit {W : World} {x : Int} {t : TypeId} : ∀ j u, ([Value.int .i64 x])[j]? = some u → (W.alloc (.cells #[.int .i64 x] t)).cell? ((⟨W.heap.size, 0, none⟩ : Addr).add j) = some u := by
  intro j u hu
  match j, hu with
  | 0, hu => simp at hu; subst hu; simp [Addr.add]
theorem int_lit2 {W : World} {x : Int} {t : TypeId} {g : Nat} (hg : g = W.heap.size) : ∀ j u, ([Value.int .i64 x])[j]? = some u → (W.alloc (.cells #[.int .i64 x] t)).cell? ((⟨g, 0, none⟩ : Addr).add j) = some u := by subst hg; exact int_lit
theorem int_one {x : Int} : ∀ u ∈ [Value.int .i64 x], u.oneCell' = true := by intro u hu; simp at hu; subst hu; rfl
theorem live_own {w : World} {v : Value} {l : List Sib} {k : Nat} (hk : k < l.length) (hd : l[k].d = false) (h : w.ownsRow 0 3 1 v ((live (l.take k)).length + 1) ((live (l.take k)).map (Value.int .i64) ++ [.int .i64 l[k].v])) : w.ownsRow 0 3 1 v (live (l.take (k + 1))).length ((live (l.take (k + 1))).map (Value.int .i64)) :=
  own_cast h (by rw [live_hit hk hd]; simp) (by rw [live_hit hk hd]; simp)
set_option maxHeartbeats 2000000 in
theorem implLive_any (cap : Nat) (ao : Option Addr) (l : List Sib) (a b c : Int) (k0 : Bool) (hO : Hid (k0 = true ↔ OkP l a b c)) (w : World) (hm : (l.length : Int) ≤ 1048576) (hr0 : SibRow w ao l) :
    Calls Tryd.prog 23 #[.agg #[.slice ao l.length cap, .int .i64 a, .int .i64 b, .int .i64 c]] w fun e w' => ∃ v, e = .returned (.tuple #[v, .int .i64 (if k0 then 0 else 1)]) ∧ Gro w w' (.slice none 0 0) v ∧ w'.ownsRow 0 3 1 v (live (if k0 then l else [])).length ((live (if k0 then l else [])).map (Value.int .i64)) := by
  have hr : Hid (SibRow w ao l) := hr0
  clear hr0
  cases k0
  · go_enter Tryd.func23, Tryd.ntmps23
    go_wp2_with fail
    refine (implOK_any cap ao l a b c false hO _ hm (row_next hr (bel_alloc _ _)).out).mono ?_
    rintro e w1 ⟨rfl, hb⟩
    have G : Hid (Gro w w1 (.slice none 0 0) (.slice none 0 0)) := (Gro.of_below (bel_alloc _ _)).trans (Gro.of_below hb)
    clear hb
    go_wp2
    go_ret2
    exact ⟨_, rfl, G.out, World.ownsRow_nil _ _ _ _⟩
  have HOK : Hid (OkP l a b c) := hO.out.1 rfl
  clear hO
  obtain ⟨i0, hi, hz0, hz1, hz2⟩ := info_parts info_int
  have HI : Hid (Tryd.prog.info? 3 = some i0 ∧ i0.zero = some (.int .i64 0) ∧ i0.size = 1 ∧ i0.bytes = 8) := ⟨hi, hz0, hz1, hz2⟩
  clear hi hz0 hz1 hz2
  go_enter Tryd.func23, Tryd.ntmps23
  go_wp2_with fail
  refine (implOK_any cap ao l a b c true ⟨fun _ => HOK.out, fun _ => rfl⟩ _ hm (row_next hr (bel_alloc _ _)).out).mono ?_
  rintro e w1 ⟨rfl, hb⟩
  have G : Hid (Gro w w1 (.slice none 0 0) (.slice none 0 0)) := (Gro.of_below (bel_alloc _ _)).trans (Gro.of_below hb)
  have C0 := cell_next hb (b := w.heap.size) (o := 0) (v := .slice ao l.length cap) (by go_simp) (by simp)
  clear hb
  go_wp2
  clear C0
  go_loopw [4, 13] (fun s4 s13 wr => ∃ k : Nat, k ≤ l.length ∧ s13 = .int .i64 k ∧ Gro w wr (.slice none 0 0) s4 ∧ wr.ownsRow 0 3 1 s4 (live (l.take k)).length ((live (l.take k)).map (Value.int .i64))) (fun _ s13 _ => l.length - (intOf s13).toNat)
  case atStart => exact ⟨0, by omega, rfl, G.out, World.ownsRow_nil _ _ _ _⟩
  case round =>
    clear G
    obtain ⟨k, hk, rfl, hG0, hO0⟩ := hrel
    have hG : Hid (Gro w wr (.slice none 0 0) u4) := hG0
    have hO : Hid (wr.ownsRow 0 3 1 u4 (live (l.take k)).length ((live (l.take k)).map (Value.int .i64))) := hO0
    clear hG0 hO0
    by_cases hkl : k < l.length
    · have hkl' : (k : Int) < (l.length : Int) := by omega
      have kk : (0 : Int) ≤ (k : Int) := by omega
      rcases hG.out.row hr.out (fun _ _ => Gro.none_ne) with h' | ⟨p, off, rfl, h2⟩
      · rw [h'] at hkl; simp at hkl
      obtain ⟨x0, x1, x2, x3⟩ := h2 k hkl
      have HL : Hid ((live (l.take k)).length + 1 ≤ 2097153) := by
        have := live_le l k
        show _ ≤ _
        omega
      clear h2
      cases hd : l[k].d
      · have HD : Hid (l[k].d = false) := hd
        rw [hd] at x3
        clear hd
        go_wp2_with (first
          | (at_builtin; refine wpList_append2 rfl _ _ 41 rfl 3 i0 (.int .i64 0) 1 8 Tryd.underlying41 HI.out.1 HI.out.2.1 HI.out.2.2.1 HI.out.2.2.2 rfl (by decide) _ _ _ rfl ((hO.out.alloc _).alloc _) ⟨wr.heap.size + 1, 0, none⟩ 1 1 [.int .i64 l[k].v] rfl rfl (int_lit2 (by simp)) int_one ?c3 ?c4 ?_)
          | go_in)
        case c3 => have := HL.out; unfold maxLen; omega
        case c4 => have := HL.out; omega
        intro v' w3 hown' hgro
        have O4 : Hid (w3.ownsRow 0 3 1 v' (live (l.take (k + 1))).length ((live (l.take (k + 1))).map (Value.int .i64))) := live_own hkl HD.out (own_cast hown' (by simp) rfl)
        have G4 : Hid (Gro w w3 (.slice none 0 0) v') := hG.out.trans ((Gro.of_below (bel_alloc _ _)).trans ((Gro.of_below (bel_alloc _ _)).trans hgro))
        clear hown' hgro x0 x1 x2 x3
        go_wp2
        go_roundw
        case rel => first | exact ⟨k + 1, by omega, by go_num, G4.out, O4.out⟩ | ((repeat apply Exists.intro); exact ⟨⟨k + 1, by omega, by go_num, G4.out, O4.out⟩, rfl⟩)
        case measure => simp [intOf]; omega
      · have HD : Hid (l[k].d = true) := hd
        rw [hd] at x3
        clear hd
        go_wp2
        go_roundw
        case rel => first | exact ⟨k + 1, by omega, by go_num, hG.out.trans (Gro.of_below (bel_alloc _ _)), by rw [live_miss hkl HD.out]; exact hO.out.alloc _⟩ | ((repeat apply Exists.intro); exact ⟨⟨k + 1, by omega, by go_num, hG.out.trans (Gro.of_below (bel_alloc _ _)), by rw [live_miss hkl HD.out]; exact hO.out.alloc _⟩, rfl⟩)
        case measure => simp [intOf]; omega
    · have hkl' : ¬ (k : Int) < (l.length : Int) := by omega
      have e : k = l.length := by omega
      subst e
      go_wp2
      go_ret2
      exact ⟨_, rfl, hG.out, by simpa using hO.out⟩

set_option maxHeartbeats 2000000 in
theorem l02live_any (cap : Nat) (ao : Option Addr) (l : List Sib) (a b c : Int) (w : World) (hm : (l.length : Int) ≤ 1048576) (hr0 : SibRow w ao l) :
    Calls Tryd.prog 46 #[.agg #[.slice ao l.length cap, .int .i64 a, .int .i64 b, .int .i64 c]] w fun e w' => ∃ v, e = .returned v ∧ Gro w w' (.slice none 0 0) v ∧ w'.ownsRow 0 3 1 v (live l).length ((live l).map (Value.int .i64)) := by
  have hr : Hid (SibRow w ao l) := hr0
  clear hr0
  obtain ⟨i0, hi, hz0, hz1, hz2⟩ := info_parts info_int
  have HI : Hid (Tryd.prog.info? 3 = some i0 ∧ i0.zero = some (.int .i64 0) ∧ i0.size = 1 ∧ i0.bytes = 8) := ⟨hi, hz0, hz1, hz2⟩
  clear hi hz0 hz1 hz2
  go_enter Tryd.func46, Tryd.ntmps46
  go_wp2
  go_loopw [3, 4] (fun s3 s4 wr => ∃ k : Nat, k ≤ l.length ∧ s4 = .int .i64 k ∧ Gro w wr (.slice none 0 0) s3 ∧ wr.ownsRow 0 3 1 s3 (live (l.take k)).length ((live (l.take k)).map (Value.int .i64)) ∧ wr.cell? ⟨w.heap.size, 0, none⟩ = some (.slice ao l.length cap) ∧ w.heap.size < wr.heap.size ∧ s3.ownBlock ≠ some w.heap.size) (fun _ s4 _ => l.length - (intOf s4).toNat)
  case atStart =>
    refine ⟨0, by omega, rfl, ⟨gb_below (((Below.refl _ _).alloc (Nat.le_refl _) _).alloc (by simp) _), fun k hk => .inr ?_⟩, ?_, by go_simp, by simp; omega, by simp [Value.ownBlock]⟩
    · simp [Value.ownBlock] at hk
      omega
    · have hq := World.ownsRow_lit (base := 0) (e := 3) (size := 1) (w.alloc (.cells #[.slice ao l.length cap, .int .i64 a, .int .i64 b, .int .i64 c] 32)) #[] 0 (Nat.zero_le _) (by unfold maxLen; omega) (by simp)
      simpa [live] using hq
  case round =>
    obtain ⟨k, hk, rfl, hG0, hO0, C0, hz, hv0⟩ := hrel
    have hG : Hid (Gro w wr (.slice none 0 0) u3) := hG0
    have hO : Hid (wr.ownsRow 0 3 1 u3 (live (l.take k)).length ((live (l.take k)).map (Value.int .i64))) := hO0
    have hV : Hid (u3.ownBlock ≠ some w.heap.size) := hv0
    clear hG0 hO0 hv0
    by_cases hkl : k < l.length
    · have hkl' : (k : Int) < (l.length : Int) := by omega
      have kk : (0 : Int) ≤ (k : Int) := by omega
      rcases hG.out.row hr.out (fun _ _ => Gro.none_ne) with h' | ⟨p, off, rfl, h2⟩
      · rw [h'] at hkl; simp at hkl
      obtain ⟨x0, x1, x2, x3⟩ := h2 k hkl
      have HL : Hid ((live (l.take k)).length + 1 ≤ 2097153) := by
        have := live_le l k
        show _ ≤ _
        omega
      clear h2
      cases hd : l[k].d
      · have HD : Hid (l[k].d = false) := hd
        rw [hd] at x3
        clear hd
        go_wp2_with (first
          | (at_builtin; refine wpList_append2 rfl _ _ 41 rfl 3 i0 (.int .i64 0) 1 8 Tryd.underlying41 HI.out.1 HI.out.2.1 HI.out.2.2.1 HI.out.2.2.2 rfl (by decide) _ _ _ rfl (hO.out.alloc _) ⟨wr.heap.size, 0, none⟩ 1 1 [.int .i64 l[k].v] rfl rfl int_lit int_one ?c3 ?c4 ?_)
          | go_in)
        case c3 => have := HL.out; unfold maxLen; omega
        case c4 => have := HL.out; omega
        intro v' w3 hown' hgro
        have O4 : Hid (w3.ownsRow 0 3 1 v' (live (l.take (k + 1))).length ((live (l.take (k + 1))).map (Value.int .i64))) := live_own hkl HD.out (own_cast hown' (by simp) rfl)
        have G4 : Hid (Gro w w3 (.slice none 0 0) v') := hG.out.trans ((Gro.of_below (bel_alloc _ _)).trans hgro)
        have E0 : Hid (w3.cell? ⟨w.heap.size, 0, none⟩ = some (.slice (some ⟨p, off, none⟩) l.length cap)) := hgro.cell (box_alloc C0 hz) hV.out
        have V4 : Hid (v'.ownBlock ≠ some w.heap.size) := hgro.ne (by simp; omega) hV.out
        have Z4 : Hid (w.heap.size < w3.heap.size) := Nat.lt_of_lt_of_le (by simp; omega) hgro.size
        clear hown' hgro x0 x1 x2 x3 C0
        go_wp2
        go_roundw
        case rel => first | exact ⟨k + 1, by omega, by go_num, G4.out, O4.out, E0.out, Z4.out, V4.out⟩ | ((repeat apply Exists.intro); exact ⟨⟨k + 1, by omega, by go_num, G4.out, O4.out, E0.out, Z4.out, V4.out⟩, rfl⟩)
        case measure => simp [intOf]; omega
      · have HD : Hid (l[k].d = true) := hd
        have O4 : Hid (wr.ownsRow 0 3 1 u3 (live (l.take (k + 1))).length ((live (l.take (k + 1))).map (Value.int .i64))) := by rw [live_miss hkl HD.out]; exact hO.out
        rw [hd] at x3
        clear hd
        go_wp2
        go_roundw
        case rel => first | exact ⟨k + 1, by omega, by go_num, hG.out, O4.out, C0, hz, hV.out⟩ | ((repeat apply Exists.intro); exact ⟨⟨k + 1, by omega, by go_num, hG.out, O4.out, C0, hz, hV.out⟩, rfl⟩)
        case measure => simp [intOf]; omega
    · have hkl' : ¬ (k : Int) < (l.length : Int) := by omega
      have e : k = l.length := by omega
      subst e
      go_wp2
      go_ret
      exact ⟨_, rfl, hG.out, by simpa using hO.out⟩
end Go.Proofs.YtcmniplbiliobaaDoor
