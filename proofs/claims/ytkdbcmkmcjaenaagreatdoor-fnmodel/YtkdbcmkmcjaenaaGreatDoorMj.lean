/- ModelKeys on the program's side. -/
import Derived.Test.YtkdbcmkmcjaenaaGreatDoorRows
import Derived.WalkKit
import Derived.WalkSpells
import Derived.WalkLawsBesides
import Derived.Deep.QuietTactic
import Derived.BigQuiet
import Derived.Deep.RegionHeld3
import Derived.Test.YtkdbcmkmcjaenaaGreatDoorMi
import Derived.Test.YtkdbcmkmcjaenaaGreatDoorEn
import Derived.LoopN
import Derived.OwnWalk
namespace Go.Proofs.YtkdbcmkmcjaenaaGreatDoor
open Go.RowKit
set_option linter.unusedSimpArgs false
set_option linter.unusedVariables false

open Go.Sort Go.Shelf
theorem keysE_take {l : List Ev} {k : Nat} (hk : k < l.length) : txt (keysE (l.take k)) ++ [.string l[k].key] = txt (keysE (l.take (k + 1))) := by
  rw [List.take_succ_eq_append_getElem hk]
  simp only [txt, keysE, List.map_append, List.map_cons, List.map_nil, enc_kb]
theorem risen_nil : risen [] = [] := List.eq_nil_of_length_eq_zero (Nat.le_zero.1 (risen_len []))
theorem keysE_len (l : List Ev) : (keysE l).length = l.length := by simp [keysE]
set_option maxRecDepth 20000 in
set_option maxHeartbeats 8000000 in
theorem implKeys (lo q : Nat) (po : Option Addr) (l : List Ev) (w : World) (hks : ∀ x ∈ l, x.key.size < 1099511627776) (hr0 : GRow lo w po (flatE l)) :
    Calls Tryz.prog 5 #[.slice po l.length q] w (Tmk l w) := by
  have hr : Hid (GRow lo w po (flatE l)) := hr0
  clear hr0
  go_enter Tryz.func5, Tryz.ntmps5
  by_cases hl : 4096 < (l.length : Int)
  case pos =>
    have HF : Hid (mkP l [] 2) := .inl ⟨by omega, rfl, rfl⟩
    clear hr
    go_wp2
    go_ret2
    exact Tmk.mk (rs := []) rfl (HF.out) (TR.nil _ _ _) (Below.refl _ _)
  have HLE : Hid (l.length ≤ 4096) := by show _ ≤ _; omega
  go_wp2_with fail
  refine (implEvents lo q po l w hks hr.out).mono ?_
  rintro e1 W1 ⟨r1, rfl, hq, hb⟩
  have HB : Hid (Below w.heap.size w W1) := hb
  have HQ : Hid (r1 = true ↔ eok l) := hq
  clear hb hq
  cases r1
  case false =>
    have HF : Hid (mkP l [] 1) := .inr (.inl ⟨HLE.out, fun h => (by have := HQ.out.2 h; cases this), rfl, rfl⟩)
    clear HQ hr
    go_wp2
    go_ret2
    exact Tmk.mk (rs := []) rfl (HF.out) (TR.nil _ _ _) HB.out
  have HE : Hid (eok l) := HQ.out.1 rfl
  clear HQ
  have HX : Hid _ := hr.out.e
  clear hr
  go_wp2
  go_loopw [4, 17] (fun s4 s17 wr => ∃ (k : Nat) (vo : Option Addr) (vc : Nat), k ≤ l.length ∧ s4 = .slice vo k vc ∧ s17 = .int .i64 k ∧ OwnG wr 9 1 (.slice vo k vc) k (txt (keysE (l.take k))) w.heap.size ∧ Below w.heap.size w wr) (fun _ s17 _ => l.length - (intOf s17).toNat)
  case atStart => exact ⟨0, none, 0, by omega, rfl, rfl, OwnG.nil _ _ _ _, HB.out⟩
  case round =>
    clear HB
    obtain ⟨k, vo, vc, hk, rfl, rfl, hO0, hB0⟩ := hrel
    have Y0 : Hid (OwnG wr 9 1 (.slice vo k vc) k (txt (keysE (l.take k))) w.heap.size ∧ Below w.heap.size w wr) := ⟨hO0, hB0⟩
    clear hO0 hB0
    by_cases hkl : k < l.length
    · have hkl' : (k : Int) < (l.length : Int) := by omega
      have k0 : (0 : Int) ≤ (k : Int) := by omega
      rcases HX.out with h' | ⟨b, off, rfl, _, h2⟩
      · rw [h'] at hkl; simp at hkl
      obtain ⟨c0, c1, c2, c3, c4, c5, c6, c7⟩ := (h2 k hkl).next Y0.out.2 (cell_lt (x := ⟨b, off + k * 8, none⟩) (h2 k hkl).1)
      have HT : Hid (txt (keysE (l.take k)) ++ [.string l[k].key] = txt (keysE (l.take (k + 1)))) := keysE_take hkl
      clear h2 HX
      generalize l[k] = m at *
      go_upto_region 9 with fail
      refine wp_gen (fun W => Box W wr.heap.size [.int .i64 m.p, .int .i64 m.n, .string m.key, .int .i64 m.v, .bool m.dead, .int .i64 m.a, .int .i64 m.b, .int .i64 m.c] ∧ Below wr.heap.size wr W) ⟨box_mk, bel_alloc _ _⟩ (fun W1 hI => ?_)
      clear c0 c1 c2 c3 c4 c5 c6 c7
      obtain ⟨ge, hge⟩ : ∃ g, g = wr.heap.size := ⟨_, rfl⟩
      have Y : Hid (Box W1 ge [.int .i64 m.p, .int .i64 m.n, .string m.key, .int .i64 m.v, .bool m.dead, .int .i64 m.a, .int .i64 m.b, .int .i64 m.c] ∧ OwnG W1 9 1 (.slice vo k vc) k (txt (keysE (l.take k))) w.heap.size ∧ Below w.heap.size w W1) := ⟨by rw [hge]; exact hI.1, Y0.out.1.next hI.2, Y0.out.2.trans (hI.2.mono Y0.out.2.size)⟩
      rw [← hge]
      clear hI hge Y0
      obtain ⟨a0, a1, a2, a3, a4, a5, a6, a7⟩ := Y.out.1.c8
      go_wp2_with (first | (at_builtin; refine wpList_appG elS rfl _ _ rfl (.slice vo k vc) k (txt (keysE (l.take k))) w.heap.size (k + 1) rfl (Y.out.2.1.next (bel_alloc _ _)) (by have := Y.out.2.2.size; simp; omega) (some ⟨W1.heap.size, 0, none⟩) 1 1 [.string m.key] rfl rfl (fun u hu => by simp at hu; subst hu; rfl) 0 lit_row (by omega) (by omega) ?_) | fail)
      intro v2 c2 W2 hO2 hG2 hS2
      have HG : Hid (Below w.heap.size w W2) := by
        have h1 : Below w.heap.size w (W1.alloc (.cells #[.string m.key] 9)) := Y.out.2.2.trans ((bel_alloc _ _).mono Y.out.2.2.size)
        exact h1.trans (hG2.below h1.size (fun x hx => Y.out.2.1.ge x hx))
      have HO : Hid (OwnG W2 9 1 (.slice v2 (k + 1) c2) (k + 1) (txt (keysE (l.take (k + 1)))) w.heap.size) := by
        have h1 := hO2
        rw [HT.out] at h1
        exact h1
      clear hO2 hG2 hS2 Y a0 a1 a2 a3 a4 a5 a6 a7
      go_wp2
      go_roundw
      case rel => exact ⟨k + 1, v2, c2, by omega, by go_num, by go_num, HO.out, HG.out⟩
      case measure => simp [intOf]; omega
    · have hkl' : ¬ (k : Int) < (l.length : Int) := by omega
      have hke : k = l.length := by omega
      have HL0 : Hid (l.length ≤ 4096) := HLE.out
      have YO : Hid (OwnG wr 9 1 (.slice vo k vc) (keysE l).length (txt (keysE l)) w.heap.size ∧ Below w.heap.size w wr ∧ k = (keysE l).length) := by
        have h1 := Y0.out.1
        rw [List.take_of_length_le (by omega)] at h1
        have e : k = (keysE l).length := by rw [keysE_len]; exact hke
        refine ⟨?_, Y0.out.2, e⟩
        rw [← e]; exact h1
      clear Y0 HX hke
      by_cases hz : keysE l = []
      · have HR : Hid (mkP l [] 0) := .inr (.inr ⟨HLE.out, HE.out, by rw [hz]; exact risen_nil.symm, rfl⟩)
        have hk0 : k = 0 := by have := YO.out.2.2; rw [hz] at this; simpa using this
        clear hz
        subst hk0
        go_wp2_with fail
        refine Calls.mono (Any.slices_Sort_string_none Tryz.lays190 vo vc wr) ?_
        rintro e1 W2 ⟨rfl, rfl⟩
        go_wp2_with fail
        refine Calls.mono (Any.slices_Compact_string_empty Tryz.lays194 vo vc _) ?_
        rintro e1 W3 ⟨rfl, rfl⟩
        go_wp2
        go_ret2
        exact Tmk.mk (rs := []) rfl HR.out (TR.nil _ _ _) YO.out.2.1
      · obtain ⟨g, cap, hv, hS0⟩ := sortComp YO.out.1 YO.out.2.1.size hz (by rw [keysE_len]; exact HL0.out)
        have HS : Hid _ := hS0 wr rfl
        have HR : Hid (mkP l (risen (keysE l)) 0) := .inr (.inr ⟨HLE.out, HE.out, rfl, rfl⟩)
        have HKE : Hid (k = (keysE l).length ∧ Below w.heap.size w wr) := ⟨YO.out.2.2, YO.out.2.1⟩
        rw [← YO.out.2.2] at hv
        obtain ⟨rfl, rfl⟩ : vo = some ⟨g, 0, none⟩ ∧ vc = cap := by cases hv; exact ⟨rfl, rfl⟩
        clear hS0 hz hv YO
        go_wp2_with fail
        refine Calls.mono HS.out ?_
        rintro e1 W2 ⟨rfl, hb1, hC⟩
        have HC2 : Hid _ := hC
        clear hC HS hb1
        go_wp2_with fail
        refine Calls.mono HC2.out ?_
        rintro e1 W3 ⟨rfl, hb2, hT⟩
        have HT : Hid (TR w.heap.size W3 (some ⟨g, 0, none⟩) (risen (keysE l)) ∧ Below w.heap.size w W3) := ⟨hT, HKE.out.2.trans hb2⟩
        clear hb2 hT HC2
        go_wp2
        go_ret2
        exact Tmk.mk rfl HR.out HT.out.1 HT.out.2
end Go.Proofs.YtkdbcmkmcjaenaaGreatDoor
