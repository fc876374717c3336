/- MergeAll of both sides. -/
import Derived.Test.YtcmniplbiliobaaDoorRows
import Derived.WalkKit
import Derived.WalkSpells
import Derived.WalkLawsBesides
import Derived.Deep.QuietTactic
import Derived.BigQuiet
import Derived.Deep.RegionHeld3
import Derived.Test.YtcmniplbiliobaaDoorMl
import Derived.LoopN
import Derived.Laws.EntriesVeiled
namespace Go.Proofs.YtcmniplbiliobaaDoor
open Go.RowKit
set_option linter.unusedSimpArgs false
set_option linter.unusedVariables false

theorem okp_bool (x : Ov) : ∃ k : Bool, Hid (k = true ↔ OkP x.l x.a x.b x.c) := by
  by_cases h : OkP x.l x.a x.b x.c
  · exact ⟨true, ⟨fun _ => h, fun _ => rfl⟩⟩
  · exact ⟨false, ⟨fun h' => Bool.noConfusion h', fun h' => (h h').elim⟩⟩
theorem bad1_any (x : Ov) (k : Bool) (hk : Hid (k = true ↔ OkP x.l x.a x.b x.c)) (w : World) (hm : (x.l.length : Int) ≤ 1048576) (hr0 : SibRow w x.ao x.l) :
    Calls Tryd.prog 32 #[.agg #[.slice x.ao x.l.length x.cap, .int .i64 x.a, .int .i64 x.b, .int .i64 x.c]] w fun e w' => e = .returned (.bool (!k)) ∧ Below w.heap.size w w' := by
  have RA : Hid (SibRow w x.ao x.l) := hr0
  clear hr0
  go_enter Tryd.func32, Tryd.ntmps32
  go_wp2_with fail
  refine (implOK_any x.cap x.ao x.l x.a x.b x.c k hk _ hm (row_next RA (bel_alloc _ _)).out).mono ?_
  rintro e w1 ⟨rfl, hb⟩
  have HB : Hid (Below w.heap.size w w1) := (bel_alloc _ _).trans (hb.mono (bel_alloc _ _).size)
  clear hb
  cases k
  all_goals
    go_wp2
    go_ret
    exact ⟨rfl, HB.out⟩
theorem allok_bad {os : List Ov} {i : Nat} (hi : i < os.length) (h : ¬ OkP os[i].l os[i].a os[i].b os[i].c) : ¬ AllOk os := fun ha => h (ha _ (List.getElem_mem _))
theorem allok_all {os : List Ov} {i : Nat} (hi : os.length ≤ i) (h : ∀ j (hj : j < os.length), j < i → OkP os[j].l os[j].a os[j].b os[j].c) : AllOk os := fun x hx => by
  obtain ⟨j, hj, rfl⟩ := List.getElem_of_mem hx
  exact h j hj (by omega)
def HasNo (os : List Ov) (i : Nat) : Prop := ∀ j (hj : j < os.length), j < i → OkP os[j].l os[j].a os[j].b os[j].c
theorem HasNo.step {os : List Ov} {i : Nat} (h : HasNo os i) (hi : i < os.length) (k : OkP os[i].l os[i].a os[i].b os[i].c) : HasNo os (i + 1) := fun j hj hl => by
  by_cases e : j = i
  · subst e; exact k
  · exact h j hj (by omega)
def Sml (os : List Ov) : Prop := ∀ x ∈ os, x.l.length ≤ 1048576
set_option maxHeartbeats 2000000 in
theorem indexBad_any (cap : Nat) (ao : Option Addr) (os : List Ov) (r : Bool) (hq : Hid (r = true ↔ AllOk os)) (w : World) (h3 : os.length ≤ 3) (hs : Sml os) (hr0 : ORow w ao os) :
    Calls Tryd.prog 60 #[.slice ao os.length cap, .func (.func 32) #[] #[]] w fun e w' => ∃ k : Int, e = .returned (.int .i64 k) ∧ Below w.heap.size w w' ∧ (r = true → k = -1) ∧ (r = false → 0 ≤ k) := by
  have HR : Hid (ORow w ao os) := hr0
  have HS : Hid (Sml os) := hs
  clear hr0 hs
  go_enter Tryd.func60, Tryd.ntmps60
  go_wp2
  go_loopw [5, 8] (fun s5 s8 wr => ∃ i : Nat, i ≤ os.length ∧ s8 = .int .i64 i ∧ HasNo os i ∧ Below w.heap.size w wr) (fun _ s8 _ => os.length - (intOf s8).toNat)
  case atStart => exact ⟨0, by omega, rfl, fun j hj hl => by omega, Below.refl _ _⟩
  case round =>
    obtain ⟨i, hi, rfl, hN0, hB0⟩ := hrel
    have HN : Hid (HasNo os i) := hN0
    have HB : Hid (Below w.heap.size w wr) := hB0
    clear hN0 hB0
    by_cases hlt : i < os.length
    · have hlt' : (i : Int) < (os.length : Int) := by omega
      have kk : (0 : Int) ≤ (i : Int) := by omega
      obtain ⟨b, off, rfl, ⟨x0, x1, x2, x3⟩, hrx, hcx⟩ := (HR.out.next HB.out).at i hlt
      have HRX : Hid (SibRow wr os[i].ao os[i].l) := hrx
      have hml : (os[i].l.length : Int) ≤ 1048576 := by have := HS.out _ (List.getElem_mem hlt); omega
      obtain ⟨k, hk⟩ := okp_bool os[i]
      have HP1 : Hid (OkP os[i].l os[i].a os[i].b os[i].c → HasNo os (i + 1)) := fun h => HN.out.step hlt h
      have HP2 : Hid (¬ OkP os[i].l os[i].a os[i].b os[i].c → ¬ AllOk os) := fun h => allok_bad hlt h
      generalize os[i] = x at *
      clear hrx
      go_wp2_with fail
      refine (bad1_any x k hk _ hml HRX.out).mono ?_
      rintro e w1 ⟨rfl, hb⟩
      replace HB := bel_next HB hb
      clear hb x0 x1 x2 x3 HRX
      cases k
      · have HF : Hid (r = false) := by
          have h1 := HP2.out (fun h => by have := hk.out.2 h; cases this)
          cases r
          · rfl
          · exact (h1 (hq.out.1 rfl)).elim
        clear hk HP1 HP2 hq
        go_wp2
        go_ret
        exact ⟨_, rfl, HB.out, (fun h => by rw [HF.out] at h; cases h), (fun _ => by omega)⟩
      · have HN2 : Hid (HasNo os (i + 1)) := HP1.out (hk.out.1 rfl)
        clear hk HP1 HP2
        go_wp2
        go_roundw
        case rel => first | exact ⟨i + 1, by omega, by go_num, HN2.out, HB.out⟩ | ((repeat apply Exists.intro); exact ⟨⟨i + 1, by omega, by go_num, HN2.out, HB.out⟩, rfl⟩)
        case measure => simp [intOf]; omega
    · have hlt' : ¬ (i : Int) < (os.length : Int) := by omega
      have HT : Hid (r = true) := hq.out.2 (allok_all (by omega) HN.out)
      clear hq HN
      go_wp2
      go_ret
      exact ⟨_, rfl, HB.out, (fun _ => rfl), (fun h => by rw [HT.out] at h; cases h)⟩
theorem containsBad_any (cap : Nat) (ao : Option Addr) (os : List Ov) (r : Bool) (hq : Hid (r = true ↔ AllOk os)) (w : World) (h3 : os.length ≤ 3) (hs : Sml os) (hr0 : ORow w ao os) :
    Calls Tryd.prog 31 #[.slice ao os.length cap, .func (.func 32) #[] #[]] w fun e w' => e = .returned (.bool (!r)) ∧ Below w.heap.size w w' := by
  have C : Hid _ := indexBad_any cap ao os r hq w h3 hs hr0
  clear hq hs hr0 h3
  go_enter Tryd.func31, Tryd.ntmps31
  go_wp2_with fail
  refine Calls.mono C.out ?_
  rintro e w1 ⟨k, rfl, hb, hy, hn⟩
  cases r
  · have h0 : 0 ≤ k := hn rfl
    clear hy hn
    go_wp2
    go_ret
    exact ⟨rfl, hb⟩
  · obtain rfl : k = -1 := hy rfl
    clear hn
    go_wp2
    go_ret
    exact ⟨rfl, hb⟩
/-- What MergeAll answers. -/
def MR (os : List Ov) (J : List Sib) (p q r code : Int) : Prop :=
  (4096 < os.length ∧ (J = [] ∧ p = 0 ∧ q = 0 ∧ r = 0) ∧ code = 2) ∨ (os.length ≤ 4096 ∧ 3 < os.length ∧ (J = [] ∧ p = 0 ∧ q = 0 ∧ r = 0) ∧ code = 6) ∨
  (os.length ≤ 3 ∧ ¬ AllOk os ∧ (J = [] ∧ p = 0 ∧ q = 0 ∧ r = 0) ∧ code = 1) ∨ (os.length ≤ 3 ∧ AllOk os ∧ 100 < (mgS os).1.length ∧ (J = [] ∧ p = 0 ∧ q = 0 ∧ r = 0) ∧ code = 6) ∨
  (os.length ≤ 3 ∧ AllOk os ∧ (mgS os).1.length ≤ 100 ∧ mgS os = (J, p, q, r) ∧ code = 0)
theorem mr_of (os : List Ov) : ∃ J p q r code, Hid (MR os J p q r code) ∧ J.length ≤ 100 := by
  by_cases h1 : 4096 < os.length
  · exact ⟨_, _, _, _, _, .inl ⟨h1, ⟨rfl, rfl, rfl, rfl⟩, rfl⟩, by simp⟩
  by_cases h2 : 3 < os.length
  · exact ⟨_, _, _, _, _, .inr (.inl ⟨by omega, h2, ⟨rfl, rfl, rfl, rfl⟩, rfl⟩), by simp⟩
  by_cases h3 : AllOk os
  · by_cases h4 : 100 < (mgS os).1.length
    · exact ⟨_, _, _, _, _, .inr (.inr (.inr (.inl ⟨by omega, h3, h4, ⟨rfl, rfl, rfl, rfl⟩, rfl⟩))), by simp⟩
    · exact ⟨(mgS os).1, (mgS os).2.1, (mgS os).2.2.1, (mgS os).2.2.2, _, .inr (.inr (.inr (.inr ⟨by omega, h3, by omega, rfl, rfl⟩))), by omega⟩
  · exact ⟨_, _, _, _, _, .inr (.inr (.inl ⟨by omega, h3, ⟨rfl, rfl, rfl, rfl⟩, rfl⟩)), by simp⟩
def MaP (J : List Sib) (p q r code : Int) (w : World) (e : Ending) (w' : World) : Prop := ∃ vo vc, e = .returned (.tuple #[.agg #[.slice vo J.length vc, .int .i64 p, .int .i64 q, .int .i64 r], .int .i64 code]) ∧ Gro w w' (.slice none 0 0) (.slice vo J.length vc) ∧ w'.ownsRow 0 74 4 (.slice vo J.length vc) J.length (flat J)
theorem there_box {w : World} : There (w.alloc (.cells #[.slice none 0 0, .int .i64 0, .int .i64 0, .int .i64 0] 32)) w.heap.size 4 := fun j hj => by
  have hj' : j = 0 ∨ j = 1 ∨ j = 2 ∨ j = 3 := by omega
  rcases hj' with rfl | rfl | rfl | rfl <;> exact ⟨by go_simp, by go_simp⟩

set_option maxHeartbeats 4000000 in
theorem implMerge_any (cap : Nat) (ao : Option Addr) (os : List Ov) (J : List Sib) (p q r code : Int) (hJ : Hid (MR os J p q r code)) (w : World) (hn : os.length ≤ 1048576) (hs : Sml os) (hr0 : ORow w ao os) :
    Calls Tryd.prog 11 #[.slice ao os.length cap] w (MaP J p q r code w) := by
  have HR : Hid (ORow w ao os) := hr0
  have HS : Hid (Sml os) := hs
  have hTr : There (w.alloc (.cells #[.slice none 0 0, .int .i64 0, .int .i64 0, .int .i64 0] 32)) w.heap.size 4 := there_box
  have HT0 : Hid (There (w.alloc (.cells #[.slice none 0 0, .int .i64 0, .int .i64 0, .int .i64 0] 32)) w.heap.size 4) := hTr
  have G0 : Hid (Gro w (w.alloc (.cells #[.slice none 0 0, .int .i64 0, .int .i64 0, .int .i64 0] 32)) (.slice none 0 0) (.slice none 0 0)) := Gro.of_below (bel_alloc _ _)
  clear hr0 hs
  rcases hJ.out with ⟨h1, ⟨rfl, rfl, rfl, rfl⟩, rfl⟩ | ⟨h1, h2, ⟨rfl, rfl, rfl, rfl⟩, rfl⟩ | ⟨h3, hA, ⟨rfl, rfl, rfl, rfl⟩, rfl⟩ | ⟨h3, hA, h4, ⟨rfl, rfl, rfl, rfl⟩, rfl⟩ | ⟨h3, hA, h4, hE, rfl⟩
  · have h1' : (4096 : Int) < (os.length : Int) := by omega
    clear hJ HR HS HT0
    go_enter Tryd.func11, Tryd.ntmps11
    go_wp2_with fail
    clear hTr
    go_wp2
    refine bodyPost_ret (v := .tuple #[.agg #[.slice none 0 0, .int .i64 0, .int .i64 0, .int .i64 0], .int .i64 2]) (by simp [results, Tryd.results11, go_sem]) rfl ⟨none, 0, rfl, ?_, World.ownsRow_nil _ _ _ _⟩
    first | exact G0.out | exact Gro.set4 G0.out (Nat.le_refl _)
  · have h1' : ¬ (4096 : Int) < (os.length : Int) := by omega
    have h2' : (3 : Int) < (os.length : Int) := by omega
    clear hJ HR HS HT0
    go_enter Tryd.func11, Tryd.ntmps11
    go_wp2_with fail
    clear hTr
    go_wp2
    refine bodyPost_ret (v := .tuple #[.agg #[.slice none 0 0, .int .i64 0, .int .i64 0, .int .i64 0], .int .i64 6]) (by simp [results, Tryd.results11, go_sem]) rfl ⟨none, 0, rfl, ?_, World.ownsRow_nil _ _ _ _⟩
    first | exact G0.out | exact Gro.set4 G0.out (Nat.le_refl _)
  · have h1' : ¬ (4096 : Int) < (os.length : Int) := by omega
    have h2' : ¬ (3 : Int) < (os.length : Int) := by omega
    have C : Hid _ := containsBad_any cap ao os false ⟨fun h => Bool.noConfusion h, fun h => (hA h).elim⟩ (w.alloc (.cells #[.slice none 0 0, .int .i64 0, .int .i64 0, .int .i64 0] 32)) h3 HS.out (HR.out.next (bel_alloc _ _))
    clear hJ HR HS hTr hA h3
    go_enter Tryd.func11, Tryd.ntmps11
    go_wp2_with fail
    refine Calls.mono C.out ?_
    rintro e w1 ⟨rfl, hb⟩
    have hTr := HT0.out.next hb (by simp)
    have G1 : Hid (Gro w w1 (.slice none 0 0) (.slice none 0 0)) := G0.out.trans (Gro.of_below hb)
    clear hb C G0 HT0
    obtain ⟨t0, T0⟩ := Option.isSome_iff_exists.1 (hTr 0 (by omega)).1
    have Z0 := (hTr 0 (by omega)).2
    obtain ⟨t1, T1⟩ := Option.isSome_iff_exists.1 (hTr 1 (by omega)).1
    have Z1 := (hTr 1 (by omega)).2
    obtain ⟨t2, T2⟩ := Option.isSome_iff_exists.1 (hTr 2 (by omega)).1
    have Z2 := (hTr 2 (by omega)).2
    obtain ⟨t3, T3⟩ := Option.isSome_iff_exists.1 (hTr 3 (by omega)).1
    have Z3 := (hTr 3 (by omega)).2
    clear hTr
    go_wp2
    refine bodyPost_ret (v := .tuple #[.agg #[.slice none 0 0, .int .i64 0, .int .i64 0, .int .i64 0], .int .i64 1]) (by simp [results, Tryd.results11, go_sem, T0, T1, T2, T3, Z0, Z1, Z2, Z3]) rfl ⟨none, 0, rfl, ?_, World.ownsRow_nil _ _ _ _⟩
    exact Gro.set4 (G1.out) (Nat.le_refl _)
  all_goals
    have h1' : ¬ (4096 : Int) < (os.length : Int) := by omega
    have h2' : ¬ (3 : Int) < (os.length : Int) := by omega
    have C : Hid _ := containsBad_any cap ao os true ⟨fun _ => hA, fun _ => rfl⟩ (w.alloc (.cells #[.slice none 0 0, .int .i64 0, .int .i64 0, .int .i64 0] 32)) h3 HS.out (HR.out.next (bel_alloc _ _))
    have C2 : Hid _ := fun W h => joinedAll_any cap ao os W h3 hA h
    clear hJ HS hTr hA h3
    go_enter Tryd.func11, Tryd.ntmps11
    go_wp2_with fail
    refine Calls.mono C.out ?_
    rintro e w1 ⟨rfl, hb⟩
    have HT1 : Hid (There w1 w.heap.size 4) := HT0.out.next hb (by simp)
    have HZ1 : Hid (w.heap.size < w1.heap.size) := Nat.lt_of_lt_of_le (by simp) hb.size
    have G1 : Hid (Gro w w1 (.slice none 0 0) (.slice none 0 0)) := G0.out.trans (Gro.of_below hb)
    replace HR : Hid _ := (HR.out.next (bel_alloc _ _)).next hb
    clear hb C G0 HT0
    go_wp2_with fail
    refine Calls.mono (C2.out _ HR.out) ?_
    rintro e w2 ⟨vo, vc, rfl, hg, ho⟩
    have hTr := th_gro (th_gro HT1.out hg HZ1.out Gro.none_ne) (Gro.of_below (v := .slice none 0 0) (bel_alloc w2 (.cells #[.slice vo (mgS os).1.length vc, .int .i64 (mgS os).2.1, .int .i64 (mgS os).2.2.1, .int .i64 (mgS os).2.2.2] 32))) (Nat.lt_of_lt_of_le HZ1.out hg.size) Gro.none_ne
    have G2 : Hid (Gro w w2 (.slice none 0 0) (.slice vo (mgS os).1.length vc)) := G1.out.trans hg
    have O2 : Hid (w2.ownsRow 0 74 4 (.slice vo (mgS os).1.length vc) (mgS os).1.length (flat (mgS os).1)) := ho
    have HNE : Hid ((Value.slice vo (mgS os).1.length vc).ownBlock ≠ some w.heap.size) := nb hg HZ1.out
    clear hg ho C2 HR HT1 HZ1 G1
  · have h4' : (100 : Int) < ((mgS os).1.length : Int) := by omega
    obtain ⟨t0, T0⟩ := Option.isSome_iff_exists.1 (hTr 0 (by omega)).1
    have Z0 := (hTr 0 (by omega)).2
    obtain ⟨t1, T1⟩ := Option.isSome_iff_exists.1 (hTr 1 (by omega)).1
    have Z1 := (hTr 1 (by omega)).2
    obtain ⟨t2, T2⟩ := Option.isSome_iff_exists.1 (hTr 2 (by omega)).1
    have Z2 := (hTr 2 (by omega)).2
    obtain ⟨t3, T3⟩ := Option.isSome_iff_exists.1 (hTr 3 (by omega)).1
    have Z3 := (hTr 3 (by omega)).2
    clear hTr
    generalize mgS os = s at *
    obtain ⟨sl, sa, sb, sc⟩ := s
    dsimp only at *
    go_wp2
    refine bodyPost_ret (v := .tuple #[.agg #[.slice none 0 0, .int .i64 0, .int .i64 0, .int .i64 0], .int .i64 6]) (by simp [results, Tryd.results11, go_sem, T0, T1, T2, T3, Z0, Z1, Z2, Z3]) rfl ⟨none, 0, rfl, ?_, World.ownsRow_nil _ _ _ _⟩
    exact Gro.set4 ((gro_nil G2.out).trans (Gro.of_below (bel_alloc _ _))) (Nat.le_refl _)
  · have hJl : J.length ≤ 100 := by have := h4; rw [hE] at this; exact this
    rw [hE] at *
    dsimp only at *
    have h4' : ¬ (100 : Int) < (J.length : Int) := by omega
    obtain ⟨t0, T0⟩ := Option.isSome_iff_exists.1 (hTr 0 (by omega)).1
    have Z0 := (hTr 0 (by omega)).2
    obtain ⟨t1, T1⟩ := Option.isSome_iff_exists.1 (hTr 1 (by omega)).1
    have Z1 := (hTr 1 (by omega)).2
    obtain ⟨t2, T2⟩ := Option.isSome_iff_exists.1 (hTr 2 (by omega)).1
    have Z2 := (hTr 2 (by omega)).2
    obtain ⟨t3, T3⟩ := Option.isSome_iff_exists.1 (hTr 3 (by omega)).1
    have Z3 := (hTr 3 (by omega)).2
    clear hTr hE
    go_wp2
    refine bodyPost_ret (v := .tuple #[.agg #[.slice vo J.length vc, .int .i64 p, .int .i64 q, .int .i64 r], .int .i64 0]) (by simp [results, Tryd.results11, go_sem, T0, T1, T2, T3, Z0, Z1, Z2, Z3]) rfl ⟨vo, vc, rfl, ?_, ?_⟩
    · exact Gro.set4 (G2.out.trans (Gro.of_below (bel_alloc _ _))) (Nat.le_refl _)
    · exact own_set4 (O2.out.alloc _) HNE.out

theorem fld_sibs (vo : Option Addr) (n vc : Nat) (a b c : Int) (w : World) : (Instr.field 32 (.agg #[.slice vo n vc, .int .i64 a, .int .i64 b, .int .i64 c]) 0).run Tryd.prog w = .ok (.slice vo n vc) w := by kernel_rfl
set_option maxRecDepth 100000 in
set_option maxHeartbeats 4000000 in
theorem l08Ask_any (cap : Nat) (ao : Option Addr) (os : List Ov) (J : List Sib) (p q r code : Int) (hJ : Hid (MR os J p q r code)) (w : World) (hn : os.length ≤ 4096) (hs : Sml os) (hr0 : ORow w ao os) :
    Calls Tryd.prog 35 #[.slice ao os.length cap] w fun e w' => e = .returned (.int .i64 code) ∧ Below w.heap.size w w' := by
  have HR : Hid (ORow w ao os) := hr0
  have HS : Hid (Sml os) := hs
  clear hr0 hs
  by_cases h2 : 3 < os.length
  · obtain rfl : code = 6 := by
      rcases hJ.out with ⟨h1, _, rfl⟩ | ⟨h1, h2, _, rfl⟩ | ⟨h3, hA, _, rfl⟩ | ⟨h3, hA, h4, _, rfl⟩ | ⟨h3, hA, h4, hE, rfl⟩ <;> omega
    have h2' : (3 : Int) < (os.length : Int) := by omega
    clear hJ HR HS
    go_enter Tryd.func35, Tryd.ntmps35
    go_wp2
    go_ret
    exact ⟨rfl, Below.refl _ _⟩
  have h2' : ¬ (3 : Int) < (os.length : Int) := by omega
  have h3 : os.length ≤ 3 := by omega
  have HB1 : Hid (¬ AllOk os → code = 1) := fun hN => by
    rcases hJ.out with ⟨h1, _, rfl⟩ | ⟨h1, h2, _, rfl⟩ | ⟨h3, hA, _, rfl⟩ | ⟨h3, hA, h4, _, rfl⟩ | ⟨h3, hA, h4, hE, rfl⟩
    · omega
    · omega
    · rfl
    · exact (hN hA).elim
    · exact (hN hA).elim
  have HB2 : Hid (AllOk os → (100 < (mgS os).1.length → code = 6) ∧ ((mgS os).1.length ≤ 100 → code = 0)) := fun hA' => by
    rcases hJ.out with ⟨h1, _, rfl⟩ | ⟨h1, h2, _, rfl⟩ | ⟨h3, hA, _, rfl⟩ | ⟨h3, hA, h4, _, rfl⟩ | ⟨h3, hA, h4, hE, rfl⟩
    · omega
    · omega
    · exact (hA hA').elim
    · exact ⟨fun _ => rfl, fun h => by omega⟩
    · exact ⟨fun h => by omega, fun _ => rfl⟩
  clear hJ h2
  go_enter Tryd.func35, Tryd.ntmps35
  go_wp2
  go_loopw [3] (fun s3 wr => ∃ i : Nat, i ≤ os.length ∧ s3 = .int .i64 i ∧ HasNo os i ∧ Below w.heap.size w wr) (fun s3 _ => os.length - (intOf s3).toNat)
  case atStart => exact ⟨0, by omega, rfl, fun j hj hl => by omega, Below.refl _ _⟩
  case round =>
    obtain ⟨i, hi, rfl, hN0, hB0⟩ := hrel
    have HN : Hid (HasNo os i) := hN0
    have HB : Hid (Below w.heap.size w wr) := hB0
    clear hN0 hB0
    by_cases hlt : i < os.length
    · have hlt' : (i : Int) < (os.length : Int) := by omega
      have kk : (0 : Int) ≤ (i : Int) := by omega
      obtain ⟨b, off, rfl, ⟨x0, x1, x2, x3⟩, hrx, hcx⟩ := (HR.out.next HB.out).at i hlt
      have HRX : Hid (SibRow wr os[i].ao os[i].l) := hrx
      have hml : (os[i].l.length : Int) ≤ 1048576 := by have := HS.out _ (List.getElem_mem hlt); omega
      obtain ⟨k, hk⟩ := okp_bool os[i]
      have HP1 : Hid (OkP os[i].l os[i].a os[i].b os[i].c → HasNo os (i + 1)) := fun h => HN.out.step hlt h
      have HP2 : Hid (¬ OkP os[i].l os[i].a os[i].b os[i].c → code = 1) := fun h => HB1.out (allok_bad hlt h)
      generalize os[i] = x at *
      clear hrx
      go_wp2_with fail
      refine (specOK_any x.cap x.ao x.l x.a x.b x.c k hk _ hml HRX.out).mono ?_
      rintro e w1 ⟨rfl, hb⟩
      replace HB := bel_next HB hb
      clear hb x0 x1 x2 x3 HRX
      cases k
      · obtain rfl : code = 1 := HP2.out (fun h => by have := hk.out.2 h; cases this)
        clear hk HP1 HP2 HB1 HB2
        go_wp2
        go_ret
        exact ⟨rfl, HB.out⟩
      · have HN2 : Hid (HasNo os (i + 1)) := HP1.out (hk.out.1 rfl)
        clear hk HP1 HP2
        go_wp2
        go_roundw
        case rel => first | exact ⟨i + 1, by omega, by go_num, HN2.out, HB.out⟩ | ((repeat apply Exists.intro); exact ⟨⟨i + 1, by omega, by go_num, HN2.out, HB.out⟩, rfl⟩)
        case measure => simp [intOf]; omega
    · have hlt' : ¬ (i : Int) < (os.length : Int) := by omega
      have HA : AllOk os := allok_all (by omega) HN.out
      have C2 : Hid _ := l08Merge_any cap ao os wr h3 HA (HR.out.next HB.out)
      have HC : Hid ((100 < (mgS os).1.length → code = 6) ∧ ((mgS os).1.length ≤ 100 → code = 0)) := HB2.out HA
      clear HB1 HB2 HN HA HR HS
      generalize mgS os = s at *
      obtain ⟨sl, sa, sb, sc⟩ := s
      go_wp2_with fail
      refine Calls.mono C2.out ?_
      rintro e w2 ⟨vo, vc, rfl, hg, ho⟩
      have HB3 : Hid (Below w.heap.size w w2) := bel_next HB (hg.below (Nat.le_refl _) (fun k hk => by simp [Value.ownBlock] at hk))
      clear hg ho C2
      dsimp only at *
      have fs := fld_sibs vo sl.length vc sa sb sc w2
      by_cases h4 : 100 < sl.length
      · have h4' : (100 : Int) < (sl.length : Int) := by omega
        obtain rfl := HC.out.1 h4
        go_wp2
        go_ret
        exact ⟨rfl, HB3.out⟩
      · have h4' : ¬ (100 : Int) < (sl.length : Int) := by omega
        obtain rfl := HC.out.2 (by omega)
        go_wp2
        go_ret
        exact ⟨rfl, HB3.out⟩
set_option maxHeartbeats 4000000 in
theorem specMerge_any (cap : Nat) (ao : Option Addr) (os : List Ov) (J : List Sib) (p q r code : Int) (hJ : Hid (MR os J p q r code)) (w : World) (hn : os.length ≤ 1048576) (hs : Sml os) (hr0 : ORow w ao os) :
    Calls Tryd.prog 12 #[.slice ao os.length cap] w (MaP J p q r code w) := by
  have HR : Hid (ORow w ao os) := hr0
  have HS : Hid (Sml os) := hs
  have hTr : There (w.alloc (.cells #[.slice none 0 0, .int .i64 0, .int .i64 0, .int .i64 0] 32)) w.heap.size 4 := there_box
  have HT0 : Hid (There (w.alloc (.cells #[.slice none 0 0, .int .i64 0, .int .i64 0, .int .i64 0] 32)) w.heap.size 4) := hTr
  have G0 : Hid (Gro w (w.alloc (.cells #[.slice none 0 0, .int .i64 0, .int .i64 0, .int .i64 0] 32)) (.slice none 0 0) (.slice none 0 0)) := Gro.of_below (bel_alloc _ _)
  clear hr0 hs
  by_cases h1 : 4096 < os.length
  · obtain ⟨⟨rfl, rfl, rfl, rfl⟩, rfl⟩ : (J = [] ∧ p = 0 ∧ q = 0 ∧ r = 0) ∧ code = 2 := by
      rcases hJ.out with ⟨h1, z, rfl⟩ | ⟨h1, h2, _, rfl⟩ | ⟨h3, hA, _, rfl⟩ | ⟨h3, hA, h4, _, rfl⟩ | ⟨h3, hA, h4, hE, rfl⟩
      · exact ⟨z, rfl⟩
      all_goals omega
    have h1' : (4096 : Int) < (os.length : Int) := by omega
    clear hJ HR HS HT0
    go_enter Tryd.func12, Tryd.ntmps12
    go_wp2_with fail
    clear hTr
    go_wp2
    refine bodyPost_ret (v := .tuple #[.agg #[.slice none 0 0, .int .i64 0, .int .i64 0, .int .i64 0], .int .i64 2]) (by simp [results, Tryd.results12, go_sem]) rfl ⟨none, 0, rfl, ?_, World.ownsRow_nil _ _ _ _⟩
    first | exact G0.out | exact Gro.set4 G0.out (Nat.le_refl _)
  have h1' : ¬ (4096 : Int) < (os.length : Int) := by omega
  have C : Hid _ := l08Ask_any cap ao os J p q r code hJ (w.alloc (.cells #[.slice none 0 0, .int .i64 0, .int .i64 0, .int .i64 0] 32)) (by omega) HS.out (HR.out.next (bel_alloc _ _))
  by_cases hc : code = 0
  · subst hc
    obtain ⟨h3, hA, h4, hE⟩ : os.length ≤ 3 ∧ AllOk os ∧ (mgS os).1.length ≤ 100 ∧ mgS os = (J, p, q, r) := by
      rcases hJ.out with ⟨_, _, e⟩ | ⟨_, _, _, e⟩ | ⟨_, _, _, e⟩ | ⟨_, _, _, _, e⟩ | ⟨h3, hA, h4, hE, _⟩
      · omega
      · omega
      · omega
      · omega
      · exact ⟨h3, hA, h4, hE⟩
    have C2 : Hid _ := fun W h => l08Merge_any cap ao os W h3 hA h
    rw [hE] at C2
    clear hJ HS hTr hA h3 h4 hE
    go_enter Tryd.func12, Tryd.ntmps12
    go_wp2_with fail
    refine Calls.mono C.out ?_
    rintro e w1 ⟨rfl, hb⟩
    have HT1 : Hid (There w1 w.heap.size 4) := HT0.out.next hb (by simp)
    have HZ1 : Hid (w.heap.size < w1.heap.size) := Nat.lt_of_lt_of_le (by simp) hb.size
    have G1 : Hid (Gro w w1 (.slice none 0 0) (.slice none 0 0)) := G0.out.trans (Gro.of_below hb)
    replace HR : Hid _ := (HR.out.next (bel_alloc _ _)).next hb
    clear hb C G0 HT0
    go_wp2_with fail
    refine Calls.mono (C2.out _ HR.out) ?_
    rintro e w2 ⟨vo, vc, rfl, hg, ho⟩
    have hTr := th_gro HT1.out hg HZ1.out Gro.none_ne
    have G2 : Hid (Gro w w2 (.slice none 0 0) (.slice vo J.length vc)) := G1.out.trans hg
    have O2 : Hid (w2.ownsRow 0 74 4 (.slice vo J.length vc) J.length (flat J)) := ho
    have HNE : Hid ((Value.slice vo J.length vc).ownBlock ≠ some w.heap.size) := nb hg HZ1.out
    clear hg ho C2 HR HT1 HZ1 G1
    obtain ⟨t0, T0⟩ := Option.isSome_iff_exists.1 (hTr 0 (by omega)).1
    have Z0 := (hTr 0 (by omega)).2
    obtain ⟨t1, T1⟩ := Option.isSome_iff_exists.1 (hTr 1 (by omega)).1
    have Z1 := (hTr 1 (by omega)).2
    obtain ⟨t2, T2⟩ := Option.isSome_iff_exists.1 (hTr 2 (by omega)).1
    have Z2 := (hTr 2 (by omega)).2
    obtain ⟨t3, T3⟩ := Option.isSome_iff_exists.1 (hTr 3 (by omega)).1
    have Z3 := (hTr 3 (by omega)).2
    clear hTr
    go_wp2
    refine bodyPost_ret (v := .tuple #[.agg #[.slice vo J.length vc, .int .i64 p, .int .i64 q, .int .i64 r], .int .i64 0]) (by simp [results, Tryd.results12, go_sem, T0, T1, T2, T3, Z0, Z1, Z2, Z3]) rfl ⟨vo, vc, rfl, ?_, ?_⟩
    · exact Gro.set4 G2.out (Nat.le_refl _)
    · exact own_set4 O2.out HNE.out
  · obtain ⟨rfl, rfl, rfl, rfl⟩ : J = [] ∧ p = 0 ∧ q = 0 ∧ r = 0 := by
      rcases hJ.out with ⟨_, z, _⟩ | ⟨_, _, z, _⟩ | ⟨_, _, z, _⟩ | ⟨_, _, _, z, _⟩ | ⟨_, _, _, _, e⟩
      · exact z
      · exact z
      · exact z
      · exact z
      · exact (hc e).elim
    clear hJ HS hTr HR
    go_enter Tryd.func12, Tryd.ntmps12
    go_wp2_with fail
    refine Calls.mono C.out ?_
    rintro e w1 ⟨rfl, hb⟩
    have hTr := HT0.out.next hb (by simp)
    have G1 : Hid (Gro w w1 (.slice none 0 0) (.slice none 0 0)) := G0.out.trans (Gro.of_below hb)
    clear hb C G0 HT0
    obtain ⟨t0, T0⟩ := Option.isSome_iff_exists.1 (hTr 0 (by omega)).1
    have Z0 := (hTr 0 (by omega)).2
    obtain ⟨t1, T1⟩ := Option.isSome_iff_exists.1 (hTr 1 (by omega)).1
    have Z1 := (hTr 1 (by omega)).2
    obtain ⟨t2, T2⟩ := Option.isSome_iff_exists.1 (hTr 2 (by omega)).1
    have Z2 := (hTr 2 (by omega)).2
    obtain ⟨t3, T3⟩ := Option.isSome_iff_exists.1 (hTr 3 (by omega)).1
    have Z3 := (hTr 3 (by omega)).2
    clear hTr
    go_wp2
    refine bodyPost_ret (v := .tuple #[.agg #[.slice none 0 0, .int .i64 0, .int .i64 0, .int .i64 0], .int .i64 code]) (by simp [results, Tryd.results12, go_sem, T0, T1, T2, T3, Z0, Z1, Z2, Z3]) rfl ⟨none, 0, rfl, ?_, World.ownsRow_nil _ _ _ _⟩
    exact Gro.set4 (G1.out) (Nat.le_refl _)
end Go.Proofs.YtcmniplbiliobaaDoor
