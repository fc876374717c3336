/- The law of Ack. -/
import Derived.Test.YtklajcdlacemaaaRows
import Derived.WalkKit
import Derived.WalkSpells
import Derived.WalkLawsBesides
import Derived.Deep.QuietTactic
import Derived.BigQuiet
import Derived.Deep.RegionHeld3
import Derived.Test.YtklajcdlacemaaaGw
import Derived.Test.YtklajcdlacemaaaZk
import Derived.LoopN
import Derived.Deep.Cut
namespace Go.Proofs.Ytklajcdlacemaaa
open Go.RowKit
set_option linter.unusedSimpArgs false
set_option linter.unusedVariables false

theorem Kp.set1 {W : World} {g i : Nat} {u : Value} : Kp (fun b => g ≤ b ∧ b < g + 1) W (W.setCell ⟨g, i, none⟩ u) := (Kp.set (W := W) (g := g) (i := i) (u := u)).mono (fun b h => by omega)
theorem Kp.trans1 {E : Nat → Prop} {a b c : World} (h : Kp E a b) (k : Kp E b c) : Kp E a c := h.trans k (fun _ _ h => h) (fun _ _ h => h)
theorem ir_store {lo hi h2 gz : Nat} {W W' : World} {p : Option Addr} {l : List Dt} (h : IR lo hi W p l) (k : Kp (fun b => gz ≤ b ∧ b < gz + 1) W W') (hn : ∀ x, p = some x → l ≠ [] → ¬ x.block = gz) (hh : W.heap.size = h2) : IR lo h2 W' p l := by
  subst hh
  refine ⟨⟨h.mr.row.kp k (fun x hx hv => ?_), ?_⟩, h.mr.ir.up⟩
  · have hl : l ≠ [] := fun e => hv (by rw [e]; rfl)
    have := hn x hx hl
    omega
  · rcases h.mr.wr with h' | ⟨g, h1, h2, h3, h4⟩
    · exact .inl h'
    · by_cases hl : l = []
      · exact .inl hl
      · have h5 := hn _ h1 hl
        dsimp only at h5
        refine .inr ⟨g, h1, h2, Nat.lt_of_lt_of_le h3 k.size, fun j hj => ?_⟩
        have hq := k.block g h3 (by omega)
        rw [World.cell?_of_block (w := W) hq, World.frozen?_of_block (w := W) hq]
        exact h4 j hj

theorem ack_both (e o a b c ep dp dn : Int) (l : List Dt) : ∃ (nb : Bool) (code e' o' a' b' c' : Int) (l' : List Dt), ((l.length : Int) ≤ 1048576 → ∀ W lo p q, GRow lo W p (flatD l) → Calls Try.prog 12 #[.agg #[.int .i64 e, .int .i64 o, .int .i64 a, .int .i64 b, .int .i64 c, .slice p l.length q], .int .i64 ep, .agg #[.int .i64 dp, .int .i64 dn]] W (AP W nb code e' o' a' b' c' l')) ∧ ((l.length : Int) ≤ 1048576 → ∀ W lo p q, GRow lo W p (flatD l) → Calls Try.prog 10 #[.agg #[.int .i64 e, .int .i64 o, .int .i64 a, .int .i64 b, .int .i64 c, .slice p l.length q], .int .i64 ep, .agg #[.int .i64 dp, .int .i64 dn]] W (AP W nb code e' o' a' b' c' l')) ∧ (l'.length ≤ l.length ∨ l'.length ≤ 4096) := by
  cases hg : gokB e o a b c l
  · exact ⟨false, 1, 0, 0, 0, 0, 0, [], fun hn W lo p q h => specA_bad1 lo q p l e o a b c ep dp dn W hn h hg, fun hn W lo p q h => implA_bad1 lo q p l e o a b c ep dp dn W hn h hg, .inl (by simp)⟩
  cases hd : dotB dp dn
  · exact ⟨false, 1, 0, 0, 0, 0, 0, [], fun hn W lo p q h => specA_bad2 lo q p l e o a b c ep dp dn W hn h hg hd, fun hn W lo p q h => implA_bad2 lo q p l e o a b c ep dp dn W hn h hg hd, .inl (by simp)⟩
  by_cases he : ep = e
  case neg => exact ⟨false, 12, e, o, a, b, c, l, fun hn W lo p q h => specA_of lo q p l e o a b c ep dp dn W hn h hg hd false 12 a b c l (by omega) (fun W' h' => lp_same h' (lack_fence q p l e o a b c ep dp dn W' he)), fun hn W lo p q h => implA_fence lo q p l e o a b c ep dp dn W hn h hg hd he, .inl (Nat.le_refl _)⟩
  subst he
  have hdn := dot_node hd
  have hbd := gok_bounds hg
  have hvv := of_decide_eq_true hbd.2.2.2.2.1
  by_cases hk : dn ≤ comp a b c dp
  · exact ⟨false, 0, ep, o, a, b, c, l, fun hn W lo p q h => specA_of lo q p l ep o a b c ep dp dn W hn h hg hd false 0 a b c l (by omega) (fun W' h' => lp_same h' (lack_known q p l ep o a b c dp dn W' hdn.1 hdn.2 hk)), fun hn W lo p q h => implA_known lo q p l ep o a b c dp dn W hn h hg hd hk, .inl (Nat.le_refl _)⟩
  have hp3 : dp = 0 ∨ dp = 1 ∨ dp = 2 := by omega
  rcases hp3 with rfl | rfl | rfl
  · have hk' : a < dn := by simp [comp] at hk; omega
    have hx : 0 ≤ a ∧ a ≤ 9999 := by omega
    by_cases h2 : a + 1 = dn
    case neg => exact ⟨false, 17, ep, o, a, b, c, l, fun hn W lo p q h => specA_of lo q p l ep o a b c ep 0 dn W hn h hg hd false 17 a b c l (by omega) (fun W' h' => lp_same h' (lack_order0 q p l ep o a b c dn W' hx hk' h2)), fun hn W lo p q h => implA_order0 lo q p l ep o a b c dn W hn h hg hd hx hk' h2, .inl (Nat.le_refl _)⟩
    subst h2
    by_cases h4 : l.length = 4096
    · exact ⟨false, 7, ep, o, a, b, c, l, fun hn W lo p q h => specA_of lo q p l ep o a b c ep 0 (a + 1) W hn h hg hd false 7 a b c l (by omega) (fun W' h' => lp_same h' (lack_full0 q p l ep o a b c W' hx h4)), fun hn W lo p q h => implA_full0 lo q p l ep o a b c W hn h hg hd hx h4, .inl (Nat.le_refl _)⟩
    · have h5 : l.length < 4096 := by omega
      exact ⟨true, 0, ep, o, (a + 1), b, c, l ++ [⟨0, a + 1⟩], fun hn W lo p q h => specA_of lo q p l ep o a b c ep 0 (a + 1) W hn h hg hd true 0 (a + 1) b c (l ++ [⟨0, a + 1⟩]) (by simp; omega) (fun W' h' => lp_ok0 lo q p l ep o a b c W' hx h5 h'), fun hn W lo p q h => implA_ok0 lo q p l ep o a b c W hn h hg hd hx h5, .inr (by simp; omega)⟩
  · have hk' : b < dn := by simp [comp] at hk; omega
    have hx : 0 ≤ b ∧ b ≤ 9999 := by omega
    by_cases h2 : b + 1 = dn
    case neg => exact ⟨false, 17, ep, o, a, b, c, l, fun hn W lo p q h => specA_of lo q p l ep o a b c ep 1 dn W hn h hg hd false 17 a b c l (by omega) (fun W' h' => lp_same h' (lack_order1 q p l ep o a b c dn W' hx hk' h2)), fun hn W lo p q h => implA_order1 lo q p l ep o a b c dn W hn h hg hd hx hk' h2, .inl (Nat.le_refl _)⟩
    subst h2
    by_cases h4 : l.length = 4096
    · exact ⟨false, 7, ep, o, a, b, c, l, fun hn W lo p q h => specA_of lo q p l ep o a b c ep 1 (b + 1) W hn h hg hd false 7 a b c l (by omega) (fun W' h' => lp_same h' (lack_full1 q p l ep o a b c W' hx h4)), fun hn W lo p q h => implA_full1 lo q p l ep o a b c W hn h hg hd hx h4, .inl (Nat.le_refl _)⟩
    · have h5 : l.length < 4096 := by omega
      exact ⟨true, 0, ep, o, a, (b + 1), c, l ++ [⟨1, b + 1⟩], fun hn W lo p q h => specA_of lo q p l ep o a b c ep 1 (b + 1) W hn h hg hd true 0 a (b + 1) c (l ++ [⟨1, b + 1⟩]) (by simp; omega) (fun W' h' => lp_ok1 lo q p l ep o a b c W' hx h5 h'), fun hn W lo p q h => implA_ok1 lo q p l ep o a b c W hn h hg hd hx h5, .inr (by simp; omega)⟩
  · have hk' : c < dn := by simp [comp] at hk; omega
    have hx : 0 ≤ c ∧ c ≤ 9999 := by omega
    by_cases h2 : c + 1 = dn
    case neg => exact ⟨false, 17, ep, o, a, b, c, l, fun hn W lo p q h => specA_of lo q p l ep o a b c ep 2 dn W hn h hg hd false 17 a b c l (by omega) (fun W' h' => lp_same h' (lack_order2 q p l ep o a b c dn W' hx hk' h2)), fun hn W lo p q h => implA_order2 lo q p l ep o a b c dn W hn h hg hd hx hk' h2, .inl (Nat.le_refl _)⟩
    subst h2
    by_cases h4 : l.length = 4096
    · exact ⟨false, 7, ep, o, a, b, c, l, fun hn W lo p q h => specA_of lo q p l ep o a b c ep 2 (c + 1) W hn h hg hd false 7 a b c l (by omega) (fun W' h' => lp_same h' (lack_full2 q p l ep o a b c W' hx h4)), fun hn W lo p q h => implA_full2 lo q p l ep o a b c W hn h hg hd hx h4, .inl (Nat.le_refl _)⟩
    · have h5 : l.length < 4096 := by omega
      exact ⟨true, 0, ep, o, a, b, (c + 1), l ++ [⟨2, c + 1⟩], fun hn W lo p q h => specA_of lo q p l ep o a b c ep 2 (c + 1) W hn h hg hd true 0 a b (c + 1) (l ++ [⟨2, c + 1⟩]) (by simp; omega) (fun W' h' => lp_ok2 lo q p l ep o a b c W' hx h5 h'), fun hn W lo p q h => implA_ok2 lo q p l ep o a b c W hn h hg hd hx h5, .inr (by simp; omega)⟩

set_option maxRecDepth 100000 in
set_option maxHeartbeats 16000000 in
theorem law_ack (lo q : Nat) (p : Option Addr) (l : List Dt) (e o a b c ep dp dn : Int) (w : World) (hm : (l.length : Int) ≤ 9223372036854775807) (hr0 : GRow lo w p (flatD l)) :
    Calls Try.prog 7 #[.agg #[.int .i64 e, .int .i64 o, .int .i64 a, .int .i64 b, .int .i64 c, .slice p l.length q], .int .i64 ep, .agg #[.int .i64 dp, .int .i64 dn]] w fun r w' => r = .returned (.bool true) ∧ Below w.heap.size w w' := by
  obtain ⟨nb, code, e', o', a', b', c', l', CS, CI, hl'⟩ := ack_both e o a b c ep dp dn l
  have HCS : Hid _ := CS
  have HCI : Hid _ := CI
  have HR : Hid (GRow lo w p (flatD l)) := hr0
  clear CS CI hr0
  go_enter Try.func7, Try.ntmps7
  go_upto_region 1 with fail
  refine wp_gen (fun W => Box W w.heap.size [.int .i64 e, .int .i64 o, .int .i64 a, .int .i64 b, .int .i64 c, .slice p l.length q] ∧ Box W (w.heap.size + 1) [.int .i64 dp, .int .i64 dn] ∧ Below w.heap.size w W) ⟨box_mk.alloc, ?_, (bel_alloc _ _).trans ((bel_alloc _ _).mono (by simp))⟩ (fun W0 hI => ?_)
  · have := box_mk (W := w.alloc (.cells #[.int .i64 e, .int .i64 o, .int .i64 a, .int .i64 b, .int .i64 c, .slice p l.length q] 44)) (t := 49) (vs := [.int .i64 dp, .int .i64 dn])
    simpa using this
  have HB : Hid (Below w.heap.size w W0) := hI.2.2
  have BA : Hid (Box W0 w.heap.size [.int .i64 e, .int .i64 o, .int .i64 a, .int .i64 b, .int .i64 c, .slice p l.length q]) := hI.1
  have BD : Hid (Box W0 (w.heap.size + 1) [.int .i64 dp, .int .i64 dn]) := hI.2.1
  have RA : Hid (GRow lo W0 p (flatD l)) := HR.out.next hI.2.2
  clear hI
  have O0 : Hid (w.heap.size + 1 < W0.heap.size) := BD.out.lt
  obtain ⟨BA0, BA1, BA2, BA3, BA4, BA5⟩ := BA.out.c6
  go_wp2_with fail
  refine (szG_any l.length q p e o a b c 1048576 _ (by omega) (by omega) hm).mono ?_
  rintro r W1 ⟨rfl, hb⟩
  clear BA0 BA1 BA2 BA3 BA4 BA5
  replace HB : Hid (Below w.heap.size w W1) := HB.out.trans (hb.mono HB.out.size)
  replace BA : Hid (Box W1 w.heap.size [.int .i64 e, .int .i64 o, .int .i64 a, .int .i64 b, .int .i64 c, .slice p l.length q]) := BA.out.next hb
  replace BD : Hid (Box W1 (w.heap.size + 1) [.int .i64 dp, .int .i64 dn]) := BD.out.next hb
  replace RA : Hid (GRow lo W1 p (flatD l)) := HR.out.next HB.out
  have O1 : Hid (W0.heap.size ≤ W1.heap.size) := hb.size
  clear hb
  by_cases hn : (l.length : Int) ≤ 1048576
  case neg =>
    rw [if_neg hn]
    go_wp2
    go_ret
    exact ⟨rfl, HB.out⟩
  have hn1 : ¬ (1048576 : Int) - (l.length : Int) < 0 := by omega
  rw [if_pos hn]
  have hn2 : l'.length ≤ 1048576 := by omega
  clear hl'
  have LBA : Hid (w.heap.size < W1.heap.size) := BA.out.lt
  have LBD : Hid (w.heap.size + 1 < W1.heap.size) := BD.out.lt
  go_upto_region 5 with fail
  go_cut [8, 9, 10] from 21 (fun s8 s9 s10 wc => ∃ (gb : Nat) (pw : Option Addr) (cw : Nat), s8 = .pointer (some ⟨gb, 0, none⟩) ∧ s9 = .bool nb ∧ s10 = .int .i64 code ∧ Box wc gb [.int .i64 e', .int .i64 o', .int .i64 a', .int .i64 b', .int .i64 c', .slice pw l'.length cw] ∧ IR W1.heap.size wc.heap.size wc pw l' ∧ W1.heap.size ≤ gb ∧ (∀ x, pw = some x → l' ≠ [] → ¬ x.block = gb) ∧ Below W1.heap.size W1 wc)
  case first =>
    have HC : Hid (Below W1.heap.size W1 W1) := Below.refl _ _
    refine wp_region_held_drew (S := (fun w' => (w'.cell? ⟨w.heap.size, 0, none⟩ = some (.int .i64 e) ∧ w'.cell? ⟨w.heap.size, 1, none⟩ = some (.int .i64 o) ∧ w'.cell? ⟨w.heap.size, 2, none⟩ = some (.int .i64 a) ∧ w'.cell? ⟨w.heap.size, 3, none⟩ = some (.int .i64 b) ∧ w'.cell? ⟨w.heap.size, 4, none⟩ = some (.int .i64 c) ∧ w'.cell? ⟨w.heap.size, 5, none⟩ = some (.slice p l.length q)) ∧ (w'.cell? ⟨(w.heap.size + 1), 0, none⟩ = some (.int .i64 dp) ∧ w'.cell? ⟨(w.heap.size + 1), 1, none⟩ = some (.int .i64 dn)))) (by kernel_rfl) ?_ (fun hHeld => ?_)
    · (try dsimp only)
      exact ⟨(BA.out.next (bel_drew _)).c6, (BD.out.next (bel_drew _)).c2⟩
    have hbd := bel_drew W1
    replace HB : Hid (Below w.heap.size w W1.drew) := HB.out.trans (hbd.mono HB.out.size)
    replace BA : Hid (Box W1.drew w.heap.size [.int .i64 e, .int .i64 o, .int .i64 a, .int .i64 b, .int .i64 c, .slice p l.length q]) := BA.out.next hbd
    replace BD : Hid (Box W1.drew (w.heap.size + 1) [.int .i64 dp, .int .i64 dn]) := BD.out.next hbd
    replace RA : Hid (GRow lo W1.drew p (flatD l)) := HR.out.next HB.out
    replace HC : Hid (Below W1.heap.size W1 W1.drew) := HC.out.trans (hbd.mono HC.out.size)
    clear hbd
    generalize W1.drew = Va0 at *
    refine wTk 0 ?_
    refine wTk 2 ?_
    refine wTk 3 ?_
    refine wRd2 1 10 (fun K hK => ?_) (fun K hK => ?_)
    · go_simp
      go_at_call 22
      refine (toG_any lo q p l e o a b c _ hn RA.out).mono ?_
      rintro r Va1 ⟨gy, rfl, hb, hM⟩
      (try simp only [])
      replace HB : Hid (Below w.heap.size w Va1) := HB.out.trans (hb.mono HB.out.size)
      replace BA : Hid (Box Va1 w.heap.size [.int .i64 e, .int .i64 o, .int .i64 a, .int .i64 b, .int .i64 c, .slice p l.length q]) := BA.out.next hb
      replace BD : Hid (Box Va1 (w.heap.size + 1) [.int .i64 dp, .int .i64 dn]) := BD.out.next hb
      replace RA : Hid (GRow lo Va1 p (flatD l)) := HR.out.next HB.out
      replace HC : Hid (Below W1.heap.size W1 Va1) := HC.out.trans (hb.mono HC.out.size)
      have YY : Hid (GRow 0 Va1 (some ⟨gy, 0, none⟩) (flatD l)) := hM.row.weak (Nat.zero_le _)
      clear hb hM
      refine wHk hK ⟨BA.out.c6, BD.out.c2⟩ ?_
      clear hK K hHeld
      intro hHeld
      refine wRd2 4 10 (fun K hK => ?_) (fun K hK => ?_)
      · go_simp
        go_at_call 24
        refine (toDot_any dp dn _).mono ?_
        rintro r Va2 ⟨rfl, hb⟩
        (try simp only [])
        replace HB : Hid (Below w.heap.size w Va2) := HB.out.trans (hb.mono HB.out.size)
        replace BA : Hid (Box Va2 w.heap.size [.int .i64 e, .int .i64 o, .int .i64 a, .int .i64 b, .int .i64 c, .slice p l.length q]) := BA.out.next hb
        replace BD : Hid (Box Va2 (w.heap.size + 1) [.int .i64 dp, .int .i64 dn]) := BD.out.next hb
        replace RA : Hid (GRow lo Va2 p (flatD l)) := HR.out.next HB.out
        replace HC : Hid (Below W1.heap.size W1 Va2) := HC.out.trans (hb.mono HC.out.size)
        replace YY : Hid (GRow 0 Va2 (some ⟨gy, 0, none⟩) (flatD l)) := YY.out.next hb
        clear hb
        refine wHk hK ⟨BA.out.c6, BD.out.c2⟩ ?_
        clear hK K hHeld
        intro hHeld
        refine wRd2 5 10 (fun K hK => ?_) (fun K hK => ?_)
        · go_simp
          go_at_call 12
          refine Calls.mono (HCS.out hn Va2 _ _ _ YY.out) ?_
          rintro r Va3 ⟨pw, cw, rfl, hM, hb⟩
          (try simp only [])
          have RN' : IR W1.heap.size Va3.heap.size Va3 pw l' := ⟨(hM.weak HC.out.size), hM.ir.up⟩
          clear YY
          replace HB : Hid (Below w.heap.size w Va3) := HB.out.trans (hb.mono HB.out.size)
          replace BA : Hid (Box Va3 w.heap.size [.int .i64 e, .int .i64 o, .int .i64 a, .int .i64 b, .int .i64 c, .slice p l.length q]) := BA.out.next hb
          replace BD : Hid (Box Va3 (w.heap.size + 1) [.int .i64 dp, .int .i64 dn]) := BD.out.next hb
          replace RA : Hid (GRow lo Va3 p (flatD l)) := HR.out.next HB.out
          replace HC : Hid (Below W1.heap.size W1 Va3) := HC.out.trans (hb.mono HC.out.size)
          have RN : Hid (IR W1.heap.size Va3.heap.size Va3 pw l') := RN'
          clear hb hM RN'
          refine wHk hK ⟨BA.out.c6, BD.out.c2⟩ ?_
          clear hK K hHeld
          intro hHeld
          refine wTk 6 ?_
          refine wTk 7 ?_
          refine wTk 8 ?_
          refine wTk 9 ?_
          refine wRd 10 (fun K hK => ?_)
          go_simp
          (try simp only [])
          have hb := bel_alloc Va3 (.cells #[.int .i64 0, .int .i64 0, .int .i64 0, .int .i64 0, .int .i64 0, .slice none 0 0] 27)
          have NV : Hid (∀ x, pw = some x → l' ≠ [] → ¬ x.block = Va3.heap.size) := fun x hx hl => by have := RN.out.up x hx hl; omega
          have BZ : Hid (Box (Va3.alloc (.cells #[.int .i64 0, .int .i64 0, .int .i64 0, .int .i64 0, .int .i64 0, .slice none 0 0] 27)) Va3.heap.size [.int .i64 0, .int .i64 0, .int .i64 0, .int .i64 0, .int .i64 0, .slice none 0 0]) := box_mk
          have GE : Hid (W1.heap.size ≤ Va3.heap.size) := HC.out.size
          replace HB : Hid (Below w.heap.size w (Va3.alloc (.cells #[.int .i64 0, .int .i64 0, .int .i64 0, .int .i64 0, .int .i64 0, .slice none 0 0] 27))) := HB.out.trans (hb.mono HB.out.size)
          replace BA : Hid (Box (Va3.alloc (.cells #[.int .i64 0, .int .i64 0, .int .i64 0, .int .i64 0, .int .i64 0, .slice none 0 0] 27)) w.heap.size [.int .i64 e, .int .i64 o, .int .i64 a, .int .i64 b, .int .i64 c, .slice p l.length q]) := BA.out.next hb
          replace BD : Hid (Box (Va3.alloc (.cells #[.int .i64 0, .int .i64 0, .int .i64 0, .int .i64 0, .int .i64 0, .slice none 0 0] 27)) (w.heap.size + 1) [.int .i64 dp, .int .i64 dn]) := BD.out.next hb
          replace RA : Hid (GRow lo (Va3.alloc (.cells #[.int .i64 0, .int .i64 0, .int .i64 0, .int .i64 0, .int .i64 0, .slice none 0 0] 27)) p (flatD l)) := HR.out.next HB.out
          replace HC : Hid (Below W1.heap.size W1 (Va3.alloc (.cells #[.int .i64 0, .int .i64 0, .int .i64 0, .int .i64 0, .int .i64 0, .slice none 0 0] 27))) := HC.out.trans (hb.mono HC.out.size)
          replace RN : Hid (IR W1.heap.size Va3.heap.size (Va3.alloc (.cells #[.int .i64 0, .int .i64 0, .int .i64 0, .int .i64 0, .int .i64 0, .slice none 0 0] 27)) pw l') := RN.out.next hb
          clear hb
          refine wHk hK ⟨BA.out.c6, BD.out.c2⟩ ?_
          clear hK K hHeld
          intro hHeld
          generalize (Va3.alloc (.cells #[.int .i64 0, .int .i64 0, .int .i64 0, .int .i64 0, .int .i64 0, .slice none 0 0] 27)) = Va4 at *
          generalize Va3.heap.size = gz at *
          obtain ⟨z0, z1, z2, z3, z4, z5⟩ := BZ.out.c6
          obtain ⟨y0, y1, y2, y3, y4, y5⟩ := BZ.out.f6
          refine wRd 11 (fun K hK => ?_)
          go_simp
          (try simp only [])
          have kz : Kp (fun b => gz ≤ b ∧ b < gz + 1) Va4 ((((((Va4.setCell ⟨gz, 0, none⟩ (.int .i64 e')).setCell ⟨gz, 1, none⟩ (.int .i64 o')).setCell ⟨gz, 2, none⟩ (.int .i64 a')).setCell ⟨gz, 3, none⟩ (.int .i64 b')).setCell ⟨gz, 4, none⟩ (.int .i64 c')).setCell ⟨gz, 5, none⟩ (.slice pw l'.length cw)) := (((((Kp.set1 (g := gz)).trans1 Kp.set1).trans1 Kp.set1).trans1 Kp.set1).trans1 Kp.set1).trans1 Kp.set1
          have BY : Hid (Box ((((((Va4.setCell ⟨gz, 0, none⟩ (.int .i64 e')).setCell ⟨gz, 1, none⟩ (.int .i64 o')).setCell ⟨gz, 2, none⟩ (.int .i64 a')).setCell ⟨gz, 3, none⟩ (.int .i64 b')).setCell ⟨gz, 4, none⟩ (.int .i64 c')).setCell ⟨gz, 5, none⟩ (.slice pw l'.length cw)) gz [.int .i64 e', .int .i64 o', .int .i64 a', .int .i64 b', .int .i64 c', .slice pw l'.length cw]) := BZ.out.s6
          replace BA : Hid (Box ((((((Va4.setCell ⟨gz, 0, none⟩ (.int .i64 e')).setCell ⟨gz, 1, none⟩ (.int .i64 o')).setCell ⟨gz, 2, none⟩ (.int .i64 a')).setCell ⟨gz, 3, none⟩ (.int .i64 b')).setCell ⟨gz, 4, none⟩ (.int .i64 c')).setCell ⟨gz, 5, none⟩ (.slice pw l'.length cw)) w.heap.size [.int .i64 e, .int .i64 o, .int .i64 a, .int .i64 b, .int .i64 c, .slice p l.length q]) := BA.out.kp kz (by have := GE.out; have := LBA.out; omega)
          replace BD : Hid (Box ((((((Va4.setCell ⟨gz, 0, none⟩ (.int .i64 e')).setCell ⟨gz, 1, none⟩ (.int .i64 o')).setCell ⟨gz, 2, none⟩ (.int .i64 a')).setCell ⟨gz, 3, none⟩ (.int .i64 b')).setCell ⟨gz, 4, none⟩ (.int .i64 c')).setCell ⟨gz, 5, none⟩ (.slice pw l'.length cw)) (w.heap.size + 1) [.int .i64 dp, .int .i64 dn]) := BD.out.kp kz (by have := GE.out; have := LBD.out; omega)
          have RY : Hid (IR W1.heap.size ((((((Va4.setCell ⟨gz, 0, none⟩ (.int .i64 e')).setCell ⟨gz, 1, none⟩ (.int .i64 o')).setCell ⟨gz, 2, none⟩ (.int .i64 a')).setCell ⟨gz, 3, none⟩ (.int .i64 b')).setCell ⟨gz, 4, none⟩ (.int .i64 c')).setCell ⟨gz, 5, none⟩ (.slice pw l'.length cw)).heap.size ((((((Va4.setCell ⟨gz, 0, none⟩ (.int .i64 e')).setCell ⟨gz, 1, none⟩ (.int .i64 o')).setCell ⟨gz, 2, none⟩ (.int .i64 a')).setCell ⟨gz, 3, none⟩ (.int .i64 b')).setCell ⟨gz, 4, none⟩ (.int .i64 c')).setCell ⟨gz, 5, none⟩ (.slice pw l'.length cw)) pw l') := ir_store RN.out kz NV.out (by simp [World.setCell])
          have HY : Hid (Below W1.heap.size W1 ((((((Va4.setCell ⟨gz, 0, none⟩ (.int .i64 e')).setCell ⟨gz, 1, none⟩ (.int .i64 o')).setCell ⟨gz, 2, none⟩ (.int .i64 a')).setCell ⟨gz, 3, none⟩ (.int .i64 b')).setCell ⟨gz, 4, none⟩ (.int .i64 c')).setCell ⟨gz, 5, none⟩ (.slice pw l'.length cw))) := HC.out.trans (kz.below HC.out.size (fun x hx e => by have := GE.out; omega))
          refine hK.out _ _ ⟨BA.out.c6, BD.out.c2⟩ (fun hHeld' => ?_)
          clear hK K hHeld z0 z1 z2 z3 z4 z5 y0 y1 y2 y3 y4 y5 kz
          have hHeld := hHeld'
          clear hHeld'
          refine wLy ?_
          refine wTk 12 ?_
          refine wTk 13 ?_
          refine wpAnyH_done (by kernel_rfl) ?_ _
          clear hHeld
          go_wp2
          go_meet
          case rel => exact ⟨gz, pw, cw, rfl, rfl, rfl, BY.out, RY.out, GE.out, NV.out, HY.out⟩
        · go_simp
          (try simp only [])
          have hb := bel_alloc Va2 (.cells #[.int .i64 0, .int .i64 0, .int .i64 0, .int .i64 0, .int .i64 0, .slice none 0 0] 27)
          have BZ : Hid (Box (Va2.alloc (.cells #[.int .i64 0, .int .i64 0, .int .i64 0, .int .i64 0, .int .i64 0, .slice none 0 0] 27)) Va2.heap.size [.int .i64 0, .int .i64 0, .int .i64 0, .int .i64 0, .int .i64 0, .slice none 0 0]) := box_mk
          have GE : Hid (W1.heap.size ≤ Va2.heap.size) := HC.out.size
          replace HB : Hid (Below w.heap.size w (Va2.alloc (.cells #[.int .i64 0, .int .i64 0, .int .i64 0, .int .i64 0, .int .i64 0, .slice none 0 0] 27))) := HB.out.trans (hb.mono HB.out.size)
          replace BA : Hid (Box (Va2.alloc (.cells #[.int .i64 0, .int .i64 0, .int .i64 0, .int .i64 0, .int .i64 0, .slice none 0 0] 27)) w.heap.size [.int .i64 e, .int .i64 o, .int .i64 a, .int .i64 b, .int .i64 c, .slice p l.length q]) := BA.out.next hb
          replace BD : Hid (Box (Va2.alloc (.cells #[.int .i64 0, .int .i64 0, .int .i64 0, .int .i64 0, .int .i64 0, .slice none 0 0] 27)) (w.heap.size + 1) [.int .i64 dp, .int .i64 dn]) := BD.out.next hb
          replace RA : Hid (GRow lo (Va2.alloc (.cells #[.int .i64 0, .int .i64 0, .int .i64 0, .int .i64 0, .int .i64 0, .slice none 0 0] 27)) p (flatD l)) := HR.out.next HB.out
          replace HC : Hid (Below W1.heap.size W1 (Va2.alloc (.cells #[.int .i64 0, .int .i64 0, .int .i64 0, .int .i64 0, .int .i64 0, .slice none 0 0] 27))) := HC.out.trans (hb.mono HC.out.size)
          replace YY : Hid (GRow 0 (Va2.alloc (.cells #[.int .i64 0, .int .i64 0, .int .i64 0, .int .i64 0, .int .i64 0, .slice none 0 0] 27)) (some ⟨gy, 0, none⟩) (flatD l)) := YY.out.next hb
          clear hb
          refine wHk hK ⟨BA.out.c6, BD.out.c2⟩ ?_
          clear hK K hHeld
          intro hHeld
          generalize (Va2.alloc (.cells #[.int .i64 0, .int .i64 0, .int .i64 0, .int .i64 0, .int .i64 0, .slice none 0 0] 27)) = Va3 at *
          generalize Va2.heap.size = gz at *
          refine wRd 5 (fun K hK => ?_)
          go_simp
          go_at_call 12
          refine Calls.mono (HCS.out hn Va3 _ _ _ YY.out) ?_
          rintro r Va4 ⟨pw, cw, rfl, hM, hb⟩
          (try simp only [])
          have RN' : IR W1.heap.size Va4.heap.size Va4 pw l' := ⟨(hM.weak HC.out.size), hM.ir.up⟩
          have NV : Hid (∀ x, pw = some x → l' ≠ [] → ¬ x.block = gz) := fun x hx hl => by have := hM.ir.lo x hx hl; have := BZ.out.lt; omega
          clear YY
          replace HB : Hid (Below w.heap.size w Va4) := HB.out.trans (hb.mono HB.out.size)
          replace BA : Hid (Box Va4 w.heap.size [.int .i64 e, .int .i64 o, .int .i64 a, .int .i64 b, .int .i64 c, .slice p l.length q]) := BA.out.next hb
          replace BD : Hid (Box Va4 (w.heap.size + 1) [.int .i64 dp, .int .i64 dn]) := BD.out.next hb
          replace RA : Hid (GRow lo Va4 p (flatD l)) := HR.out.next HB.out
          replace HC : Hid (Below W1.heap.size W1 Va4) := HC.out.trans (hb.mono HC.out.size)
          replace BZ : Hid (Box Va4 gz [.int .i64 0, .int .i64 0, .int .i64 0, .int .i64 0, .int .i64 0, .slice none 0 0]) := BZ.out.next hb
          have RN : Hid (IR W1.heap.size Va4.heap.size Va4 pw l') := RN'
          clear hb hM RN'
          refine wHk hK ⟨BA.out.c6, BD.out.c2⟩ ?_
          clear hK K hHeld
          intro hHeld
          refine wTk 6 ?_
          refine wTk 7 ?_
          refine wTk 8 ?_
          refine wTk 9 ?_
          obtain ⟨z0, z1, z2, z3, z4, z5⟩ := BZ.out.c6
          obtain ⟨y0, y1, y2, y3, y4, y5⟩ := BZ.out.f6
          refine wRd 11 (fun K hK => ?_)
          go_simp
          (try simp only [])
          have kz : Kp (fun b => gz ≤ b ∧ b < gz + 1) Va4 ((((((Va4.setCell ⟨gz, 0, none⟩ (.int .i64 e')).setCell ⟨gz, 1, none⟩ (.int .i64 o')).setCell ⟨gz, 2, none⟩ (.int .i64 a')).setCell ⟨gz, 3, none⟩ (.int .i64 b')).setCell ⟨gz, 4, none⟩ (.int .i64 c')).setCell ⟨gz, 5, none⟩ (.slice pw l'.length cw)) := (((((Kp.set1 (g := gz)).trans1 Kp.set1).trans1 Kp.set1).trans1 Kp.set1).trans1 Kp.set1).trans1 Kp.set1
          have BY : Hid (Box ((((((Va4.setCell ⟨gz, 0, none⟩ (.int .i64 e')).setCell ⟨gz, 1, none⟩ (.int .i64 o')).setCell ⟨gz, 2, none⟩ (.int .i64 a')).setCell ⟨gz, 3, none⟩ (.int .i64 b')).setCell ⟨gz, 4, none⟩ (.int .i64 c')).setCell ⟨gz, 5, none⟩ (.slice pw l'.length cw)) gz [.int .i64 e', .int .i64 o', .int .i64 a', .int .i64 b', .int .i64 c', .slice pw l'.length cw]) := BZ.out.s6
          replace BA : Hid (Box ((((((Va4.setCell ⟨gz, 0, none⟩ (.int .i64 e')).setCell ⟨gz, 1, none⟩ (.int .i64 o')).setCell ⟨gz, 2, none⟩ (.int .i64 a')).setCell ⟨gz, 3, none⟩ (.int .i64 b')).setCell ⟨gz, 4, none⟩ (.int .i64 c')).setCell ⟨gz, 5, none⟩ (.slice pw l'.length cw)) w.heap.size [.int .i64 e, .int .i64 o, .int .i64 a, .int .i64 b, .int .i64 c, .slice p l.length q]) := BA.out.kp kz (by have := GE.out; have := LBA.out; omega)
          replace BD : Hid (Box ((((((Va4.setCell ⟨gz, 0, none⟩ (.int .i64 e')).setCell ⟨gz, 1, none⟩ (.int .i64 o')).setCell ⟨gz, 2, none⟩ (.int .i64 a')).setCell ⟨gz, 3, none⟩ (.int .i64 b')).setCell ⟨gz, 4, none⟩ (.int .i64 c')).setCell ⟨gz, 5, none⟩ (.slice pw l'.length cw)) (w.heap.size + 1) [.int .i64 dp, .int .i64 dn]) := BD.out.kp kz (by have := GE.out; have := LBD.out; omega)
          have RY : Hid (IR W1.heap.size ((((((Va4.setCell ⟨gz, 0, none⟩ (.int .i64 e')).setCell ⟨gz, 1, none⟩ (.int .i64 o')).setCell ⟨gz, 2, none⟩ (.int .i64 a')).setCell ⟨gz, 3, none⟩ (.int .i64 b')).setCell ⟨gz, 4, none⟩ (.int .i64 c')).setCell ⟨gz, 5, none⟩ (.slice pw l'.length cw)).heap.size ((((((Va4.setCell ⟨gz, 0, none⟩ (.int .i64 e')).setCell ⟨gz, 1, none⟩ (.int .i64 o')).setCell ⟨gz, 2, none⟩ (.int .i64 a')).setCell ⟨gz, 3, none⟩ (.int .i64 b')).setCell ⟨gz, 4, none⟩ (.int .i64 c')).setCell ⟨gz, 5, none⟩ (.slice pw l'.length cw)) pw l') := ir_store RN.out kz NV.out (by simp [World.setCell])
          have HY : Hid (Below W1.heap.size W1 ((((((Va4.setCell ⟨gz, 0, none⟩ (.int .i64 e')).setCell ⟨gz, 1, none⟩ (.int .i64 o')).setCell ⟨gz, 2, none⟩ (.int .i64 a')).setCell ⟨gz, 3, none⟩ (.int .i64 b')).setCell ⟨gz, 4, none⟩ (.int .i64 c')).setCell ⟨gz, 5, none⟩ (.slice pw l'.length cw))) := HC.out.trans (kz.below HC.out.size (fun x hx e => by have := GE.out; omega))
          refine hK.out _ _ ⟨BA.out.c6, BD.out.c2⟩ (fun hHeld' => ?_)
          clear hK K hHeld z0 z1 z2 z3 z4 z5 y0 y1 y2 y3 y4 y5 kz
          have hHeld := hHeld'
          clear hHeld'
          refine wLy ?_
          refine wTk 12 ?_
          refine wTk 13 ?_
          refine wpAnyH_done (by kernel_rfl) ?_ _
          clear hHeld
          go_wp2
          go_meet
          case rel => exact ⟨gz, pw, cw, rfl, rfl, rfl, BY.out, RY.out, GE.out, NV.out, HY.out⟩
      · go_simp
        (try simp only [])
        have hb := bel_alloc Va1 (.cells #[.int .i64 0, .int .i64 0, .int .i64 0, .int .i64 0, .int .i64 0, .slice none 0 0] 27)
        have BZ : Hid (Box (Va1.alloc (.cells #[.int .i64 0, .int .i64 0, .int .i64 0, .int .i64 0, .int .i64 0, .slice none 0 0] 27)) Va1.heap.size [.int .i64 0, .int .i64 0, .int .i64 0, .int .i64 0, .int .i64 0, .slice none 0 0]) := box_mk
        have GE : Hid (W1.heap.size ≤ Va1.heap.size) := HC.out.size
        replace HB : Hid (Below w.heap.size w (Va1.alloc (.cells #[.int .i64 0, .int .i64 0, .int .i64 0, .int .i64 0, .int .i64 0, .slice none 0 0] 27))) := HB.out.trans (hb.mono HB.out.size)
        replace BA : Hid (Box (Va1.alloc (.cells #[.int .i64 0, .int .i64 0, .int .i64 0, .int .i64 0, .int .i64 0, .slice none 0 0] 27)) w.heap.size [.int .i64 e, .int .i64 o, .int .i64 a, .int .i64 b, .int .i64 c, .slice p l.length q]) := BA.out.next hb
        replace BD : Hid (Box (Va1.alloc (.cells #[.int .i64 0, .int .i64 0, .int .i64 0, .int .i64 0, .int .i64 0, .slice none 0 0] 27)) (w.heap.size + 1) [.int .i64 dp, .int .i64 dn]) := BD.out.next hb
        replace RA : Hid (GRow lo (Va1.alloc (.cells #[.int .i64 0, .int .i64 0, .int .i64 0, .int .i64 0, .int .i64 0, .slice none 0 0] 27)) p (flatD l)) := HR.out.next HB.out
        replace HC : Hid (Below W1.heap.size W1 (Va1.alloc (.cells #[.int .i64 0, .int .i64 0, .int .i64 0, .int .i64 0, .int .i64 0, .slice none 0 0] 27))) := HC.out.trans (hb.mono HC.out.size)
        replace YY : Hid (GRow 0 (Va1.alloc (.cells #[.int .i64 0, .int .i64 0, .int .i64 0, .int .i64 0, .int .i64 0, .slice none 0 0] 27)) (some ⟨gy, 0, none⟩) (flatD l)) := YY.out.next hb
        clear hb
        refine wHk hK ⟨BA.out.c6, BD.out.c2⟩ ?_
        clear hK K hHeld
        intro hHeld
        generalize (Va1.alloc (.cells #[.int .i64 0, .int .i64 0, .int .i64 0, .int .i64 0, .int .i64 0, .slice none 0 0] 27)) = Va2 at *
        generalize Va1.heap.size = gz at *
        refine wRd 4 (fun K hK => ?_)
        go_simp
        go_at_call 24
        refine (toDot_any dp dn _).mono ?_
        rintro r Va3 ⟨rfl, hb⟩
        (try simp only [])
        replace HB : Hid (Below w.heap.size w Va3) := HB.out.trans (hb.mono HB.out.size)
        replace BA : Hid (Box Va3 w.heap.size [.int .i64 e, .int .i64 o, .int .i64 a, .int .i64 b, .int .i64 c, .slice p l.length q]) := BA.out.next hb
        replace BD : Hid (Box Va3 (w.heap.size + 1) [.int .i64 dp, .int .i64 dn]) := BD.out.next hb
        replace RA : Hid (GRow lo Va3 p (flatD l)) := HR.out.next HB.out
        replace HC : Hid (Below W1.heap.size W1 Va3) := HC.out.trans (hb.mono HC.out.size)
        replace YY : Hid (GRow 0 Va3 (some ⟨gy, 0, none⟩) (flatD l)) := YY.out.next hb
        replace BZ : Hid (Box Va3 gz [.int .i64 0, .int .i64 0, .int .i64 0, .int .i64 0, .int .i64 0, .slice none 0 0]) := BZ.out.next hb
        clear hb
        refine wHk hK ⟨BA.out.c6, BD.out.c2⟩ ?_
        clear hK K hHeld
        intro hHeld
        refine wRd 5 (fun K hK => ?_)
        go_simp
        go_at_call 12
        refine Calls.mono (HCS.out hn Va3 _ _ _ YY.out) ?_
        rintro r Va4 ⟨pw, cw, rfl, hM, hb⟩
        (try simp only [])
        have RN' : IR W1.heap.size Va4.heap.size Va4 pw l' := ⟨(hM.weak HC.out.size), hM.ir.up⟩
        have NV : Hid (∀ x, pw = some x → l' ≠ [] → ¬ x.block = gz) := fun x hx hl => by have := hM.ir.lo x hx hl; have := BZ.out.lt; omega
        clear YY
        replace HB : Hid (Below w.heap.size w Va4) := HB.out.trans (hb.mono HB.out.size)
        replace BA : Hid (Box Va4 w.heap.size [.int .i64 e, .int .i64 o, .int .i64 a, .int .i64 b, .int .i64 c, .slice p l.length q]) := BA.out.next hb
        replace BD : Hid (Box Va4 (w.heap.size + 1) [.int .i64 dp, .int .i64 dn]) := BD.out.next hb
        replace RA : Hid (GRow lo Va4 p (flatD l)) := HR.out.next HB.out
        replace HC : Hid (Below W1.heap.size W1 Va4) := HC.out.trans (hb.mono HC.out.size)
        replace BZ : Hid (Box Va4 gz [.int .i64 0, .int .i64 0, .int .i64 0, .int .i64 0, .int .i64 0, .slice none 0 0]) := BZ.out.next hb
        have RN : Hid (IR W1.heap.size Va4.heap.size Va4 pw l') := RN'
        clear hb hM RN'
        refine wHk hK ⟨BA.out.c6, BD.out.c2⟩ ?_
        clear hK K hHeld
        intro hHeld
        refine wTk 6 ?_
        refine wTk 7 ?_
        refine wTk 8 ?_
        refine wTk 9 ?_
        obtain ⟨z0, z1, z2, z3, z4, z5⟩ := BZ.out.c6
        obtain ⟨y0, y1, y2, y3, y4, y5⟩ := BZ.out.f6
        refine wRd 11 (fun K hK => ?_)
        go_simp
        (try simp only [])
        have kz : Kp (fun b => gz ≤ b ∧ b < gz + 1) Va4 ((((((Va4.setCell ⟨gz, 0, none⟩ (.int .i64 e')).setCell ⟨gz, 1, none⟩ (.int .i64 o')).setCell ⟨gz, 2, none⟩ (.int .i64 a')).setCell ⟨gz, 3, none⟩ (.int .i64 b')).setCell ⟨gz, 4, none⟩ (.int .i64 c')).setCell ⟨gz, 5, none⟩ (.slice pw l'.length cw)) := (((((Kp.set1 (g := gz)).trans1 Kp.set1).trans1 Kp.set1).trans1 Kp.set1).trans1 Kp.set1).trans1 Kp.set1
        have BY : Hid (Box ((((((Va4.setCell ⟨gz, 0, none⟩ (.int .i64 e')).setCell ⟨gz, 1, none⟩ (.int .i64 o')).setCell ⟨gz, 2, none⟩ (.int .i64 a')).setCell ⟨gz, 3, none⟩ (.int .i64 b')).setCell ⟨gz, 4, none⟩ (.int .i64 c')).setCell ⟨gz, 5, none⟩ (.slice pw l'.length cw)) gz [.int .i64 e', .int .i64 o', .int .i64 a', .int .i64 b', .int .i64 c', .slice pw l'.length cw]) := BZ.out.s6
        replace BA : Hid (Box ((((((Va4.setCell ⟨gz, 0, none⟩ (.int .i64 e')).setCell ⟨gz, 1, none⟩ (.int .i64 o')).setCell ⟨gz, 2, none⟩ (.int .i64 a')).setCell ⟨gz, 3, none⟩ (.int .i64 b')).setCell ⟨gz, 4, none⟩ (.int .i64 c')).setCell ⟨gz, 5, none⟩ (.slice pw l'.length cw)) w.heap.size [.int .i64 e, .int .i64 o, .int .i64 a, .int .i64 b, .int .i64 c, .slice p l.length q]) := BA.out.kp kz (by have := GE.out; have := LBA.out; omega)
        replace BD : Hid (Box ((((((Va4.setCell ⟨gz, 0, none⟩ (.int .i64 e')).setCell ⟨gz, 1, none⟩ (.int .i64 o')).setCell ⟨gz, 2, none⟩ (.int .i64 a')).setCell ⟨gz, 3, none⟩ (.int .i64 b')).setCell ⟨gz, 4, none⟩ (.int .i64 c')).setCell ⟨gz, 5, none⟩ (.slice pw l'.length cw)) (w.heap.size + 1) [.int .i64 dp, .int .i64 dn]) := BD.out.kp kz (by have := GE.out; have := LBD.out; omega)
        have RY : Hid (IR W1.heap.size ((((((Va4.setCell ⟨gz, 0, none⟩ (.int .i64 e')).setCell ⟨gz, 1, none⟩ (.int .i64 o')).setCell ⟨gz, 2, none⟩ (.int .i64 a')).setCell ⟨gz, 3, none⟩ (.int .i64 b')).setCell ⟨gz, 4, none⟩ (.int .i64 c')).setCell ⟨gz, 5, none⟩ (.slice pw l'.length cw)).heap.size ((((((Va4.setCell ⟨gz, 0, none⟩ (.int .i64 e')).setCell ⟨gz, 1, none⟩ (.int .i64 o')).setCell ⟨gz, 2, none⟩ (.int .i64 a')).setCell ⟨gz, 3, none⟩ (.int .i64 b')).setCell ⟨gz, 4, none⟩ (.int .i64 c')).setCell ⟨gz, 5, none⟩ (.slice pw l'.length cw)) pw l') := ir_store RN.out kz NV.out (by simp [World.setCell])
        have HY : Hid (Below W1.heap.size W1 ((((((Va4.setCell ⟨gz, 0, none⟩ (.int .i64 e')).setCell ⟨gz, 1, none⟩ (.int .i64 o')).setCell ⟨gz, 2, none⟩ (.int .i64 a')).setCell ⟨gz, 3, none⟩ (.int .i64 b')).setCell ⟨gz, 4, none⟩ (.int .i64 c')).setCell ⟨gz, 5, none⟩ (.slice pw l'.length cw))) := HC.out.trans (kz.below HC.out.size (fun x hx e => by have := GE.out; omega))
        refine hK.out _ _ ⟨BA.out.c6, BD.out.c2⟩ (fun hHeld' => ?_)
        clear hK K hHeld z0 z1 z2 z3 z4 z5 y0 y1 y2 y3 y4 y5 kz
        have hHeld := hHeld'
        clear hHeld'
        refine wLy ?_
        refine wTk 12 ?_
        refine wTk 13 ?_
        refine wpAnyH_done (by kernel_rfl) ?_ _
        clear hHeld
        go_wp2
        go_meet
        case rel => exact ⟨gz, pw, cw, rfl, rfl, rfl, BY.out, RY.out, GE.out, NV.out, HY.out⟩
    · go_simp
      (try simp only [])
      have hb := bel_alloc Va0 (.cells #[.int .i64 0, .int .i64 0, .int .i64 0, .int .i64 0, .int .i64 0, .slice none 0 0] 27)
      have BZ : Hid (Box (Va0.alloc (.cells #[.int .i64 0, .int .i64 0, .int .i64 0, .int .i64 0, .int .i64 0, .slice none 0 0] 27)) Va0.heap.size [.int .i64 0, .int .i64 0, .int .i64 0, .int .i64 0, .int .i64 0, .slice none 0 0]) := box_mk
      have GE : Hid (W1.heap.size ≤ Va0.heap.size) := HC.out.size
      replace HB : Hid (Below w.heap.size w (Va0.alloc (.cells #[.int .i64 0, .int .i64 0, .int .i64 0, .int .i64 0, .int .i64 0, .slice none 0 0] 27))) := HB.out.trans (hb.mono HB.out.size)
      replace BA : Hid (Box (Va0.alloc (.cells #[.int .i64 0, .int .i64 0, .int .i64 0, .int .i64 0, .int .i64 0, .slice none 0 0] 27)) w.heap.size [.int .i64 e, .int .i64 o, .int .i64 a, .int .i64 b, .int .i64 c, .slice p l.length q]) := BA.out.next hb
      replace BD : Hid (Box (Va0.alloc (.cells #[.int .i64 0, .int .i64 0, .int .i64 0, .int .i64 0, .int .i64 0, .slice none 0 0] 27)) (w.heap.size + 1) [.int .i64 dp, .int .i64 dn]) := BD.out.next hb
      replace RA : Hid (GRow lo (Va0.alloc (.cells #[.int .i64 0, .int .i64 0, .int .i64 0, .int .i64 0, .int .i64 0, .slice none 0 0] 27)) p (flatD l)) := HR.out.next HB.out
      replace HC : Hid (Below W1.heap.size W1 (Va0.alloc (.cells #[.int .i64 0, .int .i64 0, .int .i64 0, .int .i64 0, .int .i64 0, .slice none 0 0] 27))) := HC.out.trans (hb.mono HC.out.size)
      clear hb
      refine wHk hK ⟨BA.out.c6, BD.out.c2⟩ ?_
      clear hK K hHeld
      intro hHeld
      generalize (Va0.alloc (.cells #[.int .i64 0, .int .i64 0, .int .i64 0, .int .i64 0, .int .i64 0, .slice none 0 0] 27)) = Va1 at *
      generalize Va0.heap.size = gz at *
      refine wRd 1 (fun K hK => ?_)
      go_simp
      go_at_call 22
      refine (toG_any lo q p l e o a b c _ hn RA.out).mono ?_
      rintro r Va2 ⟨gy, rfl, hb, hM⟩
      (try simp only [])
      replace HB : Hid (Below w.heap.size w Va2) := HB.out.trans (hb.mono HB.out.size)
      replace BA : Hid (Box Va2 w.heap.size [.int .i64 e, .int .i64 o, .int .i64 a, .int .i64 b, .int .i64 c, .slice p l.length q]) := BA.out.next hb
      replace BD : Hid (Box Va2 (w.heap.size + 1) [.int .i64 dp, .int .i64 dn]) := BD.out.next hb
      replace RA : Hid (GRow lo Va2 p (flatD l)) := HR.out.next HB.out
      replace HC : Hid (Below W1.heap.size W1 Va2) := HC.out.trans (hb.mono HC.out.size)
      replace BZ : Hid (Box Va2 gz [.int .i64 0, .int .i64 0, .int .i64 0, .int .i64 0, .int .i64 0, .slice none 0 0]) := BZ.out.next hb
      have YY : Hid (GRow 0 Va2 (some ⟨gy, 0, none⟩) (flatD l)) := hM.row.weak (Nat.zero_le _)
      clear hb hM
      refine wHk hK ⟨BA.out.c6, BD.out.c2⟩ ?_
      clear hK K hHeld
      intro hHeld
      refine wRd 4 (fun K hK => ?_)
      go_simp
      go_at_call 24
      refine (toDot_any dp dn _).mono ?_
      rintro r Va3 ⟨rfl, hb⟩
      (try simp only [])
      replace HB : Hid (Below w.heap.size w Va3) := HB.out.trans (hb.mono HB.out.size)
      replace BA : Hid (Box Va3 w.heap.size [.int .i64 e, .int .i64 o, .int .i64 a, .int .i64 b, .int .i64 c, .slice p l.length q]) := BA.out.next hb
      replace BD : Hid (Box Va3 (w.heap.size + 1) [.int .i64 dp, .int .i64 dn]) := BD.out.next hb
      replace RA : Hid (GRow lo Va3 p (flatD l)) := HR.out.next HB.out
      replace HC : Hid (Below W1.heap.size W1 Va3) := HC.out.trans (hb.mono HC.out.size)
      replace BZ : Hid (Box Va3 gz [.int .i64 0, .int .i64 0, .int .i64 0, .int .i64 0, .int .i64 0, .slice none 0 0]) := BZ.out.next hb
      replace YY : Hid (GRow 0 Va3 (some ⟨gy, 0, none⟩) (flatD l)) := YY.out.next hb
      clear hb
      refine wHk hK ⟨BA.out.c6, BD.out.c2⟩ ?_
      clear hK K hHeld
      intro hHeld
      refine wRd 5 (fun K hK => ?_)
      go_simp
      go_at_call 12
      refine Calls.mono (HCS.out hn Va3 _ _ _ YY.out) ?_
      rintro r Va4 ⟨pw, cw, rfl, hM, hb⟩
      (try simp only [])
      have RN' : IR W1.heap.size Va4.heap.size Va4 pw l' := ⟨(hM.weak HC.out.size), hM.ir.up⟩
      have NV : Hid (∀ x, pw = some x → l' ≠ [] → ¬ x.block = gz) := fun x hx hl => by have := hM.ir.lo x hx hl; have := BZ.out.lt; omega
      clear YY
      replace HB : Hid (Below w.heap.size w Va4) := HB.out.trans (hb.mono HB.out.size)
      replace BA : Hid (Box Va4 w.heap.size [.int .i64 e, .int .i64 o, .int .i64 a, .int .i64 b, .int .i64 c, .slice p l.length q]) := BA.out.next hb
      replace BD : Hid (Box Va4 (w.heap.size + 1) [.int .i64 dp, .int .i64 dn]) := BD.out.next hb
      replace RA : Hid (GRow lo Va4 p (flatD l)) := HR.out.next HB.out
      replace HC : Hid (Below W1.heap.size W1 Va4) := HC.out.trans (hb.mono HC.out.size)
      replace BZ : Hid (Box Va4 gz [.int .i64 0, .int .i64 0, .int .i64 0, .int .i64 0, .int .i64 0, .slice none 0 0]) := BZ.out.next hb
      have RN : Hid (IR W1.heap.size Va4.heap.size Va4 pw l') := RN'
      clear hb hM RN'
      refine wHk hK ⟨BA.out.c6, BD.out.c2⟩ ?_
      clear hK K hHeld
      intro hHeld
      refine wTk 6 ?_
      refine wTk 7 ?_
      refine wTk 8 ?_
      refine wTk 9 ?_
      obtain ⟨z0, z1, z2, z3, z4, z5⟩ := BZ.out.c6
      obtain ⟨y0, y1, y2, y3, y4, y5⟩ := BZ.out.f6
      refine wRd 11 (fun K hK => ?_)
      go_simp
      (try simp only [])
      have kz : Kp (fun b => gz ≤ b ∧ b < gz + 1) Va4 ((((((Va4.setCell ⟨gz, 0, none⟩ (.int .i64 e')).setCell ⟨gz, 1, none⟩ (.int .i64 o')).setCell ⟨gz, 2, none⟩ (.int .i64 a')).setCell ⟨gz, 3, none⟩ (.int .i64 b')).setCell ⟨gz, 4, none⟩ (.int .i64 c')).setCell ⟨gz, 5, none⟩ (.slice pw l'.length cw)) := (((((Kp.set1 (g := gz)).trans1 Kp.set1).trans1 Kp.set1).trans1 Kp.set1).trans1 Kp.set1).trans1 Kp.set1
      have BY : Hid (Box ((((((Va4.setCell ⟨gz, 0, none⟩ (.int .i64 e')).setCell ⟨gz, 1, none⟩ (.int .i64 o')).setCell ⟨gz, 2, none⟩ (.int .i64 a')).setCell ⟨gz, 3, none⟩ (.int .i64 b')).setCell ⟨gz, 4, none⟩ (.int .i64 c')).setCell ⟨gz, 5, none⟩ (.slice pw l'.length cw)) gz [.int .i64 e', .int .i64 o', .int .i64 a', .int .i64 b', .int .i64 c', .slice pw l'.length cw]) := BZ.out.s6
      replace BA : Hid (Box ((((((Va4.setCell ⟨gz, 0, none⟩ (.int .i64 e')).setCell ⟨gz, 1, none⟩ (.int .i64 o')).setCell ⟨gz, 2, none⟩ (.int .i64 a')).setCell ⟨gz, 3, none⟩ (.int .i64 b')).setCell ⟨gz, 4, none⟩ (.int .i64 c')).setCell ⟨gz, 5, none⟩ (.slice pw l'.length cw)) w.heap.size [.int .i64 e, .int .i64 o, .int .i64 a, .int .i64 b, .int .i64 c, .slice p l.length q]) := BA.out.kp kz (by have := GE.out; have := LBA.out; omega)
      replace BD : Hid (Box ((((((Va4.setCell ⟨gz, 0, none⟩ (.int .i64 e')).setCell ⟨gz, 1, none⟩ (.int .i64 o')).setCell ⟨gz, 2, none⟩ (.int .i64 a')).setCell ⟨gz, 3, none⟩ (.int .i64 b')).setCell ⟨gz, 4, none⟩ (.int .i64 c')).setCell ⟨gz, 5, none⟩ (.slice pw l'.length cw)) (w.heap.size + 1) [.int .i64 dp, .int .i64 dn]) := BD.out.kp kz (by have := GE.out; have := LBD.out; omega)
      have RY : Hid (IR W1.heap.size ((((((Va4.setCell ⟨gz, 0, none⟩ (.int .i64 e')).setCell ⟨gz, 1, none⟩ (.int .i64 o')).setCell ⟨gz, 2, none⟩ (.int .i64 a')).setCell ⟨gz, 3, none⟩ (.int .i64 b')).setCell ⟨gz, 4, none⟩ (.int .i64 c')).setCell ⟨gz, 5, none⟩ (.slice pw l'.length cw)).heap.size ((((((Va4.setCell ⟨gz, 0, none⟩ (.int .i64 e')).setCell ⟨gz, 1, none⟩ (.int .i64 o')).setCell ⟨gz, 2, none⟩ (.int .i64 a')).setCell ⟨gz, 3, none⟩ (.int .i64 b')).setCell ⟨gz, 4, none⟩ (.int .i64 c')).setCell ⟨gz, 5, none⟩ (.slice pw l'.length cw)) pw l') := ir_store RN.out kz NV.out (by simp [World.setCell])
      have HY : Hid (Below W1.heap.size W1 ((((((Va4.setCell ⟨gz, 0, none⟩ (.int .i64 e')).setCell ⟨gz, 1, none⟩ (.int .i64 o')).setCell ⟨gz, 2, none⟩ (.int .i64 a')).setCell ⟨gz, 3, none⟩ (.int .i64 b')).setCell ⟨gz, 4, none⟩ (.int .i64 c')).setCell ⟨gz, 5, none⟩ (.slice pw l'.length cw))) := HC.out.trans (kz.below HC.out.size (fun x hx e => by have := GE.out; omega))
      refine hK.out _ _ ⟨BA.out.c6, BD.out.c2⟩ (fun hHeld' => ?_)
      clear hK K hHeld z0 z1 z2 z3 z4 z5 y0 y1 y2 y3 y4 y5 kz
      have hHeld := hHeld'
      clear hHeld'
      refine wLy ?_
      refine wTk 12 ?_
      refine wTk 13 ?_
      refine wpAnyH_done (by kernel_rfl) ?_ _
      clear hHeld
      go_wp2
      go_meet
      case rel => exact ⟨gz, pw, cw, rfl, rfl, rfl, BY.out, RY.out, GE.out, NV.out, HY.out⟩
  case rest =>
    obtain ⟨gW, pW, cW, rfl, rfl, rfl, hBx, hRr, hge, hne, hb⟩ := hcut
    generalize wc = VaW at *
    replace HB : Hid (Below w.heap.size w VaW) := HB.out.trans (hb.mono HB.out.size)
    replace BA : Hid (Box VaW w.heap.size [.int .i64 e, .int .i64 o, .int .i64 a, .int .i64 b, .int .i64 c, .slice p l.length q]) := BA.out.next hb
    replace BD : Hid (Box VaW (w.heap.size + 1) [.int .i64 dp, .int .i64 dn]) := BD.out.next hb
    replace RA : Hid (GRow lo VaW p (flatD l)) := HR.out.next HB.out
    have OVa : Hid (W1.heap.size ≤ VaW.heap.size ∧ W1.heap.size ≤ gW ∧ gW < VaW.heap.size) := ⟨hb.size, hge, hBx.lt⟩
    have BW : Hid (Box VaW gW [.int .i64 e', .int .i64 o', .int .i64 a', .int .i64 b', .int .i64 c', .slice pW l'.length cW]) := hBx
    have RW : Hid (IR W1.heap.size VaW.heap.size VaW pW l') := hRr
    have NEW : Hid (∀ x, pW = some x → l' ≠ [] → ¬ x.block = gW) := hne
    clear hBx hRr hge hne hb
    obtain ⟨BA0, BA1, BA2, BA3, BA4, BA5⟩ := BA.out.c6
    go_wp2_with fail
    refine (toG_any lo q p l e o a b c _ hn RA.out).mono ?_
    rintro r W5 ⟨gx, rfl, hb, hM⟩
    clear BA0 BA1 BA2 BA3 BA4 BA5
    replace HB : Hid (Below w.heap.size w W5) := HB.out.trans (hb.mono HB.out.size)
    replace BA : Hid (Box W5 w.heap.size [.int .i64 e, .int .i64 o, .int .i64 a, .int .i64 b, .int .i64 c, .slice p l.length q]) := BA.out.next hb
    replace BD : Hid (Box W5 (w.heap.size + 1) [.int .i64 dp, .int .i64 dn]) := BD.out.next hb
    replace RA : Hid (GRow lo W5 p (flatD l)) := HR.out.next HB.out
    replace BW : Hid (Box W5 gW [.int .i64 e', .int .i64 o', .int .i64 a', .int .i64 b', .int .i64 c', .slice pW l'.length cW]) := BW.out.next hb
    replace RW : Hid (IR W1.heap.size VaW.heap.size W5 pW l') := RW.out.next hb
    have O5 : Hid (VaW.heap.size ≤ W5.heap.size) := hb.size
    have RX : Hid (IR VaW.heap.size W5.heap.size W5 (some ⟨gx, 0, none⟩) l) := hM.ir
    clear hb hM
    go_upto_region 7 with fail
    refine wp_gen (fun W => Below w.heap.size w W ∧ Box W w.heap.size [.int .i64 e, .int .i64 o, .int .i64 a, .int .i64 b, .int .i64 c, .slice p l.length q] ∧ Box W (w.heap.size + 1) [.int .i64 dp, .int .i64 dn] ∧ GRow lo W p (flatD l) ∧ Box W gW [.int .i64 e', .int .i64 o', .int .i64 a', .int .i64 b', .int .i64 c', .slice pW l'.length cW] ∧ IR W1.heap.size VaW.heap.size W pW l' ∧ IR VaW.heap.size W5.heap.size W (some ⟨gx, 0, none⟩) l ∧ Box W W5.heap.size [.int .i64 e, .int .i64 o, .int .i64 a, .int .i64 b, .int .i64 c, .slice (some ⟨gx, 0, none⟩) l.length l.length]) ⟨HB.out.trans ((bel_alloc _ _).mono HB.out.size), BA.out.next (bel_alloc _ _), BD.out.next (bel_alloc _ _), HR.out.next (HB.out.trans ((bel_alloc _ _).mono HB.out.size)), BW.out.next (bel_alloc _ _), RW.out.next (bel_alloc _ _), RX.out.next (bel_alloc _ _), box_mk⟩ (fun W6 hI => ?_)
    obtain ⟨iHB, iBA, iBD, iRA, iBW, iRW, iRX, iBX⟩ := hI
    replace HB : Hid (Below w.heap.size w W6) := iHB
    replace BA : Hid (Box W6 w.heap.size [.int .i64 e, .int .i64 o, .int .i64 a, .int .i64 b, .int .i64 c, .slice p l.length q]) := iBA
    replace BD : Hid (Box W6 (w.heap.size + 1) [.int .i64 dp, .int .i64 dn]) := iBD
    replace RA : Hid (GRow lo W6 p (flatD l)) := iRA
    replace BW : Hid (Box W6 gW [.int .i64 e', .int .i64 o', .int .i64 a', .int .i64 b', .int .i64 c', .slice pW l'.length cW]) := iBW
    replace RW : Hid (IR W1.heap.size VaW.heap.size W6 pW l') := iRW
    replace RX : Hid (IR VaW.heap.size W5.heap.size W6 (some ⟨gx, 0, none⟩) l) := iRX
    have BX : Hid (Box W6 W5.heap.size [.int .i64 e, .int .i64 o, .int .i64 a, .int .i64 b, .int .i64 c, .slice (some ⟨gx, 0, none⟩) l.length l.length]) := iBX
    clear iHB iBA iBD iRA iBW iRW iRX iBX
    have OBX : Hid (W5.heap.size < W6.heap.size) := BX.out.lt
    clear LBA LBD
    have LBA : Hid (w.heap.size < W6.heap.size) := BA.out.lt
    have LBD : Hid (w.heap.size + 1 < W6.heap.size) := BD.out.lt
    have LBX : Hid (W5.heap.size < W6.heap.size) := BX.out.lt
    go_upto_region 7 with fail
    go_cut [12, 13, 14] from 21 (fun s12 s13 s14 wc => ∃ (gb : Nat) (pw : Option Addr) (cw : Nat), s12 = .pointer (some ⟨gb, 0, none⟩) ∧ s13 = .bool nb ∧ s14 = .int .i64 code ∧ Box wc gb [.int .i64 e', .int .i64 o', .int .i64 a', .int .i64 b', .int .i64 c', .slice pw l'.length cw] ∧ IR W6.heap.size wc.heap.size wc pw l' ∧ W6.heap.size ≤ gb ∧ (∀ x, pw = some x → l' ≠ [] → ¬ x.block = gb) ∧ Below W6.heap.size W6 wc)
    case first =>
      have HC : Hid (Below W6.heap.size W6 W6) := Below.refl _ _
      refine wp_region_held_drew (S := (fun w' => (w'.cell? ⟨W5.heap.size, 0, none⟩ = some (.int .i64 e) ∧ w'.cell? ⟨W5.heap.size, 1, none⟩ = some (.int .i64 o) ∧ w'.cell? ⟨W5.heap.size, 2, none⟩ = some (.int .i64 a) ∧ w'.cell? ⟨W5.heap.size, 3, none⟩ = some (.int .i64 b) ∧ w'.cell? ⟨W5.heap.size, 4, none⟩ = some (.int .i64 c) ∧ w'.cell? ⟨W5.heap.size, 5, none⟩ = some (.slice (some ⟨gx, 0, none⟩) l.length l.length)) ∧ (w'.cell? ⟨(w.heap.size + 1), 0, none⟩ = some (.int .i64 dp) ∧ w'.cell? ⟨(w.heap.size + 1), 1, none⟩ = some (.int .i64 dn)))) (by kernel_rfl) ?_ (fun hHeld => ?_)
      · (try dsimp only)
        exact ⟨(BX.out.next (bel_drew _)).c6, (BD.out.next (bel_drew _)).c2⟩
      have hbd := bel_drew W6
      replace HB : Hid (Below w.heap.size w W6.drew) := HB.out.trans (hbd.mono HB.out.size)
      replace BD : Hid (Box W6.drew (w.heap.size + 1) [.int .i64 dp, .int .i64 dn]) := BD.out.next hbd
      replace RA : Hid (GRow lo W6.drew p (flatD l)) := HR.out.next HB.out
      replace RX : Hid (IR VaW.heap.size W5.heap.size W6.drew (some ⟨gx, 0, none⟩) l) := RX.out.next hbd
      replace BX : Hid (Box W6.drew W5.heap.size [.int .i64 e, .int .i64 o, .int .i64 a, .int .i64 b, .int .i64 c, .slice (some ⟨gx, 0, none⟩) l.length l.length]) := BX.out.next hbd
      replace HC : Hid (Below W6.heap.size W6 W6.drew) := HC.out.trans (hbd.mono HC.out.size)
      clear hbd
      generalize W6.drew = Vb0 at *
      refine wTk 0 ?_
      refine wTk 1 ?_
      refine wTk 2 ?_
      refine wRd2 3 9 (fun K hK => ?_) (fun K hK => ?_)
      · go_simp
        go_at_call 24
        refine (toDot_any dp dn _).mono ?_
        rintro r Vb1 ⟨rfl, hb⟩
        (try simp only [])
        replace HB : Hid (Below w.heap.size w Vb1) := HB.out.trans (hb.mono HB.out.size)
        replace BD : Hid (Box Vb1 (w.heap.size + 1) [.int .i64 dp, .int .i64 dn]) := BD.out.next hb
        replace RA : Hid (GRow lo Vb1 p (flatD l)) := HR.out.next HB.out
        replace RX : Hid (IR VaW.heap.size W5.heap.size Vb1 (some ⟨gx, 0, none⟩) l) := RX.out.next hb
        replace BX : Hid (Box Vb1 W5.heap.size [.int .i64 e, .int .i64 o, .int .i64 a, .int .i64 b, .int .i64 c, .slice (some ⟨gx, 0, none⟩) l.length l.length]) := BX.out.next hb
        replace HC : Hid (Below W6.heap.size W6 Vb1) := HC.out.trans (hb.mono HC.out.size)
        clear hb
        refine wHk hK ⟨BX.out.c6, BD.out.c2⟩ ?_
        clear hK K hHeld
        intro hHeld
        refine wRd2 4 9 (fun K hK => ?_) (fun K hK => ?_)
        · go_simp
          go_at_call 10
          refine Calls.mono (HCI.out hn Vb1 _ _ _ RX.out.mr.row) ?_
          rintro r Vb2 ⟨pw, cw, rfl, hM, hb⟩
          (try simp only [])
          have RN' : IR W6.heap.size Vb2.heap.size Vb2 pw l' := ⟨(hM.weak HC.out.size), hM.ir.up⟩
          replace HB : Hid (Below w.heap.size w Vb2) := HB.out.trans (hb.mono HB.out.size)
          replace BD : Hid (Box Vb2 (w.heap.size + 1) [.int .i64 dp, .int .i64 dn]) := BD.out.next hb
          replace RA : Hid (GRow lo Vb2 p (flatD l)) := HR.out.next HB.out
          replace RX : Hid (IR VaW.heap.size W5.heap.size Vb2 (some ⟨gx, 0, none⟩) l) := RX.out.next hb
          replace BX : Hid (Box Vb2 W5.heap.size [.int .i64 e, .int .i64 o, .int .i64 a, .int .i64 b, .int .i64 c, .slice (some ⟨gx, 0, none⟩) l.length l.length]) := BX.out.next hb
          replace HC : Hid (Below W6.heap.size W6 Vb2) := HC.out.trans (hb.mono HC.out.size)
          have RN : Hid (IR W6.heap.size Vb2.heap.size Vb2 pw l') := RN'
          clear hb hM RN'
          refine wHk hK ⟨BX.out.c6, BD.out.c2⟩ ?_
          clear hK K hHeld
          intro hHeld
          refine wTk 5 ?_
          refine wTk 6 ?_
          refine wTk 7 ?_
          refine wTk 8 ?_
          refine wRd 9 (fun K hK => ?_)
          go_simp
          (try simp only [])
          have hb := bel_alloc Vb2 (.cells #[.int .i64 0, .int .i64 0, .int .i64 0, .int .i64 0, .int .i64 0, .slice none 0 0] 27)
          have NV : Hid (∀ x, pw = some x → l' ≠ [] → ¬ x.block = Vb2.heap.size) := fun x hx hl => by have := RN.out.up x hx hl; omega
          have BZ : Hid (Box (Vb2.alloc (.cells #[.int .i64 0, .int .i64 0, .int .i64 0, .int .i64 0, .int .i64 0, .slice none 0 0] 27)) Vb2.heap.size [.int .i64 0, .int .i64 0, .int .i64 0, .int .i64 0, .int .i64 0, .slice none 0 0]) := box_mk
          have GE : Hid (W6.heap.size ≤ Vb2.heap.size) := HC.out.size
          replace HB : Hid (Below w.heap.size w (Vb2.alloc (.cells #[.int .i64 0, .int .i64 0, .int .i64 0, .int .i64 0, .int .i64 0, .slice none 0 0] 27))) := HB.out.trans (hb.mono HB.out.size)
          replace BD : Hid (Box (Vb2.alloc (.cells #[.int .i64 0, .int .i64 0, .int .i64 0, .int .i64 0, .int .i64 0, .slice none 0 0] 27)) (w.heap.size + 1) [.int .i64 dp, .int .i64 dn]) := BD.out.next hb
          replace RA : Hid (GRow lo (Vb2.alloc (.cells #[.int .i64 0, .int .i64 0, .int .i64 0, .int .i64 0, .int .i64 0, .slice none 0 0] 27)) p (flatD l)) := HR.out.next HB.out
          replace RX : Hid (IR VaW.heap.size W5.heap.size (Vb2.alloc (.cells #[.int .i64 0, .int .i64 0, .int .i64 0, .int .i64 0, .int .i64 0, .slice none 0 0] 27)) (some ⟨gx, 0, none⟩) l) := RX.out.next hb
          replace BX : Hid (Box (Vb2.alloc (.cells #[.int .i64 0, .int .i64 0, .int .i64 0, .int .i64 0, .int .i64 0, .slice none 0 0] 27)) W5.heap.size [.int .i64 e, .int .i64 o, .int .i64 a, .int .i64 b, .int .i64 c, .slice (some ⟨gx, 0, none⟩) l.length l.length]) := BX.out.next hb
          replace HC : Hid (Below W6.heap.size W6 (Vb2.alloc (.cells #[.int .i64 0, .int .i64 0, .int .i64 0, .int .i64 0, .int .i64 0, .slice none 0 0] 27))) := HC.out.trans (hb.mono HC.out.size)
          replace RN : Hid (IR W6.heap.size Vb2.heap.size (Vb2.alloc (.cells #[.int .i64 0, .int .i64 0, .int .i64 0, .int .i64 0, .int .i64 0, .slice none 0 0] 27)) pw l') := RN.out.next hb
          clear hb
          refine wHk hK ⟨BX.out.c6, BD.out.c2⟩ ?_
          clear hK K hHeld
          intro hHeld
          generalize (Vb2.alloc (.cells #[.int .i64 0, .int .i64 0, .int .i64 0, .int .i64 0, .int .i64 0, .slice none 0 0] 27)) = Vb3 at *
          generalize Vb2.heap.size = gz at *
          obtain ⟨z0, z1, z2, z3, z4, z5⟩ := BZ.out.c6
          obtain ⟨y0, y1, y2, y3, y4, y5⟩ := BZ.out.f6
          refine wRd 10 (fun K hK => ?_)
          go_simp
          (try simp only [])
          have kz : Kp (fun b => gz ≤ b ∧ b < gz + 1) Vb3 ((((((Vb3.setCell ⟨gz, 0, none⟩ (.int .i64 e')).setCell ⟨gz, 1, none⟩ (.int .i64 o')).setCell ⟨gz, 2, none⟩ (.int .i64 a')).setCell ⟨gz, 3, none⟩ (.int .i64 b')).setCell ⟨gz, 4, none⟩ (.int .i64 c')).setCell ⟨gz, 5, none⟩ (.slice pw l'.length cw)) := (((((Kp.set1 (g := gz)).trans1 Kp.set1).trans1 Kp.set1).trans1 Kp.set1).trans1 Kp.set1).trans1 Kp.set1
          have BY : Hid (Box ((((((Vb3.setCell ⟨gz, 0, none⟩ (.int .i64 e')).setCell ⟨gz, 1, none⟩ (.int .i64 o')).setCell ⟨gz, 2, none⟩ (.int .i64 a')).setCell ⟨gz, 3, none⟩ (.int .i64 b')).setCell ⟨gz, 4, none⟩ (.int .i64 c')).setCell ⟨gz, 5, none⟩ (.slice pw l'.length cw)) gz [.int .i64 e', .int .i64 o', .int .i64 a', .int .i64 b', .int .i64 c', .slice pw l'.length cw]) := BZ.out.s6
          replace BX : Hid (Box ((((((Vb3.setCell ⟨gz, 0, none⟩ (.int .i64 e')).setCell ⟨gz, 1, none⟩ (.int .i64 o')).setCell ⟨gz, 2, none⟩ (.int .i64 a')).setCell ⟨gz, 3, none⟩ (.int .i64 b')).setCell ⟨gz, 4, none⟩ (.int .i64 c')).setCell ⟨gz, 5, none⟩ (.slice pw l'.length cw)) W5.heap.size [.int .i64 e, .int .i64 o, .int .i64 a, .int .i64 b, .int .i64 c, .slice (some ⟨gx, 0, none⟩) l.length l.length]) := BX.out.kp kz (by have := GE.out; have := LBX.out; omega)
          replace BD : Hid (Box ((((((Vb3.setCell ⟨gz, 0, none⟩ (.int .i64 e')).setCell ⟨gz, 1, none⟩ (.int .i64 o')).setCell ⟨gz, 2, none⟩ (.int .i64 a')).setCell ⟨gz, 3, none⟩ (.int .i64 b')).setCell ⟨gz, 4, none⟩ (.int .i64 c')).setCell ⟨gz, 5, none⟩ (.slice pw l'.length cw)) (w.heap.size + 1) [.int .i64 dp, .int .i64 dn]) := BD.out.kp kz (by have := GE.out; have := LBD.out; omega)
          have RY : Hid (IR W6.heap.size ((((((Vb3.setCell ⟨gz, 0, none⟩ (.int .i64 e')).setCell ⟨gz, 1, none⟩ (.int .i64 o')).setCell ⟨gz, 2, none⟩ (.int .i64 a')).setCell ⟨gz, 3, none⟩ (.int .i64 b')).setCell ⟨gz, 4, none⟩ (.int .i64 c')).setCell ⟨gz, 5, none⟩ (.slice pw l'.length cw)).heap.size ((((((Vb3.setCell ⟨gz, 0, none⟩ (.int .i64 e')).setCell ⟨gz, 1, none⟩ (.int .i64 o')).setCell ⟨gz, 2, none⟩ (.int .i64 a')).setCell ⟨gz, 3, none⟩ (.int .i64 b')).setCell ⟨gz, 4, none⟩ (.int .i64 c')).setCell ⟨gz, 5, none⟩ (.slice pw l'.length cw)) pw l') := ir_store RN.out kz NV.out (by simp [World.setCell])
          have HY : Hid (Below W6.heap.size W6 ((((((Vb3.setCell ⟨gz, 0, none⟩ (.int .i64 e')).setCell ⟨gz, 1, none⟩ (.int .i64 o')).setCell ⟨gz, 2, none⟩ (.int .i64 a')).setCell ⟨gz, 3, none⟩ (.int .i64 b')).setCell ⟨gz, 4, none⟩ (.int .i64 c')).setCell ⟨gz, 5, none⟩ (.slice pw l'.length cw))) := HC.out.trans (kz.below HC.out.size (fun x hx e => by have := GE.out; omega))
          refine hK.out _ _ ⟨BX.out.c6, BD.out.c2⟩ (fun hHeld' => ?_)
          clear hK K hHeld z0 z1 z2 z3 z4 z5 y0 y1 y2 y3 y4 y5 kz
          have hHeld := hHeld'
          clear hHeld'
          refine wLy ?_
          refine wTk 11 ?_
          refine wTk 12 ?_
          refine wpAnyH_done (by kernel_rfl) ?_ _
          clear hHeld
          go_wp2
          go_meet
          case rel => exact ⟨gz, pw, cw, rfl, rfl, rfl, BY.out, RY.out, GE.out, NV.out, HY.out⟩
        · go_simp
          (try simp only [])
          have hb := bel_alloc Vb1 (.cells #[.int .i64 0, .int .i64 0, .int .i64 0, .int .i64 0, .int .i64 0, .slice none 0 0] 27)
          have BZ : Hid (Box (Vb1.alloc (.cells #[.int .i64 0, .int .i64 0, .int .i64 0, .int .i64 0, .int .i64 0, .slice none 0 0] 27)) Vb1.heap.size [.int .i64 0, .int .i64 0, .int .i64 0, .int .i64 0, .int .i64 0, .slice none 0 0]) := box_mk
          have GE : Hid (W6.heap.size ≤ Vb1.heap.size) := HC.out.size
          replace HB : Hid (Below w.heap.size w (Vb1.alloc (.cells #[.int .i64 0, .int .i64 0, .int .i64 0, .int .i64 0, .int .i64 0, .slice none 0 0] 27))) := HB.out.trans (hb.mono HB.out.size)
          replace BD : Hid (Box (Vb1.alloc (.cells #[.int .i64 0, .int .i64 0, .int .i64 0, .int .i64 0, .int .i64 0, .slice none 0 0] 27)) (w.heap.size + 1) [.int .i64 dp, .int .i64 dn]) := BD.out.next hb
          replace RA : Hid (GRow lo (Vb1.alloc (.cells #[.int .i64 0, .int .i64 0, .int .i64 0, .int .i64 0, .int .i64 0, .slice none 0 0] 27)) p (flatD l)) := HR.out.next HB.out
          replace RX : Hid (IR VaW.heap.size W5.heap.size (Vb1.alloc (.cells #[.int .i64 0, .int .i64 0, .int .i64 0, .int .i64 0, .int .i64 0, .slice none 0 0] 27)) (some ⟨gx, 0, none⟩) l) := RX.out.next hb
          replace BX : Hid (Box (Vb1.alloc (.cells #[.int .i64 0, .int .i64 0, .int .i64 0, .int .i64 0, .int .i64 0, .slice none 0 0] 27)) W5.heap.size [.int .i64 e, .int .i64 o, .int .i64 a, .int .i64 b, .int .i64 c, .slice (some ⟨gx, 0, none⟩) l.length l.length]) := BX.out.next hb
          replace HC : Hid (Below W6.heap.size W6 (Vb1.alloc (.cells #[.int .i64 0, .int .i64 0, .int .i64 0, .int .i64 0, .int .i64 0, .slice none 0 0] 27))) := HC.out.trans (hb.mono HC.out.size)
          clear hb
          refine wHk hK ⟨BX.out.c6, BD.out.c2⟩ ?_
          clear hK K hHeld
          intro hHeld
          generalize (Vb1.alloc (.cells #[.int .i64 0, .int .i64 0, .int .i64 0, .int .i64 0, .int .i64 0, .slice none 0 0] 27)) = Vb2 at *
          generalize Vb1.heap.size = gz at *
          refine wRd 4 (fun K hK => ?_)
          go_simp
          go_at_call 10
          refine Calls.mono (HCI.out hn Vb2 _ _ _ RX.out.mr.row) ?_
          rintro r Vb3 ⟨pw, cw, rfl, hM, hb⟩
          (try simp only [])
          have RN' : IR W6.heap.size Vb3.heap.size Vb3 pw l' := ⟨(hM.weak HC.out.size), hM.ir.up⟩
          have NV : Hid (∀ x, pw = some x → l' ≠ [] → ¬ x.block = gz) := fun x hx hl => by have := hM.ir.lo x hx hl; have := BZ.out.lt; omega
          replace HB : Hid (Below w.heap.size w Vb3) := HB.out.trans (hb.mono HB.out.size)
          replace BD : Hid (Box Vb3 (w.heap.size + 1) [.int .i64 dp, .int .i64 dn]) := BD.out.next hb
          replace RA : Hid (GRow lo Vb3 p (flatD l)) := HR.out.next HB.out
          replace RX : Hid (IR VaW.heap.size W5.heap.size Vb3 (some ⟨gx, 0, none⟩) l) := RX.out.next hb
          replace BX : Hid (Box Vb3 W5.heap.size [.int .i64 e, .int .i64 o, .int .i64 a, .int .i64 b, .int .i64 c, .slice (some ⟨gx, 0, none⟩) l.length l.length]) := BX.out.next hb
          replace HC : Hid (Below W6.heap.size W6 Vb3) := HC.out.trans (hb.mono HC.out.size)
          replace BZ : Hid (Box Vb3 gz [.int .i64 0, .int .i64 0, .int .i64 0, .int .i64 0, .int .i64 0, .slice none 0 0]) := BZ.out.next hb
          have RN : Hid (IR W6.heap.size Vb3.heap.size Vb3 pw l') := RN'
          clear hb hM RN'
          refine wHk hK ⟨BX.out.c6, BD.out.c2⟩ ?_
          clear hK K hHeld
          intro hHeld
          refine wTk 5 ?_
          refine wTk 6 ?_
          refine wTk 7 ?_
          refine wTk 8 ?_
          obtain ⟨z0, z1, z2, z3, z4, z5⟩ := BZ.out.c6
          obtain ⟨y0, y1, y2, y3, y4, y5⟩ := BZ.out.f6
          refine wRd 10 (fun K hK => ?_)
          go_simp
          (try simp only [])
          have kz : Kp (fun b => gz ≤ b ∧ b < gz + 1) Vb3 ((((((Vb3.setCell ⟨gz, 0, none⟩ (.int .i64 e')).setCell ⟨gz, 1, none⟩ (.int .i64 o')).setCell ⟨gz, 2, none⟩ (.int .i64 a')).setCell ⟨gz, 3, none⟩ (.int .i64 b')).setCell ⟨gz, 4, none⟩ (.int .i64 c')).setCell ⟨gz, 5, none⟩ (.slice pw l'.length cw)) := (((((Kp.set1 (g := gz)).trans1 Kp.set1).trans1 Kp.set1).trans1 Kp.set1).trans1 Kp.set1).trans1 Kp.set1
          have BY : Hid (Box ((((((Vb3.setCell ⟨gz, 0, none⟩ (.int .i64 e')).setCell ⟨gz, 1, none⟩ (.int .i64 o')).setCell ⟨gz, 2, none⟩ (.int .i64 a')).setCell ⟨gz, 3, none⟩ (.int .i64 b')).setCell ⟨gz, 4, none⟩ (.int .i64 c')).setCell ⟨gz, 5, none⟩ (.slice pw l'.length cw)) gz [.int .i64 e', .int .i64 o', .int .i64 a', .int .i64 b', .int .i64 c', .slice pw l'.length cw]) := BZ.out.s6
          replace BX : Hid (Box ((((((Vb3.setCell ⟨gz, 0, none⟩ (.int .i64 e')).setCell ⟨gz, 1, none⟩ (.int .i64 o')).setCell ⟨gz, 2, none⟩ (.int .i64 a')).setCell ⟨gz, 3, none⟩ (.int .i64 b')).setCell ⟨gz, 4, none⟩ (.int .i64 c')).setCell ⟨gz, 5, none⟩ (.slice pw l'.length cw)) W5.heap.size [.int .i64 e, .int .i64 o, .int .i64 a, .int .i64 b, .int .i64 c, .slice (some ⟨gx, 0, none⟩) l.length l.length]) := BX.out.kp kz (by have := GE.out; have := LBX.out; omega)
          replace BD : Hid (Box ((((((Vb3.setCell ⟨gz, 0, none⟩ (.int .i64 e')).setCell ⟨gz, 1, none⟩ (.int .i64 o')).setCell ⟨gz, 2, none⟩ (.int .i64 a')).setCell ⟨gz, 3, none⟩ (.int .i64 b')).setCell ⟨gz, 4, none⟩ (.int .i64 c')).setCell ⟨gz, 5, none⟩ (.slice pw l'.length cw)) (w.heap.size + 1) [.int .i64 dp, .int .i64 dn]) := BD.out.kp kz (by have := GE.out; have := LBD.out; omega)
          have RY : Hid (IR W6.heap.size ((((((Vb3.setCell ⟨gz, 0, none⟩ (.int .i64 e')).setCell ⟨gz, 1, none⟩ (.int .i64 o')).setCell ⟨gz, 2, none⟩ (.int .i64 a')).setCell ⟨gz, 3, none⟩ (.int .i64 b')).setCell ⟨gz, 4, none⟩ (.int .i64 c')).setCell ⟨gz, 5, none⟩ (.slice pw l'.length cw)).heap.size ((((((Vb3.setCell ⟨gz, 0, none⟩ (.int .i64 e')).setCell ⟨gz, 1, none⟩ (.int .i64 o')).setCell ⟨gz, 2, none⟩ (.int .i64 a')).setCell ⟨gz, 3, none⟩ (.int .i64 b')).setCell ⟨gz, 4, none⟩ (.int .i64 c')).setCell ⟨gz, 5, none⟩ (.slice pw l'.length cw)) pw l') := ir_store RN.out kz NV.out (by simp [World.setCell])
          have HY : Hid (Below W6.heap.size W6 ((((((Vb3.setCell ⟨gz, 0, none⟩ (.int .i64 e')).setCell ⟨gz, 1, none⟩ (.int .i64 o')).setCell ⟨gz, 2, none⟩ (.int .i64 a')).setCell ⟨gz, 3, none⟩ (.int .i64 b')).setCell ⟨gz, 4, none⟩ (.int .i64 c')).setCell ⟨gz, 5, none⟩ (.slice pw l'.length cw))) := HC.out.trans (kz.below HC.out.size (fun x hx e => by have := GE.out; omega))
          refine hK.out _ _ ⟨BX.out.c6, BD.out.c2⟩ (fun hHeld' => ?_)
          clear hK K hHeld z0 z1 z2 z3 z4 z5 y0 y1 y2 y3 y4 y5 kz
          have hHeld := hHeld'
          clear hHeld'
          refine wLy ?_
          refine wTk 11 ?_
          refine wTk 12 ?_
          refine wpAnyH_done (by kernel_rfl) ?_ _
          clear hHeld
          go_wp2
          go_meet
          case rel => exact ⟨gz, pw, cw, rfl, rfl, rfl, BY.out, RY.out, GE.out, NV.out, HY.out⟩
      · go_simp
        (try simp only [])
        have hb := bel_alloc Vb0 (.cells #[.int .i64 0, .int .i64 0, .int .i64 0, .int .i64 0, .int .i64 0, .slice none 0 0] 27)
        have BZ : Hid (Box (Vb0.alloc (.cells #[.int .i64 0, .int .i64 0, .int .i64 0, .int .i64 0, .int .i64 0, .slice none 0 0] 27)) Vb0.heap.size [.int .i64 0, .int .i64 0, .int .i64 0, .int .i64 0, .int .i64 0, .slice none 0 0]) := box_mk
        have GE : Hid (W6.heap.size ≤ Vb0.heap.size) := HC.out.size
        replace HB : Hid (Below w.heap.size w (Vb0.alloc (.cells #[.int .i64 0, .int .i64 0, .int .i64 0, .int .i64 0, .int .i64 0, .slice none 0 0] 27))) := HB.out.trans (hb.mono HB.out.size)
        replace BD : Hid (Box (Vb0.alloc (.cells #[.int .i64 0, .int .i64 0, .int .i64 0, .int .i64 0, .int .i64 0, .slice none 0 0] 27)) (w.heap.size + 1) [.int .i64 dp, .int .i64 dn]) := BD.out.next hb
        replace RA : Hid (GRow lo (Vb0.alloc (.cells #[.int .i64 0, .int .i64 0, .int .i64 0, .int .i64 0, .int .i64 0, .slice none 0 0] 27)) p (flatD l)) := HR.out.next HB.out
        replace RX : Hid (IR VaW.heap.size W5.heap.size (Vb0.alloc (.cells #[.int .i64 0, .int .i64 0, .int .i64 0, .int .i64 0, .int .i64 0, .slice none 0 0] 27)) (some ⟨gx, 0, none⟩) l) := RX.out.next hb
        replace BX : Hid (Box (Vb0.alloc (.cells #[.int .i64 0, .int .i64 0, .int .i64 0, .int .i64 0, .int .i64 0, .slice none 0 0] 27)) W5.heap.size [.int .i64 e, .int .i64 o, .int .i64 a, .int .i64 b, .int .i64 c, .slice (some ⟨gx, 0, none⟩) l.length l.length]) := BX.out.next hb
        replace HC : Hid (Below W6.heap.size W6 (Vb0.alloc (.cells #[.int .i64 0, .int .i64 0, .int .i64 0, .int .i64 0, .int .i64 0, .slice none 0 0] 27))) := HC.out.trans (hb.mono HC.out.size)
        clear hb
        refine wHk hK ⟨BX.out.c6, BD.out.c2⟩ ?_
        clear hK K hHeld
        intro hHeld
        generalize (Vb0.alloc (.cells #[.int .i64 0, .int .i64 0, .int .i64 0, .int .i64 0, .int .i64 0, .slice none 0 0] 27)) = Vb1 at *
        generalize Vb0.heap.size = gz at *
        refine wRd 3 (fun K hK => ?_)
        go_simp
        go_at_call 24
        refine (toDot_any dp dn _).mono ?_
        rintro r Vb2 ⟨rfl, hb⟩
        (try simp only [])
        replace HB : Hid (Below w.heap.size w Vb2) := HB.out.trans (hb.mono HB.out.size)
        replace BD : Hid (Box Vb2 (w.heap.size + 1) [.int .i64 dp, .int .i64 dn]) := BD.out.next hb
        replace RA : Hid (GRow lo Vb2 p (flatD l)) := HR.out.next HB.out
        replace RX : Hid (IR VaW.heap.size W5.heap.size Vb2 (some ⟨gx, 0, none⟩) l) := RX.out.next hb
        replace BX : Hid (Box Vb2 W5.heap.size [.int .i64 e, .int .i64 o, .int .i64 a, .int .i64 b, .int .i64 c, .slice (some ⟨gx, 0, none⟩) l.length l.length]) := BX.out.next hb
        replace HC : Hid (Below W6.heap.size W6 Vb2) := HC.out.trans (hb.mono HC.out.size)
        replace BZ : Hid (Box Vb2 gz [.int .i64 0, .int .i64 0, .int .i64 0, .int .i64 0, .int .i64 0, .slice none 0 0]) := BZ.out.next hb
        clear hb
        refine wHk hK ⟨BX.out.c6, BD.out.c2⟩ ?_
        clear hK K hHeld
        intro hHeld
        refine wRd 4 (fun K hK => ?_)
        go_simp
        go_at_call 10
        refine Calls.mono (HCI.out hn Vb2 _ _ _ RX.out.mr.row) ?_
        rintro r Vb3 ⟨pw, cw, rfl, hM, hb⟩
        (try simp only [])
        have RN' : IR W6.heap.size Vb3.heap.size Vb3 pw l' := ⟨(hM.weak HC.out.size), hM.ir.up⟩
        have NV : Hid (∀ x, pw = some x → l' ≠ [] → ¬ x.block = gz) := fun x hx hl => by have := hM.ir.lo x hx hl; have := BZ.out.lt; omega
        replace HB : Hid (Below w.heap.size w Vb3) := HB.out.trans (hb.mono HB.out.size)
        replace BD : Hid (Box Vb3 (w.heap.size + 1) [.int .i64 dp, .int .i64 dn]) := BD.out.next hb
        replace RA : Hid (GRow lo Vb3 p (flatD l)) := HR.out.next HB.out
        replace RX : Hid (IR VaW.heap.size W5.heap.size Vb3 (some ⟨gx, 0, none⟩) l) := RX.out.next hb
        replace BX : Hid (Box Vb3 W5.heap.size [.int .i64 e, .int .i64 o, .int .i64 a, .int .i64 b, .int .i64 c, .slice (some ⟨gx, 0, none⟩) l.length l.length]) := BX.out.next hb
        replace HC : Hid (Below W6.heap.size W6 Vb3) := HC.out.trans (hb.mono HC.out.size)
        replace BZ : Hid (Box Vb3 gz [.int .i64 0, .int .i64 0, .int .i64 0, .int .i64 0, .int .i64 0, .slice none 0 0]) := BZ.out.next hb
        have RN : Hid (IR W6.heap.size Vb3.heap.size Vb3 pw l') := RN'
        clear hb hM RN'
        refine wHk hK ⟨BX.out.c6, BD.out.c2⟩ ?_
        clear hK K hHeld
        intro hHeld
        refine wTk 5 ?_
        refine wTk 6 ?_
        refine wTk 7 ?_
        refine wTk 8 ?_
        obtain ⟨z0, z1, z2, z3, z4, z5⟩ := BZ.out.c6
        obtain ⟨y0, y1, y2, y3, y4, y5⟩ := BZ.out.f6
        refine wRd 10 (fun K hK => ?_)
        go_simp
        (try simp only [])
        have kz : Kp (fun b => gz ≤ b ∧ b < gz + 1) Vb3 ((((((Vb3.setCell ⟨gz, 0, none⟩ (.int .i64 e')).setCell ⟨gz, 1, none⟩ (.int .i64 o')).setCell ⟨gz, 2, none⟩ (.int .i64 a')).setCell ⟨gz, 3, none⟩ (.int .i64 b')).setCell ⟨gz, 4, none⟩ (.int .i64 c')).setCell ⟨gz, 5, none⟩ (.slice pw l'.length cw)) := (((((Kp.set1 (g := gz)).trans1 Kp.set1).trans1 Kp.set1).trans1 Kp.set1).trans1 Kp.set1).trans1 Kp.set1
        have BY : Hid (Box ((((((Vb3.setCell ⟨gz, 0, none⟩ (.int .i64 e')).setCell ⟨gz, 1, none⟩ (.int .i64 o')).setCell ⟨gz, 2, none⟩ (.int .i64 a')).setCell ⟨gz, 3, none⟩ (.int .i64 b')).setCell ⟨gz, 4, none⟩ (.int .i64 c')).setCell ⟨gz, 5, none⟩ (.slice pw l'.length cw)) gz [.int .i64 e', .int .i64 o', .int .i64 a', .int .i64 b', .int .i64 c', .slice pw l'.length cw]) := BZ.out.s6
        replace BX : Hid (Box ((((((Vb3.setCell ⟨gz, 0, none⟩ (.int .i64 e')).setCell ⟨gz, 1, none⟩ (.int .i64 o')).setCell ⟨gz, 2, none⟩ (.int .i64 a')).setCell ⟨gz, 3, none⟩ (.int .i64 b')).setCell ⟨gz, 4, none⟩ (.int .i64 c')).setCell ⟨gz, 5, none⟩ (.slice pw l'.length cw)) W5.heap.size [.int .i64 e, .int .i64 o, .int .i64 a, .int .i64 b, .int .i64 c, .slice (some ⟨gx, 0, none⟩) l.length l.length]) := BX.out.kp kz (by have := GE.out; have := LBX.out; omega)
        replace BD : Hid (Box ((((((Vb3.setCell ⟨gz, 0, none⟩ (.int .i64 e')).setCell ⟨gz, 1, none⟩ (.int .i64 o')).setCell ⟨gz, 2, none⟩ (.int .i64 a')).setCell ⟨gz, 3, none⟩ (.int .i64 b')).setCell ⟨gz, 4, none⟩ (.int .i64 c')).setCell ⟨gz, 5, none⟩ (.slice pw l'.length cw)) (w.heap.size + 1) [.int .i64 dp, .int .i64 dn]) := BD.out.kp kz (by have := GE.out; have := LBD.out; omega)
        have RY : Hid (IR W6.heap.size ((((((Vb3.setCell ⟨gz, 0, none⟩ (.int .i64 e')).setCell ⟨gz, 1, none⟩ (.int .i64 o')).setCell ⟨gz, 2, none⟩ (.int .i64 a')).setCell ⟨gz, 3, none⟩ (.int .i64 b')).setCell ⟨gz, 4, none⟩ (.int .i64 c')).setCell ⟨gz, 5, none⟩ (.slice pw l'.length cw)).heap.size ((((((Vb3.setCell ⟨gz, 0, none⟩ (.int .i64 e')).setCell ⟨gz, 1, none⟩ (.int .i64 o')).setCell ⟨gz, 2, none⟩ (.int .i64 a')).setCell ⟨gz, 3, none⟩ (.int .i64 b')).setCell ⟨gz, 4, none⟩ (.int .i64 c')).setCell ⟨gz, 5, none⟩ (.slice pw l'.length cw)) pw l') := ir_store RN.out kz NV.out (by simp [World.setCell])
        have HY : Hid (Below W6.heap.size W6 ((((((Vb3.setCell ⟨gz, 0, none⟩ (.int .i64 e')).setCell ⟨gz, 1, none⟩ (.int .i64 o')).setCell ⟨gz, 2, none⟩ (.int .i64 a')).setCell ⟨gz, 3, none⟩ (.int .i64 b')).setCell ⟨gz, 4, none⟩ (.int .i64 c')).setCell ⟨gz, 5, none⟩ (.slice pw l'.length cw))) := HC.out.trans (kz.below HC.out.size (fun x hx e => by have := GE.out; omega))
        refine hK.out _ _ ⟨BX.out.c6, BD.out.c2⟩ (fun hHeld' => ?_)
        clear hK K hHeld z0 z1 z2 z3 z4 z5 y0 y1 y2 y3 y4 y5 kz
        have hHeld := hHeld'
        clear hHeld'
        refine wLy ?_
        refine wTk 11 ?_
        refine wTk 12 ?_
        refine wpAnyH_done (by kernel_rfl) ?_ _
        clear hHeld
        go_wp2
        go_meet
        case rel => exact ⟨gz, pw, cw, rfl, rfl, rfl, BY.out, RY.out, GE.out, NV.out, HY.out⟩
    case rest =>
      obtain ⟨gG, pG, cG, rfl, rfl, rfl, hBx, hRr, hge, hne, hb⟩ := hcut
      generalize wc = VbW at *
      replace HB : Hid (Below w.heap.size w VbW) := HB.out.trans (hb.mono HB.out.size)
      replace BA : Hid (Box VbW w.heap.size [.int .i64 e, .int .i64 o, .int .i64 a, .int .i64 b, .int .i64 c, .slice p l.length q]) := BA.out.next hb
      replace BD : Hid (Box VbW (w.heap.size + 1) [.int .i64 dp, .int .i64 dn]) := BD.out.next hb
      replace RA : Hid (GRow lo VbW p (flatD l)) := HR.out.next HB.out
      replace BW : Hid (Box VbW gW [.int .i64 e', .int .i64 o', .int .i64 a', .int .i64 b', .int .i64 c', .slice pW l'.length cW]) := BW.out.next hb
      replace RW : Hid (IR W1.heap.size VaW.heap.size VbW pW l') := RW.out.next hb
      replace RX : Hid (IR VaW.heap.size W5.heap.size VbW (some ⟨gx, 0, none⟩) l) := RX.out.next hb
      replace BX : Hid (Box VbW W5.heap.size [.int .i64 e, .int .i64 o, .int .i64 a, .int .i64 b, .int .i64 c, .slice (some ⟨gx, 0, none⟩) l.length l.length]) := BX.out.next hb
      have OVb : Hid (W6.heap.size ≤ VbW.heap.size ∧ W6.heap.size ≤ gG ∧ gG < VbW.heap.size) := ⟨hb.size, hge, hBx.lt⟩
      have BG : Hid (Box VbW gG [.int .i64 e', .int .i64 o', .int .i64 a', .int .i64 b', .int .i64 c', .slice pG l'.length cG]) := hBx
      have RG : Hid (IR W6.heap.size VbW.heap.size VbW pG l') := hRr
      have NEG : Hid (∀ x, pG = some x → l' ≠ [] → ¬ x.block = gG) := hne
      clear hBx hRr hge hne hb
      obtain ⟨BG0, BG1, BG2, BG3, BG4, BG5⟩ := BG.out.c6
      obtain ⟨BW0, BW1, BW2, BW3, BW4, BW5⟩ := BW.out.c6
      go_wp2_with fail
      refine (eqG_same _ _ _ _ _ _ l' e' o' a' b' c' _ (by omega) RG.out.mr.row RW.out.mr.row).mono ?_
      rintro r W9 ⟨rfl, hb⟩
      clear BG0 BG1 BG2 BG3 BG4 BG5
      clear BW0 BW1 BW2 BW3 BW4 BW5
      replace HB : Hid (Below w.heap.size w W9) := HB.out.trans (hb.mono HB.out.size)
      replace BA : Hid (Box W9 w.heap.size [.int .i64 e, .int .i64 o, .int .i64 a, .int .i64 b, .int .i64 c, .slice p l.length q]) := BA.out.next hb
      replace BD : Hid (Box W9 (w.heap.size + 1) [.int .i64 dp, .int .i64 dn]) := BD.out.next hb
      replace RA : Hid (GRow lo W9 p (flatD l)) := HR.out.next HB.out
      replace BW : Hid (Box W9 gW [.int .i64 e', .int .i64 o', .int .i64 a', .int .i64 b', .int .i64 c', .slice pW l'.length cW]) := BW.out.next hb
      replace RW : Hid (IR W1.heap.size VaW.heap.size W9 pW l') := RW.out.next hb
      replace RX : Hid (IR VaW.heap.size W5.heap.size W9 (some ⟨gx, 0, none⟩) l) := RX.out.next hb
      replace BX : Hid (Box W9 W5.heap.size [.int .i64 e, .int .i64 o, .int .i64 a, .int .i64 b, .int .i64 c, .slice (some ⟨gx, 0, none⟩) l.length l.length]) := BX.out.next hb
      replace BG : Hid (Box W9 gG [.int .i64 e', .int .i64 o', .int .i64 a', .int .i64 b', .int .i64 c', .slice pG l'.length cG]) := BG.out.next hb
      replace RG : Hid (IR W6.heap.size VbW.heap.size W9 pG l') := RG.out.next hb
      have O9 : Hid (VbW.heap.size ≤ W9.heap.size) := hb.size
      clear hb
      go_upto_region 10 with fail
      refine wp_region_held_drew (S := (fun w' => (w'.cell? ⟨W5.heap.size, 0, none⟩ = some (.int .i64 e) ∧ w'.cell? ⟨W5.heap.size, 1, none⟩ = some (.int .i64 o) ∧ w'.cell? ⟨W5.heap.size, 2, none⟩ = some (.int .i64 a) ∧ w'.cell? ⟨W5.heap.size, 3, none⟩ = some (.int .i64 b) ∧ w'.cell? ⟨W5.heap.size, 4, none⟩ = some (.int .i64 c) ∧ w'.cell? ⟨W5.heap.size, 5, none⟩ = some (.slice (some ⟨gx, 0, none⟩) l.length l.length)) ∧ (w'.cell? ⟨w.heap.size, 0, none⟩ = some (.int .i64 e) ∧ w'.cell? ⟨w.heap.size, 1, none⟩ = some (.int .i64 o) ∧ w'.cell? ⟨w.heap.size, 2, none⟩ = some (.int .i64 a) ∧ w'.cell? ⟨w.heap.size, 3, none⟩ = some (.int .i64 b) ∧ w'.cell? ⟨w.heap.size, 4, none⟩ = some (.int .i64 c) ∧ w'.cell? ⟨w.heap.size, 5, none⟩ = some (.slice p l.length q)))) (by kernel_rfl) ?_ (fun hHeld => ?_)
      · (try dsimp only)
        exact ⟨(BX.out.next (bel_drew _)).c6, (BA.out.next (bel_drew _)).c6⟩
      have hbd := bel_drew W9
      replace HB : Hid (Below w.heap.size w W9.drew) := HB.out.trans (hbd.mono HB.out.size)
      replace BA : Hid (Box W9.drew w.heap.size [.int .i64 e, .int .i64 o, .int .i64 a, .int .i64 b, .int .i64 c, .slice p l.length q]) := BA.out.next hbd
      replace BD : Hid (Box W9.drew (w.heap.size + 1) [.int .i64 dp, .int .i64 dn]) := BD.out.next hbd
      replace RA : Hid (GRow lo W9.drew p (flatD l)) := HR.out.next HB.out
      replace BW : Hid (Box W9.drew gW [.int .i64 e', .int .i64 o', .int .i64 a', .int .i64 b', .int .i64 c', .slice pW l'.length cW]) := BW.out.next hbd
      replace RW : Hid (IR W1.heap.size VaW.heap.size W9.drew pW l') := RW.out.next hbd
      replace RX : Hid (IR VaW.heap.size W5.heap.size W9.drew (some ⟨gx, 0, none⟩) l) := RX.out.next hbd
      replace BX : Hid (Box W9.drew W5.heap.size [.int .i64 e, .int .i64 o, .int .i64 a, .int .i64 b, .int .i64 c, .slice (some ⟨gx, 0, none⟩) l.length l.length]) := BX.out.next hbd
      replace BG : Hid (Box W9.drew gG [.int .i64 e', .int .i64 o', .int .i64 a', .int .i64 b', .int .i64 c', .slice pG l'.length cG]) := BG.out.next hbd
      replace RG : Hid (IR W6.heap.size VbW.heap.size W9.drew pG l') := RG.out.next hbd
      have OD : Hid (W9.heap.size ≤ W9.drew.heap.size) := hbd.size
      clear hbd
      generalize W9.drew = W10 at *
      refine wTk 0 ?_
      refine wTk 1 ?_
      refine wRd 2 (fun K hK => ?_)
      go_simp
      go_at_call 22
      refine (toG_any lo q p l e o a b c _ hn RA.out).mono ?_
      rintro r W11 ⟨gq, rfl, hb, hM⟩
      (try simp only [])
      replace HB : Hid (Below w.heap.size w W11) := HB.out.trans (hb.mono HB.out.size)
      replace BA : Hid (Box W11 w.heap.size [.int .i64 e, .int .i64 o, .int .i64 a, .int .i64 b, .int .i64 c, .slice p l.length q]) := BA.out.next hb
      replace BD : Hid (Box W11 (w.heap.size + 1) [.int .i64 dp, .int .i64 dn]) := BD.out.next hb
      replace RA : Hid (GRow lo W11 p (flatD l)) := HR.out.next HB.out
      replace BW : Hid (Box W11 gW [.int .i64 e', .int .i64 o', .int .i64 a', .int .i64 b', .int .i64 c', .slice pW l'.length cW]) := BW.out.next hb
      replace RW : Hid (IR W1.heap.size VaW.heap.size W11 pW l') := RW.out.next hb
      replace RX : Hid (IR VaW.heap.size W5.heap.size W11 (some ⟨gx, 0, none⟩) l) := RX.out.next hb
      replace BX : Hid (Box W11 W5.heap.size [.int .i64 e, .int .i64 o, .int .i64 a, .int .i64 b, .int .i64 c, .slice (some ⟨gx, 0, none⟩) l.length l.length]) := BX.out.next hb
      replace BG : Hid (Box W11 gG [.int .i64 e', .int .i64 o', .int .i64 a', .int .i64 b', .int .i64 c', .slice pG l'.length cG]) := BG.out.next hb
      replace RG : Hid (IR W6.heap.size VbW.heap.size W11 pG l') := RG.out.next hb
      have OE : Hid (W10.heap.size ≤ W11.heap.size) := hb.size
      have RQ : Hid (GRow 0 W11 (some ⟨gq, 0, none⟩) (flatD l)) := hM.row.weak (Nat.zero_le _)
      clear hb hM
      refine wHk hK ⟨BX.out.c6, BA.out.c6⟩ ?_
      clear hK K hHeld
      intro hHeld
      refine wRd 3 (fun K hK => ?_)
      go_simp
      go_at_call 17
      refine (eqG_same _ _ _ _ _ _ l e o a b c _ hn RX.out.mr.row RQ.out).mono ?_
      rintro r W12 ⟨rfl, hb⟩
      (try simp only [])
      clear RQ
      replace HB : Hid (Below w.heap.size w W12) := HB.out.trans (hb.mono HB.out.size)
      replace BA : Hid (Box W12 w.heap.size [.int .i64 e, .int .i64 o, .int .i64 a, .int .i64 b, .int .i64 c, .slice p l.length q]) := BA.out.next hb
      replace BD : Hid (Box W12 (w.heap.size + 1) [.int .i64 dp, .int .i64 dn]) := BD.out.next hb
      replace RA : Hid (GRow lo W12 p (flatD l)) := HR.out.next HB.out
      replace BW : Hid (Box W12 gW [.int .i64 e', .int .i64 o', .int .i64 a', .int .i64 b', .int .i64 c', .slice pW l'.length cW]) := BW.out.next hb
      replace RW : Hid (IR W1.heap.size VaW.heap.size W12 pW l') := RW.out.next hb
      replace RX : Hid (IR VaW.heap.size W5.heap.size W12 (some ⟨gx, 0, none⟩) l) := RX.out.next hb
      replace BX : Hid (Box W12 W5.heap.size [.int .i64 e, .int .i64 o, .int .i64 a, .int .i64 b, .int .i64 c, .slice (some ⟨gx, 0, none⟩) l.length l.length]) := BX.out.next hb
      replace BG : Hid (Box W12 gG [.int .i64 e', .int .i64 o', .int .i64 a', .int .i64 b', .int .i64 c', .slice pG l'.length cG]) := BG.out.next hb
      replace RG : Hid (IR W6.heap.size VbW.heap.size W12 pG l') := RG.out.next hb
      have OF : Hid (W11.heap.size ≤ W12.heap.size) := hb.size
      clear hb
      refine wHk hK ⟨BX.out.c6, BA.out.c6⟩ ?_
      clear hK K hHeld
      intro hHeld
      refine wTk 4 ?_
      refine wpAnyH_done (by kernel_rfl) ?_ _
      clear hHeld
      obtain ⟨BX0, BX1, BX2, BX3, BX4, BX5⟩ := BX.out.c6
      go_wp2_with fail
      refine (markG_any VaW.heap.size _ _ l e o a b c 1 _ (by omega) (by omega) (by omega) RX.out.mr).mono ?_
      rintro r W13 ⟨rfl, hk, hM⟩
      clear BX0 BX1 BX2 BX3 BX4 BX5
      have hq := mark_ir RX.out hk
      have O13 : Hid (W12.heap.size ≤ W13.heap.size) := hk.size
      replace HB : Hid (Below w.heap.size w W13) := below_kp HB.out hq (by have := O0.out; have := O1.out; have := OVa.out; have := O5.out; have := OBX.out; have := OVb.out; have := O9.out; have := OD.out; have := OE.out; have := OF.out; have := O13.out; omega)
      replace BA : Hid (Box W13 w.heap.size [.int .i64 e, .int .i64 o, .int .i64 a, .int .i64 b, .int .i64 c, .slice p l.length q]) := BA.out.kp hq (by have := O0.out; have := O1.out; have := OVa.out; have := O5.out; have := OBX.out; have := OVb.out; have := O9.out; have := OD.out; have := OE.out; have := OF.out; have := O13.out; omega)
      replace BD : Hid (Box W13 (w.heap.size + 1) [.int .i64 dp, .int .i64 dn]) := BD.out.kp hq (by have := O0.out; have := O1.out; have := OVa.out; have := O5.out; have := OBX.out; have := OVb.out; have := O9.out; have := OD.out; have := OE.out; have := OF.out; have := O13.out; omega)
      replace RA : Hid (GRow lo W13 p (flatD l)) := HR.out.next HB.out
      replace BW : Hid (Box W13 gW [.int .i64 e', .int .i64 o', .int .i64 a', .int .i64 b', .int .i64 c', .slice pW l'.length cW]) := BW.out.kp hq (by have := O0.out; have := O1.out; have := OVa.out; have := O5.out; have := OBX.out; have := OVb.out; have := O9.out; have := OD.out; have := OE.out; have := OF.out; have := O13.out; omega)
      replace RW : Hid (IR W1.heap.size VaW.heap.size W13 pW l') := RW.out.kp hq (by have := O0.out; have := O1.out; have := OVa.out; have := O5.out; have := OBX.out; have := OVb.out; have := O9.out; have := OD.out; have := OE.out; have := OF.out; have := O13.out; omega)
      replace BX : Hid (Box W13 W5.heap.size [.int .i64 e, .int .i64 o, .int .i64 a, .int .i64 b, .int .i64 c, .slice (some ⟨gx, 0, none⟩) l.length l.length]) := BX.out.kp hq (by have := O0.out; have := O1.out; have := OVa.out; have := O5.out; have := OBX.out; have := OVb.out; have := O9.out; have := OD.out; have := OE.out; have := OF.out; have := O13.out; omega)
      replace BG : Hid (Box W13 gG [.int .i64 e', .int .i64 o', .int .i64 a', .int .i64 b', .int .i64 c', .slice pG l'.length cG]) := BG.out.kp hq (by have := O0.out; have := O1.out; have := OVa.out; have := O5.out; have := OBX.out; have := OVb.out; have := O9.out; have := OD.out; have := OE.out; have := OF.out; have := O13.out; omega)
      replace RG : Hid (IR W6.heap.size VbW.heap.size W13 pG l') := RG.out.kp hq (by have := O0.out; have := O1.out; have := OVa.out; have := O5.out; have := OBX.out; have := OVb.out; have := O9.out; have := OD.out; have := OE.out; have := OF.out; have := O13.out; omega)
      clear hk hM hq RX
      have hkn : ¬ (1 + 2 * (l.length : Int) < 0) := by omega
      generalize (1 : Int) + 2 * (l.length : Int) = kk at *
      obtain ⟨BG0, BG1, BG2, BG3, BG4, BG5⟩ := BG.out.c6
      obtain ⟨BW0, BW1, BW2, BW3, BW4, BW5⟩ := BW.out.c6
      go_wp2_with fail
      refine (eqG_same _ _ _ _ _ _ l' e' o' a' b' c' _ (by omega) RG.out.mr.row RW.out.mr.row).mono ?_
      rintro r W14 ⟨rfl, hb⟩
      clear BG0 BG1 BG2 BG3 BG4 BG5
      clear BW0 BW1 BW2 BW3 BW4 BW5
      replace HB : Hid (Below w.heap.size w W14) := HB.out.trans (hb.mono HB.out.size)
      replace BA : Hid (Box W14 w.heap.size [.int .i64 e, .int .i64 o, .int .i64 a, .int .i64 b, .int .i64 c, .slice p l.length q]) := BA.out.next hb
      replace BD : Hid (Box W14 (w.heap.size + 1) [.int .i64 dp, .int .i64 dn]) := BD.out.next hb
      replace RA : Hid (GRow lo W14 p (flatD l)) := HR.out.next HB.out
      replace BW : Hid (Box W14 gW [.int .i64 e', .int .i64 o', .int .i64 a', .int .i64 b', .int .i64 c', .slice pW l'.length cW]) := BW.out.next hb
      replace RW : Hid (IR W1.heap.size VaW.heap.size W14 pW l') := RW.out.next hb
      replace BX : Hid (Box W14 W5.heap.size [.int .i64 e, .int .i64 o, .int .i64 a, .int .i64 b, .int .i64 c, .slice (some ⟨gx, 0, none⟩) l.length l.length]) := BX.out.next hb
      replace BG : Hid (Box W14 gG [.int .i64 e', .int .i64 o', .int .i64 a', .int .i64 b', .int .i64 c', .slice pG l'.length cG]) := BG.out.next hb
      replace RG : Hid (IR W6.heap.size VbW.heap.size W14 pG l') := RG.out.next hb
      have O14 : Hid (W13.heap.size ≤ W14.heap.size) := hb.size
      clear hb
      obtain ⟨BG0, BG1, BG2, BG3, BG4, BG5⟩ := BG.out.c6
      go_wp2_with fail
      refine (markG_any W6.heap.size _ _ l' e' o' a' b' c' 1 _ (by omega) (by omega) (by omega) RG.out.mr).mono ?_
      rintro r W15 ⟨rfl, hk, hM⟩
      clear BG0 BG1 BG2 BG3 BG4 BG5
      clear BX
      have hq := mark_ir RG.out hk
      have O15 : Hid (W14.heap.size ≤ W15.heap.size) := hk.size
      replace HB : Hid (Below w.heap.size w W15) := below_kp HB.out hq (by have := O0.out; have := O1.out; have := OVa.out; have := O5.out; have := OBX.out; have := OVb.out; have := O9.out; have := OD.out; have := OE.out; have := OF.out; have := O13.out; have := O14.out; have := O15.out; omega)
      replace BA : Hid (Box W15 w.heap.size [.int .i64 e, .int .i64 o, .int .i64 a, .int .i64 b, .int .i64 c, .slice p l.length q]) := BA.out.kp hq (by have := O0.out; have := O1.out; have := OVa.out; have := O5.out; have := OBX.out; have := OVb.out; have := O9.out; have := OD.out; have := OE.out; have := OF.out; have := O13.out; have := O14.out; have := O15.out; omega)
      replace BD : Hid (Box W15 (w.heap.size + 1) [.int .i64 dp, .int .i64 dn]) := BD.out.kp hq (by have := O0.out; have := O1.out; have := OVa.out; have := O5.out; have := OBX.out; have := OVb.out; have := O9.out; have := OD.out; have := OE.out; have := OF.out; have := O13.out; have := O14.out; have := O15.out; omega)
      replace RA : Hid (GRow lo W15 p (flatD l)) := HR.out.next HB.out
      replace BW : Hid (Box W15 gW [.int .i64 e', .int .i64 o', .int .i64 a', .int .i64 b', .int .i64 c', .slice pW l'.length cW]) := BW.out.kp hq (by have := O0.out; have := O1.out; have := OVa.out; have := O5.out; have := OBX.out; have := OVb.out; have := O9.out; have := OD.out; have := OE.out; have := OF.out; have := O13.out; have := O14.out; have := O15.out; omega)
      replace RW : Hid (IR W1.heap.size VaW.heap.size W15 pW l') := RW.out.kp hq (by have := O0.out; have := O1.out; have := OVa.out; have := O5.out; have := OBX.out; have := OVb.out; have := O9.out; have := OD.out; have := OE.out; have := OF.out; have := O13.out; have := O14.out; have := O15.out; omega)
      replace BG : Hid (Box W15 gG [.int .i64 e', .int .i64 o', .int .i64 a', .int .i64 b', .int .i64 c', .slice pG l'.length cG]) := BG.out.kp hk (fun ⟨hl, x, hx, hb⟩ => NEG.out x hx hl hb)
      have MG : Hid (MkR W6.heap.size W15 pG 1 l'.length) := hM
      clear hk hM hq RG
      clear hkn
      have hkn : ¬ (1 + 2 * (l'.length : Int) < 0) := by omega
      obtain ⟨kq, hkq⟩ : ∃ kq : Int, kq = 1 + 2 * (l'.length : Int) := ⟨_, rfl⟩
      rw [← hkq] at hkn
      rw [← hkq]
      have HKQ : Hid _ := hkq
      clear hkq
      obtain ⟨BG0, BG1, BG2, BG3, BG4, BG5⟩ := BG.out.c6
      go_wp2_with fail
      refine (heldG_any W6.heap.size l'.length _ pG e' o' a' b' c' 1 _ (by omega) (by omega) (by omega) MG.out).mono ?_
      rintro r W16 ⟨rfl, hb⟩
      clear BG0 BG1 BG2 BG3 BG4 BG5
      replace HB : Hid (Below w.heap.size w W16) := HB.out.trans (hb.mono HB.out.size)
      replace BA : Hid (Box W16 w.heap.size [.int .i64 e, .int .i64 o, .int .i64 a, .int .i64 b, .int .i64 c, .slice p l.length q]) := BA.out.next hb
      replace BD : Hid (Box W16 (w.heap.size + 1) [.int .i64 dp, .int .i64 dn]) := BD.out.next hb
      replace RA : Hid (GRow lo W16 p (flatD l)) := HR.out.next HB.out
      replace BW : Hid (Box W16 gW [.int .i64 e', .int .i64 o', .int .i64 a', .int .i64 b', .int .i64 c', .slice pW l'.length cW]) := BW.out.next hb
      replace RW : Hid (IR W1.heap.size VaW.heap.size W16 pW l') := RW.out.next hb
      replace BG : Hid (Box W16 gG [.int .i64 e', .int .i64 o', .int .i64 a', .int .i64 b', .int .i64 c', .slice pG l'.length cG]) := BG.out.next hb
      replace MG : Hid (MkR W6.heap.size W16 pG 1 l'.length) := MG.out.next hb
      clear hb
      rw [← HKQ.out]
      clear LBA LBD LBX
      have LBA : Hid (w.heap.size < W16.heap.size) := BA.out.lt
      have LBD : Hid (w.heap.size + 1 < W16.heap.size) := BD.out.lt
      go_upto_region 24 with fail
      go_cut [18, 19, 20] from 21 (fun s18 s19 s20 wc => ∃ (gb : Nat) (pw : Option Addr) (cw : Nat), s18 = .pointer (some ⟨gb, 0, none⟩) ∧ s19 = .bool nb ∧ s20 = .int .i64 code ∧ Box wc gb [.int .i64 e', .int .i64 o', .int .i64 a', .int .i64 b', .int .i64 c', .slice pw l'.length cw] ∧ IR W16.heap.size wc.heap.size wc pw l' ∧ W16.heap.size ≤ gb ∧ (∀ x, pw = some x → l' ≠ [] → ¬ x.block = gb) ∧ Below W16.heap.size W16 wc)
      case first =>
        have HC : Hid (Below W16.heap.size W16 W16) := Below.refl _ _
        refine wp_region_held_drew (S := (fun w' => (w'.cell? ⟨w.heap.size, 0, none⟩ = some (.int .i64 e) ∧ w'.cell? ⟨w.heap.size, 1, none⟩ = some (.int .i64 o) ∧ w'.cell? ⟨w.heap.size, 2, none⟩ = some (.int .i64 a) ∧ w'.cell? ⟨w.heap.size, 3, none⟩ = some (.int .i64 b) ∧ w'.cell? ⟨w.heap.size, 4, none⟩ = some (.int .i64 c) ∧ w'.cell? ⟨w.heap.size, 5, none⟩ = some (.slice p l.length q)) ∧ (w'.cell? ⟨(w.heap.size + 1), 0, none⟩ = some (.int .i64 dp) ∧ w'.cell? ⟨(w.heap.size + 1), 1, none⟩ = some (.int .i64 dn)))) (by kernel_rfl) ?_ (fun hHeld => ?_)
        · (try dsimp only)
          exact ⟨(BA.out.next (bel_drew _)).c6, (BD.out.next (bel_drew _)).c2⟩
        have hbd := bel_drew W16
        replace HB : Hid (Below w.heap.size w W16.drew) := HB.out.trans (hbd.mono HB.out.size)
        replace BA : Hid (Box W16.drew w.heap.size [.int .i64 e, .int .i64 o, .int .i64 a, .int .i64 b, .int .i64 c, .slice p l.length q]) := BA.out.next hbd
        replace BD : Hid (Box W16.drew (w.heap.size + 1) [.int .i64 dp, .int .i64 dn]) := BD.out.next hbd
        replace RA : Hid (GRow lo W16.drew p (flatD l)) := HR.out.next HB.out
        replace HC : Hid (Below W16.heap.size W16 W16.drew) := HC.out.trans (hbd.mono HC.out.size)
        clear hbd
        generalize W16.drew = Vc0 at *
        refine wTk 0 ?_
        refine wTk 2 ?_
        refine wTk 3 ?_
        refine wRd2 1 10 (fun K hK => ?_) (fun K hK => ?_)
        · go_simp
          go_at_call 22
          refine (toG_any lo q p l e o a b c _ hn RA.out).mono ?_
          rintro r Vc1 ⟨gy, rfl, hb, hM⟩
          (try simp only [])
          replace HB : Hid (Below w.heap.size w Vc1) := HB.out.trans (hb.mono HB.out.size)
          replace BA : Hid (Box Vc1 w.heap.size [.int .i64 e, .int .i64 o, .int .i64 a, .int .i64 b, .int .i64 c, .slice p l.length q]) := BA.out.next hb
          replace BD : Hid (Box Vc1 (w.heap.size + 1) [.int .i64 dp, .int .i64 dn]) := BD.out.next hb
          replace RA : Hid (GRow lo Vc1 p (flatD l)) := HR.out.next HB.out
          replace HC : Hid (Below W16.heap.size W16 Vc1) := HC.out.trans (hb.mono HC.out.size)
          have YY : Hid (GRow 0 Vc1 (some ⟨gy, 0, none⟩) (flatD l)) := hM.row.weak (Nat.zero_le _)
          clear hb hM
          refine wHk hK ⟨BA.out.c6, BD.out.c2⟩ ?_
          clear hK K hHeld
          intro hHeld
          refine wRd2 4 10 (fun K hK => ?_) (fun K hK => ?_)
          · go_simp
            go_at_call 24
            refine (toDot_any dp dn _).mono ?_
            rintro r Vc2 ⟨rfl, hb⟩
            (try simp only [])
            replace HB : Hid (Below w.heap.size w Vc2) := HB.out.trans (hb.mono HB.out.size)
            replace BA : Hid (Box Vc2 w.heap.size [.int .i64 e, .int .i64 o, .int .i64 a, .int .i64 b, .int .i64 c, .slice p l.length q]) := BA.out.next hb
            replace BD : Hid (Box Vc2 (w.heap.size + 1) [.int .i64 dp, .int .i64 dn]) := BD.out.next hb
            replace RA : Hid (GRow lo Vc2 p (flatD l)) := HR.out.next HB.out
            replace HC : Hid (Below W16.heap.size W16 Vc2) := HC.out.trans (hb.mono HC.out.size)
            replace YY : Hid (GRow 0 Vc2 (some ⟨gy, 0, none⟩) (flatD l)) := YY.out.next hb
            clear hb
            refine wHk hK ⟨BA.out.c6, BD.out.c2⟩ ?_
            clear hK K hHeld
            intro hHeld
            refine wRd2 5 10 (fun K hK => ?_) (fun K hK => ?_)
            · go_simp
              go_at_call 10
              refine Calls.mono (HCI.out hn Vc2 _ _ _ YY.out) ?_
              rintro r Vc3 ⟨pw, cw, rfl, hM, hb⟩
              (try simp only [])
              have RN' : IR W16.heap.size Vc3.heap.size Vc3 pw l' := ⟨(hM.weak HC.out.size), hM.ir.up⟩
              clear YY
              replace HB : Hid (Below w.heap.size w Vc3) := HB.out.trans (hb.mono HB.out.size)
              replace BA : Hid (Box Vc3 w.heap.size [.int .i64 e, .int .i64 o, .int .i64 a, .int .i64 b, .int .i64 c, .slice p l.length q]) := BA.out.next hb
              replace BD : Hid (Box Vc3 (w.heap.size + 1) [.int .i64 dp, .int .i64 dn]) := BD.out.next hb
              replace RA : Hid (GRow lo Vc3 p (flatD l)) := HR.out.next HB.out
              replace HC : Hid (Below W16.heap.size W16 Vc3) := HC.out.trans (hb.mono HC.out.size)
              have RN : Hid (IR W16.heap.size Vc3.heap.size Vc3 pw l') := RN'
              clear hb hM RN'
              refine wHk hK ⟨BA.out.c6, BD.out.c2⟩ ?_
              clear hK K hHeld
              intro hHeld
              refine wTk 6 ?_
              refine wTk 7 ?_
              refine wTk 8 ?_
              refine wTk 9 ?_
              refine wRd 10 (fun K hK => ?_)
              go_simp
              (try simp only [])
              have hb := bel_alloc Vc3 (.cells #[.int .i64 0, .int .i64 0, .int .i64 0, .int .i64 0, .int .i64 0, .slice none 0 0] 27)
              have NV : Hid (∀ x, pw = some x → l' ≠ [] → ¬ x.block = Vc3.heap.size) := fun x hx hl => by have := RN.out.up x hx hl; omega
              have BZ : Hid (Box (Vc3.alloc (.cells #[.int .i64 0, .int .i64 0, .int .i64 0, .int .i64 0, .int .i64 0, .slice none 0 0] 27)) Vc3.heap.size [.int .i64 0, .int .i64 0, .int .i64 0, .int .i64 0, .int .i64 0, .slice none 0 0]) := box_mk
              have GE : Hid (W16.heap.size ≤ Vc3.heap.size) := HC.out.size
              replace HB : Hid (Below w.heap.size w (Vc3.alloc (.cells #[.int .i64 0, .int .i64 0, .int .i64 0, .int .i64 0, .int .i64 0, .slice none 0 0] 27))) := HB.out.trans (hb.mono HB.out.size)
              replace BA : Hid (Box (Vc3.alloc (.cells #[.int .i64 0, .int .i64 0, .int .i64 0, .int .i64 0, .int .i64 0, .slice none 0 0] 27)) w.heap.size [.int .i64 e, .int .i64 o, .int .i64 a, .int .i64 b, .int .i64 c, .slice p l.length q]) := BA.out.next hb
              replace BD : Hid (Box (Vc3.alloc (.cells #[.int .i64 0, .int .i64 0, .int .i64 0, .int .i64 0, .int .i64 0, .slice none 0 0] 27)) (w.heap.size + 1) [.int .i64 dp, .int .i64 dn]) := BD.out.next hb
              replace RA : Hid (GRow lo (Vc3.alloc (.cells #[.int .i64 0, .int .i64 0, .int .i64 0, .int .i64 0, .int .i64 0, .slice none 0 0] 27)) p (flatD l)) := HR.out.next HB.out
              replace HC : Hid (Below W16.heap.size W16 (Vc3.alloc (.cells #[.int .i64 0, .int .i64 0, .int .i64 0, .int .i64 0, .int .i64 0, .slice none 0 0] 27))) := HC.out.trans (hb.mono HC.out.size)
              replace RN : Hid (IR W16.heap.size Vc3.heap.size (Vc3.alloc (.cells #[.int .i64 0, .int .i64 0, .int .i64 0, .int .i64 0, .int .i64 0, .slice none 0 0] 27)) pw l') := RN.out.next hb
              clear hb
              refine wHk hK ⟨BA.out.c6, BD.out.c2⟩ ?_
              clear hK K hHeld
              intro hHeld
              generalize (Vc3.alloc (.cells #[.int .i64 0, .int .i64 0, .int .i64 0, .int .i64 0, .int .i64 0, .slice none 0 0] 27)) = Vc4 at *
              generalize Vc3.heap.size = gz at *
              obtain ⟨z0, z1, z2, z3, z4, z5⟩ := BZ.out.c6
              obtain ⟨y0, y1, y2, y3, y4, y5⟩ := BZ.out.f6
              refine wRd 11 (fun K hK => ?_)
              go_simp
              (try simp only [])
              have kz : Kp (fun b => gz ≤ b ∧ b < gz + 1) Vc4 ((((((Vc4.setCell ⟨gz, 0, none⟩ (.int .i64 e')).setCell ⟨gz, 1, none⟩ (.int .i64 o')).setCell ⟨gz, 2, none⟩ (.int .i64 a')).setCell ⟨gz, 3, none⟩ (.int .i64 b')).setCell ⟨gz, 4, none⟩ (.int .i64 c')).setCell ⟨gz, 5, none⟩ (.slice pw l'.length cw)) := (((((Kp.set1 (g := gz)).trans1 Kp.set1).trans1 Kp.set1).trans1 Kp.set1).trans1 Kp.set1).trans1 Kp.set1
              have BY : Hid (Box ((((((Vc4.setCell ⟨gz, 0, none⟩ (.int .i64 e')).setCell ⟨gz, 1, none⟩ (.int .i64 o')).setCell ⟨gz, 2, none⟩ (.int .i64 a')).setCell ⟨gz, 3, none⟩ (.int .i64 b')).setCell ⟨gz, 4, none⟩ (.int .i64 c')).setCell ⟨gz, 5, none⟩ (.slice pw l'.length cw)) gz [.int .i64 e', .int .i64 o', .int .i64 a', .int .i64 b', .int .i64 c', .slice pw l'.length cw]) := BZ.out.s6
              replace BA : Hid (Box ((((((Vc4.setCell ⟨gz, 0, none⟩ (.int .i64 e')).setCell ⟨gz, 1, none⟩ (.int .i64 o')).setCell ⟨gz, 2, none⟩ (.int .i64 a')).setCell ⟨gz, 3, none⟩ (.int .i64 b')).setCell ⟨gz, 4, none⟩ (.int .i64 c')).setCell ⟨gz, 5, none⟩ (.slice pw l'.length cw)) w.heap.size [.int .i64 e, .int .i64 o, .int .i64 a, .int .i64 b, .int .i64 c, .slice p l.length q]) := BA.out.kp kz (by have := GE.out; have := LBA.out; omega)
              replace BD : Hid (Box ((((((Vc4.setCell ⟨gz, 0, none⟩ (.int .i64 e')).setCell ⟨gz, 1, none⟩ (.int .i64 o')).setCell ⟨gz, 2, none⟩ (.int .i64 a')).setCell ⟨gz, 3, none⟩ (.int .i64 b')).setCell ⟨gz, 4, none⟩ (.int .i64 c')).setCell ⟨gz, 5, none⟩ (.slice pw l'.length cw)) (w.heap.size + 1) [.int .i64 dp, .int .i64 dn]) := BD.out.kp kz (by have := GE.out; have := LBD.out; omega)
              have RY : Hid (IR W16.heap.size ((((((Vc4.setCell ⟨gz, 0, none⟩ (.int .i64 e')).setCell ⟨gz, 1, none⟩ (.int .i64 o')).setCell ⟨gz, 2, none⟩ (.int .i64 a')).setCell ⟨gz, 3, none⟩ (.int .i64 b')).setCell ⟨gz, 4, none⟩ (.int .i64 c')).setCell ⟨gz, 5, none⟩ (.slice pw l'.length cw)).heap.size ((((((Vc4.setCell ⟨gz, 0, none⟩ (.int .i64 e')).setCell ⟨gz, 1, none⟩ (.int .i64 o')).setCell ⟨gz, 2, none⟩ (.int .i64 a')).setCell ⟨gz, 3, none⟩ (.int .i64 b')).setCell ⟨gz, 4, none⟩ (.int .i64 c')).setCell ⟨gz, 5, none⟩ (.slice pw l'.length cw)) pw l') := ir_store RN.out kz NV.out (by simp [World.setCell])
              have HY : Hid (Below W16.heap.size W16 ((((((Vc4.setCell ⟨gz, 0, none⟩ (.int .i64 e')).setCell ⟨gz, 1, none⟩ (.int .i64 o')).setCell ⟨gz, 2, none⟩ (.int .i64 a')).setCell ⟨gz, 3, none⟩ (.int .i64 b')).setCell ⟨gz, 4, none⟩ (.int .i64 c')).setCell ⟨gz, 5, none⟩ (.slice pw l'.length cw))) := HC.out.trans (kz.below HC.out.size (fun x hx e => by have := GE.out; omega))
              refine hK.out _ _ ⟨BA.out.c6, BD.out.c2⟩ (fun hHeld' => ?_)
              clear hK K hHeld z0 z1 z2 z3 z4 z5 y0 y1 y2 y3 y4 y5 kz
              have hHeld := hHeld'
              clear hHeld'
              refine wLy ?_
              refine wTk 12 ?_
              refine wTk 13 ?_
              refine wpAnyH_done (by kernel_rfl) ?_ _
              clear hHeld
              go_wp2
              go_meet
              case rel => exact ⟨gz, pw, cw, rfl, rfl, rfl, BY.out, RY.out, GE.out, NV.out, HY.out⟩
            · go_simp
              (try simp only [])
              have hb := bel_alloc Vc2 (.cells #[.int .i64 0, .int .i64 0, .int .i64 0, .int .i64 0, .int .i64 0, .slice none 0 0] 27)
              have BZ : Hid (Box (Vc2.alloc (.cells #[.int .i64 0, .int .i64 0, .int .i64 0, .int .i64 0, .int .i64 0, .slice none 0 0] 27)) Vc2.heap.size [.int .i64 0, .int .i64 0, .int .i64 0, .int .i64 0, .int .i64 0, .slice none 0 0]) := box_mk
              have GE : Hid (W16.heap.size ≤ Vc2.heap.size) := HC.out.size
              replace HB : Hid (Below w.heap.size w (Vc2.alloc (.cells #[.int .i64 0, .int .i64 0, .int .i64 0, .int .i64 0, .int .i64 0, .slice none 0 0] 27))) := HB.out.trans (hb.mono HB.out.size)
              replace BA : Hid (Box (Vc2.alloc (.cells #[.int .i64 0, .int .i64 0, .int .i64 0, .int .i64 0, .int .i64 0, .slice none 0 0] 27)) w.heap.size [.int .i64 e, .int .i64 o, .int .i64 a, .int .i64 b, .int .i64 c, .slice p l.length q]) := BA.out.next hb
              replace BD : Hid (Box (Vc2.alloc (.cells #[.int .i64 0, .int .i64 0, .int .i64 0, .int .i64 0, .int .i64 0, .slice none 0 0] 27)) (w.heap.size + 1) [.int .i64 dp, .int .i64 dn]) := BD.out.next hb
              replace RA : Hid (GRow lo (Vc2.alloc (.cells #[.int .i64 0, .int .i64 0, .int .i64 0, .int .i64 0, .int .i64 0, .slice none 0 0] 27)) p (flatD l)) := HR.out.next HB.out
              replace HC : Hid (Below W16.heap.size W16 (Vc2.alloc (.cells #[.int .i64 0, .int .i64 0, .int .i64 0, .int .i64 0, .int .i64 0, .slice none 0 0] 27))) := HC.out.trans (hb.mono HC.out.size)
              replace YY : Hid (GRow 0 (Vc2.alloc (.cells #[.int .i64 0, .int .i64 0, .int .i64 0, .int .i64 0, .int .i64 0, .slice none 0 0] 27)) (some ⟨gy, 0, none⟩) (flatD l)) := YY.out.next hb
              clear hb
              refine wHk hK ⟨BA.out.c6, BD.out.c2⟩ ?_
              clear hK K hHeld
              intro hHeld
              generalize (Vc2.alloc (.cells #[.int .i64 0, .int .i64 0, .int .i64 0, .int .i64 0, .int .i64 0, .slice none 0 0] 27)) = Vc3 at *
              generalize Vc2.heap.size = gz at *
              refine wRd 5 (fun K hK => ?_)
              go_simp
              go_at_call 10
              refine Calls.mono (HCI.out hn Vc3 _ _ _ YY.out) ?_
              rintro r Vc4 ⟨pw, cw, rfl, hM, hb⟩
              (try simp only [])
              have RN' : IR W16.heap.size Vc4.heap.size Vc4 pw l' := ⟨(hM.weak HC.out.size), hM.ir.up⟩
              have NV : Hid (∀ x, pw = some x → l' ≠ [] → ¬ x.block = gz) := fun x hx hl => by have := hM.ir.lo x hx hl; have := BZ.out.lt; omega
              clear YY
              replace HB : Hid (Below w.heap.size w Vc4) := HB.out.trans (hb.mono HB.out.size)
              replace BA : Hid (Box Vc4 w.heap.size [.int .i64 e, .int .i64 o, .int .i64 a, .int .i64 b, .int .i64 c, .slice p l.length q]) := BA.out.next hb
              replace BD : Hid (Box Vc4 (w.heap.size + 1) [.int .i64 dp, .int .i64 dn]) := BD.out.next hb
              replace RA : Hid (GRow lo Vc4 p (flatD l)) := HR.out.next HB.out
              replace HC : Hid (Below W16.heap.size W16 Vc4) := HC.out.trans (hb.mono HC.out.size)
              replace BZ : Hid (Box Vc4 gz [.int .i64 0, .int .i64 0, .int .i64 0, .int .i64 0, .int .i64 0, .slice none 0 0]) := BZ.out.next hb
              have RN : Hid (IR W16.heap.size Vc4.heap.size Vc4 pw l') := RN'
              clear hb hM RN'
              refine wHk hK ⟨BA.out.c6, BD.out.c2⟩ ?_
              clear hK K hHeld
              intro hHeld
              refine wTk 6 ?_
              refine wTk 7 ?_
              refine wTk 8 ?_
              refine wTk 9 ?_
              obtain ⟨z0, z1, z2, z3, z4, z5⟩ := BZ.out.c6
              obtain ⟨y0, y1, y2, y3, y4, y5⟩ := BZ.out.f6
              refine wRd 11 (fun K hK => ?_)
              go_simp
              (try simp only [])
              have kz : Kp (fun b => gz ≤ b ∧ b < gz + 1) Vc4 ((((((Vc4.setCell ⟨gz, 0, none⟩ (.int .i64 e')).setCell ⟨gz, 1, none⟩ (.int .i64 o')).setCell ⟨gz, 2, none⟩ (.int .i64 a')).setCell ⟨gz, 3, none⟩ (.int .i64 b')).setCell ⟨gz, 4, none⟩ (.int .i64 c')).setCell ⟨gz, 5, none⟩ (.slice pw l'.length cw)) := (((((Kp.set1 (g := gz)).trans1 Kp.set1).trans1 Kp.set1).trans1 Kp.set1).trans1 Kp.set1).trans1 Kp.set1
              have BY : Hid (Box ((((((Vc4.setCell ⟨gz, 0, none⟩ (.int .i64 e')).setCell ⟨gz, 1, none⟩ (.int .i64 o')).setCell ⟨gz, 2, none⟩ (.int .i64 a')).setCell ⟨gz, 3, none⟩ (.int .i64 b')).setCell ⟨gz, 4, none⟩ (.int .i64 c')).setCell ⟨gz, 5, none⟩ (.slice pw l'.length cw)) gz [.int .i64 e', .int .i64 o', .int .i64 a', .int .i64 b', .int .i64 c', .slice pw l'.length cw]) := BZ.out.s6
              replace BA : Hid (Box ((((((Vc4.setCell ⟨gz, 0, none⟩ (.int .i64 e')).setCell ⟨gz, 1, none⟩ (.int .i64 o')).setCell ⟨gz, 2, none⟩ (.int .i64 a')).setCell ⟨gz, 3, none⟩ (.int .i64 b')).setCell ⟨gz, 4, none⟩ (.int .i64 c')).setCell ⟨gz, 5, none⟩ (.slice pw l'.length cw)) w.heap.size [.int .i64 e, .int .i64 o, .int .i64 a, .int .i64 b, .int .i64 c, .slice p l.length q]) := BA.out.kp kz (by have := GE.out; have := LBA.out; omega)
              replace BD : Hid (Box ((((((Vc4.setCell ⟨gz, 0, none⟩ (.int .i64 e')).setCell ⟨gz, 1, none⟩ (.int .i64 o')).setCell ⟨gz, 2, none⟩ (.int .i64 a')).setCell ⟨gz, 3, none⟩ (.int .i64 b')).setCell ⟨gz, 4, none⟩ (.int .i64 c')).setCell ⟨gz, 5, none⟩ (.slice pw l'.length cw)) (w.heap.size + 1) [.int .i64 dp, .int .i64 dn]) := BD.out.kp kz (by have := GE.out; have := LBD.out; omega)
              have RY : Hid (IR W16.heap.size ((((((Vc4.setCell ⟨gz, 0, none⟩ (.int .i64 e')).setCell ⟨gz, 1, none⟩ (.int .i64 o')).setCell ⟨gz, 2, none⟩ (.int .i64 a')).setCell ⟨gz, 3, none⟩ (.int .i64 b')).setCell ⟨gz, 4, none⟩ (.int .i64 c')).setCell ⟨gz, 5, none⟩ (.slice pw l'.length cw)).heap.size ((((((Vc4.setCell ⟨gz, 0, none⟩ (.int .i64 e')).setCell ⟨gz, 1, none⟩ (.int .i64 o')).setCell ⟨gz, 2, none⟩ (.int .i64 a')).setCell ⟨gz, 3, none⟩ (.int .i64 b')).setCell ⟨gz, 4, none⟩ (.int .i64 c')).setCell ⟨gz, 5, none⟩ (.slice pw l'.length cw)) pw l') := ir_store RN.out kz NV.out (by simp [World.setCell])
              have HY : Hid (Below W16.heap.size W16 ((((((Vc4.setCell ⟨gz, 0, none⟩ (.int .i64 e')).setCell ⟨gz, 1, none⟩ (.int .i64 o')).setCell ⟨gz, 2, none⟩ (.int .i64 a')).setCell ⟨gz, 3, none⟩ (.int .i64 b')).setCell ⟨gz, 4, none⟩ (.int .i64 c')).setCell ⟨gz, 5, none⟩ (.slice pw l'.length cw))) := HC.out.trans (kz.below HC.out.size (fun x hx e => by have := GE.out; omega))
              refine hK.out _ _ ⟨BA.out.c6, BD.out.c2⟩ (fun hHeld' => ?_)
              clear hK K hHeld z0 z1 z2 z3 z4 z5 y0 y1 y2 y3 y4 y5 kz
              have hHeld := hHeld'
              clear hHeld'
              refine wLy ?_
              refine wTk 12 ?_
              refine wTk 13 ?_
              refine wpAnyH_done (by kernel_rfl) ?_ _
              clear hHeld
              go_wp2
              go_meet
              case rel => exact ⟨gz, pw, cw, rfl, rfl, rfl, BY.out, RY.out, GE.out, NV.out, HY.out⟩
          · go_simp
            (try simp only [])
            have hb := bel_alloc Vc1 (.cells #[.int .i64 0, .int .i64 0, .int .i64 0, .int .i64 0, .int .i64 0, .slice none 0 0] 27)
            have BZ : Hid (Box (Vc1.alloc (.cells #[.int .i64 0, .int .i64 0, .int .i64 0, .int .i64 0, .int .i64 0, .slice none 0 0] 27)) Vc1.heap.size [.int .i64 0, .int .i64 0, .int .i64 0, .int .i64 0, .int .i64 0, .slice none 0 0]) := box_mk
            have GE : Hid (W16.heap.size ≤ Vc1.heap.size) := HC.out.size
            replace HB : Hid (Below w.heap.size w (Vc1.alloc (.cells #[.int .i64 0, .int .i64 0, .int .i64 0, .int .i64 0, .int .i64 0, .slice none 0 0] 27))) := HB.out.trans (hb.mono HB.out.size)
            replace BA : Hid (Box (Vc1.alloc (.cells #[.int .i64 0, .int .i64 0, .int .i64 0, .int .i64 0, .int .i64 0, .slice none 0 0] 27)) w.heap.size [.int .i64 e, .int .i64 o, .int .i64 a, .int .i64 b, .int .i64 c, .slice p l.length q]) := BA.out.next hb
            replace BD : Hid (Box (Vc1.alloc (.cells #[.int .i64 0, .int .i64 0, .int .i64 0, .int .i64 0, .int .i64 0, .slice none 0 0] 27)) (w.heap.size + 1) [.int .i64 dp, .int .i64 dn]) := BD.out.next hb
            replace RA : Hid (GRow lo (Vc1.alloc (.cells #[.int .i64 0, .int .i64 0, .int .i64 0, .int .i64 0, .int .i64 0, .slice none 0 0] 27)) p (flatD l)) := HR.out.next HB.out
            replace HC : Hid (Below W16.heap.size W16 (Vc1.alloc (.cells #[.int .i64 0, .int .i64 0, .int .i64 0, .int .i64 0, .int .i64 0, .slice none 0 0] 27))) := HC.out.trans (hb.mono HC.out.size)
            replace YY : Hid (GRow 0 (Vc1.alloc (.cells #[.int .i64 0, .int .i64 0, .int .i64 0, .int .i64 0, .int .i64 0, .slice none 0 0] 27)) (some ⟨gy, 0, none⟩) (flatD l)) := YY.out.next hb
            clear hb
            refine wHk hK ⟨BA.out.c6, BD.out.c2⟩ ?_
            clear hK K hHeld
            intro hHeld
            generalize (Vc1.alloc (.cells #[.int .i64 0, .int .i64 0, .int .i64 0, .int .i64 0, .int .i64 0, .slice none 0 0] 27)) = Vc2 at *
            generalize Vc1.heap.size = gz at *
            refine wRd 4 (fun K hK => ?_)
            go_simp
            go_at_call 24
            refine (toDot_any dp dn _).mono ?_
            rintro r Vc3 ⟨rfl, hb⟩
            (try simp only [])
            replace HB : Hid (Below w.heap.size w Vc3) := HB.out.trans (hb.mono HB.out.size)
            replace BA : Hid (Box Vc3 w.heap.size [.int .i64 e, .int .i64 o, .int .i64 a, .int .i64 b, .int .i64 c, .slice p l.length q]) := BA.out.next hb
            replace BD : Hid (Box Vc3 (w.heap.size + 1) [.int .i64 dp, .int .i64 dn]) := BD.out.next hb
            replace RA : Hid (GRow lo Vc3 p (flatD l)) := HR.out.next HB.out
            replace HC : Hid (Below W16.heap.size W16 Vc3) := HC.out.trans (hb.mono HC.out.size)
            replace YY : Hid (GRow 0 Vc3 (some ⟨gy, 0, none⟩) (flatD l)) := YY.out.next hb
            replace BZ : Hid (Box Vc3 gz [.int .i64 0, .int .i64 0, .int .i64 0, .int .i64 0, .int .i64 0, .slice none 0 0]) := BZ.out.next hb
            clear hb
            refine wHk hK ⟨BA.out.c6, BD.out.c2⟩ ?_
            clear hK K hHeld
            intro hHeld
            refine wRd 5 (fun K hK => ?_)
            go_simp
            go_at_call 10
            refine Calls.mono (HCI.out hn Vc3 _ _ _ YY.out) ?_
            rintro r Vc4 ⟨pw, cw, rfl, hM, hb⟩
            (try simp only [])
            have RN' : IR W16.heap.size Vc4.heap.size Vc4 pw l' := ⟨(hM.weak HC.out.size), hM.ir.up⟩
            have NV : Hid (∀ x, pw = some x → l' ≠ [] → ¬ x.block = gz) := fun x hx hl => by have := hM.ir.lo x hx hl; have := BZ.out.lt; omega
            clear YY
            replace HB : Hid (Below w.heap.size w Vc4) := HB.out.trans (hb.mono HB.out.size)
            replace BA : Hid (Box Vc4 w.heap.size [.int .i64 e, .int .i64 o, .int .i64 a, .int .i64 b, .int .i64 c, .slice p l.length q]) := BA.out.next hb
            replace BD : Hid (Box Vc4 (w.heap.size + 1) [.int .i64 dp, .int .i64 dn]) := BD.out.next hb
            replace RA : Hid (GRow lo Vc4 p (flatD l)) := HR.out.next HB.out
            replace HC : Hid (Below W16.heap.size W16 Vc4) := HC.out.trans (hb.mono HC.out.size)
            replace BZ : Hid (Box Vc4 gz [.int .i64 0, .int .i64 0, .int .i64 0, .int .i64 0, .int .i64 0, .slice none 0 0]) := BZ.out.next hb
            have RN : Hid (IR W16.heap.size Vc4.heap.size Vc4 pw l') := RN'
            clear hb hM RN'
            refine wHk hK ⟨BA.out.c6, BD.out.c2⟩ ?_
            clear hK K hHeld
            intro hHeld
            refine wTk 6 ?_
            refine wTk 7 ?_
            refine wTk 8 ?_
            refine wTk 9 ?_
            obtain ⟨z0, z1, z2, z3, z4, z5⟩ := BZ.out.c6
            obtain ⟨y0, y1, y2, y3, y4, y5⟩ := BZ.out.f6
            refine wRd 11 (fun K hK => ?_)
            go_simp
            (try simp only [])
            have kz : Kp (fun b => gz ≤ b ∧ b < gz + 1) Vc4 ((((((Vc4.setCell ⟨gz, 0, none⟩ (.int .i64 e')).setCell ⟨gz, 1, none⟩ (.int .i64 o')).setCell ⟨gz, 2, none⟩ (.int .i64 a')).setCell ⟨gz, 3, none⟩ (.int .i64 b')).setCell ⟨gz, 4, none⟩ (.int .i64 c')).setCell ⟨gz, 5, none⟩ (.slice pw l'.length cw)) := (((((Kp.set1 (g := gz)).trans1 Kp.set1).trans1 Kp.set1).trans1 Kp.set1).trans1 Kp.set1).trans1 Kp.set1
            have BY : Hid (Box ((((((Vc4.setCell ⟨gz, 0, none⟩ (.int .i64 e')).setCell ⟨gz, 1, none⟩ (.int .i64 o')).setCell ⟨gz, 2, none⟩ (.int .i64 a')).setCell ⟨gz, 3, none⟩ (.int .i64 b')).setCell ⟨gz, 4, none⟩ (.int .i64 c')).setCell ⟨gz, 5, none⟩ (.slice pw l'.length cw)) gz [.int .i64 e', .int .i64 o', .int .i64 a', .int .i64 b', .int .i64 c', .slice pw l'.length cw]) := BZ.out.s6
            replace BA : Hid (Box ((((((Vc4.setCell ⟨gz, 0, none⟩ (.int .i64 e')).setCell ⟨gz, 1, none⟩ (.int .i64 o')).setCell ⟨gz, 2, none⟩ (.int .i64 a')).setCell ⟨gz, 3, none⟩ (.int .i64 b')).setCell ⟨gz, 4, none⟩ (.int .i64 c')).setCell ⟨gz, 5, none⟩ (.slice pw l'.length cw)) w.heap.size [.int .i64 e, .int .i64 o, .int .i64 a, .int .i64 b, .int .i64 c, .slice p l.length q]) := BA.out.kp kz (by have := GE.out; have := LBA.out; omega)
            replace BD : Hid (Box ((((((Vc4.setCell ⟨gz, 0, none⟩ (.int .i64 e')).setCell ⟨gz, 1, none⟩ (.int .i64 o')).setCell ⟨gz, 2, none⟩ (.int .i64 a')).setCell ⟨gz, 3, none⟩ (.int .i64 b')).setCell ⟨gz, 4, none⟩ (.int .i64 c')).setCell ⟨gz, 5, none⟩ (.slice pw l'.length cw)) (w.heap.size + 1) [.int .i64 dp, .int .i64 dn]) := BD.out.kp kz (by have := GE.out; have := LBD.out; omega)
            have RY : Hid (IR W16.heap.size ((((((Vc4.setCell ⟨gz, 0, none⟩ (.int .i64 e')).setCell ⟨gz, 1, none⟩ (.int .i64 o')).setCell ⟨gz, 2, none⟩ (.int .i64 a')).setCell ⟨gz, 3, none⟩ (.int .i64 b')).setCell ⟨gz, 4, none⟩ (.int .i64 c')).setCell ⟨gz, 5, none⟩ (.slice pw l'.length cw)).heap.size ((((((Vc4.setCell ⟨gz, 0, none⟩ (.int .i64 e')).setCell ⟨gz, 1, none⟩ (.int .i64 o')).setCell ⟨gz, 2, none⟩ (.int .i64 a')).setCell ⟨gz, 3, none⟩ (.int .i64 b')).setCell ⟨gz, 4, none⟩ (.int .i64 c')).setCell ⟨gz, 5, none⟩ (.slice pw l'.length cw)) pw l') := ir_store RN.out kz NV.out (by simp [World.setCell])
            have HY : Hid (Below W16.heap.size W16 ((((((Vc4.setCell ⟨gz, 0, none⟩ (.int .i64 e')).setCell ⟨gz, 1, none⟩ (.int .i64 o')).setCell ⟨gz, 2, none⟩ (.int .i64 a')).setCell ⟨gz, 3, none⟩ (.int .i64 b')).setCell ⟨gz, 4, none⟩ (.int .i64 c')).setCell ⟨gz, 5, none⟩ (.slice pw l'.length cw))) := HC.out.trans (kz.below HC.out.size (fun x hx e => by have := GE.out; omega))
            refine hK.out _ _ ⟨BA.out.c6, BD.out.c2⟩ (fun hHeld' => ?_)
            clear hK K hHeld z0 z1 z2 z3 z4 z5 y0 y1 y2 y3 y4 y5 kz
            have hHeld := hHeld'
            clear hHeld'
            refine wLy ?_
            refine wTk 12 ?_
            refine wTk 13 ?_
            refine wpAnyH_done (by kernel_rfl) ?_ _
            clear hHeld
            go_wp2
            go_meet
            case rel => exact ⟨gz, pw, cw, rfl, rfl, rfl, BY.out, RY.out, GE.out, NV.out, HY.out⟩
        · go_simp
          (try simp only [])
          have hb := bel_alloc Vc0 (.cells #[.int .i64 0, .int .i64 0, .int .i64 0, .int .i64 0, .int .i64 0, .slice none 0 0] 27)
          have BZ : Hid (Box (Vc0.alloc (.cells #[.int .i64 0, .int .i64 0, .int .i64 0, .int .i64 0, .int .i64 0, .slice none 0 0] 27)) Vc0.heap.size [.int .i64 0, .int .i64 0, .int .i64 0, .int .i64 0, .int .i64 0, .slice none 0 0]) := box_mk
          have GE : Hid (W16.heap.size ≤ Vc0.heap.size) := HC.out.size
          replace HB : Hid (Below w.heap.size w (Vc0.alloc (.cells #[.int .i64 0, .int .i64 0, .int .i64 0, .int .i64 0, .int .i64 0, .slice none 0 0] 27))) := HB.out.trans (hb.mono HB.out.size)
          replace BA : Hid (Box (Vc0.alloc (.cells #[.int .i64 0, .int .i64 0, .int .i64 0, .int .i64 0, .int .i64 0, .slice none 0 0] 27)) w.heap.size [.int .i64 e, .int .i64 o, .int .i64 a, .int .i64 b, .int .i64 c, .slice p l.length q]) := BA.out.next hb
          replace BD : Hid (Box (Vc0.alloc (.cells #[.int .i64 0, .int .i64 0, .int .i64 0, .int .i64 0, .int .i64 0, .slice none 0 0] 27)) (w.heap.size + 1) [.int .i64 dp, .int .i64 dn]) := BD.out.next hb
          replace RA : Hid (GRow lo (Vc0.alloc (.cells #[.int .i64 0, .int .i64 0, .int .i64 0, .int .i64 0, .int .i64 0, .slice none 0 0] 27)) p (flatD l)) := HR.out.next HB.out
          replace HC : Hid (Below W16.heap.size W16 (Vc0.alloc (.cells #[.int .i64 0, .int .i64 0, .int .i64 0, .int .i64 0, .int .i64 0, .slice none 0 0] 27))) := HC.out.trans (hb.mono HC.out.size)
          clear hb
          refine wHk hK ⟨BA.out.c6, BD.out.c2⟩ ?_
          clear hK K hHeld
          intro hHeld
          generalize (Vc0.alloc (.cells #[.int .i64 0, .int .i64 0, .int .i64 0, .int .i64 0, .int .i64 0, .slice none 0 0] 27)) = Vc1 at *
          generalize Vc0.heap.size = gz at *
          refine wRd 1 (fun K hK => ?_)
          go_simp
          go_at_call 22
          refine (toG_any lo q p l e o a b c _ hn RA.out).mono ?_
          rintro r Vc2 ⟨gy, rfl, hb, hM⟩
          (try simp only [])
          replace HB : Hid (Below w.heap.size w Vc2) := HB.out.trans (hb.mono HB.out.size)
          replace BA : Hid (Box Vc2 w.heap.size [.int .i64 e, .int .i64 o, .int .i64 a, .int .i64 b, .int .i64 c, .slice p l.length q]) := BA.out.next hb
          replace BD : Hid (Box Vc2 (w.heap.size + 1) [.int .i64 dp, .int .i64 dn]) := BD.out.next hb
          replace RA : Hid (GRow lo Vc2 p (flatD l)) := HR.out.next HB.out
          replace HC : Hid (Below W16.heap.size W16 Vc2) := HC.out.trans (hb.mono HC.out.size)
          replace BZ : Hid (Box Vc2 gz [.int .i64 0, .int .i64 0, .int .i64 0, .int .i64 0, .int .i64 0, .slice none 0 0]) := BZ.out.next hb
          have YY : Hid (GRow 0 Vc2 (some ⟨gy, 0, none⟩) (flatD l)) := hM.row.weak (Nat.zero_le _)
          clear hb hM
          refine wHk hK ⟨BA.out.c6, BD.out.c2⟩ ?_
          clear hK K hHeld
          intro hHeld
          refine wRd 4 (fun K hK => ?_)
          go_simp
          go_at_call 24
          refine (toDot_any dp dn _).mono ?_
          rintro r Vc3 ⟨rfl, hb⟩
          (try simp only [])
          replace HB : Hid (Below w.heap.size w Vc3) := HB.out.trans (hb.mono HB.out.size)
          replace BA : Hid (Box Vc3 w.heap.size [.int .i64 e, .int .i64 o, .int .i64 a, .int .i64 b, .int .i64 c, .slice p l.length q]) := BA.out.next hb
          replace BD : Hid (Box Vc3 (w.heap.size + 1) [.int .i64 dp, .int .i64 dn]) := BD.out.next hb
          replace RA : Hid (GRow lo Vc3 p (flatD l)) := HR.out.next HB.out
          replace HC : Hid (Below W16.heap.size W16 Vc3) := HC.out.trans (hb.mono HC.out.size)
          replace BZ : Hid (Box Vc3 gz [.int .i64 0, .int .i64 0, .int .i64 0, .int .i64 0, .int .i64 0, .slice none 0 0]) := BZ.out.next hb
          replace YY : Hid (GRow 0 Vc3 (some ⟨gy, 0, none⟩) (flatD l)) := YY.out.next hb
          clear hb
          refine wHk hK ⟨BA.out.c6, BD.out.c2⟩ ?_
          clear hK K hHeld
          intro hHeld
          refine wRd 5 (fun K hK => ?_)
          go_simp
          go_at_call 10
          refine Calls.mono (HCI.out hn Vc3 _ _ _ YY.out) ?_
          rintro r Vc4 ⟨pw, cw, rfl, hM, hb⟩
          (try simp only [])
          have RN' : IR W16.heap.size Vc4.heap.size Vc4 pw l' := ⟨(hM.weak HC.out.size), hM.ir.up⟩
          have NV : Hid (∀ x, pw = some x → l' ≠ [] → ¬ x.block = gz) := fun x hx hl => by have := hM.ir.lo x hx hl; have := BZ.out.lt; omega
          clear YY
          replace HB : Hid (Below w.heap.size w Vc4) := HB.out.trans (hb.mono HB.out.size)
          replace BA : Hid (Box Vc4 w.heap.size [.int .i64 e, .int .i64 o, .int .i64 a, .int .i64 b, .int .i64 c, .slice p l.length q]) := BA.out.next hb
          replace BD : Hid (Box Vc4 (w.heap.size + 1) [.int .i64 dp, .int .i64 dn]) := BD.out.next hb
          replace RA : Hid (GRow lo Vc4 p (flatD l)) := HR.out.next HB.out
          replace HC : Hid (Below W16.heap.size W16 Vc4) := HC.out.trans (hb.mono HC.out.size)
          replace BZ : Hid (Box Vc4 gz [.int .i64 0, .int .i64 0, .int .i64 0, .int .i64 0, .int .i64 0, .slice none 0 0]) := BZ.out.next hb
          have RN : Hid (IR W16.heap.size Vc4.heap.size Vc4 pw l') := RN'
          clear hb hM RN'
          refine wHk hK ⟨BA.out.c6, BD.out.c2⟩ ?_
          clear hK K hHeld
          intro hHeld
          refine wTk 6 ?_
          refine wTk 7 ?_
          refine wTk 8 ?_
          refine wTk 9 ?_
          obtain ⟨z0, z1, z2, z3, z4, z5⟩ := BZ.out.c6
          obtain ⟨y0, y1, y2, y3, y4, y5⟩ := BZ.out.f6
          refine wRd 11 (fun K hK => ?_)
          go_simp
          (try simp only [])
          have kz : Kp (fun b => gz ≤ b ∧ b < gz + 1) Vc4 ((((((Vc4.setCell ⟨gz, 0, none⟩ (.int .i64 e')).setCell ⟨gz, 1, none⟩ (.int .i64 o')).setCell ⟨gz, 2, none⟩ (.int .i64 a')).setCell ⟨gz, 3, none⟩ (.int .i64 b')).setCell ⟨gz, 4, none⟩ (.int .i64 c')).setCell ⟨gz, 5, none⟩ (.slice pw l'.length cw)) := (((((Kp.set1 (g := gz)).trans1 Kp.set1).trans1 Kp.set1).trans1 Kp.set1).trans1 Kp.set1).trans1 Kp.set1
          have BY : Hid (Box ((((((Vc4.setCell ⟨gz, 0, none⟩ (.int .i64 e')).setCell ⟨gz, 1, none⟩ (.int .i64 o')).setCell ⟨gz, 2, none⟩ (.int .i64 a')).setCell ⟨gz, 3, none⟩ (.int .i64 b')).setCell ⟨gz, 4, none⟩ (.int .i64 c')).setCell ⟨gz, 5, none⟩ (.slice pw l'.length cw)) gz [.int .i64 e', .int .i64 o', .int .i64 a', .int .i64 b', .int .i64 c', .slice pw l'.length cw]) := BZ.out.s6
          replace BA : Hid (Box ((((((Vc4.setCell ⟨gz, 0, none⟩ (.int .i64 e')).setCell ⟨gz, 1, none⟩ (.int .i64 o')).setCell ⟨gz, 2, none⟩ (.int .i64 a')).setCell ⟨gz, 3, none⟩ (.int .i64 b')).setCell ⟨gz, 4, none⟩ (.int .i64 c')).setCell ⟨gz, 5, none⟩ (.slice pw l'.length cw)) w.heap.size [.int .i64 e, .int .i64 o, .int .i64 a, .int .i64 b, .int .i64 c, .slice p l.length q]) := BA.out.kp kz (by have := GE.out; have := LBA.out; omega)
          replace BD : Hid (Box ((((((Vc4.setCell ⟨gz, 0, none⟩ (.int .i64 e')).setCell ⟨gz, 1, none⟩ (.int .i64 o')).setCell ⟨gz, 2, none⟩ (.int .i64 a')).setCell ⟨gz, 3, none⟩ (.int .i64 b')).setCell ⟨gz, 4, none⟩ (.int .i64 c')).setCell ⟨gz, 5, none⟩ (.slice pw l'.length cw)) (w.heap.size + 1) [.int .i64 dp, .int .i64 dn]) := BD.out.kp kz (by have := GE.out; have := LBD.out; omega)
          have RY : Hid (IR W16.heap.size ((((((Vc4.setCell ⟨gz, 0, none⟩ (.int .i64 e')).setCell ⟨gz, 1, none⟩ (.int .i64 o')).setCell ⟨gz, 2, none⟩ (.int .i64 a')).setCell ⟨gz, 3, none⟩ (.int .i64 b')).setCell ⟨gz, 4, none⟩ (.int .i64 c')).setCell ⟨gz, 5, none⟩ (.slice pw l'.length cw)).heap.size ((((((Vc4.setCell ⟨gz, 0, none⟩ (.int .i64 e')).setCell ⟨gz, 1, none⟩ (.int .i64 o')).setCell ⟨gz, 2, none⟩ (.int .i64 a')).setCell ⟨gz, 3, none⟩ (.int .i64 b')).setCell ⟨gz, 4, none⟩ (.int .i64 c')).setCell ⟨gz, 5, none⟩ (.slice pw l'.length cw)) pw l') := ir_store RN.out kz NV.out (by simp [World.setCell])
          have HY : Hid (Below W16.heap.size W16 ((((((Vc4.setCell ⟨gz, 0, none⟩ (.int .i64 e')).setCell ⟨gz, 1, none⟩ (.int .i64 o')).setCell ⟨gz, 2, none⟩ (.int .i64 a')).setCell ⟨gz, 3, none⟩ (.int .i64 b')).setCell ⟨gz, 4, none⟩ (.int .i64 c')).setCell ⟨gz, 5, none⟩ (.slice pw l'.length cw))) := HC.out.trans (kz.below HC.out.size (fun x hx e => by have := GE.out; omega))
          refine hK.out _ _ ⟨BA.out.c6, BD.out.c2⟩ (fun hHeld' => ?_)
          clear hK K hHeld z0 z1 z2 z3 z4 z5 y0 y1 y2 y3 y4 y5 kz
          have hHeld := hHeld'
          clear hHeld'
          refine wLy ?_
          refine wTk 12 ?_
          refine wTk 13 ?_
          refine wpAnyH_done (by kernel_rfl) ?_ _
          clear hHeld
          go_wp2
          go_meet
          case rel => exact ⟨gz, pw, cw, rfl, rfl, rfl, BY.out, RY.out, GE.out, NV.out, HY.out⟩
      case rest =>
        obtain ⟨gH, pH, cH, rfl, rfl, rfl, hBx, hRr, hge, hne, hb⟩ := hcut
        generalize wc = VcW at *
        replace HB : Hid (Below w.heap.size w VcW) := HB.out.trans (hb.mono HB.out.size)
        replace BA : Hid (Box VcW w.heap.size [.int .i64 e, .int .i64 o, .int .i64 a, .int .i64 b, .int .i64 c, .slice p l.length q]) := BA.out.next hb
        replace BD : Hid (Box VcW (w.heap.size + 1) [.int .i64 dp, .int .i64 dn]) := BD.out.next hb
        replace RA : Hid (GRow lo VcW p (flatD l)) := HR.out.next HB.out
        replace BW : Hid (Box VcW gW [.int .i64 e', .int .i64 o', .int .i64 a', .int .i64 b', .int .i64 c', .slice pW l'.length cW]) := BW.out.next hb
        replace RW : Hid (IR W1.heap.size VaW.heap.size VcW pW l') := RW.out.next hb
        replace BG : Hid (Box VcW gG [.int .i64 e', .int .i64 o', .int .i64 a', .int .i64 b', .int .i64 c', .slice pG l'.length cG]) := BG.out.next hb
        replace MG : Hid (MkR W6.heap.size VcW pG 1 l'.length) := MG.out.next hb
        have OVc : Hid (W16.heap.size ≤ VcW.heap.size ∧ W16.heap.size ≤ gH ∧ gH < VcW.heap.size) := ⟨hb.size, hge, hBx.lt⟩
        have BH : Hid (Box VcW gH [.int .i64 e', .int .i64 o', .int .i64 a', .int .i64 b', .int .i64 c', .slice pH l'.length cH]) := hBx
        have RH : Hid (IR W16.heap.size VcW.heap.size VcW pH l') := hRr
        have NEH : Hid (∀ x, pH = some x → l' ≠ [] → ¬ x.block = gH) := hne
        clear hBx hRr hge hne hb
        obtain ⟨BH0, BH1, BH2, BH3, BH4, BH5⟩ := BH.out.c6
        obtain ⟨BW0, BW1, BW2, BW3, BW4, BW5⟩ := BW.out.c6
        go_wp2_with fail
        refine (eqG_same _ _ _ _ _ _ l' e' o' a' b' c' _ (by omega) RH.out.mr.row RW.out.mr.row).mono ?_
        rintro r W20 ⟨rfl, hb⟩
        clear BH0 BH1 BH2 BH3 BH4 BH5
        clear BW0 BW1 BW2 BW3 BW4 BW5
        replace HB : Hid (Below w.heap.size w W20) := HB.out.trans (hb.mono HB.out.size)
        replace BA : Hid (Box W20 w.heap.size [.int .i64 e, .int .i64 o, .int .i64 a, .int .i64 b, .int .i64 c, .slice p l.length q]) := BA.out.next hb
        replace BD : Hid (Box W20 (w.heap.size + 1) [.int .i64 dp, .int .i64 dn]) := BD.out.next hb
        replace RA : Hid (GRow lo W20 p (flatD l)) := HR.out.next HB.out
        replace BW : Hid (Box W20 gW [.int .i64 e', .int .i64 o', .int .i64 a', .int .i64 b', .int .i64 c', .slice pW l'.length cW]) := BW.out.next hb
        replace RW : Hid (IR W1.heap.size VaW.heap.size W20 pW l') := RW.out.next hb
        replace BG : Hid (Box W20 gG [.int .i64 e', .int .i64 o', .int .i64 a', .int .i64 b', .int .i64 c', .slice pG l'.length cG]) := BG.out.next hb
        replace MG : Hid (MkR W6.heap.size W20 pG 1 l'.length) := MG.out.next hb
        replace BH : Hid (Box W20 gH [.int .i64 e', .int .i64 o', .int .i64 a', .int .i64 b', .int .i64 c', .slice pH l'.length cH]) := BH.out.next hb
        replace RH : Hid (IR W16.heap.size VcW.heap.size W20 pH l') := RH.out.next hb
        clear hb
        obtain ⟨BG0, BG1, BG2, BG3, BG4, BG5⟩ := BG.out.c6
        go_wp2_with fail
        refine (heldG_any W6.heap.size l'.length _ pG e' o' a' b' c' 1 _ (by omega) (by omega) (by omega) MG.out).mono ?_
        rintro r W21 ⟨rfl, hb⟩
        clear BG0 BG1 BG2 BG3 BG4 BG5
        replace HB : Hid (Below w.heap.size w W21) := HB.out.trans (hb.mono HB.out.size)
        replace BA : Hid (Box W21 w.heap.size [.int .i64 e, .int .i64 o, .int .i64 a, .int .i64 b, .int .i64 c, .slice p l.length q]) := BA.out.next hb
        replace BD : Hid (Box W21 (w.heap.size + 1) [.int .i64 dp, .int .i64 dn]) := BD.out.next hb
        replace RA : Hid (GRow lo W21 p (flatD l)) := HR.out.next HB.out
        replace BW : Hid (Box W21 gW [.int .i64 e', .int .i64 o', .int .i64 a', .int .i64 b', .int .i64 c', .slice pW l'.length cW]) := BW.out.next hb
        replace RW : Hid (IR W1.heap.size VaW.heap.size W21 pW l') := RW.out.next hb
        replace BG : Hid (Box W21 gG [.int .i64 e', .int .i64 o', .int .i64 a', .int .i64 b', .int .i64 c', .slice pG l'.length cG]) := BG.out.next hb
        replace MG : Hid (MkR W6.heap.size W21 pG 1 l'.length) := MG.out.next hb
        replace BH : Hid (Box W21 gH [.int .i64 e', .int .i64 o', .int .i64 a', .int .i64 b', .int .i64 c', .slice pH l'.length cH]) := BH.out.next hb
        replace RH : Hid (IR W16.heap.size VcW.heap.size W21 pH l') := RH.out.next hb
        clear hb
        rw [← HKQ.out]
        clear HCS HCI BA BD BW BG BH RA RW RH MG HR
        go_wp2
        go_ret
        exact ⟨rfl, HB.out⟩
end Go.Proofs.Ytklajcdlacemaaa
