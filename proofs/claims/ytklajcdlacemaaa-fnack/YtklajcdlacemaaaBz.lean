/- The law FnAck of events of node 2. -/
import Derived.Test.YtklajcdlacemaaaRows
import Derived.WalkKit
import Derived.WalkSpells
import Derived.WalkLawsBesides
import Derived.Deep.QuietTactic
import Derived.BigQuiet
import Derived.Deep.RegionHeld3
import Derived.Test.YtklajcdlacemaaaBf
import Derived.LoopN
import Derived.Deep.Cut
namespace Go.Proofs.Ytklajcdlacemaaa
open Go.RowKit
set_option linter.unusedSimpArgs false
set_option linter.unusedVariables false

set_option maxRecDepth 100000 in
set_option maxHeartbeats 16000000 in
theorem law_fnack2 (w : World) (ao : Option Addr) (len cap : Nat) (zs : List Int) (hr0 : Gen.IsRow .u8 w ao len cap zs) (bo : Option Addr) (ln cp : Nat) (hl' : ¬ (1048576 : Int) < (len : Int)) (hk' : ¬ (1048576 : Int) < (ln : Int)) (r : Int) (hr : 0 ≤ r ∧ r < 3)
    (hA0 : ∀ W, Below w.heap.size w W → Calls Try.prog 9 #[.slice bo ln cp, .int .i64 0, .int .i64 3] W fun e w' => e = .returned (.int .i64 2) ∧ Below W.heap.size W w')
    (hA1 : ∀ W, Below w.heap.size w W → Calls Try.prog 9 #[.slice bo ln cp, .int .i64 1, .int .i64 3] W fun e w' => e = .returned (.int .i64 r) ∧ Below W.heap.size W w') :
    Calls Try.prog 3 #[.slice ao len cap, .slice bo ln cp] w fun e w' => e = .returned (.bool true) ∧ Below w.heap.size w w' := by
  have HA0 : Hid _ := hA0
  have HA1 : Hid _ := hA1
  have RCD : Hid (Gen.IsRow .u8 w ao len cap zs) := hr0
  clear hA0 hA1 hr0
  go_enter Try.func3, Try.ntmps3
  go_wp2_with fail
  refine (groupOf_any ao len cap zs _ (by omega) RCD.out).mono ?_
  rintro r' W1 ⟨e, o, a, b, c, l, p, q, rfl, hR, hI, he, ho, hb⟩
  have HB : Hid (Below w.heap.size w W1) := hb
  have RG : Hid (GRow 0 W1 p (flatD l)) := hR
  have b0 := hI.c0
  have bl := hI.len
  obtain ⟨l1, l2, hl1, hl2, c1, c2, c3, c4, c5, c6, c7, c8⟩ := ack_facts2 e o a b c r l hI he ho hr
  have C1 : Hid _ := c1
  have C2 : Hid _ := c2
  have C3 : Hid _ := c3
  have C4 : Hid _ := c4
  have C5 : Hid _ := c5
  have C6 : Hid _ := c6
  have C7 : Hid _ := c7
  have C8 : Hid _ := c8
  have HL : Hid (l1.length = l.length + 1 ∧ l2.length = l.length + 2) := ⟨hl1, hl2⟩
  have hm1 : (l1.length : Int) ≤ 1048576 := by omega
  clear hb hR hI c1 c2 c3 c4 c5 c6 c7 c8 hl1 hl2
  have hw1 : IntKind.i64.wrap (c + 1) = c + 1 := by rw [IntKind.wrap_i64]; omega
  have hw2 : IntKind.i64.wrap (c + 2) = c + 2 := by rw [IntKind.wrap_i64]; omega
  have hw3 : IntKind.i64.wrap (c + 1 + 1) = c + 1 + 1 := by rw [IntKind.wrap_i64]; omega
  have hw4 : IntKind.i64.wrap (e + 1) = e + 1 := by rw [IntKind.wrap_i64]; omega
  go_upto_region 4 with fail
  refine wp_gen (fun W => Below w.heap.size w W ∧ GRow 0 W p (flatD l) ∧ Box W W1.heap.size [.int .i64 e, .int .i64 o, .int .i64 a, .int .i64 b, .int .i64 c, .slice p l.length q]) ⟨HB.out.trans ((bel_alloc _ _).mono HB.out.size), RG.out.next (bel_alloc _ _), box_mk⟩ (fun W2 hI => ?_)
  obtain ⟨iHB, iRG, iBG⟩ := hI
  replace HB : Hid (Below w.heap.size w W2) := iHB
  replace RG : Hid (GRow 0 W2 p (flatD l)) := iRG
  have BG : Hid (Box W2 W1.heap.size [.int .i64 e, .int .i64 o, .int .i64 a, .int .i64 b, .int .i64 c, .slice p l.length q]) := iBG
  clear iHB iRG iBG
  have OBG : Hid (W1.heap.size < W2.heap.size) := BG.out.lt
  go_wp2_with fail
  refine (HA0.out _ HB.out).mono ?_
  rintro r' W3 ⟨rfl, hb⟩
  replace HB : Hid (Below w.heap.size w W3) := HB.out.trans (hb.mono HB.out.size)
  replace RG : Hid (GRow 0 W3 p (flatD l)) := RG.out.next hb
  replace BG : Hid (Box W3 W1.heap.size [.int .i64 e, .int .i64 o, .int .i64 a, .int .i64 b, .int .i64 c, .slice p l.length q]) := BG.out.next hb
  clear hb
  obtain ⟨BG0, BG1, BG2, BG3, BG4, BG5⟩ := BG.out.c6
  go_upto_region 6 with fail
  clear BG0 BG1 BG2 BG3 BG4 BG5
  refine wp_gen (fun W => Below w.heap.size w W ∧ GRow 0 W p (flatD l) ∧ Box W W1.heap.size [.int .i64 e, .int .i64 o, .int .i64 a, .int .i64 b, .int .i64 c, .slice p l.length q] ∧ Box W W3.heap.size [.int .i64 2, .int .i64 (c + 1)]) ⟨HB.out.trans ((bel_alloc _ _).mono HB.out.size), RG.out.next (bel_alloc _ _), BG.out.next (bel_alloc _ _), box_mk⟩ (fun W4 hI => ?_)
  obtain ⟨iHB, iRG, iBG, iBD⟩ := hI
  replace HB : Hid (Below w.heap.size w W4) := iHB
  replace RG : Hid (GRow 0 W4 p (flatD l)) := iRG
  replace BG : Hid (Box W4 W1.heap.size [.int .i64 e, .int .i64 o, .int .i64 a, .int .i64 b, .int .i64 c, .slice p l.length q]) := iBG
  have BD : Hid (Box W4 W3.heap.size [.int .i64 2, .int .i64 (c + 1)]) := iBD
  clear iHB iRG iBG iBD
  obtain ⟨BG0, BG1, BG2, BG3, BG4, BG5⟩ := BG.out.c6
  obtain ⟨BD0, BD1⟩ := BD.out.c2
  go_wp2_with fail
  refine (C1.out _ _ _ _ RG.out).mono ?_
  rintro r' W5 ⟨pX, qX, rfl, hM, hb⟩
  clear BG0 BG1 BG2 BG3 BG4 BG5
  clear BD0 BD1
  replace HB : Hid (Below w.heap.size w W5) := HB.out.trans (hb.mono HB.out.size)
  replace RG : Hid (GRow 0 W5 p (flatD l)) := RG.out.next hb
  replace BG : Hid (Box W5 W1.heap.size [.int .i64 e, .int .i64 o, .int .i64 a, .int .i64 b, .int .i64 c, .slice p l.length q]) := BG.out.next hb
  replace BD : Hid (Box W5 W3.heap.size [.int .i64 2, .int .i64 (c + 1)]) := BD.out.next hb
  have RX : Hid (GRow 0 W5 pX (flatD l1)) := hM.row.weak (Nat.zero_le _)
  clear hM hb
  go_upto_region 7 with fail
  refine wp_gen (fun W => Below w.heap.size w W ∧ GRow 0 W p (flatD l) ∧ Box W W1.heap.size [.int .i64 e, .int .i64 o, .int .i64 a, .int .i64 b, .int .i64 c, .slice p l.length q] ∧ Box W W3.heap.size [.int .i64 2, .int .i64 (c + 1)] ∧ GRow 0 W pX (flatD l1) ∧ Box W W5.heap.size [.int .i64 e, .int .i64 o, .int .i64 a, .int .i64 b, .int .i64 (c + 1), .slice pX l1.length qX]) ⟨HB.out.trans ((bel_alloc _ _).mono HB.out.size), RG.out.next (bel_alloc _ _), BG.out.next (bel_alloc _ _), BD.out.next (bel_alloc _ _), RX.out.next (bel_alloc _ _), box_mk⟩ (fun W6 hI => ?_)
  obtain ⟨iHB, iRG, iBG, iBD, iRX, iBX⟩ := hI
  replace HB : Hid (Below w.heap.size w W6) := iHB
  replace RG : Hid (GRow 0 W6 p (flatD l)) := iRG
  replace BG : Hid (Box W6 W1.heap.size [.int .i64 e, .int .i64 o, .int .i64 a, .int .i64 b, .int .i64 c, .slice p l.length q]) := iBG
  replace BD : Hid (Box W6 W3.heap.size [.int .i64 2, .int .i64 (c + 1)]) := iBD
  replace RX : Hid (GRow 0 W6 pX (flatD l1)) := iRX
  have BX : Hid (Box W6 W5.heap.size [.int .i64 e, .int .i64 o, .int .i64 a, .int .i64 b, .int .i64 (c + 1), .slice pX l1.length qX]) := iBX
  clear iHB iRG iBG iBD iRX iBX
  have OBX : Hid (W5.heap.size < W6.heap.size) := BX.out.lt
  obtain ⟨BX0, BX1, BX2, BX3, BX4, BX5⟩ := BX.out.c6
  obtain ⟨BG0, BG1, BG2, BG3, BG4, BG5⟩ := BG.out.c6
  obtain ⟨BD0, BD1⟩ := BD.out.c2
  go_wp2_with fail
  refine (C2.out _ _ _ _ RX.out).mono ?_
  rintro r' W7 ⟨pY, qY, rfl, hM, hb⟩
  clear BX0 BX1 BX2 BX3 BX4 BX5
  clear BG0 BG1 BG2 BG3 BG4 BG5
  clear BD0 BD1
  replace HB : Hid (Below w.heap.size w W7) := HB.out.trans (hb.mono HB.out.size)
  replace RG : Hid (GRow 0 W7 p (flatD l)) := RG.out.next hb
  replace BG : Hid (Box W7 W1.heap.size [.int .i64 e, .int .i64 o, .int .i64 a, .int .i64 b, .int .i64 c, .slice p l.length q]) := BG.out.next hb
  replace BD : Hid (Box W7 W3.heap.size [.int .i64 2, .int .i64 (c + 1)]) := BD.out.next hb
  replace RX : Hid (GRow 0 W7 pX (flatD l1)) := RX.out.next hb
  replace BX : Hid (Box W7 W5.heap.size [.int .i64 e, .int .i64 o, .int .i64 a, .int .i64 b, .int .i64 (c + 1), .slice pX l1.length qX]) := BX.out.next hb
  have RY : Hid (GRow 0 W7 pY (flatD l1)) := hM.row.weak (Nat.zero_le _)
  clear hM hb
  go_upto_region 8 with fail
  refine wp_gen (fun W => Below w.heap.size w W ∧ GRow 0 W p (flatD l) ∧ Box W W1.heap.size [.int .i64 e, .int .i64 o, .int .i64 a, .int .i64 b, .int .i64 c, .slice p l.length q] ∧ Box W W3.heap.size [.int .i64 2, .int .i64 (c + 1)] ∧ GRow 0 W pX (flatD l1) ∧ Box W W5.heap.size [.int .i64 e, .int .i64 o, .int .i64 a, .int .i64 b, .int .i64 (c + 1), .slice pX l1.length qX] ∧ GRow 0 W pY (flatD l1) ∧ Box W W7.heap.size [.int .i64 e, .int .i64 o, .int .i64 a, .int .i64 b, .int .i64 (c + 1), .slice pY l1.length qY]) ⟨HB.out.trans ((bel_alloc _ _).mono HB.out.size), RG.out.next (bel_alloc _ _), BG.out.next (bel_alloc _ _), BD.out.next (bel_alloc _ _), RX.out.next (bel_alloc _ _), BX.out.next (bel_alloc _ _), RY.out.next (bel_alloc _ _), box_mk⟩ (fun W8 hI => ?_)
  obtain ⟨iHB, iRG, iBG, iBD, iRX, iBX, iRY, iBY⟩ := hI
  replace HB : Hid (Below w.heap.size w W8) := iHB
  replace RG : Hid (GRow 0 W8 p (flatD l)) := iRG
  replace BG : Hid (Box W8 W1.heap.size [.int .i64 e, .int .i64 o, .int .i64 a, .int .i64 b, .int .i64 c, .slice p l.length q]) := iBG
  replace BD : Hid (Box W8 W3.heap.size [.int .i64 2, .int .i64 (c + 1)]) := iBD
  replace RX : Hid (GRow 0 W8 pX (flatD l1)) := iRX
  replace BX : Hid (Box W8 W5.heap.size [.int .i64 e, .int .i64 o, .int .i64 a, .int .i64 b, .int .i64 (c + 1), .slice pX l1.length qX]) := iBX
  replace RY : Hid (GRow 0 W8 pY (flatD l1)) := iRY
  have BY : Hid (Box W8 W7.heap.size [.int .i64 e, .int .i64 o, .int .i64 a, .int .i64 b, .int .i64 (c + 1), .slice pY l1.length qY]) := iBY
  clear iHB iRG iBG iBD iRX iBX iRY iBY
  have OBY : Hid (W7.heap.size < W8.heap.size) := BY.out.lt
  go_upto_region 8 with fail
  go_cut [14, 15, 16] from 28 (fun s14 s15 s16 wc => s16 = .int .i64 17 ∧ Below W8.heap.size W8 wc)
  case first =>
    have HC : Hid (Below W8.heap.size W8 W8) := Below.refl _ _
    have LBG : Hid (W1.heap.size < W8.heap.size) := BG.out.lt
    refine wp_region_held_drew (S := (fun w' => (w'.cell? ⟨W1.heap.size, 0, none⟩ = some (.int .i64 e) ∧ w'.cell? ⟨W1.heap.size, 1, none⟩ = some (.int .i64 o) ∧ w'.cell? ⟨W1.heap.size, 2, none⟩ = some (.int .i64 a) ∧ w'.cell? ⟨W1.heap.size, 3, none⟩ = some (.int .i64 b) ∧ w'.cell? ⟨W1.heap.size, 4, none⟩ = some (.int .i64 c) ∧ w'.cell? ⟨W1.heap.size, 5, none⟩ = some (.slice p l.length q)))) (by kernel_rfl) ?_ (fun hHeld => ?_)
    · (try dsimp only)
      exact (BG.out.next (bel_drew _)).c6
    have hbd := bel_drew W8
    replace HB : Hid (Below w.heap.size w W8.drew) := HB.out.trans (hbd.mono HB.out.size)
    replace RG : Hid (GRow 0 W8.drew p (flatD l)) := RG.out.next hbd
    replace BG : Hid (Box W8.drew W1.heap.size [.int .i64 e, .int .i64 o, .int .i64 a, .int .i64 b, .int .i64 c, .slice p l.length q]) := BG.out.next hbd
    replace BD : Hid (Box W8.drew W3.heap.size [.int .i64 2, .int .i64 (c + 1)]) := BD.out.next hbd
    replace RX : Hid (GRow 0 W8.drew pX (flatD l1)) := RX.out.next hbd
    replace BX : Hid (Box W8.drew W5.heap.size [.int .i64 e, .int .i64 o, .int .i64 a, .int .i64 b, .int .i64 (c + 1), .slice pX l1.length qX]) := BX.out.next hbd
    replace RY : Hid (GRow 0 W8.drew pY (flatD l1)) := RY.out.next hbd
    replace BY : Hid (Box W8.drew W7.heap.size [.int .i64 e, .int .i64 o, .int .i64 a, .int .i64 b, .int .i64 (c + 1), .slice pY l1.length qY]) := BY.out.next hbd
    replace HC : Hid (Below W8.heap.size W8 W8.drew) := HC.out.trans (hbd.mono HC.out.size)
    clear hbd
    generalize W8.drew = Va0 at *
    refine wTk 0 ?_
    refine wTk 1 ?_
    refine wTk 2 ?_
    refine wTk 3 ?_
    refine wTk 4 ?_
    refine wTk 5 ?_
    refine wTk 6 ?_
    refine wTk 7 ?_
    refine wTk 8 ?_
    refine wTk 9 ?_
    refine wRd2 10 15 (fun K hK => ?_) (fun K hK => ?_)
    · go_simp
      go_at_call 10
      refine Calls.mono (C3.out Va0 _ _ _ RG.out) ?_
      rintro r' Va1 ⟨pw, cw, rfl, hM, hb⟩
      (try simp only [])
      have RN' : IR W8.heap.size Va1.heap.size Va1 pw l := ⟨(hM.weak HC.out.size), hM.ir.up⟩
      replace HB : Hid (Below w.heap.size w Va1) := HB.out.trans (hb.mono HB.out.size)
      replace RG : Hid (GRow 0 Va1 p (flatD l)) := RG.out.next hb
      replace BG : Hid (Box Va1 W1.heap.size [.int .i64 e, .int .i64 o, .int .i64 a, .int .i64 b, .int .i64 c, .slice p l.length q]) := BG.out.next hb
      replace BD : Hid (Box Va1 W3.heap.size [.int .i64 2, .int .i64 (c + 1)]) := BD.out.next hb
      replace RX : Hid (GRow 0 Va1 pX (flatD l1)) := RX.out.next hb
      replace BX : Hid (Box Va1 W5.heap.size [.int .i64 e, .int .i64 o, .int .i64 a, .int .i64 b, .int .i64 (c + 1), .slice pX l1.length qX]) := BX.out.next hb
      replace RY : Hid (GRow 0 Va1 pY (flatD l1)) := RY.out.next hb
      replace BY : Hid (Box Va1 W7.heap.size [.int .i64 e, .int .i64 o, .int .i64 a, .int .i64 b, .int .i64 (c + 1), .slice pY l1.length qY]) := BY.out.next hb
      replace HC : Hid (Below W8.heap.size W8 Va1) := HC.out.trans (hb.mono HC.out.size)
      have RN : Hid (IR W8.heap.size Va1.heap.size Va1 pw l) := RN'
      have RU : Hid (Va1.heap.size ≤ Va1.heap.size) := Nat.le_refl _
      clear hb hM RN'
      refine wHk hK BG.out.c6 ?_
      clear hK K hHeld
      intro hHeld
      refine wTk 11 ?_
      refine wTk 12 ?_
      refine wTk 13 ?_
      refine wTk 14 ?_
      refine wRd 15 (fun K hK => ?_)
      go_simp
      (try simp only [])
      have hb := bel_alloc Va1 (.cells #[.int .i64 0, .int .i64 0, .int .i64 0, .int .i64 0, .int .i64 0, .slice none 0 0] 27)
      have NV : Hid (∀ x, pw = some x → l ≠ [] → ¬ x.block = Va1.heap.size) := fun x hx hl => by have := RN.out.up x hx hl; have := RU.out; omega
      have BZ : Hid (Box (Va1.alloc (.cells #[.int .i64 0, .int .i64 0, .int .i64 0, .int .i64 0, .int .i64 0, .slice none 0 0] 27)) Va1.heap.size [.int .i64 0, .int .i64 0, .int .i64 0, .int .i64 0, .int .i64 0, .slice none 0 0]) := box_mk
      have GE : Hid (W8.heap.size ≤ Va1.heap.size) := HC.out.size
      replace RU : Hid (Va1.heap.size ≤ (Va1.alloc (.cells #[.int .i64 0, .int .i64 0, .int .i64 0, .int .i64 0, .int .i64 0, .slice none 0 0] 27)).heap.size) := Nat.le_trans RU.out hb.size
      replace HB : Hid (Below w.heap.size w (Va1.alloc (.cells #[.int .i64 0, .int .i64 0, .int .i64 0, .int .i64 0, .int .i64 0, .slice none 0 0] 27))) := HB.out.trans (hb.mono HB.out.size)
      replace RG : Hid (GRow 0 (Va1.alloc (.cells #[.int .i64 0, .int .i64 0, .int .i64 0, .int .i64 0, .int .i64 0, .slice none 0 0] 27)) p (flatD l)) := RG.out.next hb
      replace BG : Hid (Box (Va1.alloc (.cells #[.int .i64 0, .int .i64 0, .int .i64 0, .int .i64 0, .int .i64 0, .slice none 0 0] 27)) W1.heap.size [.int .i64 e, .int .i64 o, .int .i64 a, .int .i64 b, .int .i64 c, .slice p l.length q]) := BG.out.next hb
      replace BD : Hid (Box (Va1.alloc (.cells #[.int .i64 0, .int .i64 0, .int .i64 0, .int .i64 0, .int .i64 0, .slice none 0 0] 27)) W3.heap.size [.int .i64 2, .int .i64 (c + 1)]) := BD.out.next hb
      replace RX : Hid (GRow 0 (Va1.alloc (.cells #[.int .i64 0, .int .i64 0, .int .i64 0, .int .i64 0, .int .i64 0, .slice none 0 0] 27)) pX (flatD l1)) := RX.out.next hb
      replace BX : Hid (Box (Va1.alloc (.cells #[.int .i64 0, .int .i64 0, .int .i64 0, .int .i64 0, .int .i64 0, .slice none 0 0] 27)) W5.heap.size [.int .i64 e, .int .i64 o, .int .i64 a, .int .i64 b, .int .i64 (c + 1), .slice pX l1.length qX]) := BX.out.next hb
      replace RY : Hid (GRow 0 (Va1.alloc (.cells #[.int .i64 0, .int .i64 0, .int .i64 0, .int .i64 0, .int .i64 0, .slice none 0 0] 27)) pY (flatD l1)) := RY.out.next hb
      replace BY : Hid (Box (Va1.alloc (.cells #[.int .i64 0, .int .i64 0, .int .i64 0, .int .i64 0, .int .i64 0, .slice none 0 0] 27)) W7.heap.size [.int .i64 e, .int .i64 o, .int .i64 a, .int .i64 b, .int .i64 (c + 1), .slice pY l1.length qY]) := BY.out.next hb
      replace HC : Hid (Below W8.heap.size W8 (Va1.alloc (.cells #[.int .i64 0, .int .i64 0, .int .i64 0, .int .i64 0, .int .i64 0, .slice none 0 0] 27))) := HC.out.trans (hb.mono HC.out.size)
      replace RN : Hid (IR W8.heap.size Va1.heap.size (Va1.alloc (.cells #[.int .i64 0, .int .i64 0, .int .i64 0, .int .i64 0, .int .i64 0, .slice none 0 0] 27)) pw l) := RN.out.next hb
      clear hb
      refine wHk hK BG.out.c6 ?_
      clear hK K hHeld
      intro hHeld
      generalize (Va1.alloc (.cells #[.int .i64 0, .int .i64 0, .int .i64 0, .int .i64 0, .int .i64 0, .slice none 0 0] 27)) = Va2 at *
      generalize Va1.heap.size = gz at *
      obtain ⟨z0, z1, z2, z3, z4, z5⟩ := BZ.out.c6
      obtain ⟨y0, y1, y2, y3, y4, y5⟩ := BZ.out.f6
      refine wRd 16 (fun K hK => ?_)
      go_simp
      (try simp only [])
      have kz : Kp (fun b => gz ≤ b ∧ b < gz + 1) Va2 ((((((Va2.setCell ⟨gz, 0, none⟩ (.int .i64 e)).setCell ⟨gz, 1, none⟩ (.int .i64 o)).setCell ⟨gz, 2, none⟩ (.int .i64 a)).setCell ⟨gz, 3, none⟩ (.int .i64 b)).setCell ⟨gz, 4, none⟩ (.int .i64 c)).setCell ⟨gz, 5, none⟩ (.slice pw l.length cw)) := (((((Kp.set1 (g := gz)).trans1 Kp.set1).trans1 Kp.set1).trans1 Kp.set1).trans1 Kp.set1).trans1 Kp.set1
      have BY' : Hid (Box ((((((Va2.setCell ⟨gz, 0, none⟩ (.int .i64 e)).setCell ⟨gz, 1, none⟩ (.int .i64 o)).setCell ⟨gz, 2, none⟩ (.int .i64 a)).setCell ⟨gz, 3, none⟩ (.int .i64 b)).setCell ⟨gz, 4, none⟩ (.int .i64 c)).setCell ⟨gz, 5, none⟩ (.slice pw l.length cw)) gz [.int .i64 e, .int .i64 o, .int .i64 a, .int .i64 b, .int .i64 c, .slice pw l.length cw]) := BZ.out.s6
      replace BG : Hid (Box ((((((Va2.setCell ⟨gz, 0, none⟩ (.int .i64 e)).setCell ⟨gz, 1, none⟩ (.int .i64 o)).setCell ⟨gz, 2, none⟩ (.int .i64 a)).setCell ⟨gz, 3, none⟩ (.int .i64 b)).setCell ⟨gz, 4, none⟩ (.int .i64 c)).setCell ⟨gz, 5, none⟩ (.slice pw l.length cw)) W1.heap.size [.int .i64 e, .int .i64 o, .int .i64 a, .int .i64 b, .int .i64 c, .slice p l.length q]) := BG.out.kp kz (by have := GE.out; have := LBG.out; omega)
      have RY : Hid (IR W8.heap.size ((((((Va2.setCell ⟨gz, 0, none⟩ (.int .i64 e)).setCell ⟨gz, 1, none⟩ (.int .i64 o)).setCell ⟨gz, 2, none⟩ (.int .i64 a)).setCell ⟨gz, 3, none⟩ (.int .i64 b)).setCell ⟨gz, 4, none⟩ (.int .i64 c)).setCell ⟨gz, 5, none⟩ (.slice pw l.length cw)).heap.size ((((((Va2.setCell ⟨gz, 0, none⟩ (.int .i64 e)).setCell ⟨gz, 1, none⟩ (.int .i64 o)).setCell ⟨gz, 2, none⟩ (.int .i64 a)).setCell ⟨gz, 3, none⟩ (.int .i64 b)).setCell ⟨gz, 4, none⟩ (.int .i64 c)).setCell ⟨gz, 5, none⟩ (.slice pw l.length cw)) pw l) := ir_store RN.out kz NV.out (by simp [World.setCell])
      have HY : Hid (Below W8.heap.size W8 ((((((Va2.setCell ⟨gz, 0, none⟩ (.int .i64 e)).setCell ⟨gz, 1, none⟩ (.int .i64 o)).setCell ⟨gz, 2, none⟩ (.int .i64 a)).setCell ⟨gz, 3, none⟩ (.int .i64 b)).setCell ⟨gz, 4, none⟩ (.int .i64 c)).setCell ⟨gz, 5, none⟩ (.slice pw l.length cw))) := HC.out.trans (kz.below HC.out.size (fun x hx e => by have := GE.out; omega))
      refine hK.out _ _ BG.out.c6 (fun hHeld' => ?_)
      clear hK K hHeld z0 z1 z2 z3 z4 z5 y0 y1 y2 y3 y4 y5 kz
      have hHeld := hHeld'
      clear hHeld'
      refine wLy ?_
      refine wTk 17 ?_
      refine wTk 18 ?_
      refine wpAnyH_done (by kernel_rfl) ?_ _
      clear hHeld
      go_wp2
      go_meet
      case rel => exact ⟨rfl, HY.out⟩
    · go_simp
      (try simp only [])
      have hb := bel_alloc Va0 (.cells #[.int .i64 0, .int .i64 0, .int .i64 0, .int .i64 0, .int .i64 0, .slice none 0 0] 27)
      have BZ : Hid (Box (Va0.alloc (.cells #[.int .i64 0, .int .i64 0, .int .i64 0, .int .i64 0, .int .i64 0, .slice none 0 0] 27)) Va0.heap.size [.int .i64 0, .int .i64 0, .int .i64 0, .int .i64 0, .int .i64 0, .slice none 0 0]) := box_mk
      have GE : Hid (W8.heap.size ≤ Va0.heap.size) := HC.out.size
      replace HB : Hid (Below w.heap.size w (Va0.alloc (.cells #[.int .i64 0, .int .i64 0, .int .i64 0, .int .i64 0, .int .i64 0, .slice none 0 0] 27))) := HB.out.trans (hb.mono HB.out.size)
      replace RG : Hid (GRow 0 (Va0.alloc (.cells #[.int .i64 0, .int .i64 0, .int .i64 0, .int .i64 0, .int .i64 0, .slice none 0 0] 27)) p (flatD l)) := RG.out.next hb
      replace BG : Hid (Box (Va0.alloc (.cells #[.int .i64 0, .int .i64 0, .int .i64 0, .int .i64 0, .int .i64 0, .slice none 0 0] 27)) W1.heap.size [.int .i64 e, .int .i64 o, .int .i64 a, .int .i64 b, .int .i64 c, .slice p l.length q]) := BG.out.next hb
      replace BD : Hid (Box (Va0.alloc (.cells #[.int .i64 0, .int .i64 0, .int .i64 0, .int .i64 0, .int .i64 0, .slice none 0 0] 27)) W3.heap.size [.int .i64 2, .int .i64 (c + 1)]) := BD.out.next hb
      replace RX : Hid (GRow 0 (Va0.alloc (.cells #[.int .i64 0, .int .i64 0, .int .i64 0, .int .i64 0, .int .i64 0, .slice none 0 0] 27)) pX (flatD l1)) := RX.out.next hb
      replace BX : Hid (Box (Va0.alloc (.cells #[.int .i64 0, .int .i64 0, .int .i64 0, .int .i64 0, .int .i64 0, .slice none 0 0] 27)) W5.heap.size [.int .i64 e, .int .i64 o, .int .i64 a, .int .i64 b, .int .i64 (c + 1), .slice pX l1.length qX]) := BX.out.next hb
      replace RY : Hid (GRow 0 (Va0.alloc (.cells #[.int .i64 0, .int .i64 0, .int .i64 0, .int .i64 0, .int .i64 0, .slice none 0 0] 27)) pY (flatD l1)) := RY.out.next hb
      replace BY : Hid (Box (Va0.alloc (.cells #[.int .i64 0, .int .i64 0, .int .i64 0, .int .i64 0, .int .i64 0, .slice none 0 0] 27)) W7.heap.size [.int .i64 e, .int .i64 o, .int .i64 a, .int .i64 b, .int .i64 (c + 1), .slice pY l1.length qY]) := BY.out.next hb
      replace HC : Hid (Below W8.heap.size W8 (Va0.alloc (.cells #[.int .i64 0, .int .i64 0, .int .i64 0, .int .i64 0, .int .i64 0, .slice none 0 0] 27))) := HC.out.trans (hb.mono HC.out.size)
      clear hb
      refine wHk hK BG.out.c6 ?_
      clear hK K hHeld
      intro hHeld
      generalize (Va0.alloc (.cells #[.int .i64 0, .int .i64 0, .int .i64 0, .int .i64 0, .int .i64 0, .slice none 0 0] 27)) = Va1 at *
      generalize Va0.heap.size = gz at *
      refine wRd 10 (fun K hK => ?_)
      go_simp
      go_at_call 10
      refine Calls.mono (C3.out Va1 _ _ _ RG.out) ?_
      rintro r' Va2 ⟨pw, cw, rfl, hM, hb⟩
      (try simp only [])
      have RN' : IR W8.heap.size Va2.heap.size Va2 pw l := ⟨(hM.weak HC.out.size), hM.ir.up⟩
      have NV : Hid (∀ x, pw = some x → l ≠ [] → ¬ x.block = gz) := fun x hx hl => by have := hM.ir.lo x hx hl; have := BZ.out.lt; omega
      replace HB : Hid (Below w.heap.size w Va2) := HB.out.trans (hb.mono HB.out.size)
      replace RG : Hid (GRow 0 Va2 p (flatD l)) := RG.out.next hb
      replace BG : Hid (Box Va2 W1.heap.size [.int .i64 e, .int .i64 o, .int .i64 a, .int .i64 b, .int .i64 c, .slice p l.length q]) := BG.out.next hb
      replace BD : Hid (Box Va2 W3.heap.size [.int .i64 2, .int .i64 (c + 1)]) := BD.out.next hb
      replace RX : Hid (GRow 0 Va2 pX (flatD l1)) := RX.out.next hb
      replace BX : Hid (Box Va2 W5.heap.size [.int .i64 e, .int .i64 o, .int .i64 a, .int .i64 b, .int .i64 (c + 1), .slice pX l1.length qX]) := BX.out.next hb
      replace RY : Hid (GRow 0 Va2 pY (flatD l1)) := RY.out.next hb
      replace BY : Hid (Box Va2 W7.heap.size [.int .i64 e, .int .i64 o, .int .i64 a, .int .i64 b, .int .i64 (c + 1), .slice pY l1.length qY]) := BY.out.next hb
      replace HC : Hid (Below W8.heap.size W8 Va2) := HC.out.trans (hb.mono HC.out.size)
      replace BZ : Hid (Box Va2 gz [.int .i64 0, .int .i64 0, .int .i64 0, .int .i64 0, .int .i64 0, .slice none 0 0]) := BZ.out.next hb
      have RN : Hid (IR W8.heap.size Va2.heap.size Va2 pw l) := RN'
      have RU : Hid (Va2.heap.size ≤ Va2.heap.size) := Nat.le_refl _
      clear hb hM RN'
      refine wHk hK BG.out.c6 ?_
      clear hK K hHeld
      intro hHeld
      refine wTk 11 ?_
      refine wTk 12 ?_
      refine wTk 13 ?_
      refine wTk 14 ?_
      obtain ⟨z0, z1, z2, z3, z4, z5⟩ := BZ.out.c6
      obtain ⟨y0, y1, y2, y3, y4, y5⟩ := BZ.out.f6
      refine wRd 16 (fun K hK => ?_)
      go_simp
      (try simp only [])
      have kz : Kp (fun b => gz ≤ b ∧ b < gz + 1) Va2 ((((((Va2.setCell ⟨gz, 0, none⟩ (.int .i64 e)).setCell ⟨gz, 1, none⟩ (.int .i64 o)).setCell ⟨gz, 2, none⟩ (.int .i64 a)).setCell ⟨gz, 3, none⟩ (.int .i64 b)).setCell ⟨gz, 4, none⟩ (.int .i64 c)).setCell ⟨gz, 5, none⟩ (.slice pw l.length cw)) := (((((Kp.set1 (g := gz)).trans1 Kp.set1).trans1 Kp.set1).trans1 Kp.set1).trans1 Kp.set1).trans1 Kp.set1
      have BY' : Hid (Box ((((((Va2.setCell ⟨gz, 0, none⟩ (.int .i64 e)).setCell ⟨gz, 1, none⟩ (.int .i64 o)).setCell ⟨gz, 2, none⟩ (.int .i64 a)).setCell ⟨gz, 3, none⟩ (.int .i64 b)).setCell ⟨gz, 4, none⟩ (.int .i64 c)).setCell ⟨gz, 5, none⟩ (.slice pw l.length cw)) gz [.int .i64 e, .int .i64 o, .int .i64 a, .int .i64 b, .int .i64 c, .slice pw l.length cw]) := BZ.out.s6
      replace BG : Hid (Box ((((((Va2.setCell ⟨gz, 0, none⟩ (.int .i64 e)).setCell ⟨gz, 1, none⟩ (.int .i64 o)).setCell ⟨gz, 2, none⟩ (.int .i64 a)).setCell ⟨gz, 3, none⟩ (.int .i64 b)).setCell ⟨gz, 4, none⟩ (.int .i64 c)).setCell ⟨gz, 5, none⟩ (.slice pw l.length cw)) W1.heap.size [.int .i64 e, .int .i64 o, .int .i64 a, .int .i64 b, .int .i64 c, .slice p l.length q]) := BG.out.kp kz (by have := GE.out; have := LBG.out; omega)
      have RY : Hid (IR W8.heap.size ((((((Va2.setCell ⟨gz, 0, none⟩ (.int .i64 e)).setCell ⟨gz, 1, none⟩ (.int .i64 o)).setCell ⟨gz, 2, none⟩ (.int .i64 a)).setCell ⟨gz, 3, none⟩ (.int .i64 b)).setCell ⟨gz, 4, none⟩ (.int .i64 c)).setCell ⟨gz, 5, none⟩ (.slice pw l.length cw)).heap.size ((((((Va2.setCell ⟨gz, 0, none⟩ (.int .i64 e)).setCell ⟨gz, 1, none⟩ (.int .i64 o)).setCell ⟨gz, 2, none⟩ (.int .i64 a)).setCell ⟨gz, 3, none⟩ (.int .i64 b)).setCell ⟨gz, 4, none⟩ (.int .i64 c)).setCell ⟨gz, 5, none⟩ (.slice pw l.length cw)) pw l) := ir_store RN.out kz NV.out (by simp [World.setCell])
      have HY : Hid (Below W8.heap.size W8 ((((((Va2.setCell ⟨gz, 0, none⟩ (.int .i64 e)).setCell ⟨gz, 1, none⟩ (.int .i64 o)).setCell ⟨gz, 2, none⟩ (.int .i64 a)).setCell ⟨gz, 3, none⟩ (.int .i64 b)).setCell ⟨gz, 4, none⟩ (.int .i64 c)).setCell ⟨gz, 5, none⟩ (.slice pw l.length cw))) := HC.out.trans (kz.below HC.out.size (fun x hx e => by have := GE.out; omega))
      refine hK.out _ _ BG.out.c6 (fun hHeld' => ?_)
      clear hK K hHeld z0 z1 z2 z3 z4 z5 y0 y1 y2 y3 y4 y5 kz
      have hHeld := hHeld'
      clear hHeld'
      refine wLy ?_
      refine wTk 17 ?_
      refine wTk 18 ?_
      refine wpAnyH_done (by kernel_rfl) ?_ _
      clear hHeld
      go_wp2
      go_meet
      case rel => exact ⟨rfl, HY.out⟩
  case rest =>
    obtain ⟨rfl, hb⟩ := hcut
    generalize wc = VaW at *
    replace HB : Hid (Below w.heap.size w VaW) := HB.out.trans (hb.mono HB.out.size)
    replace RG : Hid (GRow 0 VaW p (flatD l)) := RG.out.next hb
    replace BG : Hid (Box VaW W1.heap.size [.int .i64 e, .int .i64 o, .int .i64 a, .int .i64 b, .int .i64 c, .slice p l.length q]) := BG.out.next hb
    replace BD : Hid (Box VaW W3.heap.size [.int .i64 2, .int .i64 (c + 1)]) := BD.out.next hb
    replace RX : Hid (GRow 0 VaW pX (flatD l1)) := RX.out.next hb
    replace BX : Hid (Box VaW W5.heap.size [.int .i64 e, .int .i64 o, .int .i64 a, .int .i64 b, .int .i64 (c + 1), .slice pX l1.length qX]) := BX.out.next hb
    replace RY : Hid (GRow 0 VaW pY (flatD l1)) := RY.out.next hb
    replace BY : Hid (Box VaW W7.heap.size [.int .i64 e, .int .i64 o, .int .i64 a, .int .i64 b, .int .i64 (c + 1), .slice pY l1.length qY]) := BY.out.next hb
    clear hb
    go_upto_region 9 with fail
    go_cut [17, 18] from 28 (fun s17 s18 wc => ∃ (gT : Nat) (pT : Option Addr) (qT : Nat), s17 = .pointer (some ⟨gT, 0, none⟩) ∧ s18 = .int .i64 0 ∧ Box wc gT [.int .i64 (e + 1), .int .i64 r, .int .i64 a, .int .i64 b, .int .i64 (c + 1), .slice pT l1.length qT] ∧ GRow 0 wc pT (flatD l1) ∧ Below VaW.heap.size VaW wc)
    case first =>
      have HC : Hid (Below VaW.heap.size VaW VaW) := Below.refl _ _
      have LBX : Hid (W5.heap.size < VaW.heap.size) := BX.out.lt
      refine wp_region_held_drew (S := (fun w' => (w'.cell? ⟨W5.heap.size, 0, none⟩ = some (.int .i64 e) ∧ w'.cell? ⟨W5.heap.size, 1, none⟩ = some (.int .i64 o) ∧ w'.cell? ⟨W5.heap.size, 2, none⟩ = some (.int .i64 a) ∧ w'.cell? ⟨W5.heap.size, 3, none⟩ = some (.int .i64 b) ∧ w'.cell? ⟨W5.heap.size, 4, none⟩ = some (.int .i64 (c + 1)) ∧ w'.cell? ⟨W5.heap.size, 5, none⟩ = some (.slice pX l1.length qX)))) (by kernel_rfl) ?_ (fun hHeld => ?_)
      · (try dsimp only)
        exact (BX.out.next (bel_drew _)).c6
      have hbd := bel_drew VaW
      replace HB : Hid (Below w.heap.size w VaW.drew) := HB.out.trans (hbd.mono HB.out.size)
      replace RG : Hid (GRow 0 VaW.drew p (flatD l)) := RG.out.next hbd
      replace BG : Hid (Box VaW.drew W1.heap.size [.int .i64 e, .int .i64 o, .int .i64 a, .int .i64 b, .int .i64 c, .slice p l.length q]) := BG.out.next hbd
      replace BD : Hid (Box VaW.drew W3.heap.size [.int .i64 2, .int .i64 (c + 1)]) := BD.out.next hbd
      replace RX : Hid (GRow 0 VaW.drew pX (flatD l1)) := RX.out.next hbd
      replace BX : Hid (Box VaW.drew W5.heap.size [.int .i64 e, .int .i64 o, .int .i64 a, .int .i64 b, .int .i64 (c + 1), .slice pX l1.length qX]) := BX.out.next hbd
      replace RY : Hid (GRow 0 VaW.drew pY (flatD l1)) := RY.out.next hbd
      replace BY : Hid (Box VaW.drew W7.heap.size [.int .i64 e, .int .i64 o, .int .i64 a, .int .i64 b, .int .i64 (c + 1), .slice pY l1.length qY]) := BY.out.next hbd
      replace HC : Hid (Below VaW.heap.size VaW VaW.drew) := HC.out.trans (hbd.mono HC.out.size)
      clear hbd
      generalize VaW.drew = Vb0 at *
      refine wTk 0 ?_
      refine wTk 1 ?_
      refine wRd2 2 7 (fun K hK => ?_) (fun K hK => ?_)
      · go_simp
        go_at_call 9
        refine (HA1.out _ HB.out).mono ?_
        rintro r' Vb1 ⟨rfl, hb⟩
        (try simp only [])
        replace HB : Hid (Below w.heap.size w Vb1) := HB.out.trans (hb.mono HB.out.size)
        replace RG : Hid (GRow 0 Vb1 p (flatD l)) := RG.out.next hb
        replace BG : Hid (Box Vb1 W1.heap.size [.int .i64 e, .int .i64 o, .int .i64 a, .int .i64 b, .int .i64 c, .slice p l.length q]) := BG.out.next hb
        replace BD : Hid (Box Vb1 W3.heap.size [.int .i64 2, .int .i64 (c + 1)]) := BD.out.next hb
        replace RX : Hid (GRow 0 Vb1 pX (flatD l1)) := RX.out.next hb
        replace BX : Hid (Box Vb1 W5.heap.size [.int .i64 e, .int .i64 o, .int .i64 a, .int .i64 b, .int .i64 (c + 1), .slice pX l1.length qX]) := BX.out.next hb
        replace RY : Hid (GRow 0 Vb1 pY (flatD l1)) := RY.out.next hb
        replace BY : Hid (Box Vb1 W7.heap.size [.int .i64 e, .int .i64 o, .int .i64 a, .int .i64 b, .int .i64 (c + 1), .slice pY l1.length qY]) := BY.out.next hb
        replace HC : Hid (Below VaW.heap.size VaW Vb1) := HC.out.trans (hb.mono HC.out.size)
        clear hb
        refine wHk hK BX.out.c6 ?_
        clear hK K hHeld
        intro hHeld
        refine wRd2 3 7 (fun K hK => ?_) (fun K hK => ?_)
        · go_simp
          go_at_call 11
          refine Calls.mono (C4.out Vb1 _ _ _ RX.out) ?_
          rintro r' Vb2 ⟨pw, cw, rfl, hM, hb⟩
          (try simp only [])
          have RN' : IR VaW.heap.size Vb2.heap.size Vb2 pw l1 := ⟨(hM.weak HC.out.size), hM.ir.up⟩
          replace HB : Hid (Below w.heap.size w Vb2) := HB.out.trans (hb.mono HB.out.size)
          replace RG : Hid (GRow 0 Vb2 p (flatD l)) := RG.out.next hb
          replace BG : Hid (Box Vb2 W1.heap.size [.int .i64 e, .int .i64 o, .int .i64 a, .int .i64 b, .int .i64 c, .slice p l.length q]) := BG.out.next hb
          replace BD : Hid (Box Vb2 W3.heap.size [.int .i64 2, .int .i64 (c + 1)]) := BD.out.next hb
          replace RX : Hid (GRow 0 Vb2 pX (flatD l1)) := RX.out.next hb
          replace BX : Hid (Box Vb2 W5.heap.size [.int .i64 e, .int .i64 o, .int .i64 a, .int .i64 b, .int .i64 (c + 1), .slice pX l1.length qX]) := BX.out.next hb
          replace RY : Hid (GRow 0 Vb2 pY (flatD l1)) := RY.out.next hb
          replace BY : Hid (Box Vb2 W7.heap.size [.int .i64 e, .int .i64 o, .int .i64 a, .int .i64 b, .int .i64 (c + 1), .slice pY l1.length qY]) := BY.out.next hb
          replace HC : Hid (Below VaW.heap.size VaW Vb2) := HC.out.trans (hb.mono HC.out.size)
          have RN : Hid (IR VaW.heap.size Vb2.heap.size Vb2 pw l1) := RN'
          have RU : Hid (Vb2.heap.size ≤ Vb2.heap.size) := Nat.le_refl _
          clear hb hM RN'
          refine wHk hK BX.out.c6 ?_
          clear hK K hHeld
          intro hHeld
          refine wTk 4 ?_
          refine wTk 5 ?_
          refine wTk 6 ?_
          refine wRd 7 (fun K hK => ?_)
          go_simp
          (try simp only [])
          have hb := bel_alloc Vb2 (.cells #[.int .i64 0, .int .i64 0, .int .i64 0, .int .i64 0, .int .i64 0, .slice none 0 0] 27)
          have NV : Hid (∀ x, pw = some x → l1 ≠ [] → ¬ x.block = Vb2.heap.size) := fun x hx hl => by have := RN.out.up x hx hl; have := RU.out; omega
          have BZ : Hid (Box (Vb2.alloc (.cells #[.int .i64 0, .int .i64 0, .int .i64 0, .int .i64 0, .int .i64 0, .slice none 0 0] 27)) Vb2.heap.size [.int .i64 0, .int .i64 0, .int .i64 0, .int .i64 0, .int .i64 0, .slice none 0 0]) := box_mk
          have GE : Hid (VaW.heap.size ≤ Vb2.heap.size) := HC.out.size
          replace RU : Hid (Vb2.heap.size ≤ (Vb2.alloc (.cells #[.int .i64 0, .int .i64 0, .int .i64 0, .int .i64 0, .int .i64 0, .slice none 0 0] 27)).heap.size) := Nat.le_trans RU.out hb.size
          replace HB : Hid (Below w.heap.size w (Vb2.alloc (.cells #[.int .i64 0, .int .i64 0, .int .i64 0, .int .i64 0, .int .i64 0, .slice none 0 0] 27))) := HB.out.trans (hb.mono HB.out.size)
          replace RG : Hid (GRow 0 (Vb2.alloc (.cells #[.int .i64 0, .int .i64 0, .int .i64 0, .int .i64 0, .int .i64 0, .slice none 0 0] 27)) p (flatD l)) := RG.out.next hb
          replace BG : Hid (Box (Vb2.alloc (.cells #[.int .i64 0, .int .i64 0, .int .i64 0, .int .i64 0, .int .i64 0, .slice none 0 0] 27)) W1.heap.size [.int .i64 e, .int .i64 o, .int .i64 a, .int .i64 b, .int .i64 c, .slice p l.length q]) := BG.out.next hb
          replace BD : Hid (Box (Vb2.alloc (.cells #[.int .i64 0, .int .i64 0, .int .i64 0, .int .i64 0, .int .i64 0, .slice none 0 0] 27)) W3.heap.size [.int .i64 2, .int .i64 (c + 1)]) := BD.out.next hb
          replace RX : Hid (GRow 0 (Vb2.alloc (.cells #[.int .i64 0, .int .i64 0, .int .i64 0, .int .i64 0, .int .i64 0, .slice none 0 0] 27)) pX (flatD l1)) := RX.out.next hb
          replace BX : Hid (Box (Vb2.alloc (.cells #[.int .i64 0, .int .i64 0, .int .i64 0, .int .i64 0, .int .i64 0, .slice none 0 0] 27)) W5.heap.size [.int .i64 e, .int .i64 o, .int .i64 a, .int .i64 b, .int .i64 (c + 1), .slice pX l1.length qX]) := BX.out.next hb
          replace RY : Hid (GRow 0 (Vb2.alloc (.cells #[.int .i64 0, .int .i64 0, .int .i64 0, .int .i64 0, .int .i64 0, .slice none 0 0] 27)) pY (flatD l1)) := RY.out.next hb
          replace BY : Hid (Box (Vb2.alloc (.cells #[.int .i64 0, .int .i64 0, .int .i64 0, .int .i64 0, .int .i64 0, .slice none 0 0] 27)) W7.heap.size [.int .i64 e, .int .i64 o, .int .i64 a, .int .i64 b, .int .i64 (c + 1), .slice pY l1.length qY]) := BY.out.next hb
          replace HC : Hid (Below VaW.heap.size VaW (Vb2.alloc (.cells #[.int .i64 0, .int .i64 0, .int .i64 0, .int .i64 0, .int .i64 0, .slice none 0 0] 27))) := HC.out.trans (hb.mono HC.out.size)
          replace RN : Hid (IR VaW.heap.size Vb2.heap.size (Vb2.alloc (.cells #[.int .i64 0, .int .i64 0, .int .i64 0, .int .i64 0, .int .i64 0, .slice none 0 0] 27)) pw l1) := RN.out.next hb
          clear hb
          refine wHk hK BX.out.c6 ?_
          clear hK K hHeld
          intro hHeld
          generalize (Vb2.alloc (.cells #[.int .i64 0, .int .i64 0, .int .i64 0, .int .i64 0, .int .i64 0, .slice none 0 0] 27)) = Vb3 at *
          generalize Vb2.heap.size = gz at *
          obtain ⟨z0, z1, z2, z3, z4, z5⟩ := BZ.out.c6
          obtain ⟨y0, y1, y2, y3, y4, y5⟩ := BZ.out.f6
          refine wRd 8 (fun K hK => ?_)
          go_simp
          (try simp only [])
          have kz : Kp (fun b => gz ≤ b ∧ b < gz + 1) Vb3 ((((((Vb3.setCell ⟨gz, 0, none⟩ (.int .i64 (e + 1))).setCell ⟨gz, 1, none⟩ (.int .i64 r)).setCell ⟨gz, 2, none⟩ (.int .i64 a)).setCell ⟨gz, 3, none⟩ (.int .i64 b)).setCell ⟨gz, 4, none⟩ (.int .i64 (c + 1))).setCell ⟨gz, 5, none⟩ (.slice pw l1.length cw)) := (((((Kp.set1 (g := gz)).trans1 Kp.set1).trans1 Kp.set1).trans1 Kp.set1).trans1 Kp.set1).trans1 Kp.set1
          have BY' : Hid (Box ((((((Vb3.setCell ⟨gz, 0, none⟩ (.int .i64 (e + 1))).setCell ⟨gz, 1, none⟩ (.int .i64 r)).setCell ⟨gz, 2, none⟩ (.int .i64 a)).setCell ⟨gz, 3, none⟩ (.int .i64 b)).setCell ⟨gz, 4, none⟩ (.int .i64 (c + 1))).setCell ⟨gz, 5, none⟩ (.slice pw l1.length cw)) gz [.int .i64 (e + 1), .int .i64 r, .int .i64 a, .int .i64 b, .int .i64 (c + 1), .slice pw l1.length cw]) := BZ.out.s6
          replace BX : Hid (Box ((((((Vb3.setCell ⟨gz, 0, none⟩ (.int .i64 (e + 1))).setCell ⟨gz, 1, none⟩ (.int .i64 r)).setCell ⟨gz, 2, none⟩ (.int .i64 a)).setCell ⟨gz, 3, none⟩ (.int .i64 b)).setCell ⟨gz, 4, none⟩ (.int .i64 (c + 1))).setCell ⟨gz, 5, none⟩ (.slice pw l1.length cw)) W5.heap.size [.int .i64 e, .int .i64 o, .int .i64 a, .int .i64 b, .int .i64 (c + 1), .slice pX l1.length qX]) := BX.out.kp kz (by have := GE.out; have := LBX.out; omega)
          have RY : Hid (IR VaW.heap.size ((((((Vb3.setCell ⟨gz, 0, none⟩ (.int .i64 (e + 1))).setCell ⟨gz, 1, none⟩ (.int .i64 r)).setCell ⟨gz, 2, none⟩ (.int .i64 a)).setCell ⟨gz, 3, none⟩ (.int .i64 b)).setCell ⟨gz, 4, none⟩ (.int .i64 (c + 1))).setCell ⟨gz, 5, none⟩ (.slice pw l1.length cw)).heap.size ((((((Vb3.setCell ⟨gz, 0, none⟩ (.int .i64 (e + 1))).setCell ⟨gz, 1, none⟩ (.int .i64 r)).setCell ⟨gz, 2, none⟩ (.int .i64 a)).setCell ⟨gz, 3, none⟩ (.int .i64 b)).setCell ⟨gz, 4, none⟩ (.int .i64 (c + 1))).setCell ⟨gz, 5, none⟩ (.slice pw l1.length cw)) pw l1) := ir_store RN.out kz NV.out (by simp [World.setCell])
          have HY : Hid (Below VaW.heap.size VaW ((((((Vb3.setCell ⟨gz, 0, none⟩ (.int .i64 (e + 1))).setCell ⟨gz, 1, none⟩ (.int .i64 r)).setCell ⟨gz, 2, none⟩ (.int .i64 a)).setCell ⟨gz, 3, none⟩ (.int .i64 b)).setCell ⟨gz, 4, none⟩ (.int .i64 (c + 1))).setCell ⟨gz, 5, none⟩ (.slice pw l1.length cw))) := HC.out.trans (kz.below HC.out.size (fun x hx e => by have := GE.out; omega))
          refine hK.out _ _ BX.out.c6 (fun hHeld' => ?_)
          clear hK K hHeld z0 z1 z2 z3 z4 z5 y0 y1 y2 y3 y4 y5 kz
          have hHeld := hHeld'
          clear hHeld'
          refine wLy ?_
          refine wTk 9 ?_
          refine wpAnyH_done (by kernel_rfl) ?_ _
          clear hHeld
          go_wp2
          go_meet
          case rel => exact ⟨gz, pw, cw, rfl, rfl, BY'.out, RY.out.mr.row.weak (Nat.zero_le _), HY.out⟩
        · go_simp
          (try simp only [])
          have hb := bel_alloc Vb1 (.cells #[.int .i64 0, .int .i64 0, .int .i64 0, .int .i64 0, .int .i64 0, .slice none 0 0] 27)
          have BZ : Hid (Box (Vb1.alloc (.cells #[.int .i64 0, .int .i64 0, .int .i64 0, .int .i64 0, .int .i64 0, .slice none 0 0] 27)) Vb1.heap.size [.int .i64 0, .int .i64 0, .int .i64 0, .int .i64 0, .int .i64 0, .slice none 0 0]) := box_mk
          have GE : Hid (VaW.heap.size ≤ Vb1.heap.size) := HC.out.size
          replace HB : Hid (Below w.heap.size w (Vb1.alloc (.cells #[.int .i64 0, .int .i64 0, .int .i64 0, .int .i64 0, .int .i64 0, .slice none 0 0] 27))) := HB.out.trans (hb.mono HB.out.size)
          replace RG : Hid (GRow 0 (Vb1.alloc (.cells #[.int .i64 0, .int .i64 0, .int .i64 0, .int .i64 0, .int .i64 0, .slice none 0 0] 27)) p (flatD l)) := RG.out.next hb
          replace BG : Hid (Box (Vb1.alloc (.cells #[.int .i64 0, .int .i64 0, .int .i64 0, .int .i64 0, .int .i64 0, .slice none 0 0] 27)) W1.heap.size [.int .i64 e, .int .i64 o, .int .i64 a, .int .i64 b, .int .i64 c, .slice p l.length q]) := BG.out.next hb
          replace BD : Hid (Box (Vb1.alloc (.cells #[.int .i64 0, .int .i64 0, .int .i64 0, .int .i64 0, .int .i64 0, .slice none 0 0] 27)) W3.heap.size [.int .i64 2, .int .i64 (c + 1)]) := BD.out.next hb
          replace RX : Hid (GRow 0 (Vb1.alloc (.cells #[.int .i64 0, .int .i64 0, .int .i64 0, .int .i64 0, .int .i64 0, .slice none 0 0] 27)) pX (flatD l1)) := RX.out.next hb
          replace BX : Hid (Box (Vb1.alloc (.cells #[.int .i64 0, .int .i64 0, .int .i64 0, .int .i64 0, .int .i64 0, .slice none 0 0] 27)) W5.heap.size [.int .i64 e, .int .i64 o, .int .i64 a, .int .i64 b, .int .i64 (c + 1), .slice pX l1.length qX]) := BX.out.next hb
          replace RY : Hid (GRow 0 (Vb1.alloc (.cells #[.int .i64 0, .int .i64 0, .int .i64 0, .int .i64 0, .int .i64 0, .slice none 0 0] 27)) pY (flatD l1)) := RY.out.next hb
          replace BY : Hid (Box (Vb1.alloc (.cells #[.int .i64 0, .int .i64 0, .int .i64 0, .int .i64 0, .int .i64 0, .slice none 0 0] 27)) W7.heap.size [.int .i64 e, .int .i64 o, .int .i64 a, .int .i64 b, .int .i64 (c + 1), .slice pY l1.length qY]) := BY.out.next hb
          replace HC : Hid (Below VaW.heap.size VaW (Vb1.alloc (.cells #[.int .i64 0, .int .i64 0, .int .i64 0, .int .i64 0, .int .i64 0, .slice none 0 0] 27))) := HC.out.trans (hb.mono HC.out.size)
          clear hb
          refine wHk hK BX.out.c6 ?_
          clear hK K hHeld
          intro hHeld
          generalize (Vb1.alloc (.cells #[.int .i64 0, .int .i64 0, .int .i64 0, .int .i64 0, .int .i64 0, .slice none 0 0] 27)) = Vb2 at *
          generalize Vb1.heap.size = gz at *
          refine wRd 3 (fun K hK => ?_)
          go_simp
          go_at_call 11
          refine Calls.mono (C4.out Vb2 _ _ _ RX.out) ?_
          rintro r' Vb3 ⟨pw, cw, rfl, hM, hb⟩
          (try simp only [])
          have RN' : IR VaW.heap.size Vb3.heap.size Vb3 pw l1 := ⟨(hM.weak HC.out.size), hM.ir.up⟩
          have NV : Hid (∀ x, pw = some x → l1 ≠ [] → ¬ x.block = gz) := fun x hx hl => by have := hM.ir.lo x hx hl; have := BZ.out.lt; omega
          replace HB : Hid (Below w.heap.size w Vb3) := HB.out.trans (hb.mono HB.out.size)
          replace RG : Hid (GRow 0 Vb3 p (flatD l)) := RG.out.next hb
          replace BG : Hid (Box Vb3 W1.heap.size [.int .i64 e, .int .i64 o, .int .i64 a, .int .i64 b, .int .i64 c, .slice p l.length q]) := BG.out.next hb
          replace BD : Hid (Box Vb3 W3.heap.size [.int .i64 2, .int .i64 (c + 1)]) := BD.out.next hb
          replace RX : Hid (GRow 0 Vb3 pX (flatD l1)) := RX.out.next hb
          replace BX : Hid (Box Vb3 W5.heap.size [.int .i64 e, .int .i64 o, .int .i64 a, .int .i64 b, .int .i64 (c + 1), .slice pX l1.length qX]) := BX.out.next hb
          replace RY : Hid (GRow 0 Vb3 pY (flatD l1)) := RY.out.next hb
          replace BY : Hid (Box Vb3 W7.heap.size [.int .i64 e, .int .i64 o, .int .i64 a, .int .i64 b, .int .i64 (c + 1), .slice pY l1.length qY]) := BY.out.next hb
          replace HC : Hid (Below VaW.heap.size VaW Vb3) := HC.out.trans (hb.mono HC.out.size)
          replace BZ : Hid (Box Vb3 gz [.int .i64 0, .int .i64 0, .int .i64 0, .int .i64 0, .int .i64 0, .slice none 0 0]) := BZ.out.next hb
          have RN : Hid (IR VaW.heap.size Vb3.heap.size Vb3 pw l1) := RN'
          have RU : Hid (Vb3.heap.size ≤ Vb3.heap.size) := Nat.le_refl _
          clear hb hM RN'
          refine wHk hK BX.out.c6 ?_
          clear hK K hHeld
          intro hHeld
          refine wTk 4 ?_
          refine wTk 5 ?_
          refine wTk 6 ?_
          obtain ⟨z0, z1, z2, z3, z4, z5⟩ := BZ.out.c6
          obtain ⟨y0, y1, y2, y3, y4, y5⟩ := BZ.out.f6
          refine wRd 8 (fun K hK => ?_)
          go_simp
          (try simp only [])
          have kz : Kp (fun b => gz ≤ b ∧ b < gz + 1) Vb3 ((((((Vb3.setCell ⟨gz, 0, none⟩ (.int .i64 (e + 1))).setCell ⟨gz, 1, none⟩ (.int .i64 r)).setCell ⟨gz, 2, none⟩ (.int .i64 a)).setCell ⟨gz, 3, none⟩ (.int .i64 b)).setCell ⟨gz, 4, none⟩ (.int .i64 (c + 1))).setCell ⟨gz, 5, none⟩ (.slice pw l1.length cw)) := (((((Kp.set1 (g := gz)).trans1 Kp.set1).trans1 Kp.set1).trans1 Kp.set1).trans1 Kp.set1).trans1 Kp.set1
          have BY' : Hid (Box ((((((Vb3.setCell ⟨gz, 0, none⟩ (.int .i64 (e + 1))).setCell ⟨gz, 1, none⟩ (.int .i64 r)).setCell ⟨gz, 2, none⟩ (.int .i64 a)).setCell ⟨gz, 3, none⟩ (.int .i64 b)).setCell ⟨gz, 4, none⟩ (.int .i64 (c + 1))).setCell ⟨gz, 5, none⟩ (.slice pw l1.length cw)) gz [.int .i64 (e + 1), .int .i64 r, .int .i64 a, .int .i64 b, .int .i64 (c + 1), .slice pw l1.length cw]) := BZ.out.s6
          replace BX : Hid (Box ((((((Vb3.setCell ⟨gz, 0, none⟩ (.int .i64 (e + 1))).setCell ⟨gz, 1, none⟩ (.int .i64 r)).setCell ⟨gz, 2, none⟩ (.int .i64 a)).setCell ⟨gz, 3, none⟩ (.int .i64 b)).setCell ⟨gz, 4, none⟩ (.int .i64 (c + 1))).setCell ⟨gz, 5, none⟩ (.slice pw l1.length cw)) W5.heap.size [.int .i64 e, .int .i64 o, .int .i64 a, .int .i64 b, .int .i64 (c + 1), .slice pX l1.length qX]) := BX.out.kp kz (by have := GE.out; have := LBX.out; omega)
          have RY : Hid (IR VaW.heap.size ((((((Vb3.setCell ⟨gz, 0, none⟩ (.int .i64 (e + 1))).setCell ⟨gz, 1, none⟩ (.int .i64 r)).setCell ⟨gz, 2, none⟩ (.int .i64 a)).setCell ⟨gz, 3, none⟩ (.int .i64 b)).setCell ⟨gz, 4, none⟩ (.int .i64 (c + 1))).setCell ⟨gz, 5, none⟩ (.slice pw l1.length cw)).heap.size ((((((Vb3.setCell ⟨gz, 0, none⟩ (.int .i64 (e + 1))).setCell ⟨gz, 1, none⟩ (.int .i64 r)).setCell ⟨gz, 2, none⟩ (.int .i64 a)).setCell ⟨gz, 3, none⟩ (.int .i64 b)).setCell ⟨gz, 4, none⟩ (.int .i64 (c + 1))).setCell ⟨gz, 5, none⟩ (.slice pw l1.length cw)) pw l1) := ir_store RN.out kz NV.out (by simp [World.setCell])
          have HY : Hid (Below VaW.heap.size VaW ((((((Vb3.setCell ⟨gz, 0, none⟩ (.int .i64 (e + 1))).setCell ⟨gz, 1, none⟩ (.int .i64 r)).setCell ⟨gz, 2, none⟩ (.int .i64 a)).setCell ⟨gz, 3, none⟩ (.int .i64 b)).setCell ⟨gz, 4, none⟩ (.int .i64 (c + 1))).setCell ⟨gz, 5, none⟩ (.slice pw l1.length cw))) := HC.out.trans (kz.below HC.out.size (fun x hx e => by have := GE.out; omega))
          refine hK.out _ _ BX.out.c6 (fun hHeld' => ?_)
          clear hK K hHeld z0 z1 z2 z3 z4 z5 y0 y1 y2 y3 y4 y5 kz
          have hHeld := hHeld'
          clear hHeld'
          refine wLy ?_
          refine wTk 9 ?_
          refine wpAnyH_done (by kernel_rfl) ?_ _
          clear hHeld
          go_wp2
          go_meet
          case rel => exact ⟨gz, pw, cw, rfl, rfl, BY'.out, RY.out.mr.row.weak (Nat.zero_le _), HY.out⟩
      · go_simp
        (try simp only [])
        have hb := bel_alloc Vb0 (.cells #[.int .i64 0, .int .i64 0, .int .i64 0, .int .i64 0, .int .i64 0, .slice none 0 0] 27)
        have BZ : Hid (Box (Vb0.alloc (.cells #[.int .i64 0, .int .i64 0, .int .i64 0, .int .i64 0, .int .i64 0, .slice none 0 0] 27)) Vb0.heap.size [.int .i64 0, .int .i64 0, .int .i64 0, .int .i64 0, .int .i64 0, .slice none 0 0]) := box_mk
        have GE : Hid (VaW.heap.size ≤ Vb0.heap.size) := HC.out.size
        replace HB : Hid (Below w.heap.size w (Vb0.alloc (.cells #[.int .i64 0, .int .i64 0, .int .i64 0, .int .i64 0, .int .i64 0, .slice none 0 0] 27))) := HB.out.trans (hb.mono HB.out.size)
        replace RG : Hid (GRow 0 (Vb0.alloc (.cells #[.int .i64 0, .int .i64 0, .int .i64 0, .int .i64 0, .int .i64 0, .slice none 0 0] 27)) p (flatD l)) := RG.out.next hb
        replace BG : Hid (Box (Vb0.alloc (.cells #[.int .i64 0, .int .i64 0, .int .i64 0, .int .i64 0, .int .i64 0, .slice none 0 0] 27)) W1.heap.size [.int .i64 e, .int .i64 o, .int .i64 a, .int .i64 b, .int .i64 c, .slice p l.length q]) := BG.out.next hb
        replace BD : Hid (Box (Vb0.alloc (.cells #[.int .i64 0, .int .i64 0, .int .i64 0, .int .i64 0, .int .i64 0, .slice none 0 0] 27)) W3.heap.size [.int .i64 2, .int .i64 (c + 1)]) := BD.out.next hb
        replace RX : Hid (GRow 0 (Vb0.alloc (.cells #[.int .i64 0, .int .i64 0, .int .i64 0, .int .i64 0, .int .i64 0, .slice none 0 0] 27)) pX (flatD l1)) := RX.out.next hb
        replace BX : Hid (Box (Vb0.alloc (.cells #[.int .i64 0, .int .i64 0, .int .i64 0, .int .i64 0, .int .i64 0, .slice none 0 0] 27)) W5.heap.size [.int .i64 e, .int .i64 o, .int .i64 a, .int .i64 b, .int .i64 (c + 1), .slice pX l1.length qX]) := BX.out.next hb
        replace RY : Hid (GRow 0 (Vb0.alloc (.cells #[.int .i64 0, .int .i64 0, .int .i64 0, .int .i64 0, .int .i64 0, .slice none 0 0] 27)) pY (flatD l1)) := RY.out.next hb
        replace BY : Hid (Box (Vb0.alloc (.cells #[.int .i64 0, .int .i64 0, .int .i64 0, .int .i64 0, .int .i64 0, .slice none 0 0] 27)) W7.heap.size [.int .i64 e, .int .i64 o, .int .i64 a, .int .i64 b, .int .i64 (c + 1), .slice pY l1.length qY]) := BY.out.next hb
        replace HC : Hid (Below VaW.heap.size VaW (Vb0.alloc (.cells #[.int .i64 0, .int .i64 0, .int .i64 0, .int .i64 0, .int .i64 0, .slice none 0 0] 27))) := HC.out.trans (hb.mono HC.out.size)
        clear hb
        refine wHk hK BX.out.c6 ?_
        clear hK K hHeld
        intro hHeld
        generalize (Vb0.alloc (.cells #[.int .i64 0, .int .i64 0, .int .i64 0, .int .i64 0, .int .i64 0, .slice none 0 0] 27)) = Vb1 at *
        generalize Vb0.heap.size = gz at *
        refine wRd 2 (fun K hK => ?_)
        go_simp
        go_at_call 9
        refine (HA1.out _ HB.out).mono ?_
        rintro r' Vb2 ⟨rfl, hb⟩
        (try simp only [])
        replace HB : Hid (Below w.heap.size w Vb2) := HB.out.trans (hb.mono HB.out.size)
        replace RG : Hid (GRow 0 Vb2 p (flatD l)) := RG.out.next hb
        replace BG : Hid (Box Vb2 W1.heap.size [.int .i64 e, .int .i64 o, .int .i64 a, .int .i64 b, .int .i64 c, .slice p l.length q]) := BG.out.next hb
        replace BD : Hid (Box Vb2 W3.heap.size [.int .i64 2, .int .i64 (c + 1)]) := BD.out.next hb
        replace RX : Hid (GRow 0 Vb2 pX (flatD l1)) := RX.out.next hb
        replace BX : Hid (Box Vb2 W5.heap.size [.int .i64 e, .int .i64 o, .int .i64 a, .int .i64 b, .int .i64 (c + 1), .slice pX l1.length qX]) := BX.out.next hb
        replace RY : Hid (GRow 0 Vb2 pY (flatD l1)) := RY.out.next hb
        replace BY : Hid (Box Vb2 W7.heap.size [.int .i64 e, .int .i64 o, .int .i64 a, .int .i64 b, .int .i64 (c + 1), .slice pY l1.length qY]) := BY.out.next hb
        replace HC : Hid (Below VaW.heap.size VaW Vb2) := HC.out.trans (hb.mono HC.out.size)
        replace BZ : Hid (Box Vb2 gz [.int .i64 0, .int .i64 0, .int .i64 0, .int .i64 0, .int .i64 0, .slice none 0 0]) := BZ.out.next hb
        clear hb
        refine wHk hK BX.out.c6 ?_
        clear hK K hHeld
        intro hHeld
        refine wRd 3 (fun K hK => ?_)
        go_simp
        go_at_call 11
        refine Calls.mono (C4.out Vb2 _ _ _ RX.out) ?_
        rintro r' Vb3 ⟨pw, cw, rfl, hM, hb⟩
        (try simp only [])
        have RN' : IR VaW.heap.size Vb3.heap.size Vb3 pw l1 := ⟨(hM.weak HC.out.size), hM.ir.up⟩
        have NV : Hid (∀ x, pw = some x → l1 ≠ [] → ¬ x.block = gz) := fun x hx hl => by have := hM.ir.lo x hx hl; have := BZ.out.lt; omega
        replace HB : Hid (Below w.heap.size w Vb3) := HB.out.trans (hb.mono HB.out.size)
        replace RG : Hid (GRow 0 Vb3 p (flatD l)) := RG.out.next hb
        replace BG : Hid (Box Vb3 W1.heap.size [.int .i64 e, .int .i64 o, .int .i64 a, .int .i64 b, .int .i64 c, .slice p l.length q]) := BG.out.next hb
        replace BD : Hid (Box Vb3 W3.heap.size [.int .i64 2, .int .i64 (c + 1)]) := BD.out.next hb
        replace RX : Hid (GRow 0 Vb3 pX (flatD l1)) := RX.out.next hb
        replace BX : Hid (Box Vb3 W5.heap.size [.int .i64 e, .int .i64 o, .int .i64 a, .int .i64 b, .int .i64 (c + 1), .slice pX l1.length qX]) := BX.out.next hb
        replace RY : Hid (GRow 0 Vb3 pY (flatD l1)) := RY.out.next hb
        replace BY : Hid (Box Vb3 W7.heap.size [.int .i64 e, .int .i64 o, .int .i64 a, .int .i64 b, .int .i64 (c + 1), .slice pY l1.length qY]) := BY.out.next hb
        replace HC : Hid (Below VaW.heap.size VaW Vb3) := HC.out.trans (hb.mono HC.out.size)
        replace BZ : Hid (Box Vb3 gz [.int .i64 0, .int .i64 0, .int .i64 0, .int .i64 0, .int .i64 0, .slice none 0 0]) := BZ.out.next hb
        have RN : Hid (IR VaW.heap.size Vb3.heap.size Vb3 pw l1) := RN'
        have RU : Hid (Vb3.heap.size ≤ Vb3.heap.size) := Nat.le_refl _
        clear hb hM RN'
        refine wHk hK BX.out.c6 ?_
        clear hK K hHeld
        intro hHeld
        refine wTk 4 ?_
        refine wTk 5 ?_
        refine wTk 6 ?_
        obtain ⟨z0, z1, z2, z3, z4, z5⟩ := BZ.out.c6
        obtain ⟨y0, y1, y2, y3, y4, y5⟩ := BZ.out.f6
        refine wRd 8 (fun K hK => ?_)
        go_simp
        (try simp only [])
        have kz : Kp (fun b => gz ≤ b ∧ b < gz + 1) Vb3 ((((((Vb3.setCell ⟨gz, 0, none⟩ (.int .i64 (e + 1))).setCell ⟨gz, 1, none⟩ (.int .i64 r)).setCell ⟨gz, 2, none⟩ (.int .i64 a)).setCell ⟨gz, 3, none⟩ (.int .i64 b)).setCell ⟨gz, 4, none⟩ (.int .i64 (c + 1))).setCell ⟨gz, 5, none⟩ (.slice pw l1.length cw)) := (((((Kp.set1 (g := gz)).trans1 Kp.set1).trans1 Kp.set1).trans1 Kp.set1).trans1 Kp.set1).trans1 Kp.set1
        have BY' : Hid (Box ((((((Vb3.setCell ⟨gz, 0, none⟩ (.int .i64 (e + 1))).setCell ⟨gz, 1, none⟩ (.int .i64 r)).setCell ⟨gz, 2, none⟩ (.int .i64 a)).setCell ⟨gz, 3, none⟩ (.int .i64 b)).setCell ⟨gz, 4, none⟩ (.int .i64 (c + 1))).setCell ⟨gz, 5, none⟩ (.slice pw l1.length cw)) gz [.int .i64 (e + 1), .int .i64 r, .int .i64 a, .int .i64 b, .int .i64 (c + 1), .slice pw l1.length cw]) := BZ.out.s6
        replace BX : Hid (Box ((((((Vb3.setCell ⟨gz, 0, none⟩ (.int .i64 (e + 1))).setCell ⟨gz, 1, none⟩ (.int .i64 r)).setCell ⟨gz, 2, none⟩ (.int .i64 a)).setCell ⟨gz, 3, none⟩ (.int .i64 b)).setCell ⟨gz, 4, none⟩ (.int .i64 (c + 1))).setCell ⟨gz, 5, none⟩ (.slice pw l1.length cw)) W5.heap.size [.int .i64 e, .int .i64 o, .int .i64 a, .int .i64 b, .int .i64 (c + 1), .slice pX l1.length qX]) := BX.out.kp kz (by have := GE.out; have := LBX.out; omega)
        have RY : Hid (IR VaW.heap.size ((((((Vb3.setCell ⟨gz, 0, none⟩ (.int .i64 (e + 1))).setCell ⟨gz, 1, none⟩ (.int .i64 r)).setCell ⟨gz, 2, none⟩ (.int .i64 a)).setCell ⟨gz, 3, none⟩ (.int .i64 b)).setCell ⟨gz, 4, none⟩ (.int .i64 (c + 1))).setCell ⟨gz, 5, none⟩ (.slice pw l1.length cw)).heap.size ((((((Vb3.setCell ⟨gz, 0, none⟩ (.int .i64 (e + 1))).setCell ⟨gz, 1, none⟩ (.int .i64 r)).setCell ⟨gz, 2, none⟩ (.int .i64 a)).setCell ⟨gz, 3, none⟩ (.int .i64 b)).setCell ⟨gz, 4, none⟩ (.int .i64 (c + 1))).setCell ⟨gz, 5, none⟩ (.slice pw l1.length cw)) pw l1) := ir_store RN.out kz NV.out (by simp [World.setCell])
        have HY : Hid (Below VaW.heap.size VaW ((((((Vb3.setCell ⟨gz, 0, none⟩ (.int .i64 (e + 1))).setCell ⟨gz, 1, none⟩ (.int .i64 r)).setCell ⟨gz, 2, none⟩ (.int .i64 a)).setCell ⟨gz, 3, none⟩ (.int .i64 b)).setCell ⟨gz, 4, none⟩ (.int .i64 (c + 1))).setCell ⟨gz, 5, none⟩ (.slice pw l1.length cw))) := HC.out.trans (kz.below HC.out.size (fun x hx e => by have := GE.out; omega))
        refine hK.out _ _ BX.out.c6 (fun hHeld' => ?_)
        clear hK K hHeld z0 z1 z2 z3 z4 z5 y0 y1 y2 y3 y4 y5 kz
        have hHeld := hHeld'
        clear hHeld'
        refine wLy ?_
        refine wTk 9 ?_
        refine wpAnyH_done (by kernel_rfl) ?_ _
        clear hHeld
        go_wp2
        go_meet
        case rel => exact ⟨gz, pw, cw, rfl, rfl, BY'.out, RY.out.mr.row.weak (Nat.zero_le _), HY.out⟩
    case rest =>
      obtain ⟨gT, pT, qT, rfl, rfl, hBx, hRr, hb⟩ := hcut
      generalize wc = VbW at *
      replace HB : Hid (Below w.heap.size w VbW) := HB.out.trans (hb.mono HB.out.size)
      replace RG : Hid (GRow 0 VbW p (flatD l)) := RG.out.next hb
      replace BG : Hid (Box VbW W1.heap.size [.int .i64 e, .int .i64 o, .int .i64 a, .int .i64 b, .int .i64 c, .slice p l.length q]) := BG.out.next hb
      replace BD : Hid (Box VbW W3.heap.size [.int .i64 2, .int .i64 (c + 1)]) := BD.out.next hb
      replace RX : Hid (GRow 0 VbW pX (flatD l1)) := RX.out.next hb
      replace BX : Hid (Box VbW W5.heap.size [.int .i64 e, .int .i64 o, .int .i64 a, .int .i64 b, .int .i64 (c + 1), .slice pX l1.length qX]) := BX.out.next hb
      replace RY : Hid (GRow 0 VbW pY (flatD l1)) := RY.out.next hb
      replace BY : Hid (Box VbW W7.heap.size [.int .i64 e, .int .i64 o, .int .i64 a, .int .i64 b, .int .i64 (c + 1), .slice pY l1.length qY]) := BY.out.next hb
      have BT : Hid (Box VbW gT [.int .i64 (e + 1), .int .i64 r, .int .i64 a, .int .i64 b, .int .i64 (c + 1), .slice pT l1.length qT]) := hBx
      have RT : Hid (GRow 0 VbW pT (flatD l1)) := hRr
      clear hb hBx hRr
      obtain ⟨BT0, BT1, BT2, BT3, BT4, BT5⟩ := BT.out.c6
      obtain ⟨BG0, BG1, BG2, BG3, BG4, BG5⟩ := BG.out.c6
      obtain ⟨BD0, BD1⟩ := BD.out.c2
      go_wp2_with fail
      refine (C5.out _ _ _ _ RT.out).mono ?_
      rintro r' W9 ⟨pO, qO, rfl, hM, hb⟩
      clear BT0 BT1 BT2 BT3 BT4 BT5
      clear BG0 BG1 BG2 BG3 BG4 BG5
      clear BD0 BD1
      replace HB : Hid (Below w.heap.size w W9) := HB.out.trans (hb.mono HB.out.size)
      replace RG : Hid (GRow 0 W9 p (flatD l)) := RG.out.next hb
      replace BG : Hid (Box W9 W1.heap.size [.int .i64 e, .int .i64 o, .int .i64 a, .int .i64 b, .int .i64 c, .slice p l.length q]) := BG.out.next hb
      replace BD : Hid (Box W9 W3.heap.size [.int .i64 2, .int .i64 (c + 1)]) := BD.out.next hb
      replace RX : Hid (GRow 0 W9 pX (flatD l1)) := RX.out.next hb
      replace BX : Hid (Box W9 W5.heap.size [.int .i64 e, .int .i64 o, .int .i64 a, .int .i64 b, .int .i64 (c + 1), .slice pX l1.length qX]) := BX.out.next hb
      replace RY : Hid (GRow 0 W9 pY (flatD l1)) := RY.out.next hb
      replace BY : Hid (Box W9 W7.heap.size [.int .i64 e, .int .i64 o, .int .i64 a, .int .i64 b, .int .i64 (c + 1), .slice pY l1.length qY]) := BY.out.next hb
      replace BT : Hid (Box W9 gT [.int .i64 (e + 1), .int .i64 r, .int .i64 a, .int .i64 b, .int .i64 (c + 1), .slice pT l1.length qT]) := BT.out.next hb
      replace RT : Hid (GRow 0 W9 pT (flatD l1)) := RT.out.next hb
      have RO : Hid (GRow 0 W9 pO (flatD l1)) := hM.row.weak (Nat.zero_le _)
      clear hM hb
      go_upto_region 11 with fail
      refine wp_gen (fun W => Below w.heap.size w W ∧ GRow 0 W p (flatD l) ∧ Box W W1.heap.size [.int .i64 e, .int .i64 o, .int .i64 a, .int .i64 b, .int .i64 c, .slice p l.length q] ∧ Box W W3.heap.size [.int .i64 2, .int .i64 (c + 1)] ∧ GRow 0 W pX (flatD l1) ∧ Box W W5.heap.size [.int .i64 e, .int .i64 o, .int .i64 a, .int .i64 b, .int .i64 (c + 1), .slice pX l1.length qX] ∧ GRow 0 W pY (flatD l1) ∧ Box W W7.heap.size [.int .i64 e, .int .i64 o, .int .i64 a, .int .i64 b, .int .i64 (c + 1), .slice pY l1.length qY] ∧ Box W gT [.int .i64 (e + 1), .int .i64 r, .int .i64 a, .int .i64 b, .int .i64 (c + 1), .slice pT l1.length qT] ∧ GRow 0 W pT (flatD l1) ∧ GRow 0 W pO (flatD l1) ∧ Box W W9.heap.size [.int .i64 (e + 1), .int .i64 r, .int .i64 a, .int .i64 b, .int .i64 (c + 1), .slice pO l1.length qO]) ⟨HB.out.trans ((bel_alloc _ _).mono HB.out.size), RG.out.next (bel_alloc _ _), BG.out.next (bel_alloc _ _), BD.out.next (bel_alloc _ _), RX.out.next (bel_alloc _ _), BX.out.next (bel_alloc _ _), RY.out.next (bel_alloc _ _), BY.out.next (bel_alloc _ _), BT.out.next (bel_alloc _ _), RT.out.next (bel_alloc _ _), RO.out.next (bel_alloc _ _), box_mk⟩ (fun W10 hI => ?_)
      obtain ⟨iHB, iRG, iBG, iBD, iRX, iBX, iRY, iBY, iBT, iRT, iRO, iBO⟩ := hI
      replace HB : Hid (Below w.heap.size w W10) := iHB
      replace RG : Hid (GRow 0 W10 p (flatD l)) := iRG
      replace BG : Hid (Box W10 W1.heap.size [.int .i64 e, .int .i64 o, .int .i64 a, .int .i64 b, .int .i64 c, .slice p l.length q]) := iBG
      replace BD : Hid (Box W10 W3.heap.size [.int .i64 2, .int .i64 (c + 1)]) := iBD
      replace RX : Hid (GRow 0 W10 pX (flatD l1)) := iRX
      replace BX : Hid (Box W10 W5.heap.size [.int .i64 e, .int .i64 o, .int .i64 a, .int .i64 b, .int .i64 (c + 1), .slice pX l1.length qX]) := iBX
      replace RY : Hid (GRow 0 W10 pY (flatD l1)) := iRY
      replace BY : Hid (Box W10 W7.heap.size [.int .i64 e, .int .i64 o, .int .i64 a, .int .i64 b, .int .i64 (c + 1), .slice pY l1.length qY]) := iBY
      replace BT : Hid (Box W10 gT [.int .i64 (e + 1), .int .i64 r, .int .i64 a, .int .i64 b, .int .i64 (c + 1), .slice pT l1.length qT]) := iBT
      replace RT : Hid (GRow 0 W10 pT (flatD l1)) := iRT
      replace RO : Hid (GRow 0 W10 pO (flatD l1)) := iRO
      have BO : Hid (Box W10 W9.heap.size [.int .i64 (e + 1), .int .i64 r, .int .i64 a, .int .i64 b, .int .i64 (c + 1), .slice pO l1.length qO]) := iBO
      clear iHB iRG iBG iBD iRX iBX iRY iBY iBT iRT iRO iBO
      have OBO : Hid (W9.heap.size < W10.heap.size) := BO.out.lt
      obtain ⟨BT0, BT1, BT2, BT3, BT4, BT5⟩ := BT.out.c6
      obtain ⟨BD0, BD1⟩ := BD.out.c2
      go_wp2_with fail
      refine (C6.out _ _ _ _ RT.out).mono ?_
      rintro r' W11 ⟨pZ, qZ, rfl, hM, hb⟩
      clear BT0 BT1 BT2 BT3 BT4 BT5
      clear BD0 BD1
      replace HB : Hid (Below w.heap.size w W11) := HB.out.trans (hb.mono HB.out.size)
      replace RG : Hid (GRow 0 W11 p (flatD l)) := RG.out.next hb
      replace BG : Hid (Box W11 W1.heap.size [.int .i64 e, .int .i64 o, .int .i64 a, .int .i64 b, .int .i64 c, .slice p l.length q]) := BG.out.next hb
      replace BD : Hid (Box W11 W3.heap.size [.int .i64 2, .int .i64 (c + 1)]) := BD.out.next hb
      replace RX : Hid (GRow 0 W11 pX (flatD l1)) := RX.out.next hb
      replace BX : Hid (Box W11 W5.heap.size [.int .i64 e, .int .i64 o, .int .i64 a, .int .i64 b, .int .i64 (c + 1), .slice pX l1.length qX]) := BX.out.next hb
      replace RY : Hid (GRow 0 W11 pY (flatD l1)) := RY.out.next hb
      replace BY : Hid (Box W11 W7.heap.size [.int .i64 e, .int .i64 o, .int .i64 a, .int .i64 b, .int .i64 (c + 1), .slice pY l1.length qY]) := BY.out.next hb
      replace BT : Hid (Box W11 gT [.int .i64 (e + 1), .int .i64 r, .int .i64 a, .int .i64 b, .int .i64 (c + 1), .slice pT l1.length qT]) := BT.out.next hb
      replace RT : Hid (GRow 0 W11 pT (flatD l1)) := RT.out.next hb
      replace RO : Hid (GRow 0 W11 pO (flatD l1)) := RO.out.next hb
      replace BO : Hid (Box W11 W9.heap.size [.int .i64 (e + 1), .int .i64 r, .int .i64 a, .int .i64 b, .int .i64 (c + 1), .slice pO l1.length qO]) := BO.out.next hb
      have RZ : Hid (GRow 0 W11 pZ (flatD l2)) := hM.row.weak (Nat.zero_le _)
      clear hM hb
      go_upto_region 12 with fail
      refine wp_gen (fun W => Below w.heap.size w W ∧ GRow 0 W p (flatD l) ∧ Box W W1.heap.size [.int .i64 e, .int .i64 o, .int .i64 a, .int .i64 b, .int .i64 c, .slice p l.length q] ∧ Box W W3.heap.size [.int .i64 2, .int .i64 (c + 1)] ∧ GRow 0 W pX (flatD l1) ∧ Box W W5.heap.size [.int .i64 e, .int .i64 o, .int .i64 a, .int .i64 b, .int .i64 (c + 1), .slice pX l1.length qX] ∧ GRow 0 W pY (flatD l1) ∧ Box W W7.heap.size [.int .i64 e, .int .i64 o, .int .i64 a, .int .i64 b, .int .i64 (c + 1), .slice pY l1.length qY] ∧ Box W gT [.int .i64 (e + 1), .int .i64 r, .int .i64 a, .int .i64 b, .int .i64 (c + 1), .slice pT l1.length qT] ∧ GRow 0 W pT (flatD l1) ∧ GRow 0 W pO (flatD l1) ∧ Box W W9.heap.size [.int .i64 (e + 1), .int .i64 r, .int .i64 a, .int .i64 b, .int .i64 (c + 1), .slice pO l1.length qO] ∧ GRow 0 W pZ (flatD l2) ∧ Box W W11.heap.size [.int .i64 (e + 1), .int .i64 r, .int .i64 a, .int .i64 b, .int .i64 (c + 1 + 1), .slice pZ l2.length qZ]) ⟨HB.out.trans ((bel_alloc _ _).mono HB.out.size), RG.out.next (bel_alloc _ _), BG.out.next (bel_alloc _ _), BD.out.next (bel_alloc _ _), RX.out.next (bel_alloc _ _), BX.out.next (bel_alloc _ _), RY.out.next (bel_alloc _ _), BY.out.next (bel_alloc _ _), BT.out.next (bel_alloc _ _), RT.out.next (bel_alloc _ _), RO.out.next (bel_alloc _ _), BO.out.next (bel_alloc _ _), RZ.out.next (bel_alloc _ _), box_mk⟩ (fun W12 hI => ?_)
      obtain ⟨iHB, iRG, iBG, iBD, iRX, iBX, iRY, iBY, iBT, iRT, iRO, iBO, iRZ, iBZ⟩ := hI
      replace HB : Hid (Below w.heap.size w W12) := iHB
      replace RG : Hid (GRow 0 W12 p (flatD l)) := iRG
      replace BG : Hid (Box W12 W1.heap.size [.int .i64 e, .int .i64 o, .int .i64 a, .int .i64 b, .int .i64 c, .slice p l.length q]) := iBG
      replace BD : Hid (Box W12 W3.heap.size [.int .i64 2, .int .i64 (c + 1)]) := iBD
      replace RX : Hid (GRow 0 W12 pX (flatD l1)) := iRX
      replace BX : Hid (Box W12 W5.heap.size [.int .i64 e, .int .i64 o, .int .i64 a, .int .i64 b, .int .i64 (c + 1), .slice pX l1.length qX]) := iBX
      replace RY : Hid (GRow 0 W12 pY (flatD l1)) := iRY
      replace BY : Hid (Box W12 W7.heap.size [.int .i64 e, .int .i64 o, .int .i64 a, .int .i64 b, .int .i64 (c + 1), .slice pY l1.length qY]) := iBY
      replace BT : Hid (Box W12 gT [.int .i64 (e + 1), .int .i64 r, .int .i64 a, .int .i64 b, .int .i64 (c + 1), .slice pT l1.length qT]) := iBT
      replace RT : Hid (GRow 0 W12 pT (flatD l1)) := iRT
      replace RO : Hid (GRow 0 W12 pO (flatD l1)) := iRO
      replace BO : Hid (Box W12 W9.heap.size [.int .i64 (e + 1), .int .i64 r, .int .i64 a, .int .i64 b, .int .i64 (c + 1), .slice pO l1.length qO]) := iBO
      replace RZ : Hid (GRow 0 W12 pZ (flatD l2)) := iRZ
      have BZ : Hid (Box W12 W11.heap.size [.int .i64 (e + 1), .int .i64 r, .int .i64 a, .int .i64 b, .int .i64 (c + 1 + 1), .slice pZ l2.length qZ]) := iBZ
      clear iHB iRG iBG iBD iRX iBX iRY iBY iBT iRT iRO iBO iRZ iBZ
      have OBZ : Hid (W11.heap.size < W12.heap.size) := BZ.out.lt
      obtain ⟨BG0, BG1, BG2, BG3, BG4, BG5⟩ := BG.out.c6
      obtain ⟨BD0, BD1⟩ := BD.out.c2
      go_wp2_with fail
      refine (C7.out _ _ _ _ RG.out).mono ?_
      rintro r' W13 ⟨pV, qV, rfl, hM, hb⟩
      clear BG0 BG1 BG2 BG3 BG4 BG5
      clear BD0 BD1
      replace HB : Hid (Below w.heap.size w W13) := HB.out.trans (hb.mono HB.out.size)
      replace RG : Hid (GRow 0 W13 p (flatD l)) := RG.out.next hb
      replace BG : Hid (Box W13 W1.heap.size [.int .i64 e, .int .i64 o, .int .i64 a, .int .i64 b, .int .i64 c, .slice p l.length q]) := BG.out.next hb
      replace BD : Hid (Box W13 W3.heap.size [.int .i64 2, .int .i64 (c + 1)]) := BD.out.next hb
      replace RX : Hid (GRow 0 W13 pX (flatD l1)) := RX.out.next hb
      replace BX : Hid (Box W13 W5.heap.size [.int .i64 e, .int .i64 o, .int .i64 a, .int .i64 b, .int .i64 (c + 1), .slice pX l1.length qX]) := BX.out.next hb
      replace RY : Hid (GRow 0 W13 pY (flatD l1)) := RY.out.next hb
      replace BY : Hid (Box W13 W7.heap.size [.int .i64 e, .int .i64 o, .int .i64 a, .int .i64 b, .int .i64 (c + 1), .slice pY l1.length qY]) := BY.out.next hb
      replace BT : Hid (Box W13 gT [.int .i64 (e + 1), .int .i64 r, .int .i64 a, .int .i64 b, .int .i64 (c + 1), .slice pT l1.length qT]) := BT.out.next hb
      replace RT : Hid (GRow 0 W13 pT (flatD l1)) := RT.out.next hb
      replace RO : Hid (GRow 0 W13 pO (flatD l1)) := RO.out.next hb
      replace BO : Hid (Box W13 W9.heap.size [.int .i64 (e + 1), .int .i64 r, .int .i64 a, .int .i64 b, .int .i64 (c + 1), .slice pO l1.length qO]) := BO.out.next hb
      replace RZ : Hid (GRow 0 W13 pZ (flatD l2)) := RZ.out.next hb
      replace BZ : Hid (Box W13 W11.heap.size [.int .i64 (e + 1), .int .i64 r, .int .i64 a, .int .i64 b, .int .i64 (c + 1 + 1), .slice pZ l2.length qZ]) := BZ.out.next hb
      have RV : Hid (GRow 0 W13 pV (flatD l1)) := hM.row.weak (Nat.zero_le _)
      clear hM hb
      go_upto_region 13 with fail
      refine wp_gen (fun W => Below w.heap.size w W ∧ GRow 0 W p (flatD l) ∧ Box W W1.heap.size [.int .i64 e, .int .i64 o, .int .i64 a, .int .i64 b, .int .i64 c, .slice p l.length q] ∧ Box W W3.heap.size [.int .i64 2, .int .i64 (c + 1)] ∧ GRow 0 W pX (flatD l1) ∧ Box W W5.heap.size [.int .i64 e, .int .i64 o, .int .i64 a, .int .i64 b, .int .i64 (c + 1), .slice pX l1.length qX] ∧ GRow 0 W pY (flatD l1) ∧ Box W W7.heap.size [.int .i64 e, .int .i64 o, .int .i64 a, .int .i64 b, .int .i64 (c + 1), .slice pY l1.length qY] ∧ Box W gT [.int .i64 (e + 1), .int .i64 r, .int .i64 a, .int .i64 b, .int .i64 (c + 1), .slice pT l1.length qT] ∧ GRow 0 W pT (flatD l1) ∧ GRow 0 W pO (flatD l1) ∧ Box W W9.heap.size [.int .i64 (e + 1), .int .i64 r, .int .i64 a, .int .i64 b, .int .i64 (c + 1), .slice pO l1.length qO] ∧ GRow 0 W pZ (flatD l2) ∧ Box W W11.heap.size [.int .i64 (e + 1), .int .i64 r, .int .i64 a, .int .i64 b, .int .i64 (c + 1 + 1), .slice pZ l2.length qZ] ∧ GRow 0 W pV (flatD l1) ∧ Box W W13.heap.size [.int .i64 e, .int .i64 o, .int .i64 a, .int .i64 b, .int .i64 (c + 1), .slice pV l1.length qV]) ⟨HB.out.trans ((bel_alloc _ _).mono HB.out.size), RG.out.next (bel_alloc _ _), BG.out.next (bel_alloc _ _), BD.out.next (bel_alloc _ _), RX.out.next (bel_alloc _ _), BX.out.next (bel_alloc _ _), RY.out.next (bel_alloc _ _), BY.out.next (bel_alloc _ _), BT.out.next (bel_alloc _ _), RT.out.next (bel_alloc _ _), RO.out.next (bel_alloc _ _), BO.out.next (bel_alloc _ _), RZ.out.next (bel_alloc _ _), BZ.out.next (bel_alloc _ _), RV.out.next (bel_alloc _ _), box_mk⟩ (fun W14 hI => ?_)
      obtain ⟨iHB, iRG, iBG, iBD, iRX, iBX, iRY, iBY, iBT, iRT, iRO, iBO, iRZ, iBZ, iRV, iBV⟩ := hI
      replace HB : Hid (Below w.heap.size w W14) := iHB
      replace RG : Hid (GRow 0 W14 p (flatD l)) := iRG
      replace BG : Hid (Box W14 W1.heap.size [.int .i64 e, .int .i64 o, .int .i64 a, .int .i64 b, .int .i64 c, .slice p l.length q]) := iBG
      replace BD : Hid (Box W14 W3.heap.size [.int .i64 2, .int .i64 (c + 1)]) := iBD
      replace RX : Hid (GRow 0 W14 pX (flatD l1)) := iRX
      replace BX : Hid (Box W14 W5.heap.size [.int .i64 e, .int .i64 o, .int .i64 a, .int .i64 b, .int .i64 (c + 1), .slice pX l1.length qX]) := iBX
      replace RY : Hid (GRow 0 W14 pY (flatD l1)) := iRY
      replace BY : Hid (Box W14 W7.heap.size [.int .i64 e, .int .i64 o, .int .i64 a, .int .i64 b, .int .i64 (c + 1), .slice pY l1.length qY]) := iBY
      replace BT : Hid (Box W14 gT [.int .i64 (e + 1), .int .i64 r, .int .i64 a, .int .i64 b, .int .i64 (c + 1), .slice pT l1.length qT]) := iBT
      replace RT : Hid (GRow 0 W14 pT (flatD l1)) := iRT
      replace RO : Hid (GRow 0 W14 pO (flatD l1)) := iRO
      replace BO : Hid (Box W14 W9.heap.size [.int .i64 (e + 1), .int .i64 r, .int .i64 a, .int .i64 b, .int .i64 (c + 1), .slice pO l1.length qO]) := iBO
      replace RZ : Hid (GRow 0 W14 pZ (flatD l2)) := iRZ
      replace BZ : Hid (Box W14 W11.heap.size [.int .i64 (e + 1), .int .i64 r, .int .i64 a, .int .i64 b, .int .i64 (c + 1 + 1), .slice pZ l2.length qZ]) := iBZ
      replace RV : Hid (GRow 0 W14 pV (flatD l1)) := iRV
      have BV : Hid (Box W14 W13.heap.size [.int .i64 e, .int .i64 o, .int .i64 a, .int .i64 b, .int .i64 (c + 1), .slice pV l1.length qV]) := iBV
      clear iHB iRG iBG iBD iRX iBX iRY iBY iBT iRT iRO iBO iRZ iBZ iRV iBV
      have OBV : Hid (W13.heap.size < W14.heap.size) := BV.out.lt
      clear C1 C2 C3 C4 C5 C6 C7 RCD HA0
      have hz : (l2.length : Int) = (l.length : Int) + 2 := by have := HL.out; omega
      have hzw : IntKind.i64.wrap ((l.length : Int) + 2) = (l.length : Int) + 2 := by rw [IntKind.wrap_i64]; omega
      have hzz : ((l2.length : Int) == (l.length : Int) + 2) = true := by rw [hz]; simp
      clear hz
      have HZZ : Hid _ := hzz
      clear hzz
      go_upto_region 13 with fail
      refine wp_region_held_drew (S := (fun w' => (w'.cell? ⟨W5.heap.size, 0, none⟩ = some (.int .i64 e) ∧ w'.cell? ⟨W5.heap.size, 1, none⟩ = some (.int .i64 o) ∧ w'.cell? ⟨W5.heap.size, 2, none⟩ = some (.int .i64 a) ∧ w'.cell? ⟨W5.heap.size, 3, none⟩ = some (.int .i64 b) ∧ w'.cell? ⟨W5.heap.size, 4, none⟩ = some (.int .i64 (c + 1)) ∧ w'.cell? ⟨W5.heap.size, 5, none⟩ = some (.slice pX l1.length qX)) ∧ (w'.cell? ⟨W13.heap.size, 0, none⟩ = some (.int .i64 e) ∧ w'.cell? ⟨W13.heap.size, 1, none⟩ = some (.int .i64 o) ∧ w'.cell? ⟨W13.heap.size, 2, none⟩ = some (.int .i64 a) ∧ w'.cell? ⟨W13.heap.size, 3, none⟩ = some (.int .i64 b) ∧ w'.cell? ⟨W13.heap.size, 4, none⟩ = some (.int .i64 (c + 1)) ∧ w'.cell? ⟨W13.heap.size, 5, none⟩ = some (.slice pV l1.length qV)) ∧ (w'.cell? ⟨W7.heap.size, 0, none⟩ = some (.int .i64 e) ∧ w'.cell? ⟨W7.heap.size, 1, none⟩ = some (.int .i64 o) ∧ w'.cell? ⟨W7.heap.size, 2, none⟩ = some (.int .i64 a) ∧ w'.cell? ⟨W7.heap.size, 3, none⟩ = some (.int .i64 b) ∧ w'.cell? ⟨W7.heap.size, 4, none⟩ = some (.int .i64 (c + 1)) ∧ w'.cell? ⟨W7.heap.size, 5, none⟩ = some (.slice pY l1.length qY)) ∧ (w'.cell? ⟨gT, 0, none⟩ = some (.int .i64 (e + 1)) ∧ w'.cell? ⟨gT, 1, none⟩ = some (.int .i64 r) ∧ w'.cell? ⟨gT, 2, none⟩ = some (.int .i64 a) ∧ w'.cell? ⟨gT, 3, none⟩ = some (.int .i64 b) ∧ w'.cell? ⟨gT, 4, none⟩ = some (.int .i64 (c + 1)) ∧ w'.cell? ⟨gT, 5, none⟩ = some (.slice pT l1.length qT)) ∧ (w'.cell? ⟨W1.heap.size, 0, none⟩ = some (.int .i64 e) ∧ w'.cell? ⟨W1.heap.size, 1, none⟩ = some (.int .i64 o) ∧ w'.cell? ⟨W1.heap.size, 2, none⟩ = some (.int .i64 a) ∧ w'.cell? ⟨W1.heap.size, 3, none⟩ = some (.int .i64 b) ∧ w'.cell? ⟨W1.heap.size, 4, none⟩ = some (.int .i64 c) ∧ w'.cell? ⟨W1.heap.size, 5, none⟩ = some (.slice p l.length q)) ∧ (w'.cell? ⟨W9.heap.size, 0, none⟩ = some (.int .i64 (e + 1)) ∧ w'.cell? ⟨W9.heap.size, 1, none⟩ = some (.int .i64 r) ∧ w'.cell? ⟨W9.heap.size, 2, none⟩ = some (.int .i64 a) ∧ w'.cell? ⟨W9.heap.size, 3, none⟩ = some (.int .i64 b) ∧ w'.cell? ⟨W9.heap.size, 4, none⟩ = some (.int .i64 (c + 1)) ∧ w'.cell? ⟨W9.heap.size, 5, none⟩ = some (.slice pO l1.length qO)) ∧ (w'.cell? ⟨W11.heap.size, 0, none⟩ = some (.int .i64 (e + 1)) ∧ w'.cell? ⟨W11.heap.size, 1, none⟩ = some (.int .i64 r) ∧ w'.cell? ⟨W11.heap.size, 2, none⟩ = some (.int .i64 a) ∧ w'.cell? ⟨W11.heap.size, 3, none⟩ = some (.int .i64 b) ∧ w'.cell? ⟨W11.heap.size, 4, none⟩ = some (.int .i64 (c + 1 + 1)) ∧ w'.cell? ⟨W11.heap.size, 5, none⟩ = some (.slice pZ l2.length qZ)))) (by kernel_rfl) ?_ (fun hHeld => ?_)
      · (try dsimp only)
        exact ⟨(BX.out.next (bel_drew _)).c6, (BV.out.next (bel_drew _)).c6, (BY.out.next (bel_drew _)).c6, (BT.out.next (bel_drew _)).c6, (BG.out.next (bel_drew _)).c6, (BO.out.next (bel_drew _)).c6, (BZ.out.next (bel_drew _)).c6⟩
      have hbd := bel_drew W14
      replace HB : Hid (Below w.heap.size w W14.drew) := HB.out.trans (hbd.mono HB.out.size)
      replace RG : Hid (GRow 0 W14.drew p (flatD l)) := RG.out.next hbd
      replace BG : Hid (Box W14.drew W1.heap.size [.int .i64 e, .int .i64 o, .int .i64 a, .int .i64 b, .int .i64 c, .slice p l.length q]) := BG.out.next hbd
      replace BD : Hid (Box W14.drew W3.heap.size [.int .i64 2, .int .i64 (c + 1)]) := BD.out.next hbd
      replace RX : Hid (GRow 0 W14.drew pX (flatD l1)) := RX.out.next hbd
      replace BX : Hid (Box W14.drew W5.heap.size [.int .i64 e, .int .i64 o, .int .i64 a, .int .i64 b, .int .i64 (c + 1), .slice pX l1.length qX]) := BX.out.next hbd
      replace RY : Hid (GRow 0 W14.drew pY (flatD l1)) := RY.out.next hbd
      replace BY : Hid (Box W14.drew W7.heap.size [.int .i64 e, .int .i64 o, .int .i64 a, .int .i64 b, .int .i64 (c + 1), .slice pY l1.length qY]) := BY.out.next hbd
      replace BT : Hid (Box W14.drew gT [.int .i64 (e + 1), .int .i64 r, .int .i64 a, .int .i64 b, .int .i64 (c + 1), .slice pT l1.length qT]) := BT.out.next hbd
      replace RT : Hid (GRow 0 W14.drew pT (flatD l1)) := RT.out.next hbd
      replace RO : Hid (GRow 0 W14.drew pO (flatD l1)) := RO.out.next hbd
      replace BO : Hid (Box W14.drew W9.heap.size [.int .i64 (e + 1), .int .i64 r, .int .i64 a, .int .i64 b, .int .i64 (c + 1), .slice pO l1.length qO]) := BO.out.next hbd
      replace RZ : Hid (GRow 0 W14.drew pZ (flatD l2)) := RZ.out.next hbd
      replace BZ : Hid (Box W14.drew W11.heap.size [.int .i64 (e + 1), .int .i64 r, .int .i64 a, .int .i64 b, .int .i64 (c + 1 + 1), .slice pZ l2.length qZ]) := BZ.out.next hbd
      replace RV : Hid (GRow 0 W14.drew pV (flatD l1)) := RV.out.next hbd
      replace BV : Hid (Box W14.drew W13.heap.size [.int .i64 e, .int .i64 o, .int .i64 a, .int .i64 b, .int .i64 (c + 1), .slice pV l1.length qV]) := BV.out.next hbd
      clear hbd
      generalize W14.drew = Vc0 at *
      simp only [List.append_eq, List.cons_append, List.nil_append]
      refine wTq 0 ?_
      refine wTq 1 ?_
      refine wTq 2 ?_
      refine wTq 3 ?_
      refine wTq 4 ?_
      refine wTq 5 ?_
      refine wTq 6 ?_
      refine wTq 7 ?_
      refine wRq 8 (fun K hK => ?_)
      go_simp
      go_at_call 13
      refine (sameG_yes _ _ _ _ _ _ l1 e o a b (c + 1) _ hm1 RX.out RV.out).mono ?_
      rintro r' Vc1 ⟨rfl, hb⟩
      (try simp only [])
      replace HB : Hid (Below w.heap.size w Vc1) := HB.out.trans (hb.mono HB.out.size)
      replace RG : Hid (GRow 0 Vc1 p (flatD l)) := RG.out.next hb
      replace BG : Hid (Box Vc1 W1.heap.size [.int .i64 e, .int .i64 o, .int .i64 a, .int .i64 b, .int .i64 c, .slice p l.length q]) := BG.out.next hb
      replace BD : Hid (Box Vc1 W3.heap.size [.int .i64 2, .int .i64 (c + 1)]) := BD.out.next hb
      replace RX : Hid (GRow 0 Vc1 pX (flatD l1)) := RX.out.next hb
      replace BX : Hid (Box Vc1 W5.heap.size [.int .i64 e, .int .i64 o, .int .i64 a, .int .i64 b, .int .i64 (c + 1), .slice pX l1.length qX]) := BX.out.next hb
      replace RY : Hid (GRow 0 Vc1 pY (flatD l1)) := RY.out.next hb
      replace BY : Hid (Box Vc1 W7.heap.size [.int .i64 e, .int .i64 o, .int .i64 a, .int .i64 b, .int .i64 (c + 1), .slice pY l1.length qY]) := BY.out.next hb
      replace BT : Hid (Box Vc1 gT [.int .i64 (e + 1), .int .i64 r, .int .i64 a, .int .i64 b, .int .i64 (c + 1), .slice pT l1.length qT]) := BT.out.next hb
      replace RT : Hid (GRow 0 Vc1 pT (flatD l1)) := RT.out.next hb
      replace RO : Hid (GRow 0 Vc1 pO (flatD l1)) := RO.out.next hb
      replace BO : Hid (Box Vc1 W9.heap.size [.int .i64 (e + 1), .int .i64 r, .int .i64 a, .int .i64 b, .int .i64 (c + 1), .slice pO l1.length qO]) := BO.out.next hb
      replace RZ : Hid (GRow 0 Vc1 pZ (flatD l2)) := RZ.out.next hb
      replace BZ : Hid (Box Vc1 W11.heap.size [.int .i64 (e + 1), .int .i64 r, .int .i64 a, .int .i64 b, .int .i64 (c + 1 + 1), .slice pZ l2.length qZ]) := BZ.out.next hb
      replace RV : Hid (GRow 0 Vc1 pV (flatD l1)) := RV.out.next hb
      replace BV : Hid (Box Vc1 W13.heap.size [.int .i64 e, .int .i64 o, .int .i64 a, .int .i64 b, .int .i64 (c + 1), .slice pV l1.length qV]) := BV.out.next hb
      refine wHk hK ⟨BX.out.c6, BV.out.c6, BY.out.c6, BT.out.c6, BG.out.c6, BO.out.c6, BZ.out.c6⟩ ?_
      clear hK K hHeld hb
      intro hHeld
      refine wTq 9 ?_
      refine wTq 10 ?_
      refine wTq 11 ?_
      refine wTq 12 ?_
      refine wTq 13 ?_
      refine wTq 14 ?_
      refine wTq 15 ?_
      refine wTq 16 ?_
      refine wTq 17 ?_
      refine wTq 18 ?_
      refine wTq 19 ?_
      refine wTq 20 ?_
      refine wRq 21 (fun K hK => ?_)
      go_simp
      go_at_call 13
      refine (sameG_yes _ _ _ _ _ _ l1 e o a b (c + 1) _ hm1 RX.out RY.out).mono ?_
      rintro r' Vc2 ⟨rfl, hb⟩
      (try simp only [])
      replace HB : Hid (Below w.heap.size w Vc2) := HB.out.trans (hb.mono HB.out.size)
      replace RG : Hid (GRow 0 Vc2 p (flatD l)) := RG.out.next hb
      replace BG : Hid (Box Vc2 W1.heap.size [.int .i64 e, .int .i64 o, .int .i64 a, .int .i64 b, .int .i64 c, .slice p l.length q]) := BG.out.next hb
      replace BD : Hid (Box Vc2 W3.heap.size [.int .i64 2, .int .i64 (c + 1)]) := BD.out.next hb
      replace RX : Hid (GRow 0 Vc2 pX (flatD l1)) := RX.out.next hb
      replace BX : Hid (Box Vc2 W5.heap.size [.int .i64 e, .int .i64 o, .int .i64 a, .int .i64 b, .int .i64 (c + 1), .slice pX l1.length qX]) := BX.out.next hb
      replace RY : Hid (GRow 0 Vc2 pY (flatD l1)) := RY.out.next hb
      replace BY : Hid (Box Vc2 W7.heap.size [.int .i64 e, .int .i64 o, .int .i64 a, .int .i64 b, .int .i64 (c + 1), .slice pY l1.length qY]) := BY.out.next hb
      replace BT : Hid (Box Vc2 gT [.int .i64 (e + 1), .int .i64 r, .int .i64 a, .int .i64 b, .int .i64 (c + 1), .slice pT l1.length qT]) := BT.out.next hb
      replace RT : Hid (GRow 0 Vc2 pT (flatD l1)) := RT.out.next hb
      replace RO : Hid (GRow 0 Vc2 pO (flatD l1)) := RO.out.next hb
      replace BO : Hid (Box Vc2 W9.heap.size [.int .i64 (e + 1), .int .i64 r, .int .i64 a, .int .i64 b, .int .i64 (c + 1), .slice pO l1.length qO]) := BO.out.next hb
      replace RZ : Hid (GRow 0 Vc2 pZ (flatD l2)) := RZ.out.next hb
      replace BZ : Hid (Box Vc2 W11.heap.size [.int .i64 (e + 1), .int .i64 r, .int .i64 a, .int .i64 b, .int .i64 (c + 1 + 1), .slice pZ l2.length qZ]) := BZ.out.next hb
      replace RV : Hid (GRow 0 Vc2 pV (flatD l1)) := RV.out.next hb
      replace BV : Hid (Box Vc2 W13.heap.size [.int .i64 e, .int .i64 o, .int .i64 a, .int .i64 b, .int .i64 (c + 1), .slice pV l1.length qV]) := BV.out.next hb
      refine wHk hK ⟨BX.out.c6, BV.out.c6, BY.out.c6, BT.out.c6, BG.out.c6, BO.out.c6, BZ.out.c6⟩ ?_
      clear hK K hHeld hb
      intro hHeld
      refine wTq 22 ?_
      refine wTq 23 ?_
      refine wTq 24 ?_
      refine wTq 25 ?_
      refine wTq 26 ?_
      refine wTq 27 ?_
      refine wTq 28 ?_
      refine wTq 29 ?_
      refine wTq 30 ?_
      refine wTq 31 ?_
      refine wTq 32 ?_
      refine wTq 33 ?_
      refine wTq 34 ?_
      refine wTq 35 ?_
      refine wTq 36 ?_
      refine wTq 37 ?_
      refine wTq 38 ?_
      refine wTq 39 ?_
      refine wTq 40 ?_
      refine wTq 41 ?_
      refine wTq 42 ?_
      refine wRq 43 (fun K hK => ?_)
      go_simp
      go_at_call 9
      refine (HA1.out _ HB.out).mono ?_
      rintro r' Vc3 ⟨rfl, hb⟩
      (try simp only [])
      replace HB : Hid (Below w.heap.size w Vc3) := HB.out.trans (hb.mono HB.out.size)
      replace RG : Hid (GRow 0 Vc3 p (flatD l)) := RG.out.next hb
      replace BG : Hid (Box Vc3 W1.heap.size [.int .i64 e, .int .i64 o, .int .i64 a, .int .i64 b, .int .i64 c, .slice p l.length q]) := BG.out.next hb
      replace BD : Hid (Box Vc3 W3.heap.size [.int .i64 2, .int .i64 (c + 1)]) := BD.out.next hb
      replace RX : Hid (GRow 0 Vc3 pX (flatD l1)) := RX.out.next hb
      replace BX : Hid (Box Vc3 W5.heap.size [.int .i64 e, .int .i64 o, .int .i64 a, .int .i64 b, .int .i64 (c + 1), .slice pX l1.length qX]) := BX.out.next hb
      replace RY : Hid (GRow 0 Vc3 pY (flatD l1)) := RY.out.next hb
      replace BY : Hid (Box Vc3 W7.heap.size [.int .i64 e, .int .i64 o, .int .i64 a, .int .i64 b, .int .i64 (c + 1), .slice pY l1.length qY]) := BY.out.next hb
      replace BT : Hid (Box Vc3 gT [.int .i64 (e + 1), .int .i64 r, .int .i64 a, .int .i64 b, .int .i64 (c + 1), .slice pT l1.length qT]) := BT.out.next hb
      replace RT : Hid (GRow 0 Vc3 pT (flatD l1)) := RT.out.next hb
      replace RO : Hid (GRow 0 Vc3 pO (flatD l1)) := RO.out.next hb
      replace BO : Hid (Box Vc3 W9.heap.size [.int .i64 (e + 1), .int .i64 r, .int .i64 a, .int .i64 b, .int .i64 (c + 1), .slice pO l1.length qO]) := BO.out.next hb
      replace RZ : Hid (GRow 0 Vc3 pZ (flatD l2)) := RZ.out.next hb
      replace BZ : Hid (Box Vc3 W11.heap.size [.int .i64 (e + 1), .int .i64 r, .int .i64 a, .int .i64 b, .int .i64 (c + 1 + 1), .slice pZ l2.length qZ]) := BZ.out.next hb
      replace RV : Hid (GRow 0 Vc3 pV (flatD l1)) := RV.out.next hb
      replace BV : Hid (Box Vc3 W13.heap.size [.int .i64 e, .int .i64 o, .int .i64 a, .int .i64 b, .int .i64 (c + 1), .slice pV l1.length qV]) := BV.out.next hb
      refine wHk hK ⟨BX.out.c6, BV.out.c6, BY.out.c6, BT.out.c6, BG.out.c6, BO.out.c6, BZ.out.c6⟩ ?_
      clear hK K hHeld hb
      intro hHeld
      refine wTq 44 ?_
      refine wTq 45 ?_
      refine wTq 46 ?_
      refine wTq 47 ?_
      refine wTq 48 ?_
      refine wTq 49 ?_
      refine wTq 50 ?_
      refine wTq 51 ?_
      refine wTq 52 ?_
      refine wRq 53 (fun K hK => ?_)
      go_simp
      go_at_call 13
      refine (sameG_yes _ _ _ _ _ _ l1 (e + 1) r a b (c + 1) _ hm1 RO.out RT.out).mono ?_
      rintro r' Vc4 ⟨rfl, hb⟩
      (try simp only [])
      replace HB : Hid (Below w.heap.size w Vc4) := HB.out.trans (hb.mono HB.out.size)
      replace RG : Hid (GRow 0 Vc4 p (flatD l)) := RG.out.next hb
      replace BG : Hid (Box Vc4 W1.heap.size [.int .i64 e, .int .i64 o, .int .i64 a, .int .i64 b, .int .i64 c, .slice p l.length q]) := BG.out.next hb
      replace BD : Hid (Box Vc4 W3.heap.size [.int .i64 2, .int .i64 (c + 1)]) := BD.out.next hb
      replace RX : Hid (GRow 0 Vc4 pX (flatD l1)) := RX.out.next hb
      replace BX : Hid (Box Vc4 W5.heap.size [.int .i64 e, .int .i64 o, .int .i64 a, .int .i64 b, .int .i64 (c + 1), .slice pX l1.length qX]) := BX.out.next hb
      replace RY : Hid (GRow 0 Vc4 pY (flatD l1)) := RY.out.next hb
      replace BY : Hid (Box Vc4 W7.heap.size [.int .i64 e, .int .i64 o, .int .i64 a, .int .i64 b, .int .i64 (c + 1), .slice pY l1.length qY]) := BY.out.next hb
      replace BT : Hid (Box Vc4 gT [.int .i64 (e + 1), .int .i64 r, .int .i64 a, .int .i64 b, .int .i64 (c + 1), .slice pT l1.length qT]) := BT.out.next hb
      replace RT : Hid (GRow 0 Vc4 pT (flatD l1)) := RT.out.next hb
      replace RO : Hid (GRow 0 Vc4 pO (flatD l1)) := RO.out.next hb
      replace BO : Hid (Box Vc4 W9.heap.size [.int .i64 (e + 1), .int .i64 r, .int .i64 a, .int .i64 b, .int .i64 (c + 1), .slice pO l1.length qO]) := BO.out.next hb
      replace RZ : Hid (GRow 0 Vc4 pZ (flatD l2)) := RZ.out.next hb
      replace BZ : Hid (Box Vc4 W11.heap.size [.int .i64 (e + 1), .int .i64 r, .int .i64 a, .int .i64 b, .int .i64 (c + 1 + 1), .slice pZ l2.length qZ]) := BZ.out.next hb
      replace RV : Hid (GRow 0 Vc4 pV (flatD l1)) := RV.out.next hb
      replace BV : Hid (Box Vc4 W13.heap.size [.int .i64 e, .int .i64 o, .int .i64 a, .int .i64 b, .int .i64 (c + 1), .slice pV l1.length qV]) := BV.out.next hb
      refine wHk hK ⟨BX.out.c6, BV.out.c6, BY.out.c6, BT.out.c6, BG.out.c6, BO.out.c6, BZ.out.c6⟩ ?_
      clear hK K hHeld hb
      intro hHeld
      refine wTq 54 ?_
      refine wTq 55 ?_
      refine wTq 56 ?_
      refine wTq 57 ?_
      refine wTq 58 ?_
      refine wTq 59 ?_
      refine wTq 60 ?_
      refine wTq 61 ?_
      refine wTq 62 ?_
      refine wTq 63 ?_
      refine wTq 64 ?_
      refine wTq 65 ?_
      refine wTq 66 ?_
      refine wTq 67 ?_
      refine wTq 68 ?_
      refine wTq 69 ?_
      have hzz := HZZ.out
      refine wTq (v := .bool true) 70 ?_
      clear hzz
      refine wTq 71 ?_
      refine wTq 72 ?_
      refine wTq 73 ?_
      refine wRq 74 (fun K hK => ?_)
      go_simp
      go_at_call 14
      refine (C8.out _ _ _ _ RZ.out).mono ?_
      rintro r' Vc5 ⟨rfl, hb⟩
      (try simp only [])
      replace HB : Hid (Below w.heap.size w Vc5) := HB.out.trans (hb.mono HB.out.size)
      replace RG : Hid (GRow 0 Vc5 p (flatD l)) := RG.out.next hb
      replace BG : Hid (Box Vc5 W1.heap.size [.int .i64 e, .int .i64 o, .int .i64 a, .int .i64 b, .int .i64 c, .slice p l.length q]) := BG.out.next hb
      replace BD : Hid (Box Vc5 W3.heap.size [.int .i64 2, .int .i64 (c + 1)]) := BD.out.next hb
      replace RX : Hid (GRow 0 Vc5 pX (flatD l1)) := RX.out.next hb
      replace BX : Hid (Box Vc5 W5.heap.size [.int .i64 e, .int .i64 o, .int .i64 a, .int .i64 b, .int .i64 (c + 1), .slice pX l1.length qX]) := BX.out.next hb
      replace RY : Hid (GRow 0 Vc5 pY (flatD l1)) := RY.out.next hb
      replace BY : Hid (Box Vc5 W7.heap.size [.int .i64 e, .int .i64 o, .int .i64 a, .int .i64 b, .int .i64 (c + 1), .slice pY l1.length qY]) := BY.out.next hb
      replace BT : Hid (Box Vc5 gT [.int .i64 (e + 1), .int .i64 r, .int .i64 a, .int .i64 b, .int .i64 (c + 1), .slice pT l1.length qT]) := BT.out.next hb
      replace RT : Hid (GRow 0 Vc5 pT (flatD l1)) := RT.out.next hb
      replace RO : Hid (GRow 0 Vc5 pO (flatD l1)) := RO.out.next hb
      replace BO : Hid (Box Vc5 W9.heap.size [.int .i64 (e + 1), .int .i64 r, .int .i64 a, .int .i64 b, .int .i64 (c + 1), .slice pO l1.length qO]) := BO.out.next hb
      replace RZ : Hid (GRow 0 Vc5 pZ (flatD l2)) := RZ.out.next hb
      replace BZ : Hid (Box Vc5 W11.heap.size [.int .i64 (e + 1), .int .i64 r, .int .i64 a, .int .i64 b, .int .i64 (c + 1 + 1), .slice pZ l2.length qZ]) := BZ.out.next hb
      replace RV : Hid (GRow 0 Vc5 pV (flatD l1)) := RV.out.next hb
      replace BV : Hid (Box Vc5 W13.heap.size [.int .i64 e, .int .i64 o, .int .i64 a, .int .i64 b, .int .i64 (c + 1), .slice pV l1.length qV]) := BV.out.next hb
      refine wHk hK ⟨BX.out.c6, BV.out.c6, BY.out.c6, BT.out.c6, BG.out.c6, BO.out.c6, BZ.out.c6⟩ ?_
      clear hK K hHeld hb
      intro hHeld
      refine wTq 75 ?_
      refine wTq 76 ?_
      refine wRq 77 (fun K hK => ?_)
      go_simp
      go_at_call 15
      refine (implNew _).mono ?_
      rintro r' Vc6 ⟨rfl, hb⟩
      (try simp only [])
      replace HB : Hid (Below w.heap.size w Vc6) := HB.out.trans (hb.mono HB.out.size)
      replace RG : Hid (GRow 0 Vc6 p (flatD l)) := RG.out.next hb
      replace BG : Hid (Box Vc6 W1.heap.size [.int .i64 e, .int .i64 o, .int .i64 a, .int .i64 b, .int .i64 c, .slice p l.length q]) := BG.out.next hb
      replace BD : Hid (Box Vc6 W3.heap.size [.int .i64 2, .int .i64 (c + 1)]) := BD.out.next hb
      replace RX : Hid (GRow 0 Vc6 pX (flatD l1)) := RX.out.next hb
      replace BX : Hid (Box Vc6 W5.heap.size [.int .i64 e, .int .i64 o, .int .i64 a, .int .i64 b, .int .i64 (c + 1), .slice pX l1.length qX]) := BX.out.next hb
      replace RY : Hid (GRow 0 Vc6 pY (flatD l1)) := RY.out.next hb
      replace BY : Hid (Box Vc6 W7.heap.size [.int .i64 e, .int .i64 o, .int .i64 a, .int .i64 b, .int .i64 (c + 1), .slice pY l1.length qY]) := BY.out.next hb
      replace BT : Hid (Box Vc6 gT [.int .i64 (e + 1), .int .i64 r, .int .i64 a, .int .i64 b, .int .i64 (c + 1), .slice pT l1.length qT]) := BT.out.next hb
      replace RT : Hid (GRow 0 Vc6 pT (flatD l1)) := RT.out.next hb
      replace RO : Hid (GRow 0 Vc6 pO (flatD l1)) := RO.out.next hb
      replace BO : Hid (Box Vc6 W9.heap.size [.int .i64 (e + 1), .int .i64 r, .int .i64 a, .int .i64 b, .int .i64 (c + 1), .slice pO l1.length qO]) := BO.out.next hb
      replace RZ : Hid (GRow 0 Vc6 pZ (flatD l2)) := RZ.out.next hb
      replace BZ : Hid (Box Vc6 W11.heap.size [.int .i64 (e + 1), .int .i64 r, .int .i64 a, .int .i64 b, .int .i64 (c + 1 + 1), .slice pZ l2.length qZ]) := BZ.out.next hb
      replace RV : Hid (GRow 0 Vc6 pV (flatD l1)) := RV.out.next hb
      replace BV : Hid (Box Vc6 W13.heap.size [.int .i64 e, .int .i64 o, .int .i64 a, .int .i64 b, .int .i64 (c + 1), .slice pV l1.length qV]) := BV.out.next hb
      refine wHk hK ⟨BX.out.c6, BV.out.c6, BY.out.c6, BT.out.c6, BG.out.c6, BO.out.c6, BZ.out.c6⟩ ?_
      clear hK K hHeld hb
      intro hHeld
      refine wTq (v := .slice none 0 0) (hy := Or.inl ⟨by kernel_rfl, fun w' _ => by kernel_rfl⟩) 78 ?_
      refine wTq 79 ?_
      refine wTq 80 ?_
      refine wTq 81 ?_
      refine wTq 82 ?_
      refine wpAnyH_done (by kernel_rfl) ?_ _
      clear hHeld C8 HA1 BG BD BX BY BT BO BZ BV RG RX RY RT RO RZ RV
      go_wp2
      go_ret
      exact ⟨rfl, HB.out⟩
end Go.Proofs.Ytklajcdlacemaaa
