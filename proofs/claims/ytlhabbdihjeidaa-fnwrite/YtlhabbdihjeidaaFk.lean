/- What the law of writes wants. -/
import Derived.Test.YtlhabbdihjeidaaRows
import Derived.WalkKit
import Derived.WalkSpells
import Derived.WalkLawsBesides
import Derived.Deep.QuietTactic
import Derived.BigQuiet
import Derived.Deep.RegionHeld3
import Derived.Test.YtlhabbdihjeidaaOz
import Derived.Test.YtlhabbdihjeidaaWd
import Derived.Test.YtlhabbdihjeidaaCv
import Derived.Test.YtlhabbdihjeidaaSi
import Derived.LoopN
namespace Go.Proofs.Ytlhabbdihjeidaa
open Go.RowKit
set_option linter.unusedSimpArgs false
set_option linter.unusedVariables false

theorem row_bytes {W : World} {ao : Option Addr} {len cap : Nat} {zs : List Int} (hr : Gen.IsRow .u8 W ao len cap zs) (hl : 0 < len) : ∃ b off, ao = some ⟨b, off, none⟩ ∧ ∀ j, j < len → 0 ≤ zs.getD j 0 ∧ zs.getD j 0 ≤ 255 := by
  rcases hr with ⟨_, h, _⟩ | ⟨x, rfl, h1, h2, h3, h4, h5⟩
  · omega
  · obtain ⟨b, off, spot⟩ := x
    have c0 := h4 0 (by omega)
    have hspot : spot = none := by
      have := World.cell?_spot (a := _) (w := W) (by simpa [Addr.add] using c0)
      simpa using this
    subst hspot
    refine ⟨b, off, rfl, fun j hj => ?_⟩
    have hm : zs.getD j 0 ∈ zs := by
      rw [List.getD_eq_getElem?_getD, List.getElem?_eq_getElem (by omega)]
      exact List.getElem_mem _
    have hw := h5 _ hm
    generalize zs.getD j 0 = z at *
    have hmin : IntKind.u8.min = 0 := by decide
    have hmax : IntKind.u8.max = 255 := by decide
    simp [Lit.wf, hmin, hmax] at hw
    exact ⟨by omega, by omega⟩
theorem row_byte {W : World} {b off len cap : Nat} {zs : List Int} (hr : Gen.IsRow .u8 W (some ⟨b, off, none⟩) len cap zs) (j : Nat) (hj : j < len) : W.cell? ⟨b, off + j, none⟩ = some (.int .u8 (zs.getD j 0)) := by
  rcases hr with ⟨h, _⟩ | ⟨x, hx, h1, h2, h3, h4, h5⟩
  · cases h
  · cases hx
    have cj := h4 j (by omega)
    rw [add_none] at cj
    exact cj
set_option maxHeartbeats 4000000 in
theorem at_all (ao : Option Addr) (len cap : Nat) (zs : List Int) (i : Int) (n : Nat) (w : World) (hi0 : 0 ≤ i) (hi : i ≤ 2) (hn2 : 2 ≤ n) (hn : n ≤ 1048576) (hl : len ≤ 1048576) (hr0 : Gen.IsRow .u8 w ao len cap zs) :
    ∃ r : Nat, r < n ∧ ∀ W : World, Gen.IsRow .u8 W ao len cap zs → Calls Try.prog 17 #[.slice ao len cap, .int .i64 i, .int .i64 (n : Int)] W fun e w' => e = .returned (.int .i64 (r : Int)) ∧ Below W.heap.size W w' := by
  have h1' : ¬ (n : Int) ≤ 1 := by omega
  have hn0 : ¬ (n : Int) = 0 := by omega
  have hnb : ((n : Int) == 0) = false := beq_eq_false_iff_ne.2 hn0
  by_cases hz : len = 0
  · subst hz
    have q1 : IntKind.i64.wrap (i * 7) = i * 7 := by rw [IntKind.wrap_i64]; omega
    obtain ⟨r, hr⟩ : ∃ r : Nat, (i * 7).tmod (n : Int) = (r : Int) := ⟨((i * 7) % (n : Int)).toNat, by rw [Int.tmod_eq_emod_of_nonneg (by omega)]; have := Int.emod_nonneg (i * 7) hn0; omega⟩
    have hrl : r < n := by
      have h2 := Int.emod_lt_of_pos (i * 7) (show (0 : Int) < (n : Int) by omega)
      rw [Int.tmod_eq_emod_of_nonneg (by omega)] at hr
      omega
    have q2 : IntKind.i64.wrap (r : Int) = (r : Int) := by rw [IntKind.wrap_i64]; omega
    refine ⟨r, hrl, fun W _ => ?_⟩
    clear hr0
    go_enter Try.func17, Try.ntmps17
    go_wp2
    go_ret
    exact ⟨rfl, Below.refl _ _⟩
  have hl0 : ¬ (len : Int) = 0 := by omega
  have hlb : ((len : Int) == 0) = false := beq_eq_false_iff_ne.2 hl0
  obtain ⟨b, off, rfl, hcell⟩ := row_bytes hr0 (by omega)
  obtain ⟨a1, ha1, hb1⟩ : ∃ a1 : Nat, i.tmod (len : Int) = (a1 : Int) ∧ a1 < len := ⟨(i % (len : Int)).toNat, by rw [Int.tmod_eq_emod_of_nonneg hi0]; have := Int.emod_nonneg i hl0; omega, by have := Int.emod_lt_of_pos i (show (0 : Int) < (len : Int) by omega); have := Int.emod_nonneg i hl0; omega⟩
  obtain ⟨a2, ha2, hb2⟩ : ∃ a2 : Nat, (i + 1).tmod (len : Int) = (a2 : Int) ∧ a2 < len := ⟨((i + 1) % (len : Int)).toNat, by rw [Int.tmod_eq_emod_of_nonneg (by omega)]; have := Int.emod_nonneg (i + 1) hl0; omega, by have := Int.emod_lt_of_pos (i + 1) (show (0 : Int) < (len : Int) by omega); have := Int.emod_nonneg (i + 1) hl0; omega⟩
  obtain ⟨a3, ha3, hb3⟩ : ∃ a3 : Nat, i.tdiv (len : Int) = (a3 : Int) ∧ a3 ≤ 2 := ⟨(i / (len : Int)).toNat, by rw [Int.tdiv_eq_ediv_of_nonneg hi0]; have := Int.ediv_nonneg hi0 (show (0 : Int) ≤ (len : Int) by omega); omega, by have := Int.ediv_le_self (len : Int) hi0; omega⟩
  obtain ⟨p1, p1'⟩ := hcell a1 hb1
  obtain ⟨p2, p2'⟩ := hcell a2 hb2
  obtain ⟨z1, hz1⟩ : ∃ z1, zs.getD a1 0 = z1 := ⟨_, rfl⟩
  obtain ⟨z2, hz2⟩ : ∃ z2, zs.getD a2 0 = z2 := ⟨_, rfl⟩
  rw [hz1] at p1 p1'
  rw [hz2] at p2 p2'
  have k1 : (0 : Int) ≤ (a1 : Int) := by omega
  have k1' : (a1 : Int) < (len : Int) := by omega
  have k2 : (0 : Int) ≤ (a2 : Int) := by omega
  have k2' : (a2 : Int) < (len : Int) := by omega
  have q0 : IntKind.i64.wrap (i + 1) = i + 1 := by rw [IntKind.wrap_i64]; omega
  have q1 : IntKind.i64.wrap (a1 : Int) = (a1 : Int) := by rw [IntKind.wrap_i64]; omega
  have q2 : IntKind.i64.wrap (a2 : Int) = (a2 : Int) := by rw [IntKind.wrap_i64]; omega
  have q3 : IntKind.i64.wrap (a3 : Int) = (a3 : Int) := by rw [IntKind.wrap_i64]; omega
  have q4 : IntKind.i64.wrap z1 = z1 := by rw [IntKind.wrap_i64]; omega
  have q5 : IntKind.i64.wrap z2 = z2 := by rw [IntKind.wrap_i64]; omega
  have q6 : IntKind.i64.wrap (z1 * 31) = z1 * 31 := by rw [IntKind.wrap_i64]; omega
  have q7 : IntKind.i64.wrap (z1 * 31 + z2) = z1 * 31 + z2 := by rw [IntKind.wrap_i64]; omega
  have q8 : IntKind.i64.wrap (z1 * 31 + z2 + (a3 : Int)) = z1 * 31 + z2 + (a3 : Int) := by rw [IntKind.wrap_i64]; omega
  obtain ⟨r, hr, hrl⟩ : ∃ r : Nat, (z1 * 31 + z2 + (a3 : Int)).tmod (n : Int) = (r : Int) ∧ r < n := ⟨((z1 * 31 + z2 + (a3 : Int)) % (n : Int)).toNat, by rw [Int.tmod_eq_emod_of_nonneg (by omega)]; have := Int.emod_nonneg (z1 * 31 + z2 + (a3 : Int)) hn0; omega, by have := Int.emod_lt_of_pos (z1 * 31 + z2 + (a3 : Int)) (show (0 : Int) < (n : Int) by omega); have := Int.emod_nonneg (z1 * 31 + z2 + (a3 : Int)) hn0; omega⟩
  have q9 : IntKind.i64.wrap (r : Int) = (r : Int) := by rw [IntKind.wrap_i64]; omega
  refine ⟨r, hrl, fun W hW => ?_⟩
  have x1 := row_byte hW a1 hb1
  have x2 := row_byte hW a2 hb2
  rw [hz1] at x1
  rw [hz2] at x2
  clear hcell hr0 hW hz1 hz2
  go_enter Try.func17, Try.ntmps17
  go_wp2
  go_quiet (fail)
  go_wp2
  go_ret
  exact ⟨rfl, below_drewN (Below.refl _ _) _⟩
set_option maxHeartbeats 1000000 in
theorem implHas (a b c p n : Int) (r : Bool) (hr : Hid (decide (n ≤ comp a b c p) = r)) (hv : vvB a b c = true) (hd : dotB p n = true) (w : World) :
    Calls Try.prog 20 #[.agg #[.int .i64 a, .int .i64 b, .int .i64 c], .agg #[.int .i64 p, .int .i64 n]] w fun e w' => e = .returned (.tuple #[.bool r, .int .i64 0]) ∧ Below w.heap.size w w' := by
  have hp : Hid (0 ≤ p ∧ p < 3) := by
    unfold dotB at hd
    simp at hd
    exact ⟨by omega, by omega⟩
  go_enter Try.func20, Try.ntmps20
  go_wp2_with fail
  refine (impl_vv _ _ _ _).mono ?_
  rintro e w1 ⟨rfl, hb⟩
  have hS1 := vh_keep hb vh_start0
  clear hb
  obtain ⟨_c0, _c1, _c2, _c3, _c4, _hB, _hz⟩ := id hS1
  go_wp2_with fail
  refine (impl_dot _ _ _).mono ?_
  rintro e w2 ⟨rfl, hb⟩
  have hS2 := vh_keep hb hS1
  clear hb
  obtain ⟨_c0, _c1, _c2, _c3, _c4, _hB, _hz⟩ := id hS2
  go_wp2_with fail
  refine (knows_any a b c p n _ hp.out.1 hp.out.2).mono ?_
  rintro e w3 ⟨rfl, hb⟩
  have hS3 := vh_keep hb hS2
  clear hb
  obtain ⟨_c0, _c1, _c2, _c3, _c4, _hB, _hz⟩ := id hS3
  rw [hr.out]
  go_wp2_with fail
  go_ret2
  exact ⟨rfl, _hB⟩
/-- What a write leaves. -/
def WrP (W : World) (J : List Sib) (P Q R code : Int) (e : Ending) (w' : World) : Prop := ∃ z : Ov, (z.l = J ∧ z.a = P ∧ z.b = Q ∧ z.c = R) ∧ e = .returned (.tuple #[.agg #[.slice z.ao z.l.length z.cap, .int .i64 z.a, .int .i64 z.b, .int .i64 z.c], .int .i64 code]) ∧ Below W.heap.size W w' ∧ SibRow w' z.ao z.l ∧ z.l.length ≤ z.cap ∧ ∀ r, z.ao = some r → z.l ≠ [] → W.heap.size ≤ r.block
theorem wr_wrap {W w' : World} {J : List Sib} {P Q R code : Int} {e : Ending} {t : TypeId} (h : ∃ v, e = .returned (.tuple #[.agg #[v, .int .i64 P, .int .i64 Q, .int .i64 R], .int .i64 code]) ∧ Gro W w' (.slice none 0 0) v ∧ w'.ownsRow 0 t 4 v J.length (flat J)) : WrP W J P Q R code e w' := by
  obtain ⟨v, rfl, hG, hO⟩ := h
  obtain ⟨p, q, e, hr, _⟩ := owned_row hO
  subst e
  refine ⟨⟨p, q, J, P, Q, R⟩, ⟨rfl, rfl, rfl, rfl⟩, rfl, gbl hG, hr, ?_, ?_⟩
  · rcases hO.2 with ⟨h0, h1⟩ | ⟨g', cap', cur, h0, hb, hh, hnc, hm, hs, ht⟩
    · show J.length ≤ q
      omega
    · cases h0
      exact hnc
  · intro r hr' hl
    rcases hO.2 with ⟨h0, h1⟩ | ⟨g', cap', cur, h0, hb, hh, hnc, hm, hs, ht⟩
    · exact (hl (List.length_eq_zero_iff.1 h1)).elim
    · cases h0
      cases hr'
      rcases hG.fresh g' rfl with h' | h'
      · exact absurd h' Gro.none_ne
      · exact h'

theorem implWr (x : Ov) (X Y Z sp sn sv : Int) (sd : Bool) (J : List Sib) (P Q R code : Int) (hW : WRel x.l x.a x.b x.c X Y Z ⟨sp, sn, sv, sd⟩ J P Q R code) (W : World) (hm : x.l.length ≤ 100) (hr : SibRow W x.ao x.l) :
    Calls Try.prog 18 #[.agg #[.slice x.ao x.l.length x.cap, .int .i64 x.a, .int .i64 x.b, .int .i64 x.c], .agg #[.int .i64 X, .int .i64 Y, .int .i64 Z], .agg #[.int .i64 sp, .int .i64 sn], .int .i64 sv, .bool sd] W fun e w' => WrP W J P Q R code e w' :=
  (implWrite_any x.cap x.ao x.l x.a x.b x.c X Y Z sp sn sv sd J P Q R code hW W (by omega) hr).mono fun e w' h => wr_wrap h

theorem specWr (x : Ov) (X Y Z sp sn sv : Int) (sd : Bool) (J : List Sib) (P Q R code : Int) (hW : WRel x.l x.a x.b x.c X Y Z ⟨sp, sn, sv, sd⟩ J P Q R code) (W : World) (hm : x.l.length ≤ 100) (hr : SibRow W x.ao x.l) :
    Calls Try.prog 19 #[.agg #[.slice x.ao x.l.length x.cap, .int .i64 x.a, .int .i64 x.b, .int .i64 x.c], .agg #[.int .i64 X, .int .i64 Y, .int .i64 Z], .agg #[.int .i64 sp, .int .i64 sn], .int .i64 sv, .bool sd] W fun e w' => WrP W J P Q R code e w' :=
  (specWrite_any x.cap x.ao x.l x.a x.b x.c X Y Z sp sn sv sd J P Q R code hW W (by omega) hr).mono fun e w' h => wr_wrap h

theorem Rp.okL {V : Int → Int → Int × Bool} {k0 k1 k2 : Int} {l : List Sib} {a b c : Int} (h : Rp V k0 k1 k2 l a b c) (hl : l.length ≤ 100) (h0 : k0 ≤ 9999 ∧ k1 ≤ 9999 ∧ k2 ≤ 9999) : OkP l a b c := by
  have h3 := h.pos
  have h4 := h.le
  refine ⟨hl, decide_eq_true (by omega), fun i hi => ⟨(h.ok _ (List.getElem_mem hi)).1, decide_eq_true (h.ok _ (List.getElem_mem hi)).2, fun hi0 => dots_neg.2 ?_⟩⟩
  exact List.pairwise_iff_getElem.1 h.rise (i - 1) i (by omega) hi (by omega)
theorem pt_len (s : Sib) (l : List Sib) : (pt s l).length = l.length + 1 := by
  have := pts_len [s] l
  simpa [pts] using this
theorem fil_length (x y z : Int) (l : List Sib) : (fil x y z l).length ≤ l.length := List.length_filter_le _ _
/-- What the law's write makes of a replica. -/
structure WX (x : Ov) (X Y Z : Int) (nd : Nat) (v : Int) (J : List Sib) (P Q R : Int) : Prop where
  J : J = pt ⟨nd, 100, v, false⟩ (fil X Y Z x.l)
  P : P = if (nd : Int) = 0 then 100 else max x.a X
  Q : Q = if (nd : Int) = 1 then 100 else max x.b Y
  R : R = if (nd : Int) = 2 then 100 else max x.c Z
section
variable {V : Int → Int → Int × Bool} {m : Nat → Int} {x : Ov} {X Y Z v P Q R : Int} {nd : Nat} {J : List Sib}
theorem WX.rp (h : WX x X Y Z nd v J P Q R) (hx : RpO V m x) (h17 : H17 m) (hX : X ≤ 17 ∧ Y ≤ 17 ∧ Z ≤ 17) (hnd : nd < 3) (hv : 0 ≤ v ∧ v ≤ 999) : ∃ V', Rp V' 100 100 100 J P Q R := by
  have q1 := hx.le
  have q2 := hx.pos
  have q3 := h17.1
  have q4 := h17.2.1
  have q5 := h17.2.2
  have h3 : nd = 0 ∨ nd = 1 ∨ nd = 2 := by omega
  refine ⟨fun p n => if p = (nd : Int) ∧ n = 100 then (v, false) else V p n, ?_⟩
  rw [h.J]
  have hV : ∀ (p n : Int), n ≤ comp (m 0) (m 1) (m 2) p → (fun p n => if p = (nd : Int) ∧ n = 100 then (v, false) else V p n) p n = V p n := fun p n hn => by
    refine if_neg fun e => ?_
    have := comp_le (p := p) (a := m 0) (b := m 1) (c := m 2) (k0 := m 0) (k1 := m 1) (k2 := m 2) ⟨Int.le_refl _, Int.le_refl _, Int.le_refl _⟩ q3 q4 q5
    omega
  refine Rp.write (k0 := m 0) (k1 := m 1) (k2 := m 2) (V := V) (a := x.a) (b := x.b) (c := x.c) hx ⟨by omega, by omega, by omega⟩ hV ?_ ?_ ?_ ?_ ?_ ?_
  · have : dotB (nd : Int) 100 = true := decide_eq_true (by omega)
    unfold sibOK
    simp [this]
    omega
  · have := comp_le (p := (nd : Int)) (a := m 0) (b := m 1) (c := m 2) (k0 := m 0) (k1 := m 1) (k2 := m 2) ⟨Int.le_refl _, Int.le_refl _, Int.le_refl _⟩ q3 q4 q5
    show comp (m 0) (m 1) (m 2) (nd : Int) < 100
    omega
  · exact (if_pos ⟨rfl, rfl⟩).symm
  · rw [h.P, h.Q, h.R]
    rcases h3 with rfl | rfl | rfl <;> simp <;> omega
  · rw [h.P, h.Q, h.R]
    rcases h3 with rfl | rfl | rfl <;> simp <;> omega
  · rw [h.P, h.Q, h.R]
    rcases h3 with rfl | rfl | rfl <;> simp [comp]
theorem WX.len (h : WX x X Y Z nd v J P Q R) (hx : RpO V m x) (h17 : H17 m) : J.length ≤ 52 := by
  have := hx.len h17.1 h17.2.1 h17.2.2
  have h2 := fil_length X Y Z x.l
  rw [h.J, pt_len]
  omega
theorem WX.ok (h : WX x X Y Z nd v J P Q R) (hx : RpO V m x) (h17 : H17 m) (hX : X ≤ 17 ∧ Y ≤ 17 ∧ Z ≤ 17) (hnd : nd < 3) (hv : 0 ≤ v ∧ v ≤ 999) : OkP J P Q R := by
  obtain ⟨V', h'⟩ := h.rp hx h17 hX hnd hv
  have := h.len hx h17
  exact h'.okL (by omega) (by omega)
theorem WX.at100 (h : WX x X Y Z nd v J P Q R) (hnd : nd < 3) : comp P Q R (nd : Int) = 100 := by
  have h3 : nd = 0 ∨ nd = 1 ∨ nd = 2 := by omega
  rw [h.P, h.Q, h.R]
  rcases h3 with rfl | rfl | rfl <;> simp [comp]
theorem vv_17 {a b c : Int} (h0 : 0 ≤ a ∧ 0 ≤ b ∧ 0 ≤ c) (h : a ≤ 17 ∧ b ≤ 17 ∧ c ≤ 17) : vvB a b c = true := decide_eq_true (by omega)
theorem sib_100 (nd : Nat) (n v : Int) (hnd : nd < 3) (hn : 1 ≤ n ∧ n ≤ 9999) (hv : 0 ≤ v ∧ v ≤ 999) : sibOK (nd : Int) n v false = true := by
  have : dotB (nd : Int) n = true := decide_eq_true (by omega)
  unfold sibOK
  simp [this]
  omega
theorem sib_dead (nd : Nat) (n : Int) (hnd : nd < 3) (hn : 1 ≤ n ∧ n ≤ 9999) : sibOK (nd : Int) n 0 true = true := by
  have : dotB (nd : Int) n = true := decide_eq_true (by omega)
  unfold sibOK
  simp [this]
theorem WX.first (h : WX x X Y Z nd v J P Q R) (hx : RpO V m x) (h17 : H17 m) (hX : X ≤ 17 ∧ Y ≤ 17 ∧ Z ≤ 17) (hX0 : 0 ≤ X ∧ 0 ≤ Y ∧ 0 ≤ Z) (hnd : nd < 3) (hv : 0 ≤ v ∧ v ≤ 999) : WRel x.l x.a x.b x.c X Y Z ⟨nd, 100, v, false⟩ J P Q R 0 := by
  have hl := hx.len h17.1 h17.2.1 h17.2.2
  have g : WGood x.l x.a x.b x.c X Y Z ⟨nd, 100, v, false⟩ := ⟨hx.okP h17.1 h17.2.1 h17.2.2, vv_17 hX0 hX, sib_100 nd 100 v hnd (by omega) hv⟩
  have k : ¬ WKnown x.a x.b x.c X Y Z ⟨nd, 100, v, false⟩ := fun e => by
    have h1 := comp_le (p := (nd : Int)) hx.le h17.1 h17.2.1 h17.2.2
    have h2 := comp_le (p := (nd : Int)) (a := X) (b := Y) (c := Z) (k0 := X) (k1 := Y) (k2 := Z) ⟨Int.le_refl _, Int.le_refl _, Int.le_refl _⟩ hX.1 hX.2.1 hX.2.2
    rcases e with e | e <;> simp only at e <;> omega
  exact ⟨fun h' => (h' g).elim, fun _ h' => (k h').elim, fun _ _ h' => by omega, fun _ _ _ => ⟨h.J, h.P, h.Q, h.R, rfl⟩⟩
theorem fil_none {l : List Sib} {a b c : Int} (h : ∀ s ∈ l, s.n ≤ comp a b c s.p) : fil a b c l = [] := by
  unfold fil
  rw [List.filter_eq_nil_iff]
  intro s hs
  simp [h s hs]
theorem WX.over (h : WX x X Y Z nd v J P Q R) (hx : RpO V m x) (h17 : H17 m) (hX : X ≤ 17 ∧ Y ≤ 17 ∧ Z ≤ 17) (hnd : nd < 3) (hv : 0 ≤ v ∧ v ≤ 999) :
    WRel J P Q R P Q R ⟨nd, 101, 0, true⟩ [⟨nd, 101, 0, true⟩] (if (nd : Int) = 0 then 101 else max P P) (if (nd : Int) = 1 then 101 else max Q Q) (if (nd : Int) = 2 then 101 else max R R) 0 := by
  have ok := h.ok hx h17 hX hnd hv
  have hl := h.len hx h17
  have e1 := h.at100 hnd
  have g : WGood J P Q R P Q R ⟨nd, 101, 0, true⟩ := ⟨ok, ok.2.1, sib_dead nd 101 hnd (by omega)⟩
  have k : ¬ WKnown P Q R P Q R ⟨nd, 101, 0, true⟩ := fun e => by
    rcases e with e | e <;> simp only at e <;> omega
  refine ⟨fun h' => (h' g).elim, fun _ h' => (k h').elim, fun _ _ h' => by omega, fun _ _ _ => ⟨?_, rfl, rfl, rfl, rfl⟩⟩
  rw [fil_none (ok_known ok)]
  rfl
theorem WX.okO (h : WX x X Y Z nd v J P Q R) (hx : RpO V m x) (h17 : H17 m) (hX : X ≤ 17 ∧ Y ≤ 17 ∧ Z ≤ 17) (hnd : nd < 3) (hv : 0 ≤ v ∧ v ≤ 999) :
    OkP [⟨nd, 101, 0, true⟩] (if (nd : Int) = 0 then 101 else max P P) (if (nd : Int) = 1 then 101 else max Q Q) (if (nd : Int) = 2 then 101 else max R R) := by
  have ok := h.ok hx h17 hX hnd hv
  have hvv := of_decide_eq_true (show decide _ = true from ok.2.1)
  have h3 : nd = 0 ∨ nd = 1 ∨ nd = 2 := by omega
  refine ⟨by simp, decide_eq_true ?_, fun i hi => ?_⟩
  · rcases h3 with rfl | rfl | rfl <;> simp <;> omega
  · obtain rfl : i = 0 := by simpa using hi
    refine ⟨sib_dead nd 101 hnd (by omega), decide_eq_true ?_, fun h0 => by omega⟩
    show (101 : Int) ≤ _
    rcases h3 with rfl | rfl | rfl <;> simp [comp]
theorem WX.twice (h : WX x X Y Z nd v J P Q R) (hx : RpO V m x) (h17 : H17 m) (hX : X ≤ 17 ∧ Y ≤ 17 ∧ Z ≤ 17) (hX0 : 0 ≤ X ∧ 0 ≤ Y ∧ 0 ≤ Z) (hnd : nd < 3) (hv : 0 ≤ v ∧ v ≤ 999) : WRel J P Q R X Y Z ⟨nd, 100, 1, false⟩ J P Q R 17 := by
  have ok := h.ok hx h17 hX hnd hv
  have e1 := h.at100 hnd
  have g : WGood J P Q R X Y Z ⟨nd, 100, 1, false⟩ := ⟨ok, vv_17 hX0 hX, sib_100 nd 100 1 hnd (by omega) (by omega)⟩
  have k : WKnown P Q R X Y Z ⟨nd, 100, 1, false⟩ := .inl (by simp only; omega)
  exact ⟨fun h' => (h' g).elim, fun _ _ => ⟨rfl, rfl, rfl, rfl, rfl⟩, fun _ h' => (h' k).elim, fun _ h' => (h' k).elim⟩
theorem WX.knows (h : WX x X Y Z nd v J P Q R) (hx : RpO V m x) (h17 : H17 m) (hX : X ≤ 17 ∧ Y ≤ 17 ∧ Z ≤ 17) (hnd : nd < 3) (hv : 0 ≤ v ∧ v ≤ 999) : Knows P Q R J := fun i hi =>
  ((h.ok hx h17 hX hnd hv).2.2 i hi).2.1
theorem WX.none (h : WX x X Y Z nd v J P Q R) (hx : RpO V m x) (h17 : H17 m) (hX : X ≤ 17 ∧ Y ≤ 17 ∧ Z ≤ 17) (hnd : nd < 3) (hv : 0 ≤ v ∧ v ≤ 999) : ¬ Knows 0 0 0 J := fun hk => by
  have ok := h.ok hx h17 hX hnd hv
  have hl : 0 < J.length := by rw [h.J, pt_len]; omega
  have h1 := of_decide_eq_true (hk 0 hl)
  have h2 := sib_ok (ok.2.2 0 hl).1
  unfold comp at h1
  split at h1
  · omega
  · split at h1 <;> omega
end
end Go.Proofs.Ytlhabbdihjeidaa
