/- The texts of what is known, of siblings and of objects, on both sides. -/
import Derived.Test.YtgnacdhceiapkaaDoorRows
import Derived.WalkKit
import Derived.WalkSpells
import Derived.WalkLawsBesides
import Derived.Deep.QuietTactic
import Derived.BigQuiet
import Derived.Deep.RegionHeld3
import Derived.Test.YtgnacdhceiapkaaDoorDn
import Derived.Test.YtgnacdhceiapkaaDoorAp
import Derived.Test.YtgnacdhceiapkaaDoorJs
import Derived.LoopN
import Derived.Test.YtgnacdhceiapkaaDoorDt
import Derived.Deep.Cut
import Derived.Test.YtgnacdhceiapkaaDoorIo
import Derived.Test.YtgnacdhceiapkaaDoorLk
import Derived.Test.YtgnacdhceiapkaaDoorSp
import Derived.Test.YtgnacdhceiapkaaDoorSc
namespace Go.Proofs.YtgnacdhceiapkaaDoor
open Go.RowKit
set_option linter.unusedSimpArgs false
set_option linter.unusedVariables false
theorem info_str : (Tryd.prog.info? 9).map (fun i => (i.zero, i.size, i.bytes)) = some (some (.string ⟨#[]⟩), 1, 16) := by kernel_rfl
theorem own_cast' {w : World} {base e size n n' : Nat} {v : Value} {xs xs' : List Value} (h : w.ownsRow base e size v n xs) (h1 : n = n') (h2 : xs = xs') : w.ownsRow base e size v n' xs' := by subst h1; subst h2; exact h
theorem lit_cell {W : World} {v : Value} {t : TypeId} : ∀ j u, ([v] : List Value)[j]? = some u → (W.alloc (.cells #[v] t)).cell? ((⟨W.heap.size, 0, none⟩ : Addr).add j) = some u := by
  intro j u hu
  cases j with
  | zero => simp at hu; subst hu; show (W.alloc _).cell? ⟨W.heap.size, 0, none⟩ = _; go_simp
  | succ j => simp at hu
theorem nil_below {w w' : World} {v : Value} (h : Gro w w' (.slice none 0 0) v) : Below w.heap.size w w' := h.below (Nat.le_refl _) (fun k hk => by simp [Value.ownBlock] at hk)
def vj (X Y Z : List UInt8) : List UInt8 := X ++ (46 :: Y) ++ (46 :: Z)
theorem join3 (X Y Z : List UInt8) : Lib.join (([⟨X.toArray⟩, ⟨Y.toArray⟩, ⟨Z.toArray⟩] : List ByteArray).map (·.data.toList)) (⟨#[46]⟩ : ByteArray).data.toList = vj X Y Z := by
  simp [Lib.join_cons, Lib.joinTail, vj]
theorem row3 {w : World} {v : Value} {xs : List Value} (h : w.ownsRow 0 9 1 v 3 xs) : ∃ g cap, v = .slice (some ⟨g, 0, none⟩) 3 cap ∧ g < w.heap.size ∧ 3 ≤ cap ∧ ∀ j u, xs[j]? = some u → w.cell? ((⟨g, 0, none⟩ : Addr).add j) = some u := by
  have h0 := h
  rcases h.2 with ⟨_, h'⟩ | ⟨g, cap, cur, rfl, hbg, hg, hnc, r⟩
  · cases h'
  · refine ⟨g, cap, rfl, ?_, hnc, h0.cells (g := g) rfl⟩
    rcases Nat.lt_or_ge g w.heap.size with h' | h'
    · exact h'
    · rw [Array.getElem?_eq_none h'] at hg; cases hg
set_option maxHeartbeats 4000000 in
theorem impl_vtext (a b c : Int) (X Y Z : List UInt8) (w : World) (ht : Hid (TB w))
    (D0 : Hid (∀ W, TB W → Calls Tryd.prog 41 #[.int .i64 a] W fun e w' => e = .returned (.string ⟨X.toArray⟩) ∧ Below W.heap.size W w'))
    (D1 : Hid (∀ W, TB W → Calls Tryd.prog 41 #[.int .i64 b] W fun e w' => e = .returned (.string ⟨Y.toArray⟩) ∧ Below W.heap.size W w'))
    (D2 : Hid (∀ W, TB W → Calls Tryd.prog 41 #[.int .i64 c] W fun e w' => e = .returned (.string ⟨Z.toArray⟩) ∧ Below W.heap.size W w'))
    (hl : Hid ((vj X Y Z).length ≤ 1000000)) :
    Calls Tryd.prog 24 #[(.agg #[.int .i64 a, .int .i64 b, .int .i64 c])] w fun e w' => e = .returned (.string ⟨(vj X Y Z).toArray⟩) ∧ Below w.heap.size w w' := by
  obtain ⟨i0, hi, hz0, hz1, hz2⟩ := info_parts info_str
  have HI : Hid (Tryd.prog.info? 9 = some i0 ∧ i0.zero = some (.string ⟨#[]⟩) ∧ i0.size = 1 ∧ i0.bytes = 16) := ⟨hi, hz0, hz1, hz2⟩
  clear hi hz0 hz1 hz2
  have i0' := idx0 a b c
  have i1 := idx1 a b c
  have i2 := idx2 a b c
  have G0 : Hid (Gro w (w.alloc (.cells #[.int .i64 a, .int .i64 b, .int .i64 c] 27)) (.slice none 0 0) (.slice none 0 0)) := Gro.of_below (bel_alloc _ _)
  go_enter Tryd.func24, Tryd.ntmps24
  go_wp2
  refine wp_loop_rounds 4 ?_
  rw [rounds_succ]
  go_wp2_with fail
  refine (D0.out _ ((show TB w from ht.out).next (nil_below G0.out))).mono ?_
  rintro e w1 ⟨rfl, hb⟩
  replace G0 : Hid (Gro w w1 _ _) := G0.out.trans (Gro.of_below hb)
  clear hb D0
  go_wp2_with (first | (at_builtin; refine wpList_append2 rfl _ _ 60 rfl 9 i0 (.string ⟨#[]⟩) 1 16 Tryd.underlying60 HI.out.1 HI.out.2.1 HI.out.2.2.1 HI.out.2.2.2 rfl (by decide) (.slice none 0 0) _ _ rfl (World.ownsRow_nil _ 0 9 1) ⟨w1.heap.size, 0, none⟩ 1 1 [.string ⟨X.toArray⟩] rfl rfl lit_cell (fun u hu => by simp at hu; subst hu; rfl) (by unfold maxLen; omega) (by omega) ?_) | fail)
  intro v1 w2 ho hg
  have O1 : Hid (w2.ownsRow 0 9 1 v1 1 [.string ⟨X.toArray⟩]) := own_cast' ho (by simp) (by simp)
  replace G0 : Hid (Gro w w2 _ _) := G0.out.trans ((Gro.of_below (bel_alloc _ _)).trans hg)
  clear ho hg
  go_wp2
  rw [rounds_succ]
  go_wp2_with fail
  refine (D1.out _ ((show TB w from ht.out).next (nil_below G0.out))).mono ?_
  rintro e w3 ⟨rfl, hb⟩
  replace O1 : Hid (w3.ownsRow 0 9 1 v1 1 [.string ⟨X.toArray⟩]) := own_next O1.out hb
  replace G0 : Hid (Gro w w3 _ _) := G0.out.trans (Gro.of_below hb)
  clear hb D1
  go_wp2_with (first | (at_builtin; refine wpList_append2 rfl _ _ 60 rfl 9 i0 (.string ⟨#[]⟩) 1 16 Tryd.underlying60 HI.out.1 HI.out.2.1 HI.out.2.2.1 HI.out.2.2.2 rfl (by decide) v1 _ _ rfl (O1.out.alloc _) ⟨w3.heap.size, 0, none⟩ 1 1 [.string ⟨Y.toArray⟩] rfl rfl lit_cell (fun u hu => by simp at hu; subst hu; rfl) (by unfold maxLen; omega) (by omega) ?_) | fail)
  intro v2 w4 ho hg
  have O2 : Hid (w4.ownsRow 0 9 1 v2 2 [.string ⟨X.toArray⟩, .string ⟨Y.toArray⟩]) := own_cast' ho (by simp) (by simp)
  replace G0 : Hid (Gro w w4 _ _) := G0.out.trans ((Gro.of_below (bel_alloc _ _)).trans hg)
  clear ho hg O1
  go_wp2
  rw [rounds_succ]
  go_wp2_with fail
  refine (D2.out _ ((show TB w from ht.out).next (nil_below G0.out))).mono ?_
  rintro e w5 ⟨rfl, hb⟩
  replace O2 : Hid (w5.ownsRow 0 9 1 v2 2 [.string ⟨X.toArray⟩, .string ⟨Y.toArray⟩]) := own_next O2.out hb
  replace G0 : Hid (Gro w w5 _ _) := G0.out.trans (Gro.of_below hb)
  clear hb D2
  go_wp2_with (first | (at_builtin; refine wpList_append2 rfl _ _ 60 rfl 9 i0 (.string ⟨#[]⟩) 1 16 Tryd.underlying60 HI.out.1 HI.out.2.1 HI.out.2.2.1 HI.out.2.2.2 rfl (by decide) v2 _ _ rfl (O2.out.alloc _) ⟨w5.heap.size, 0, none⟩ 1 1 [.string ⟨Z.toArray⟩] rfl rfl lit_cell (fun u hu => by simp at hu; subst hu; rfl) (by unfold maxLen; omega) (by omega) ?_) | fail)
  intro v3 w6 ho hg
  have O3 : Hid (w6.ownsRow 0 9 1 v3 3 [.string ⟨X.toArray⟩, .string ⟨Y.toArray⟩, .string ⟨Z.toArray⟩]) := own_cast' ho (by simp) (by simp)
  replace G0 : Hid (Gro w w6 _ _) := G0.out.trans ((Gro.of_below (bel_alloc _ _)).trans hg)
  clear ho hg O2
  obtain ⟨g, cap, rfl, hgl, hcap, hcs⟩ := row3 O3.out
  have HG : Hid (g < w6.heap.size) := hgl
  have HCP : Hid (3 ≤ cap) := hcap
  have HCS : Hid (∀ (j : Nat) x, ([⟨X.toArray⟩, ⟨Y.toArray⟩, ⟨Z.toArray⟩] : List ByteArray)[j]? = some x → w6.cell? ⟨g, 0 + j, none⟩ = some (.string x)) := fun j x hx => by
    have h1 : ([⟨X.toArray⟩, ⟨Y.toArray⟩, ⟨Z.toArray⟩].map Value.string : List Value)[j]? = some (.string x) := by rw [List.getElem?_map, hx]; rfl
    have h2 := hcs j (.string x) h1
    cases j with
    | zero => exact h2
    | succ j => simpa [Addr.add] using h2
  clear hgl hcap hcs O3
  have JN : Hid (Calls Tryd.prog 29 #[.slice (some ⟨g, 0, none⟩) 3 cap, .string ⟨#[46]⟩] w6 fun e w' => e = .returned (.string ⟨(vj X Y Z).toArray⟩) ∧ Below w6.heap.size w6 w') := by
    have := Any.strings_Join Tryd.lays156 Tryd.Builder_Extra_156 g 0 cap [⟨X.toArray⟩, ⟨Y.toArray⟩, ⟨Z.toArray⟩] ⟨#[46]⟩ w6 HCS.out HG.out (by simp) HCP.out (by rw [join3]; have := hl.out; omega)
    rw [join3] at this
    exact this
  go_wp2
  rw [rounds_succ]
  go_wp2_with fail
  refine JN.out.mono ?_
  rintro e w7 ⟨rfl, hb⟩
  go_wp2
  go_ret
  exact ⟨rfl, nil_below (G0.out.trans (Gro.of_below hb))⟩
set_option maxHeartbeats 4000000 in
theorem spec_vtext (a b c : Int) (X Y Z : List UInt8) (w : World)
    (D0 : Hid (∀ W, Calls Tryd.prog 56 #[.int .i64 a] W fun e w' => e = .returned (.string ⟨X.toArray⟩) ∧ Below W.heap.size W w'))
    (D1 : Hid (∀ W, Calls Tryd.prog 56 #[.int .i64 b] W fun e w' => e = .returned (.string ⟨Y.toArray⟩) ∧ Below W.heap.size W w'))
    (D2 : Hid (∀ W, Calls Tryd.prog 56 #[.int .i64 c] W fun e w' => e = .returned (.string ⟨Z.toArray⟩) ∧ Below W.heap.size W w'))
    (hx : X.length ≤ 20000) (hy : Y.length ≤ 20000) (hz : Z.length ≤ 20000) :
    Calls Tryd.prog 54 #[(.agg #[.int .i64 a, .int .i64 b, .int .i64 c])] w fun e w' => e = .returned (.string ⟨(vj X Y Z).toArray⟩) ∧ Below w.heap.size w w' := by
  have n1 : ¬ 9223372036854775807 < 1 + Y.length := by omega
  have n2 : ¬ 9223372036854775807 < 1 + Z.length := by omega
  have n3 : ¬ 9223372036854775807 < X.length + (1 + Y.length) := by omega
  have n4 : ¬ 9223372036854775807 < X.length + (1 + Y.length) + (1 + Z.length) := by omega
  clear hx hy hz
  have B0 : Hid (Below w.heap.size w (w.alloc (.cells #[.int .i64 a, .int .i64 b, .int .i64 c] 27))) := bel_alloc _ _
  go_enter Tryd.func54, Tryd.ntmps54
  go_wp2_with fail
  refine (D0.out _).mono ?_
  rintro e w1 ⟨rfl, hb⟩
  have c1 := cell_next hb (b := w.heap.size) (o := 1) (v := .int .i64 b) (by go_simp) (by simp)
  have c2 := cell_next hb (b := w.heap.size) (o := 2) (v := .int .i64 c) (by go_simp) (by simp)
  replace B0 := bel_next B0 hb
  have hz : w.heap.size < w1.heap.size := Nat.lt_of_lt_of_le (by simp) hb.size
  clear hb D0
  go_wp2
  refine wp_loop_rounds 3 ?_
  rw [rounds_succ]
  go_wp2_with fail
  refine (D1.out _).mono ?_
  rintro e w2 ⟨rfl, hb⟩
  replace c2 := cell_next hb c2 hz
  replace B0 := bel_next B0 hb
  replace hz : w.heap.size < w2.heap.size := Nat.lt_of_lt_of_le hz hb.size
  clear hb D1
  go_wp2
  rw [rounds_succ]
  go_wp2_with fail
  refine (D2.out _).mono ?_
  rintro e w3 ⟨rfl, hb⟩
  replace B0 := bel_next B0 hb
  clear hb D2
  go_wp2
  rw [rounds_succ]
  go_wp2
  go_ret
  refine ⟨?_, B0.out⟩
  have e1 : ∀ s : List UInt8, (⟨#[46]⟩ : ByteArray) ++ ⟨s.toArray⟩ = ⟨(46 :: s).toArray⟩ := fun s => ba_app [46] s
  rw [e1, e1, ba_app, ba_app]
  rfl
/-- The letter of a node. -/
def nl (p : Int) : UInt8 := if p = 0 then 97 else if p = 1 then 98 else 99
def dotT (p n : Int) : List UInt8 := nl p :: dsN n.toNat
def sibT (s : Sib) : List UInt8 := dotT s.p s.n ++ (if s.d then [33] else 61 :: dsN s.v.toNat)
theorem dotT_len (p n : Int) (h : n ≤ 9999) : (dotT p n).length ≤ 10001 := by
  unfold dotT
  have := dsN_len n.toNat
  simp
  omega
theorem dotI (p n : Int) (hp : p = 0 ∨ p = 1 ∨ p = 2) (h0 : 0 ≤ n) (h1 : n ≤ 9999) (w : World) (ht : TB w) :
    Calls Tryd.prog 20 #[.agg #[.int .i64 p, .int .i64 n]] w fun e w' => e = .returned (.string ⟨(dotT p n).toArray⟩) ∧ Below w.heap.size w w' := by
  obtain ⟨k, rfl⟩ : ∃ k : Nat, n = k := ⟨n.toNat, by omega⟩
  rcases hp with rfl | rfl | rfl
  · exact impl_text0 k (by omega) w ht
  · exact impl_text1 k (by omega) w ht
  · exact impl_text2 k (by omega) w ht
theorem dotS (p n : Int) (hp : p = 0 ∨ p = 1 ∨ p = 2) (h0 : 0 ≤ n) (h1 : n ≤ 9999) (w : World) :
    Calls Tryd.prog 55 #[.agg #[.int .i64 p, .int .i64 n]] w fun e w' => e = .returned (.string ⟨(dotT p n).toArray⟩) ∧ Below w.heap.size w w' := by
  obtain ⟨k, rfl⟩ : ∃ k : Nat, n = k := ⟨n.toNat, by omega⟩
  refine spec_text p (nl p) k (by omega) (by omega) ?_ (by omega) w
  show ((nl p).toNat : Int) = 97 + p
  rcases hp with rfl | rfl | rfl <;> rfl
theorem sib_bounds {s : Sib} (h : sibOK s.p s.n s.v s.d = true) : (s.p = 0 ∨ s.p = 1 ∨ s.p = 2) ∧ 0 ≤ s.n ∧ s.n ≤ 9999 ∧ 0 ≤ s.v ∧ s.v ≤ 999 := by
  unfold sibOK dotB at h
  simp at h
  omega
theorem sibT_len {s : Sib} (h : sibOK s.p s.n s.v s.d = true) : (sibT s).length ≤ 12000 := by
  have h1 := sib_bounds h
  have h2 := dotT_len s.p s.n h1.2.2.1
  have h3 := dsN_len s.v.toNat
  unfold sibT
  split <;> simp <;> omega
set_option maxHeartbeats 2000000 in
theorem sibI (s : Sib) (hk : sibOK s.p s.n s.v s.d = true) (w : World) (ht0 : TB w) :
    Calls Tryd.prog 28 #[.agg #[.int .i64 s.p, .int .i64 s.n, .int .i64 s.v, .bool s.d]] w fun e w' => e = .returned (.string ⟨(sibT s).toArray⟩) ∧ Below w.heap.size w w' := by
  obtain ⟨hp, n0, n1, v0, v1⟩ := sib_bounds hk
  have ht : Hid (TB w) := ht0
  obtain ⟨D, hD⟩ : ∃ D, D = dotT s.p s.n := ⟨_, rfl⟩
  have hDl : D.length ≤ 10001 := by rw [hD]; exact dotT_len _ _ n1
  have CD : Hid (∀ W, TB W → Calls Tryd.prog 20 #[.agg #[.int .i64 s.p, .int .i64 s.n]] W fun e w' => e = .returned (.string ⟨D.toArray⟩) ∧ Below W.heap.size W w') := fun W h => by rw [hD]; exact dotI s.p s.n hp n0 n1 W h
  obtain ⟨X, hX⟩ : ∃ X, X = dsN s.v.toNat := ⟨_, rfl⟩
  have hXl : X.length ≤ 1000 := by rw [hX]; have := dsN_len s.v.toNat; omega
  have CV : Hid (∀ W, TB W → Calls Tryd.prog 41 #[.int .i64 s.v] W fun e w' => e = .returned (.string ⟨X.toArray⟩) ∧ Below W.heap.size W w') := fun W h => by
    have h1 := itoa_any s.v.toNat (by omega) W h
    rw [Int.toNat_of_nonneg v0] at h1
    rw [hX]; exact h1
  have HS : Hid (sibT s = D ++ (if s.d then [33] else 61 :: X)) := by show _ = _; unfold sibT; rw [hD, hX]
  have B0 : Hid (Below w.heap.size w (w.alloc (.cells #[.int .i64 s.p, .int .i64 s.n, .int .i64 s.v, .bool s.d] 62))) := bel_alloc _ _
  clear hk hp n0 n1 v0 v1 ht0 hD hX
  have e33 : ∀ l : List UInt8, (⟨l.toArray⟩ : ByteArray) ++ ⟨#[33]⟩ = ⟨(l ++ [33]).toArray⟩ := fun l => ba_app l [33]
  have e61 : ∀ l : List UInt8, (⟨l.toArray⟩ : ByteArray) ++ ⟨#[61]⟩ = ⟨(l ++ [61]).toArray⟩ := fun l => ba_app l [61]
  have E33 : Hid _ := e33
  have E61 : Hid _ := e61
  clear e33 e61
  have q1 : ¬ 9223372036854775807 < D.length + 1 := by omega
  have q2 : ¬ 9223372036854775807 < D.length + 1 + X.length := by omega
  cases hd : s.d
  · rw [hd] at HS B0
    go_enter Tryd.func28, Tryd.ntmps28
    go_upto_region 3 with fail
    have c0 : (w.alloc (.cells #[.int .i64 s.p, .int .i64 s.n, .int .i64 s.v, .bool false] 62)).cell? ⟨w.heap.size, 0, none⟩ = some (.int .i64 s.p) := by go_simp
    have c1 : (w.alloc (.cells #[.int .i64 s.p, .int .i64 s.n, .int .i64 s.v, .bool false] 62)).cell? ⟨w.heap.size, 1, none⟩ = some (.int .i64 s.n) := by go_simp
    have c2 : (w.alloc (.cells #[.int .i64 s.p, .int .i64 s.n, .int .i64 s.v, .bool false] 62)).cell? ⟨w.heap.size, 2, none⟩ = some (.int .i64 s.v) := by go_simp
    have c3 : (w.alloc (.cells #[.int .i64 s.p, .int .i64 s.n, .int .i64 s.v, .bool false] 62)).cell? ⟨w.heap.size, 3, none⟩ = some (.bool false) := by go_simp
    have hz : w.heap.size < (w.alloc (.cells #[.int .i64 s.p, .int .i64 s.n, .int .i64 s.v, .bool false] 62)).heap.size := by simp
    have HB0 := B0
    generalize (w.alloc (.cells #[.int .i64 s.p, .int .i64 s.n, .int .i64 s.v, .bool false] 62)) = W0 at *
    refine wp_region_held_drew (S := (fun w' => Below w.heap.size w w' ∧ w'.cell? ⟨w.heap.size, 0, none⟩ = some (.int .i64 s.p) ∧ w'.cell? ⟨w.heap.size, 1, none⟩ = some (.int .i64 s.n) ∧ w'.cell? ⟨w.heap.size, 2, none⟩ = some (.int .i64 s.v) ∧ w'.cell? ⟨w.heap.size, 3, none⟩ = some (.bool false) ∧ w.heap.size < w'.heap.size)) (by kernel_rfl) ?_ (fun hHeld => ?_)
    · (try dsimp only)
      exact ⟨(bel_next HB0 (bel_drew _)).out, c0, c1, c2, c3, hz⟩
    refine wpAnyH_take (i := 0) (v := ?_) rfl (by kernel_rfl) (by kernel_rfl) (by kernel_rfl) (fun _ _ _ h => h) (Or.inl ⟨by rfl, ?_⟩) (by assumption) ?_
    rotate_left
    · intro w' hSw
      (try dsimp only at hSw)
      go_simp
      all_goals (try with_reducible rfl)
    (try simp only [Act.put, List.getElem_toArray, List.getElem_cons_zero, List.getElem_cons_succ, List.setIfInBounds_toArray, List.set_cons_zero, List.set_cons_succ])
    refine wpAnyH_take (i := 1) (v := ?_) rfl (by kernel_rfl) (by kernel_rfl) (by kernel_rfl) (fun _ _ _ h => h) (Or.inl ⟨by rfl, ?_⟩) (by assumption) ?_
    rotate_left
    · intro w' hSw
      (try dsimp only at hSw)
      go_simp
      all_goals (try with_reducible rfl)
    (try simp only [Act.put, List.getElem_toArray, List.getElem_cons_zero, List.getElem_cons_succ, List.setIfInBounds_toArray, List.set_cons_zero, List.set_cons_succ])
    refine wpAnyH_take (i := 4) (v := ?_) rfl (by kernel_rfl) (by kernel_rfl) (by kernel_rfl) (fun _ _ _ h => h) (Or.inl ⟨by rfl, ?_⟩) (by assumption) ?_
    rotate_left
    · intro w' hSw
      (try dsimp only at hSw)
      go_simp
      all_goals (try with_reducible rfl)
    (try simp only [Act.put, List.getElem_toArray, List.getElem_cons_zero, List.getElem_cons_succ, List.setIfInBounds_toArray, List.set_cons_zero, List.set_cons_succ])
    refine wpAnyH_take (i := 5) (v := ?_) rfl (by kernel_rfl) (by kernel_rfl) (by kernel_rfl) (fun _ _ _ h => h) (Or.inl ⟨by rfl, ?_⟩) (by assumption) ?_
    rotate_left
    · intro w' hSw
      (try dsimp only at hSw)
      go_simp
      all_goals (try with_reducible rfl)
    (try simp only [Act.put, List.getElem_toArray, List.getElem_cons_zero, List.getElem_cons_succ, List.setIfInBounds_toArray, List.set_cons_zero, List.set_cons_succ])
    refine wpAnyH_ready (rs := [2]) (by kernel_rfl) (by simp) ?_
    refine AllReadyH.cons rfl (fun K hK => ?_) AllReadyH.nil
    (try simp only [Act.put, List.getElem_toArray, List.getElem_cons_zero, List.getElem_cons_succ, List.setIfInBounds_toArray, List.set_cons_zero, List.set_cons_succ])
    go_simp
    (refine Calls.mono (CD.out _ (ht.out.next hHeld.1)) ?_; rintro e w1 ⟨rfl, hb⟩)
    (try simp only [])
    refine hK.out _ _ ?_ (fun hHeld' => ?_)
    · (try dsimp only)
      exact ⟨hHeld.1.trans (hb.mono hHeld.1.size), cell_next hb hHeld.2.1 hHeld.2.2.2.2.2, cell_next hb hHeld.2.2.1 hHeld.2.2.2.2.2, cell_next hb hHeld.2.2.2.1 hHeld.2.2.2.2.2, cell_next hb hHeld.2.2.2.2.1 hHeld.2.2.2.2.2, Nat.lt_of_lt_of_le hHeld.2.2.2.2.2 hb.size⟩
    clear hK K
    clear hHeld
    have hHeld := hHeld'
    clear hHeld'
    clear hb
    (try simp only [Act.put, List.getElem_toArray, List.getElem_cons_zero, List.getElem_cons_succ, List.setIfInBounds_toArray, List.set_cons_zero, List.set_cons_succ])
    refine wpAnyH_take (i := 3) (v := ?_) rfl (by kernel_rfl) (by kernel_rfl) (by kernel_rfl) (fun _ _ _ h => h) (Or.inl ⟨by rfl, ?_⟩) (by assumption) ?_
    rotate_left
    · intro w' hSw
      (try dsimp only at hSw)
      go_simp
      all_goals (try with_reducible rfl)
    (try simp only [Act.put, List.getElem_toArray, List.getElem_cons_zero, List.getElem_cons_succ, List.setIfInBounds_toArray, List.set_cons_zero, List.set_cons_succ])
    refine wpAnyH_ready (rs := [6]) (by kernel_rfl) (by simp) ?_
    refine AllReadyH.cons rfl (fun K hK => ?_) AllReadyH.nil
    (try simp only [Act.put, List.getElem_toArray, List.getElem_cons_zero, List.getElem_cons_succ, List.setIfInBounds_toArray, List.set_cons_zero, List.set_cons_succ])
    go_simp
    (refine Calls.mono (CV.out _ (ht.out.next hHeld.1)) ?_; rintro e w2 ⟨rfl, hb⟩)
    (try simp only [])
    refine hK.out _ _ ?_ (fun hHeld' => ?_)
    · (try dsimp only)
      exact ⟨hHeld.1.trans (hb.mono hHeld.1.size), cell_next hb hHeld.2.1 hHeld.2.2.2.2.2, cell_next hb hHeld.2.2.1 hHeld.2.2.2.2.2, cell_next hb hHeld.2.2.2.1 hHeld.2.2.2.2.2, cell_next hb hHeld.2.2.2.2.1 hHeld.2.2.2.2.2, Nat.lt_of_lt_of_le hHeld.2.2.2.2.2 hb.size⟩
    clear hK K
    clear hHeld
    have hHeld := hHeld'
    clear hHeld'
    clear hb
    (try simp only [Act.put, List.getElem_toArray, List.getElem_cons_zero, List.getElem_cons_succ, List.setIfInBounds_toArray, List.set_cons_zero, List.set_cons_succ])
    refine wpAnyH_take (i := 7) (v := ?_) rfl (by kernel_rfl) (by kernel_rfl) (by kernel_rfl) (fun _ _ _ h => h) (Or.inl ⟨by rfl, ?_⟩) (by assumption) ?_
    rotate_left
    · intro w' hSw
      (try dsimp only at hSw)
      go_simp
      all_goals (try with_reducible rfl)
    (try simp only [Act.put, List.getElem_toArray, List.getElem_cons_zero, List.getElem_cons_succ, List.setIfInBounds_toArray, List.set_cons_zero, List.set_cons_succ])
    refine wpAnyH_take (i := 8) (v := ?_) rfl (by kernel_rfl) (by kernel_rfl) (by kernel_rfl) (fun _ _ _ h => h) (Or.inl ⟨by rfl, ?_⟩) (by assumption) ?_
    rotate_left
    · intro w' hSw
      (try dsimp only at hSw)
      go_simp
      all_goals (try with_reducible rfl)
    (try simp only [Act.put, List.getElem_toArray, List.getElem_cons_zero, List.getElem_cons_succ, List.setIfInBounds_toArray, List.set_cons_zero, List.set_cons_succ])
    refine wpAnyH_done (by kernel_rfl) ?_ _
    have HB9 : Hid (Below w.heap.size w _) := hHeld.1
    clear hHeld c0 c1 c2 c3 hz HB0 B0
    go_wp2
    go_ret
    refine ⟨?_, HB9.out⟩
    rw [HS.out, E61.out, ba_app]
    simp
  · rw [hd] at HS B0
    go_enter Tryd.func28, Tryd.ntmps28
    go_wp2_with fail
    refine Calls.mono (CD.out _ (ht.out.next B0.out)) ?_
    rintro e w1 ⟨rfl, hb⟩
    replace B0 := bel_next B0 hb
    clear hb
    go_wp2
    go_ret
    refine ⟨?_, B0.out⟩
    rw [HS.out, E33.out]
    simp
/-- The text of an object, of what is known and of its siblings. -/
def objT (X : List UInt8) (l : List Sib) : List UInt8 := X ++ l.flatMap fun s => 124 :: sibT s

theorem objT_succ {X : List UInt8} {l : List Sib} {i : Nat} (h : i < l.length) : objT X (l.take (i + 1)) = objT X (l.take i) ++ 124 :: sibT l[i] := by
  unfold objT
  rw [List.take_succ_eq_append_getElem h, List.flatMap_append, List.append_assoc]
  simp
theorem objT_len {X : List UInt8} : ∀ {l : List Sib}, (∀ s ∈ l, sibOK s.p s.n s.v s.d = true) → (objT X l).length ≤ X.length + l.length * 12001
  | [], _ => by simp [objT]
  | s :: l, h => by
    have h1 := objT_len (X := X) (l := l) (fun t ht => h t (List.mem_cons_of_mem _ ht))
    have h2 := sibT_len (h s (by simp))
    unfold objT at *
    simp at *
    omega
set_option maxHeartbeats 4000000 in
theorem l03obj_any (cap : Nat) (ao : Option Addr) (l : List Sib) (a b c : Int) (X : List UInt8) (w : World) (hX : X.length ≤ 100000) (hl : l.length ≤ 100) (hk0 : ∀ s ∈ l, sibOK s.p s.n s.v s.d = true) (hr0 : SibRow w ao l)
    (CV : Hid (∀ W, Calls Tryd.prog 54 #[.agg #[.int .i64 a, .int .i64 b, .int .i64 c]] W fun e w' => e = .returned (.string ⟨X.toArray⟩) ∧ Below W.heap.size W w')) :
    Calls Tryd.prog 33 #[.agg #[.slice ao l.length cap, .int .i64 a, .int .i64 b, .int .i64 c]] w fun e w' => e = .returned (.string ⟨(objT X l).toArray⟩) ∧ Below w.heap.size w w' := by
  have RA : Hid (SibRow w ao l) := hr0
  have HK : Hid (∀ s ∈ l, sibOK s.p s.n s.v s.d = true) := hk0
  have HL : Hid (l.length ≤ 100 ∧ X.length ≤ 100000) := ⟨hl, hX⟩
  have B0 : Hid (Below w.heap.size w (w.alloc (.cells #[.slice ao l.length cap, .int .i64 a, .int .i64 b, .int .i64 c] 31))) := bel_alloc _ _
  clear hr0 hk0 hX
  go_enter Tryd.func33, Tryd.ntmps33
  go_wp2_with fail
  refine Calls.mono (CV.out _) ?_
  rintro e w1 ⟨rfl, hb⟩
  have c0 := cell_next hb (b := w.heap.size) (o := 0) (v := .slice ao l.length cap) (by go_simp) (by simp)
  replace B0 := bel_next B0 hb
  have hz : w.heap.size < w1.heap.size := Nat.lt_of_lt_of_le (by simp) hb.size
  clear hb CV
  go_wp2
  go_loopw [3, 4] (fun s3 s4 wr => ∃ (i : Nat) (out : ByteArray), i ≤ l.length ∧ s4 = .int .i64 i ∧ s3 = .string out ∧ out = ⟨(objT X (l.take i)).toArray⟩ ∧ Below w.heap.size w wr ∧ w.heap.size < wr.heap.size ∧ wr.cell? ⟨w.heap.size, 0, none⟩ = some (.slice ao l.length cap)) (fun _ s4 _ => l.length - (intOf s4).toNat)
  case atStart => exact ⟨0, _, by omega, rfl, rfl, by simp [objT], B0.out, hz, c0⟩
  case round =>
    clear c0 hz B0
    obtain ⟨i, out, hil, rfl, rfl, hO0, hB0, hz, k0⟩ := hrel
    have HO : Hid (out = ⟨(objT X (l.take i)).toArray⟩) := hO0
    have HB : Hid (Below w.heap.size w wr) := hB0
    clear hO0 hB0
    by_cases hkl : i < l.length
    · have hkl' : (i : Int) < (l.length : Int) := by omega
      have kk : (0 : Int) ≤ (i : Int) := by omega
      obtain ⟨s, hs⟩ : ∃ s, s = l[i] := ⟨_, rfl⟩
      have hok : sibOK s.p s.n s.v s.d = true := by rw [hs]; exact HK.out _ (List.getElem_mem _)
      obtain ⟨hp, n0, n1, v0, v1⟩ := sib_bounds hok
      rcases RA.out with h' | ⟨p, off, rfl, h2⟩
      · rw [h'] at hkl; simp at hkl
      obtain ⟨x0, x1, x2, x3⟩ := h2 i hkl
      rw [← hs] at x0 x1 x2 x3
      replace x0 := cell_next HB.out x0 (cell_lt x0)
      replace x1 := cell_next HB.out x1 (cell_lt x1)
      replace x2 := cell_next HB.out x2 (cell_lt x2)
      replace x3 := cell_next HB.out x3 (cell_lt x3)
      have hlen : out.size ≤ 1400000 := by
        rw [HO.out]
        have h1 := objT_len (X := X) (l := l.take i) (fun t ht => HK.out t (List.mem_of_mem_take ht))
        have h3 := HL.out
        have h4 : (l.take i).length ≤ 100 := by simp; omega
        simp [ByteArray.size]
        omega
      obtain ⟨D, hD⟩ : ∃ D, D = dotT s.p s.n := ⟨_, rfl⟩
      have hDl : D.length ≤ 10001 := by rw [hD]; exact dotT_len _ _ n1
      have CD : Hid (∀ W, Calls Tryd.prog 55 #[.agg #[.int .i64 s.p, .int .i64 s.n]] W fun e w' => e = .returned (.string ⟨D.toArray⟩) ∧ Below W.heap.size W w') := fun W => by rw [hD]; exact dotS s.p s.n hp n0 n1 W
      obtain ⟨Y, hY⟩ : ∃ Y, Y = dsN s.v.toNat := ⟨_, rfl⟩
      have hYl : Y.length ≤ 1000 := by rw [hY]; have := dsN_len s.v.toNat; omega
      have CX : Hid (∀ W, Calls Tryd.prog 56 #[.int .i64 s.v] W fun e w' => e = .returned (.string ⟨Y.toArray⟩) ∧ Below W.heap.size W w') := fun W => by
        have h1 := digits_any (s.v.toNat + 1) s.v.toNat (by omega) (by omega) W
        rw [Int.toNat_of_nonneg v0] at h1
        rw [hY]; exact h1
      have HS : Hid (objT X (l.take (i + 1)) = objT X (l.take i) ++ 124 :: (D ++ (if s.d then [33] else 61 :: Y))) := by
        show _ = _
        rw [objT_succ hkl, ← hs, hD, hY]
        rfl
      have HO2 : Hid (∀ bs : List UInt8, (124 :: (D ++ (if s.d then [33] else 61 :: Y))) = bs → out ++ ⟨bs.toArray⟩ = ⟨(objT X (l.take (i + 1))).toArray⟩) := fun bs hbs => by rw [HS.out, HO.out, ba_app, ← hbs]
      have q0 : ¬ 9223372036854775807 < 1 + D.length := by omega
      have q1 : ¬ 9223372036854775807 < out.size + (1 + D.length) := by omega
      have q2 : ¬ 9223372036854775807 < out.size + (1 + D.length) + 1 := by omega
      have q3 : ¬ 9223372036854775807 < 1 + Y.length := by omega
      have q4 : ¬ 9223372036854775807 < out.size + (1 + D.length) + (1 + Y.length) := by omega
      clear hs hok hp n0 n1 v0 v1 h2 hD hY HS HO hlen hDl hYl
      go_wp2_with fail
      refine Calls.mono (CD.out _) ?_
      rintro e w2 ⟨rfl, hb⟩
      replace x0 := cell_next hb x0 (cell_lt x0)
      replace x1 := cell_next hb x1 (cell_lt x1)
      replace x2 := cell_next hb x2 (cell_lt x2)
      replace x3 := cell_next hb x3 (cell_lt x3)
      replace k0 := cell_next hb k0 hz
      replace hz : w.heap.size < w2.heap.size := Nat.lt_of_lt_of_le hz hb.size
      replace HB := bel_next HB hb
      clear hb
      cases hd : s.d
      · rw [hd] at x3 HO2
        go_wp2_with fail
        refine Calls.mono (CX.out _) ?_
        rintro e w3 ⟨rfl, hb⟩
        replace k0 := cell_next hb k0 hz
        replace hz : w.heap.size < w3.heap.size := Nat.lt_of_lt_of_le hz hb.size
        replace HB := bel_next HB hb
        clear hb x0 x1 x2 x3
        have HM : Hid (out ++ (⟨#[124]⟩ ++ ⟨D.toArray⟩) ++ (⟨#[61]⟩ ++ ⟨Y.toArray⟩) = ⟨(objT X (l.take (i + 1))).toArray⟩) := by
          show _ = _
          have e1 : (⟨#[124]⟩ : ByteArray) ++ ⟨D.toArray⟩ = ⟨(124 :: D).toArray⟩ := ba_app [124] D
          have e2 : (⟨#[61]⟩ : ByteArray) ++ ⟨Y.toArray⟩ = ⟨(61 :: Y).toArray⟩ := ba_app [61] Y
          rw [e1, e2, ByteArray.append_assoc, ba_app]
          exact HO2.out _ (by simp)
        clear HO2
        go_wp2
        go_roundw
        case rel => first | exact ⟨i + 1, _, by omega, by go_num, rfl, HM.out, HB.out, hz, k0⟩ | ((repeat apply Exists.intro); exact ⟨⟨i + 1, _, by omega, by go_num, rfl, HM.out, HB.out, hz, k0⟩, rfl⟩)
        case measure => simp [intOf]; omega
      · rw [hd] at x3 HO2
        have HM : Hid (out ++ (⟨#[124]⟩ ++ ⟨D.toArray⟩) ++ ⟨#[33]⟩ = ⟨(objT X (l.take (i + 1))).toArray⟩) := by
          show _ = _
          have e1 : (⟨#[124]⟩ : ByteArray) ++ ⟨D.toArray⟩ = ⟨(124 :: D).toArray⟩ := ba_app [124] D
          have e2 : (⟨(124 :: D).toArray⟩ : ByteArray) ++ ⟨#[33]⟩ = ⟨(124 :: D ++ [33]).toArray⟩ := ba_app (124 :: D) [33]
          rw [e1, ByteArray.append_assoc, e2]
          exact HO2.out _ (by simp)
        clear HO2
        go_wp2
        go_roundw
        case rel => first | exact ⟨i + 1, _, by omega, by go_num, rfl, HM.out, HB.out, hz, k0⟩ | ((repeat apply Exists.intro); exact ⟨⟨i + 1, _, by omega, by go_num, rfl, HM.out, HB.out, hz, k0⟩, rfl⟩)
        case measure => simp [intOf]; omega
    · have hkl' : ¬ (i : Int) < (l.length : Int) := by omega
      have HE : Hid (out = ⟨(objT X l).toArray⟩) := by have := HO.out; rw [List.take_of_length_le (by omega)] at this; exact this
      clear HO
      go_wp2
      go_ret
      exact ⟨by rw [HE.out]; rfl, HB.out⟩
def V (ss : List ByteArray) : List Value := ss.map Value.string
def parts (X : List UInt8) (l : List Sib) : List ByteArray := ⟨X.toArray⟩ :: l.map fun s => ⟨(sibT s).toArray⟩
theorem parts_succ {X : List UInt8} {l : List Sib} {i : Nat} (h : i < l.length) : parts X (l.take (i + 1)) = parts X (l.take i) ++ [⟨(sibT l[i]).toArray⟩] := by
  unfold parts
  rw [List.take_succ_eq_append_getElem h, List.map_append]
  rfl
theorem parts_len (X : List UInt8) (l : List Sib) : (parts X l).length = l.length + 1 := by simp [parts]
theorem join_parts (X : List UInt8) (l : List Sib) : Lib.join ((parts X l).map (·.data.toList)) (⟨#[124]⟩ : ByteArray).data.toList = objT X l := by
  unfold parts objT
  rw [List.map_cons, Lib.join_cons]
  congr 1
  simp [Lib.joinTail, List.flatMap, Function.comp_def]
theorem rowN {w : World} {v : Value} {n : Nat} {xs : List Value} (h : w.ownsRow 0 9 1 v (n + 1) xs) : ∃ g cap, v = .slice (some ⟨g, 0, none⟩) (n + 1) cap ∧ g < w.heap.size ∧ n + 1 ≤ cap ∧ ∀ j u, xs[j]? = some u → w.cell? ((⟨g, 0, none⟩ : Addr).add j) = some u := by
  have h0 := h
  rcases h.2 with ⟨_, h'⟩ | ⟨g, cap, cur, rfl, hbg, hg, hnc, r⟩
  · cases h'
  · refine ⟨g, cap, rfl, ?_, hnc, h0.cells (g := g) rfl⟩
    rcases Nat.lt_or_ge g w.heap.size with h' | h'
    · exact h'
    · rw [Array.getElem?_eq_none h'] at hg; cases hg
theorem own_one (W : World) (X : ByteArray) : (W.alloc (.cells #[.string X] 9)).ownsRow 0 9 1 (.slice (some ⟨W.heap.size, 0, none⟩) 1 1) 1 [.string X] :=
  ⟨rfl, .inr ⟨W.heap.size, 1, #[.string X], rfl, Nat.zero_le _, heap_alloc_new W _, Nat.le_refl _, by unfold maxLen; omega, rfl, rfl⟩⟩
set_option maxRecDepth 100000 in
set_option maxHeartbeats 4000000 in
theorem implText_ok (cap : Nat) (ao : Option Addr) (l : List Sib) (a b c : Int) (X : List UInt8) (w : World) (hX : X.length ≤ 100000) (hO : OkP l a b c) (hr0 : SibRow w ao l) (ht0 : TB w)
    (CV : Hid (∀ W, TB W → Calls Tryd.prog 24 #[.agg #[.int .i64 a, .int .i64 b, .int .i64 c]] W fun e w' => e = .returned (.string ⟨X.toArray⟩) ∧ Below W.heap.size W w')) :
    Calls Tryd.prog 11 #[.agg #[.slice ao l.length cap, .int .i64 a, .int .i64 b, .int .i64 c]] w fun e w' => e = .returned (.tuple #[.string ⟨(objT X l).toArray⟩, .int .i64 0]) ∧ Below w.heap.size w w' := by
  obtain ⟨i0, hi, hz0, hz1, hz2⟩ := info_parts info_str
  have HI : Hid (Tryd.prog.info? 9 = some i0 ∧ i0.zero = some (.string ⟨#[]⟩) ∧ i0.size = 1 ∧ i0.bytes = 16) := ⟨hi, hz0, hz1, hz2⟩
  clear hi hz0 hz1 hz2
  have RA : Hid (SibRow w ao l) := hr0
  have ht : Hid (TB w) := ht0
  have hl : l.length ≤ 100 := hO.1
  have HK : Hid (∀ i (h : i < l.length), sibOK l[i].p l[i].n l[i].v l[i].d = true) := fun i h => (hO.2.2 i h).1
  have HL : Hid (l.length ≤ 100 ∧ X.length ≤ 100000) := ⟨hl, hX⟩
  have HLEN : Hid ((objT X l).length ≤ 1400000) := by
    have h1 := objT_len (X := X) (l := l) (fun t ht => by obtain ⟨i, hi, rfl⟩ := List.getElem_of_mem ht; exact (hO.2.2 i hi).1)
    show _ ≤ _
    omega
  have B0 : Hid (Below w.heap.size w (w.alloc (.cells #[.slice ao l.length cap, .int .i64 a, .int .i64 b, .int .i64 c] 31))) := bel_alloc _ _
  have COK : Hid (∀ W, SibRow W ao l → Calls Tryd.prog 27 #[.agg #[.slice ao l.length cap, .int .i64 a, .int .i64 b, .int .i64 c]] W fun e w' => e = .returned (.bool true) ∧ Below W.heap.size W w') := fun W h => implOK_any cap ao l a b c true ⟨fun _ => hO, fun _ => rfl⟩ W (by omega) h
  clear hr0 ht0 hX hO
  go_enter Tryd.func11, Tryd.ntmps11
  go_wp2_with fail
  refine Calls.mono (COK.out _ (RA.out.next B0.out)) ?_
  rintro e w1 ⟨rfl, hb⟩
  have c0 := cell_next hb (b := w.heap.size) (o := 0) (v := .slice ao l.length cap) (by go_simp) (by simp)
  have c1 := cell_next hb (b := w.heap.size) (o := 1) (v := .int .i64 a) (by go_simp) (by simp)
  have c2 := cell_next hb (b := w.heap.size) (o := 2) (v := .int .i64 b) (by go_simp) (by simp)
  have c3 := cell_next hb (b := w.heap.size) (o := 3) (v := .int .i64 c) (by go_simp) (by simp)
  replace B0 := bel_next B0 hb
  have hz : w.heap.size < w1.heap.size := Nat.lt_of_lt_of_le (by simp) hb.size
  clear hb COK
  go_wp2_with fail
  refine Calls.mono (CV.out _ (ht.out.next B0.out)) ?_
  rintro e w2 ⟨rfl, hb⟩
  replace c0 := cell_next hb c0 hz
  replace B0 := bel_next B0 hb
  replace hz : w.heap.size < w2.heap.size := Nat.lt_of_lt_of_le hz hb.size
  clear hb CV c1 c2 c3
  have e0 : ∀ o, (w2.alloc o).cell? ⟨w.heap.size, 0, none⟩ = _ := fun o => box_alloc c0 hz
  have O1 : Hid ((w2.alloc (.cells #[.string ⟨X.toArray⟩] 9)).ownsRow 0 9 1 (.slice (some ⟨w2.heap.size, 0, none⟩) 1 1) 1 [.string ⟨X.toArray⟩]) := own_one w2 ⟨X.toArray⟩
  have G1 : Hid (Gro w (w2.alloc (.cells #[.string ⟨X.toArray⟩] 9)) (.slice none 0 0) (.slice (some ⟨w2.heap.size, 0, none⟩) 1 1)) := ⟨(Gro.of_below (v := .slice none 0 0) (bel_next B0 (bel_alloc _ _)).out).grown, fun k hk => .inr (by simp [Value.ownBlock] at hk; have := B0.out.size; omega)⟩
  go_wp2
  clear e0 c0 B0
  generalize (w2.alloc (.cells #[.string ⟨X.toArray⟩] 9)) = W2 at *
  generalize w2.heap.size = g2 at *
  clear hz
  go_loopw [4, 17] (fun s4 s17 wr => ∃ (k : Nat) (ss : List ByteArray), k ≤ l.length ∧ s17 = .int .i64 k ∧ ss = parts X (l.take k) ∧ Gro w wr (.slice none 0 0) s4 ∧ wr.ownsRow 0 9 1 s4 (k + 1) (V ss)) (fun _ s17 _ => l.length - (intOf s17).toNat)
  case atStart => exact ⟨0, _, by omega, rfl, rfl, G1.out, O1.out⟩
  case round =>
    clear O1 G1
    obtain ⟨k, ss, hkl0, rfl, hS0, hG0, hO0⟩ := hrel
    have HS : Hid (ss = parts X (l.take k)) := hS0
    have HG : Hid (Gro w wr (.slice none 0 0) u4) := hG0
    have HO : Hid (wr.ownsRow 0 9 1 u4 (k + 1) (V ss)) := hO0
    have HB : Hid (Below w.heap.size w wr) := nil_below hG0
    clear hS0 hG0 hO0
    by_cases hkl : k < l.length
    · have hkl' : (k : Int) < (l.length : Int) := by omega
      have kk : (0 : Int) ≤ (k : Int) := by omega
      obtain ⟨s, hs⟩ : ∃ s, s = l[k] := ⟨_, rfl⟩
      have HOK : Hid (sibOK s.p s.n s.v s.d = true) := by show _ = _; rw [hs]; exact HK.out k hkl
      rcases RA.out with h' | ⟨p, off, rfl, h2⟩
      · rw [h'] at hkl; simp at hkl
      obtain ⟨x0, x1, x2, x3⟩ := h2 k hkl
      rw [← hs] at x0 x1 x2 x3
      replace x0 := cell_next HB.out x0 (cell_lt x0)
      replace x1 := cell_next HB.out x1 (cell_lt x1)
      replace x2 := cell_next HB.out x2 (cell_lt x2)
      replace x3 := cell_next HB.out x3 (cell_lt x3)
      have HS2 : Hid (ss ++ [⟨(sibT s).toArray⟩] = parts X (l.take (k + 1))) := by show _ = _; rw [HS.out, parts_succ hkl, hs]
      clear h2 hs
      go_wp2_with fail
      refine (sibI s HOK.out _ (ht.out.next (bel_next HB (bel_alloc _ _)).out)).mono ?_
      rintro e w3 ⟨rfl, hb⟩
      have G3 : Hid (Gro w w3 (.slice none 0 0) u4) := HG.out.trans ((Gro.of_below (bel_alloc _ _)).trans (Gro.of_below hb))
      have O3 : Hid (w3.ownsRow 0 9 1 u4 (k + 1) (V ss)) := own_next (own_next HO.out (bel_alloc _ _)) hb
      clear hb x0 x1 x2 x3 HB
      go_wp2_with (first | (at_builtin; refine wpList_append2 rfl _ _ 60 rfl 9 i0 (.string ⟨#[]⟩) 1 16 Tryd.underlying60 HI.out.1 HI.out.2.1 HI.out.2.2.1 HI.out.2.2.2 rfl (by decide) u4 _ _ rfl (O3.out.alloc _) ⟨w3.heap.size, 0, none⟩ 1 1 [.string ⟨(sibT s).toArray⟩] rfl rfl lit_cell (fun u hu => by simp at hu; subst hu; rfl) (by unfold maxLen; omega) (by omega) ?_) | fail)
      intro v1 w4 ho hg
      have O4 : Hid (w4.ownsRow 0 9 1 v1 (k + 1 + 1) (V (ss ++ [⟨(sibT s).toArray⟩]))) := own_cast' ho rfl (by simp [V])
      have G4 : Hid (Gro w w4 (.slice none 0 0) v1) := G3.out.trans ((Gro.of_below (bel_alloc _ _)).trans hg)
      clear ho hg
      go_wp2
      go_roundw
      case rel => first | exact ⟨k + 1, _, by omega, by go_num, HS2.out, G4.out, O4.out⟩ | ((repeat apply Exists.intro); exact ⟨⟨k + 1, _, by omega, by go_num, HS2.out, G4.out, O4.out⟩, rfl⟩)
      case measure => simp [intOf]; omega
    · have hkl' : ¬ (k : Int) < (l.length : Int) := by omega
      have hkk : k = l.length := by omega
      have HE : Hid (ss = parts X l) := by have := HS.out; rw [List.take_of_length_le (by omega)] at this; exact this
      obtain ⟨g, cp, rfl, hgl, hcap, hcs⟩ := rowN HO.out
      have HCS : Hid (∀ (j : Nat) x, ss[j]? = some x → wr.cell? ⟨g, 0 + j, none⟩ = some (.string x)) := fun j x hx => by
        have h1 : (V ss)[j]? = some (.string x) := by unfold V; rw [List.getElem?_map, hx]; rfl
        have h2 := hcs j (.string x) h1
        cases j with
        | zero => exact h2
        | succ j => simpa [Addr.add] using h2
      have hsl : ss.length = k + 1 := by rw [HE.out, parts_len]; omega
      have JN : Hid (Calls Tryd.prog 29 #[.slice (some ⟨g, 0, none⟩) (k + 1) cp, .string ⟨#[124]⟩] wr fun e w' => e = .returned (.string ⟨(objT X l).toArray⟩) ∧ Below wr.heap.size wr w') := by
        have h1 := Any.strings_Join Tryd.lays156 Tryd.Builder_Extra_156 g 0 cp ss ⟨#[124]⟩ wr HCS.out hgl (by omega) (by omega) (by rw [HE.out, join_parts]; have := HLEN.out; omega)
        rw [hsl, HE.out, join_parts] at h1
        exact h1
      clear hgl hcap hcs HCS hsl HS HK HO hkk HE
      go_wp2_with fail
      refine Calls.mono JN.out ?_
      rintro e w7 ⟨rfl, hb⟩
      have HB7 : Hid (Below w.heap.size w w7) := bel_next HB hb
      clear hb
      go_wp2
      go_ret2
      exact ⟨rfl, HB7.out⟩
def vvT (a b c : Int) : List UInt8 := vj (dsN a.toNat) (dsN b.toNat) (dsN c.toNat)
theorem vvT_len {a b c : Int} (h : vvB a b c = true) : (vvT a b c).length ≤ 100000 := by
  have h0 := of_decide_eq_true h
  have h1 := dsN_len a.toNat
  have h2 := dsN_len b.toNat
  have h3 := dsN_len c.toNat
  unfold vvT vj
  simp
  omega
theorem dg_int {a : Int} (h0 : 0 ≤ a) (h1 : a ≤ 9999) (W : World) : Calls Tryd.prog 56 #[.int .i64 a] W fun e w' => e = .returned (.string ⟨(dsN a.toNat).toArray⟩) ∧ Below W.heap.size W w' := by
  have h := digits_any (a.toNat + 1) a.toNat (by omega) (by omega) W
  rw [Int.toNat_of_nonneg h0] at h
  exact h
theorem it_int {a : Int} (h0 : 0 ≤ a) (h1 : a ≤ 9999) (W : World) (ht : TB W) : Calls Tryd.prog 41 #[.int .i64 a] W fun e w' => e = .returned (.string ⟨(dsN a.toNat).toArray⟩) ∧ Below W.heap.size W w' := by
  have h := itoa_any a.toNat (by omega) W ht
  rw [Int.toNat_of_nonneg h0] at h
  exact h
theorem ds_len {a : Int} (h1 : a ≤ 9999) : (dsN a.toNat).length ≤ 20000 := by have := dsN_len a.toNat; omega
theorem vvS {a b c : Int} (h : vvB a b c = true) (W : World) : Calls Tryd.prog 54 #[.agg #[.int .i64 a, .int .i64 b, .int .i64 c]] W fun e w' => e = .returned (.string ⟨(vvT a b c).toArray⟩) ∧ Below W.heap.size W w' := by
  have h0 := of_decide_eq_true h
  exact spec_vtext a b c _ _ _ W (dg_int h0.1.1 h0.1.2) (dg_int h0.2.1.1 h0.2.1.2) (dg_int h0.2.2.1 h0.2.2.2) (ds_len h0.1.2) (ds_len h0.2.1.2) (ds_len h0.2.2.2)
theorem vvI {a b c : Int} (h : vvB a b c = true) (W : World) (ht : TB W) : Calls Tryd.prog 24 #[.agg #[.int .i64 a, .int .i64 b, .int .i64 c]] W fun e w' => e = .returned (.string ⟨(vvT a b c).toArray⟩) ∧ Below W.heap.size W w' := by
  have h0 := of_decide_eq_true h
  exact impl_vtext a b c _ _ _ W ht (it_int h0.1.1 h0.1.2) (it_int h0.2.1.1 h0.2.1.2) (it_int h0.2.2.1 h0.2.2.2) (by show _ ≤ _; have := vvT_len h; unfold vvT at this; omega)
/-- What ObjText answers. -/
structure TRel (l : List Sib) (a b c : Int) (t : ByteArray) (code : Int) : Prop where
  ok : OkP l a b c → t = ⟨(objT (vvT a b c) l).toArray⟩ ∧ code = 0
  bad : ¬ OkP l a b c → t = ⟨#[]⟩ ∧ code = 1
theorem trel (l : List Sib) (a b c : Int) : ∃ t code, TRel l a b c t code := by
  by_cases h : OkP l a b c
  · exact ⟨_, _, ⟨fun _ => ⟨rfl, rfl⟩, fun h' => (h' h).elim⟩⟩
  · exact ⟨_, _, ⟨fun h' => (h h').elim, fun _ => ⟨rfl, rfl⟩⟩⟩
theorem ok_sibs {l : List Sib} {a b c : Int} (h : OkP l a b c) : ∀ s ∈ l, sibOK s.p s.n s.v s.d = true := fun s hs => by
  obtain ⟨i, hi, rfl⟩ := List.getElem_of_mem hs
  exact (h.2.2 i hi).1
set_option maxHeartbeats 2000000 in
theorem specText_any (cap : Nat) (ao : Option Addr) (l : List Sib) (a b c : Int) (t : ByteArray) (code : Int) (hT : Hid (TRel l a b c t code)) (w : World) (hm : (l.length : Int) ≤ 1048576) (hr0 : SibRow w ao l) :
    Calls Tryd.prog 13 #[.agg #[.slice ao l.length cap, .int .i64 a, .int .i64 b, .int .i64 c]] w fun e w' => e = .returned (.tuple #[.string t, .int .i64 code]) ∧ Below w.heap.size w w' := by
  have RA : Hid (SibRow w ao l) := hr0
  have B0 : Hid (Below w.heap.size w (w.alloc (.cells #[.slice ao l.length cap, .int .i64 a, .int .i64 b, .int .i64 c] 31))) := bel_alloc _ _
  clear hr0
  by_cases hO : OkP l a b c
  · obtain ⟨rfl, rfl⟩ := hT.out.ok hO
    have HO : Hid (OkP l a b c) := hO
    have COK : Hid (∀ W, SibRow W ao l → Calls Tryd.prog 32 #[.agg #[.slice ao l.length cap, .int .i64 a, .int .i64 b, .int .i64 c]] W fun e w' => e = .returned (.bool true) ∧ Below W.heap.size W w') := fun W h => specOK_any cap ao l a b c true ⟨fun _ => hO, fun _ => rfl⟩ W hm h
    clear hO hT hm
    go_enter Tryd.func13, Tryd.ntmps13
    go_wp2_with fail
    refine Calls.mono (COK.out _ (RA.out.next B0.out)) ?_
    rintro e w1 ⟨rfl, hb⟩
    have c0 := cell_next hb (b := w.heap.size) (o := 0) (v := .slice ao l.length cap) (by go_simp) (by simp)
    have c1 := cell_next hb (b := w.heap.size) (o := 1) (v := .int .i64 a) (by go_simp) (by simp)
    have c2 := cell_next hb (b := w.heap.size) (o := 2) (v := .int .i64 b) (by go_simp) (by simp)
    have c3 := cell_next hb (b := w.heap.size) (o := 3) (v := .int .i64 c) (by go_simp) (by simp)
    replace B0 := bel_next B0 hb
    clear hb
    go_wp2_with fail
    refine (l03obj_any cap ao l a b c (vvT a b c) _ (vvT_len HO.out.2.1) HO.out.1 (ok_sibs HO.out) (RA.out.next B0.out) (vvS HO.out.2.1)).mono ?_
    rintro e w2 ⟨rfl, hb⟩
    replace B0 := bel_next B0 hb
    clear hb c0 c1 c2 c3
    go_wp2
    go_ret2
    exact ⟨rfl, B0.out⟩
  · obtain ⟨rfl, rfl⟩ := hT.out.bad hO
    have COK : Hid (∀ W, SibRow W ao l → Calls Tryd.prog 32 #[.agg #[.slice ao l.length cap, .int .i64 a, .int .i64 b, .int .i64 c]] W fun e w' => e = .returned (.bool false) ∧ Below W.heap.size W w') := fun W h => specOK_any cap ao l a b c false ⟨fun h' => (by cases h'), fun h' => (hO h').elim⟩ W hm h
    clear hO hT hm
    go_enter Tryd.func13, Tryd.ntmps13
    go_wp2_with fail
    refine Calls.mono (COK.out _ (RA.out.next B0.out)) ?_
    rintro e w1 ⟨rfl, hb⟩
    replace B0 := bel_next B0 hb
    clear hb
    go_wp2
    go_ret2
    exact ⟨rfl, B0.out⟩
set_option maxHeartbeats 2000000 in
theorem implText_any (cap : Nat) (ao : Option Addr) (l : List Sib) (a b c : Int) (t : ByteArray) (code : Int) (hT : Hid (TRel l a b c t code)) (w : World) (hm : (l.length : Int) ≤ 1048576) (hr0 : SibRow w ao l) (ht : TB w) :
    Calls Tryd.prog 11 #[.agg #[.slice ao l.length cap, .int .i64 a, .int .i64 b, .int .i64 c]] w fun e w' => e = .returned (.tuple #[.string t, .int .i64 code]) ∧ Below w.heap.size w w' := by
  by_cases hO : OkP l a b c
  · obtain ⟨rfl, rfl⟩ := hT.out.ok hO
    exact implText_ok cap ao l a b c (vvT a b c) w (vvT_len hO.2.1) hO hr0 ht (vvI hO.2.1)
  · obtain ⟨rfl, rfl⟩ := hT.out.bad hO
    have RA : Hid (SibRow w ao l) := hr0
    have B0 : Hid (Below w.heap.size w (w.alloc (.cells #[.slice ao l.length cap, .int .i64 a, .int .i64 b, .int .i64 c] 31))) := bel_alloc _ _
    have COK : Hid (∀ W, SibRow W ao l → Calls Tryd.prog 27 #[.agg #[.slice ao l.length cap, .int .i64 a, .int .i64 b, .int .i64 c]] W fun e w' => e = .returned (.bool false) ∧ Below W.heap.size W w') := fun W h => implOK_any cap ao l a b c false ⟨fun h' => (by cases h'), fun h' => (hO h').elim⟩ W hm h
    clear hO hT hm hr0 ht
    go_enter Tryd.func11, Tryd.ntmps11
    go_wp2_with fail
    refine Calls.mono (COK.out _ (RA.out.next B0.out)) ?_
    rintro e w1 ⟨rfl, hb⟩
    replace B0 := bel_next B0 hb
    clear hb
    go_wp2
    go_ret2
    exact ⟨rfl, B0.out⟩
end Go.Proofs.YtgnacdhceiapkaaDoor
