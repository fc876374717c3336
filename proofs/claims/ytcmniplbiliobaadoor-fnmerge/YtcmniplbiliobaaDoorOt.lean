/- The texts of what is known, of siblings and of objects, on both sides. -/
import Derived.Test.YtcmniplbiliobaaDoorRows
import Derived.WalkKit
import Derived.WalkSpells
import Derived.WalkLawsBesides
import Derived.Deep.QuietTactic
import Derived.BigQuiet
import Derived.Deep.RegionHeld3
import Derived.Test.YtcmniplbiliobaaDoorDn
import Derived.Test.YtcmniplbiliobaaDoorAp
import Derived.Test.YtcmniplbiliobaaDoorJs
import Derived.LoopN
import Derived.Test.YtcmniplbiliobaaDoorDt
import Derived.Deep.Cut
import Derived.Test.YtcmniplbiliobaaDoorIo
import Derived.Test.YtcmniplbiliobaaDoorLk
import Derived.Test.YtcmniplbiliobaaDoorSp
import Derived.Test.YtcmniplbiliobaaDoorSc
namespace Go.Proofs.YtcmniplbiliobaaDoor
open Go.RowKit
set_option linter.unusedSimpArgs false
set_option linter.unusedVariables false
theorem info_str : (Tryd.prog.info? 9).map (fun i => (i.zero, i.size, i.bytes)) = some (some (.string ⟨#[]⟩), 1, 16) := by kernel_rfl
theorem own_cast' {w : World} {base e size n n' : Nat} {v : Value} {xs xs' : List Value} (h : w.ownsRow base e size v n xs) (h1 : n = n') (h2 : xs = xs') : w.ownsRow base e size v n' xs' := by subst h1; subst h2; exact h
theorem lit_cell {W : World} {v : Value} {t : TypeId} : ∀ j u, ([v] : List Value)[j]? = some u → (W.alloc (.cells #[v] t)).cell? ((⟨W.heap.size, 0, none⟩ : Addr).add j) = some u := by
  intro j u hu
  cases j with
  | zero => simp at hu; subst hu; show (W.alloc _).cell? ⟨W.heap.size, 0, none⟩ = _; go_simp
  | succ j => simp at hu
theorem nil_below {w w' : World} {v : Value} (h : Gro w w' (.slice none 0 0) v) : Below w.heap.size w w' := h.below (Nat.le_refl _) (fun k hk => by simp [Value.ownBlock] at hk)
def vj (X Y Z : List UInt8) : List UInt8 := X ++ (46 :: Y) ++ (46 :: Z)
theorem join3 (X Y Z : List UInt8) : Lib.join (([⟨X.toArray⟩, ⟨Y.toArray⟩, ⟨Z.toArray⟩] : List ByteArray).map (·.data.toList)) (⟨#[46]⟩ : ByteArray).data.toList = vj X Y Z := by
  simp [Lib.join_cons, Lib.joinTail, vj]
theorem row3 {w : World} {v : Value} {xs : List Value} (h : w.ownsRow 0 9 1 v 3 xs) : ∃ g cap, v = .slice (some ⟨g, 0, none⟩) 3 cap ∧ g < w.heap.size ∧ 3 ≤ cap ∧ ∀ j u, xs[j]? = some u → w.cell? ((⟨g, 0, none⟩ : Addr).add j) = some u := by
  have h0 := h
  rcases h.2 with ⟨_, h'⟩ | ⟨g, cap, cur, rfl, hbg, hg, hnc, r⟩
  · cases h'
  · refine ⟨g, cap, rfl, ?_, hnc, h0.cells (g := g) rfl⟩
    rcases Nat.lt_or_ge g w.heap.size with h' | h'
    · exact h'
    · rw [Array.getElem?_eq_none h'] at hg; cases hg
set_option maxHeartbeats 4000000 in
theorem impl_vtext (a b c : Int) (X Y Z : List UInt8) (w : World) (ht : Hid (TB w))
    (D0 : Hid (∀ W, TB W → Calls Tryd.prog 25 #[.int .i64 a] W fun e w' => e = .returned (.string ⟨X.toArray⟩) ∧ Below W.heap.size W w'))
    (D1 : Hid (∀ W, TB W → Calls Tryd.prog 25 #[.int .i64 b] W fun e w' => e = .returned (.string ⟨Y.toArray⟩) ∧ Below W.heap.size W w'))
    (D2 : Hid (∀ W, TB W → Calls Tryd.prog 25 #[.int .i64 c] W fun e w' => e = .returned (.string ⟨Z.toArray⟩) ∧ Below W.heap.size W w'))
    (hl : Hid ((vj X Y Z).length ≤ 1000000)) :
    Calls Tryd.prog 24 #[(.agg #[.int .i64 a, .int .i64 b, .int .i64 c])] w fun e w' => e = .returned (.string ⟨(vj X Y Z).toArray⟩) ∧ Below w.heap.size w w' := by
  obtain ⟨i0, hi, hz0, hz1, hz2⟩ := info_parts info_str
  have HI : Hid (Tryd.prog.info? 9 = some i0 ∧ i0.zero = some (.string ⟨#[]⟩) ∧ i0.size = 1 ∧ i0.bytes = 16) := ⟨hi, hz0, hz1, hz2⟩
  clear hi hz0 hz1 hz2
  have i0' := idx0 a b c
  have i1 := idx1 a b c
  have i2 := idx2 a b c
  have G0 : Hid (Gro w (w.alloc (.cells #[.int .i64 a, .int .i64 b, .int .i64 c] 30)) (.slice none 0 0) (.slice none 0 0)) := Gro.of_below (bel_alloc _ _)
  go_enter Tryd.func24, Tryd.ntmps24
  go_wp2
  refine wp_loop_rounds 4 ?_
  rw [rounds_succ]
  go_wp2_with fail
  refine (D0.out _ ((show TB w from ht.out).next (nil_below G0.out))).mono ?_
  rintro e w1 ⟨rfl, hb⟩
  replace G0 : Hid (Gro w w1 _ _) := G0.out.trans (Gro.of_below hb)
  clear hb D0
  go_wp2_with (first | (at_builtin; refine wpList_append2 rfl _ _ 55 rfl 9 i0 (.string ⟨#[]⟩) 1 16 Tryd.underlying55 HI.out.1 HI.out.2.1 HI.out.2.2.1 HI.out.2.2.2 rfl (by decide) (.slice none 0 0) _ _ rfl (World.ownsRow_nil _ 0 9 1) ⟨w1.heap.size, 0, none⟩ 1 1 [.string ⟨X.toArray⟩] rfl rfl lit_cell (fun u hu => by simp at hu; subst hu; rfl) (by unfold maxLen; omega) (by omega) ?_) | fail)
  intro v1 w2 ho hg
  have O1 : Hid (w2.ownsRow 0 9 1 v1 1 [.string ⟨X.toArray⟩]) := own_cast' ho (by simp) (by simp)
  replace G0 : Hid (Gro w w2 _ _) := G0.out.trans ((Gro.of_below (bel_alloc _ _)).trans hg)
  clear ho hg
  go_wp2
  rw [rounds_succ]
  go_wp2_with fail
  refine (D1.out _ ((show TB w from ht.out).next (nil_below G0.out))).mono ?_
  rintro e w3 ⟨rfl, hb⟩
  replace O1 : Hid (w3.ownsRow 0 9 1 v1 1 [.string ⟨X.toArray⟩]) := own_next O1.out hb
  replace G0 : Hid (Gro w w3 _ _) := G0.out.trans (Gro.of_below hb)
  clear hb D1
  go_wp2_with (first | (at_builtin; refine wpList_append2 rfl _ _ 55 rfl 9 i0 (.string ⟨#[]⟩) 1 16 Tryd.underlying55 HI.out.1 HI.out.2.1 HI.out.2.2.1 HI.out.2.2.2 rfl (by decide) v1 _ _ rfl (O1.out.alloc _) ⟨w3.heap.size, 0, none⟩ 1 1 [.string ⟨Y.toArray⟩] rfl rfl lit_cell (fun u hu => by simp at hu; subst hu; rfl) (by unfold maxLen; omega) (by omega) ?_) | fail)
  intro v2 w4 ho hg
  have O2 : Hid (w4.ownsRow 0 9 1 v2 2 [.string ⟨X.toArray⟩, .string ⟨Y.toArray⟩]) := own_cast' ho (by simp) (by simp)
  replace G0 : Hid (Gro w w4 _ _) := G0.out.trans ((Gro.of_below (bel_alloc _ _)).trans hg)
  clear ho hg O1
  go_wp2
  rw [rounds_succ]
  go_wp2_with fail
  refine (D2.out _ ((show TB w from ht.out).next (nil_below G0.out))).mono ?_
  rintro e w5 ⟨rfl, hb⟩
  replace O2 : Hid (w5.ownsRow 0 9 1 v2 2 [.string ⟨X.toArray⟩, .string ⟨Y.toArray⟩]) := own_next O2.out hb
  replace G0 : Hid (Gro w w5 _ _) := G0.out.trans (Gro.of_below hb)
  clear hb D2
  go_wp2_with (first | (at_builtin; refine wpList_append2 rfl _ _ 55 rfl 9 i0 (.string ⟨#[]⟩) 1 16 Tryd.underlying55 HI.out.1 HI.out.2.1 HI.out.2.2.1 HI.out.2.2.2 rfl (by decide) v2 _ _ rfl (O2.out.alloc _) ⟨w5.heap.size, 0, none⟩ 1 1 [.string ⟨Z.toArray⟩] rfl rfl lit_cell (fun u hu => by simp at hu; subst hu; rfl) (by unfold maxLen; omega) (by omega) ?_) | fail)
  intro v3 w6 ho hg
  have O3 : Hid (w6.ownsRow 0 9 1 v3 3 [.string ⟨X.toArray⟩, .string ⟨Y.toArray⟩, .string ⟨Z.toArray⟩]) := own_cast' ho (by simp) (by simp)
  replace G0 : Hid (Gro w w6 _ _) := G0.out.trans ((Gro.of_below (bel_alloc _ _)).trans hg)
  clear ho hg O2
  obtain ⟨g, cap, rfl, hgl, hcap, hcs⟩ := row3 O3.out
  have HG : Hid (g < w6.heap.size) := hgl
  have HCP : Hid (3 ≤ cap) := hcap
  have HCS : Hid (∀ (j : Nat) x, ([⟨X.toArray⟩, ⟨Y.toArray⟩, ⟨Z.toArray⟩] : List ByteArray)[j]? = some x → w6.cell? ⟨g, 0 + j, none⟩ = some (.string x)) := fun j x hx => by
    have h1 : ([⟨X.toArray⟩, ⟨Y.toArray⟩, ⟨Z.toArray⟩].map Value.string : List Value)[j]? = some (.string x) := by rw [List.getElem?_map, hx]; rfl
    have h2 := hcs j (.string x) h1
    cases j with
    | zero => exact h2
    | succ j => simpa [Addr.add] using h2
  clear hgl hcap hcs O3
  have JN : Hid (Calls Tryd.prog 26 #[.slice (some ⟨g, 0, none⟩) 3 cap, .string ⟨#[46]⟩] w6 fun e w' => e = .returned (.string ⟨(vj X Y Z).toArray⟩) ∧ Below w6.heap.size w6 w') := by
    have := Any.strings_Join Tryd.lays156 Tryd.Builder_Extra_156 g 0 cap [⟨X.toArray⟩, ⟨Y.toArray⟩, ⟨Z.toArray⟩] ⟨#[46]⟩ w6 HCS.out HG.out (by simp) HCP.out (by rw [join3]; have := hl.out; omega)
    rw [join3] at this
    exact this
  go_wp2
  rw [rounds_succ]
  go_wp2_with fail
  refine JN.out.mono ?_
  rintro e w7 ⟨rfl, hb⟩
  go_wp2
  go_ret
  exact ⟨rfl, nil_below (G0.out.trans (Gro.of_below hb))⟩
set_option maxHeartbeats 4000000 in
theorem spec_vtext (a b c : Int) (X Y Z : List UInt8) (w : World)
    (D0 : Hid (∀ W, Calls Tryd.prog 47 #[.int .i64 a] W fun e w' => e = .returned (.string ⟨X.toArray⟩) ∧ Below W.heap.size W w'))
    (D1 : Hid (∀ W, Calls Tryd.prog 47 #[.int .i64 b] W fun e w' => e = .returned (.string ⟨Y.toArray⟩) ∧ Below W.heap.size W w'))
    (D2 : Hid (∀ W, Calls Tryd.prog 47 #[.int .i64 c] W fun e w' => e = .returned (.string ⟨Z.toArray⟩) ∧ Below W.heap.size W w'))
    (hx : X.length ≤ 20000) (hy : Y.length ≤ 20000) (hz : Z.length ≤ 20000) :
    Calls Tryd.prog 45 #[(.agg #[.int .i64 a, .int .i64 b, .int .i64 c])] w fun e w' => e = .returned (.string ⟨(vj X Y Z).toArray⟩) ∧ Below w.heap.size w w' := by
  have n1 : ¬ 9223372036854775807 < 1 + Y.length := by omega
  have n2 : ¬ 9223372036854775807 < 1 + Z.length := by omega
  have n3 : ¬ 9223372036854775807 < X.length + (1 + Y.length) := by omega
  have n4 : ¬ 9223372036854775807 < X.length + (1 + Y.length) + (1 + Z.length) := by omega
  clear hx hy hz
  have B0 : Hid (Below w.heap.size w (w.alloc (.cells #[.int .i64 a, .int .i64 b, .int .i64 c] 30))) := bel_alloc _ _
  go_enter Tryd.func45, Tryd.ntmps45
  go_wp2_with fail
  refine (D0.out _).mono ?_
  rintro e w1 ⟨rfl, hb⟩
  have c1 := cell_next hb (b := w.heap.size) (o := 1) (v := .int .i64 b) (by go_simp) (by simp)
  have c2 := cell_next hb (b := w.heap.size) (o := 2) (v := .int .i64 c) (by go_simp) (by simp)
  replace B0 := bel_next B0 hb
  have hz : w.heap.size < w1.heap.size := Nat.lt_of_lt_of_le (by simp) hb.size
  clear hb D0
  go_wp2
  refine wp_loop_rounds 3 ?_
  rw [rounds_succ]
  go_wp2_with fail
  refine (D1.out _).mono ?_
  rintro e w2 ⟨rfl, hb⟩
  replace c2 := cell_next hb c2 hz
  replace B0 := bel_next B0 hb
  replace hz : w.heap.size < w2.heap.size := Nat.lt_of_lt_of_le hz hb.size
  clear hb D1
  go_wp2
  rw [rounds_succ]
  go_wp2_with fail
  refine (D2.out _).mono ?_
  rintro e w3 ⟨rfl, hb⟩
  replace B0 := bel_next B0 hb
  clear hb D2
  go_wp2
  rw [rounds_succ]
  go_wp2
  go_ret
  refine ⟨?_, B0.out⟩
  have e1 : ∀ s : List UInt8, (⟨#[46]⟩ : ByteArray) ++ ⟨s.toArray⟩ = ⟨(46 :: s).toArray⟩ := fun s => ba_app [46] s
  rw [e1, e1, ba_app, ba_app]
  rfl
/-- The letter of a node. -/
def nl (p : Int) : UInt8 := if p = 0 then 97 else if p = 1 then 98 else 99
def dotT (p n : Int) : List UInt8 := nl p :: dsN n.toNat
def sibT (s : Sib) : List UInt8 := dotT s.p s.n ++ (if s.d then [33] else 61 :: dsN s.v.toNat)
theorem dotT_len (p n : Int) (h : n ≤ 9999) : (dotT p n).length ≤ 10001 := by
  unfold dotT
  have := dsN_len n.toNat
  simp
  omega
theorem sib_bounds {s : Sib} (h : sibOK s.p s.n s.v s.d = true) : (s.p = 0 ∨ s.p = 1 ∨ s.p = 2) ∧ 0 ≤ s.n ∧ s.n ≤ 9999 ∧ 0 ≤ s.v ∧ s.v ≤ 999 := by
  unfold sibOK dotB at h
  simp at h
  omega
theorem sibT_len {s : Sib} (h : sibOK s.p s.n s.v s.d = true) : (sibT s).length ≤ 12000 := by
  have h1 := sib_bounds h
  have h2 := dotT_len s.p s.n h1.2.2.1
  have h3 := dsN_len s.v.toNat
  unfold sibT
  split <;> simp <;> omega
/-- The text of an object, of what is known and of its siblings. -/
def objT (X : List UInt8) (l : List Sib) : List UInt8 := X ++ l.flatMap fun s => 124 :: sibT s

theorem objT_succ {X : List UInt8} {l : List Sib} {i : Nat} (h : i < l.length) : objT X (l.take (i + 1)) = objT X (l.take i) ++ 124 :: sibT l[i] := by
  unfold objT
  rw [List.take_succ_eq_append_getElem h, List.flatMap_append, List.append_assoc]
  simp
theorem objT_len {X : List UInt8} : ∀ {l : List Sib}, (∀ s ∈ l, sibOK s.p s.n s.v s.d = true) → (objT X l).length ≤ X.length + l.length * 12001
  | [], _ => by simp [objT]
  | s :: l, h => by
    have h1 := objT_len (X := X) (l := l) (fun t ht => h t (List.mem_cons_of_mem _ ht))
    have h2 := sibT_len (h s (by simp))
    unfold objT at *
    simp at *
    omega
def V (ss : List ByteArray) : List Value := ss.map Value.string
def parts (X : List UInt8) (l : List Sib) : List ByteArray := ⟨X.toArray⟩ :: l.map fun s => ⟨(sibT s).toArray⟩
theorem parts_succ {X : List UInt8} {l : List Sib} {i : Nat} (h : i < l.length) : parts X (l.take (i + 1)) = parts X (l.take i) ++ [⟨(sibT l[i]).toArray⟩] := by
  unfold parts
  rw [List.take_succ_eq_append_getElem h, List.map_append]
  rfl
theorem parts_len (X : List UInt8) (l : List Sib) : (parts X l).length = l.length + 1 := by simp [parts]
theorem join_parts (X : List UInt8) (l : List Sib) : Lib.join ((parts X l).map (·.data.toList)) (⟨#[124]⟩ : ByteArray).data.toList = objT X l := by
  unfold parts objT
  rw [List.map_cons, Lib.join_cons]
  congr 1
  simp [Lib.joinTail, List.flatMap, Function.comp_def]
theorem rowN {w : World} {v : Value} {n : Nat} {xs : List Value} (h : w.ownsRow 0 9 1 v (n + 1) xs) : ∃ g cap, v = .slice (some ⟨g, 0, none⟩) (n + 1) cap ∧ g < w.heap.size ∧ n + 1 ≤ cap ∧ ∀ j u, xs[j]? = some u → w.cell? ((⟨g, 0, none⟩ : Addr).add j) = some u := by
  have h0 := h
  rcases h.2 with ⟨_, h'⟩ | ⟨g, cap, cur, rfl, hbg, hg, hnc, r⟩
  · cases h'
  · refine ⟨g, cap, rfl, ?_, hnc, h0.cells (g := g) rfl⟩
    rcases Nat.lt_or_ge g w.heap.size with h' | h'
    · exact h'
    · rw [Array.getElem?_eq_none h'] at hg; cases hg
theorem own_one (W : World) (X : ByteArray) : (W.alloc (.cells #[.string X] 9)).ownsRow 0 9 1 (.slice (some ⟨W.heap.size, 0, none⟩) 1 1) 1 [.string X] :=
  ⟨rfl, .inr ⟨W.heap.size, 1, #[.string X], rfl, Nat.zero_le _, heap_alloc_new W _, Nat.le_refl _, by unfold maxLen; omega, rfl, rfl⟩⟩
def vvT (a b c : Int) : List UInt8 := vj (dsN a.toNat) (dsN b.toNat) (dsN c.toNat)
theorem vvT_len {a b c : Int} (h : vvB a b c = true) : (vvT a b c).length ≤ 100000 := by
  have h0 := of_decide_eq_true h
  have h1 := dsN_len a.toNat
  have h2 := dsN_len b.toNat
  have h3 := dsN_len c.toNat
  unfold vvT vj
  simp
  omega
theorem dg_int {a : Int} (h0 : 0 ≤ a) (h1 : a ≤ 9999) (W : World) : Calls Tryd.prog 47 #[.int .i64 a] W fun e w' => e = .returned (.string ⟨(dsN a.toNat).toArray⟩) ∧ Below W.heap.size W w' := by
  have h := digits_any (a.toNat + 1) a.toNat (by omega) (by omega) W
  rw [Int.toNat_of_nonneg h0] at h
  exact h
theorem it_int {a : Int} (h0 : 0 ≤ a) (h1 : a ≤ 9999) (W : World) (ht : TB W) : Calls Tryd.prog 25 #[.int .i64 a] W fun e w' => e = .returned (.string ⟨(dsN a.toNat).toArray⟩) ∧ Below W.heap.size W w' := by
  have h := itoa_any a.toNat (by omega) W ht
  rw [Int.toNat_of_nonneg h0] at h
  exact h
theorem ds_len {a : Int} (h1 : a ≤ 9999) : (dsN a.toNat).length ≤ 20000 := by have := dsN_len a.toNat; omega
theorem vvS {a b c : Int} (h : vvB a b c = true) (W : World) : Calls Tryd.prog 45 #[.agg #[.int .i64 a, .int .i64 b, .int .i64 c]] W fun e w' => e = .returned (.string ⟨(vvT a b c).toArray⟩) ∧ Below W.heap.size W w' := by
  have h0 := of_decide_eq_true h
  exact spec_vtext a b c _ _ _ W (dg_int h0.1.1 h0.1.2) (dg_int h0.2.1.1 h0.2.1.2) (dg_int h0.2.2.1 h0.2.2.2) (ds_len h0.1.2) (ds_len h0.2.1.2) (ds_len h0.2.2.2)
theorem vvI {a b c : Int} (h : vvB a b c = true) (W : World) (ht : TB W) : Calls Tryd.prog 24 #[.agg #[.int .i64 a, .int .i64 b, .int .i64 c]] W fun e w' => e = .returned (.string ⟨(vvT a b c).toArray⟩) ∧ Below W.heap.size W w' := by
  have h0 := of_decide_eq_true h
  exact impl_vtext a b c _ _ _ W ht (it_int h0.1.1 h0.1.2) (it_int h0.2.1.1 h0.2.1.2) (it_int h0.2.2.1 h0.2.2.2) (by show _ ≤ _; have := vvT_len h; unfold vvT at this; omega)
/-- What ObjText answers. -/
structure TRel (l : List Sib) (a b c : Int) (t : ByteArray) (code : Int) : Prop where
  ok : OkP l a b c → t = ⟨(objT (vvT a b c) l).toArray⟩ ∧ code = 0
  bad : ¬ OkP l a b c → t = ⟨#[]⟩ ∧ code = 1
theorem trel (l : List Sib) (a b c : Int) : ∃ t code, TRel l a b c t code := by
  by_cases h : OkP l a b c
  · exact ⟨_, _, ⟨fun _ => ⟨rfl, rfl⟩, fun h' => (h' h).elim⟩⟩
  · exact ⟨_, _, ⟨fun h' => (h h').elim, fun _ => ⟨rfl, rfl⟩⟩⟩
theorem ok_sibs {l : List Sib} {a b c : Int} (h : OkP l a b c) : ∀ s ∈ l, sibOK s.p s.n s.v s.d = true := fun s hs => by
  obtain ⟨i, hi, rfl⟩ := List.getElem_of_mem hs
  exact (h.2.2 i hi).1
end Go.Proofs.YtcmniplbiliobaaDoor
