/- The texts of vectors, both sides. -/
import Derived.Test.YtkdbcmkmcjaenaaGreatDoorRows
import Derived.WalkKit
import Derived.WalkSpells
import Derived.WalkLawsBesides
import Derived.Deep.QuietTactic
import Derived.BigQuiet
import Derived.Deep.RegionHeld3
import Derived.Test.YtkdbcmkmcjaenaaGreatDoorDn
import Derived.Test.YtkdbcmkmcjaenaaGreatDoorJs
import Derived.LoopN
namespace Go.Proofs.YtkdbcmkmcjaenaaGreatDoor
open Go.RowKit
set_option linter.unusedSimpArgs false
set_option linter.unusedVariables false

theorem info_str : (Tryz.prog.info? 9).map (fun i => (i.zero, i.size, i.bytes)) = some (some (.string ⟨#[]⟩), 1, 16) := by kernel_rfl
theorem own_cast' {w : World} {base e size n n' : Nat} {v : Value} {xs xs' : List Value} (h : w.ownsRow base e size v n xs) (h1 : n = n') (h2 : xs = xs') : w.ownsRow base e size v n' xs' := by subst h1; subst h2; exact h
theorem lit_cell {W : World} {v : Value} {t : TypeId} : ∀ j u, ([v] : List Value)[j]? = some u → (W.alloc (.cells #[v] t)).cell? ((⟨W.heap.size, 0, none⟩ : Addr).add j) = some u := by
  intro j u hu
  cases j with
  | zero => simp at hu; subst hu; show (W.alloc _).cell? ⟨W.heap.size, 0, none⟩ = _; go_simp
  | succ j => simp at hu
def vj (X Y Z : List UInt8) : List UInt8 := X ++ (46 :: Y) ++ (46 :: Z)
theorem join3 (X Y Z : List UInt8) : Lib.join (([⟨X.toArray⟩, ⟨Y.toArray⟩, ⟨Z.toArray⟩] : List ByteArray).map (·.data.toList)) (⟨#[46]⟩ : ByteArray).data.toList = vj X Y Z := by
  simp [Lib.join_cons, Lib.joinTail, vj]
theorem row3 {w : World} {v : Value} {xs : List Value} (h : w.ownsRow 0 9 1 v 3 xs) : ∃ g cap, v = .slice (some ⟨g, 0, none⟩) 3 cap ∧ g < w.heap.size ∧ 3 ≤ cap ∧ ∀ j u, xs[j]? = some u → w.cell? ((⟨g, 0, none⟩ : Addr).add j) = some u := by
  have h0 := h
  rcases h.2 with ⟨_, h'⟩ | ⟨g, cap, cur, rfl, hbg, hg, hnc, r⟩
  · cases h'
  · refine ⟨g, cap, rfl, ?_, hnc, h0.cells (g := g) rfl⟩
    rcases Nat.lt_or_ge g w.heap.size with h' | h'
    · exact h'
    · rw [Array.getElem?_eq_none h'] at hg; cases hg
set_option maxHeartbeats 4000000 in
theorem impl_vtext (a b c : Int) (X Y Z : List UInt8) (w : World) (ht : Hid (TB w))
    (D0 : Hid (∀ W, TB W → Calls Tryz.prog 40 #[.int .i64 a] W fun e w' => e = .returned (.string ⟨X.toArray⟩) ∧ Below W.heap.size W w'))
    (D1 : Hid (∀ W, TB W → Calls Tryz.prog 40 #[.int .i64 b] W fun e w' => e = .returned (.string ⟨Y.toArray⟩) ∧ Below W.heap.size W w'))
    (D2 : Hid (∀ W, TB W → Calls Tryz.prog 40 #[.int .i64 c] W fun e w' => e = .returned (.string ⟨Z.toArray⟩) ∧ Below W.heap.size W w'))
    (hl : Hid ((vj X Y Z).length ≤ 1000000)) :
    Calls Tryz.prog 43 #[(.agg #[.int .i64 a, .int .i64 b, .int .i64 c])] w fun e w' => e = .returned (.string ⟨(vj X Y Z).toArray⟩) ∧ Below w.heap.size w w' := by
  obtain ⟨i0, hi, hz0, hz1, hz2⟩ := info_parts info_str
  have HI : Hid (Tryz.prog.info? 9 = some i0 ∧ i0.zero = some (.string ⟨#[]⟩) ∧ i0.size = 1 ∧ i0.bytes = 16) := ⟨hi, hz0, hz1, hz2⟩
  clear hi hz0 hz1 hz2
  have i0' := idx0 a b c
  have i1 := idx1 a b c
  have i2 := idx2 a b c
  have G0 : Hid (Gro w (w.alloc (.cells #[.int .i64 a, .int .i64 b, .int .i64 c] 32)) (.slice none 0 0) (.slice none 0 0)) := Gro.of_below (bel_alloc _ _)
  go_enter Tryz.func43, Tryz.ntmps43
  go_wp2
  refine wp_loop_rounds 4 ?_
  rw [rounds_succ]
  go_wp2_with fail
  refine (D0.out _ ((show TB w from ht.out).next (nil_below G0.out))).mono ?_
  rintro e w1 ⟨rfl, hb⟩
  replace G0 : Hid (Gro w w1 _ _) := G0.out.trans (Gro.of_below hb)
  clear hb D0
  go_wp2_with (first | (at_builtin; refine wpList_append2 rfl _ _ 25 rfl 9 i0 (.string ⟨#[]⟩) 1 16 Tryz.underlying25 HI.out.1 HI.out.2.1 HI.out.2.2.1 HI.out.2.2.2 rfl (by decide) (.slice none 0 0) _ _ rfl (World.ownsRow_nil _ 0 9 1) ⟨w1.heap.size, 0, none⟩ 1 1 [.string ⟨X.toArray⟩] rfl rfl lit_cell (fun u hu => by simp at hu; subst hu; rfl) (by unfold maxLen; omega) (by omega) ?_) | fail)
  intro v1 w2 ho hg
  have O1 : Hid (w2.ownsRow 0 9 1 v1 1 [.string ⟨X.toArray⟩]) := own_cast' ho (by simp) (by simp)
  replace G0 : Hid (Gro w w2 _ _) := G0.out.trans ((Gro.of_below (bel_alloc _ _)).trans hg)
  clear ho hg
  go_wp2
  rw [rounds_succ]
  go_wp2_with fail
  refine (D1.out _ ((show TB w from ht.out).next (nil_below G0.out))).mono ?_
  rintro e w3 ⟨rfl, hb⟩
  replace O1 : Hid (w3.ownsRow 0 9 1 v1 1 [.string ⟨X.toArray⟩]) := own_next O1.out hb
  replace G0 : Hid (Gro w w3 _ _) := G0.out.trans (Gro.of_below hb)
  clear hb D1
  go_wp2_with (first | (at_builtin; refine wpList_append2 rfl _ _ 25 rfl 9 i0 (.string ⟨#[]⟩) 1 16 Tryz.underlying25 HI.out.1 HI.out.2.1 HI.out.2.2.1 HI.out.2.2.2 rfl (by decide) v1 _ _ rfl (O1.out.alloc _) ⟨w3.heap.size, 0, none⟩ 1 1 [.string ⟨Y.toArray⟩] rfl rfl lit_cell (fun u hu => by simp at hu; subst hu; rfl) (by unfold maxLen; omega) (by omega) ?_) | fail)
  intro v2 w4 ho hg
  have O2 : Hid (w4.ownsRow 0 9 1 v2 2 [.string ⟨X.toArray⟩, .string ⟨Y.toArray⟩]) := own_cast' ho (by simp) (by simp)
  replace G0 : Hid (Gro w w4 _ _) := G0.out.trans ((Gro.of_below (bel_alloc _ _)).trans hg)
  clear ho hg O1
  go_wp2
  rw [rounds_succ]
  go_wp2_with fail
  refine (D2.out _ ((show TB w from ht.out).next (nil_below G0.out))).mono ?_
  rintro e w5 ⟨rfl, hb⟩
  replace O2 : Hid (w5.ownsRow 0 9 1 v2 2 [.string ⟨X.toArray⟩, .string ⟨Y.toArray⟩]) := own_next O2.out hb
  replace G0 : Hid (Gro w w5 _ _) := G0.out.trans (Gro.of_below hb)
  clear hb D2
  go_wp2_with (first | (at_builtin; refine wpList_append2 rfl _ _ 25 rfl 9 i0 (.string ⟨#[]⟩) 1 16 Tryz.underlying25 HI.out.1 HI.out.2.1 HI.out.2.2.1 HI.out.2.2.2 rfl (by decide) v2 _ _ rfl (O2.out.alloc _) ⟨w5.heap.size, 0, none⟩ 1 1 [.string ⟨Z.toArray⟩] rfl rfl lit_cell (fun u hu => by simp at hu; subst hu; rfl) (by unfold maxLen; omega) (by omega) ?_) | fail)
  intro v3 w6 ho hg
  have O3 : Hid (w6.ownsRow 0 9 1 v3 3 [.string ⟨X.toArray⟩, .string ⟨Y.toArray⟩, .string ⟨Z.toArray⟩]) := own_cast' ho (by simp) (by simp)
  replace G0 : Hid (Gro w w6 _ _) := G0.out.trans ((Gro.of_below (bel_alloc _ _)).trans hg)
  clear ho hg O2
  obtain ⟨g, cap, rfl, hgl, hcap, hcs⟩ := row3 O3.out
  have HG : Hid (g < w6.heap.size) := hgl
  have HCP : Hid (3 ≤ cap) := hcap
  have HCS : Hid (∀ (j : Nat) x, ([⟨X.toArray⟩, ⟨Y.toArray⟩, ⟨Z.toArray⟩] : List ByteArray)[j]? = some x → w6.cell? ⟨g, 0 + j, none⟩ = some (.string x)) := fun j x hx => by
    have h1 : ([⟨X.toArray⟩, ⟨Y.toArray⟩, ⟨Z.toArray⟩].map Value.string : List Value)[j]? = some (.string x) := by rw [List.getElem?_map, hx]; rfl
    have h2 := hcs j (.string x) h1
    cases j with
    | zero => exact h2
    | succ j => simpa [Addr.add] using h2
  clear hgl hcap hcs O3
  have JN : Hid (Calls Tryz.prog 41 #[.slice (some ⟨g, 0, none⟩) 3 cap, .string ⟨#[46]⟩] w6 fun e w' => e = .returned (.string ⟨(vj X Y Z).toArray⟩) ∧ Below w6.heap.size w6 w') := by
    have := Any.strings_Join Tryz.lays156 Tryz.Builder_Extra_156 g 0 cap [⟨X.toArray⟩, ⟨Y.toArray⟩, ⟨Z.toArray⟩] ⟨#[46]⟩ w6 HCS.out HG.out (by simp) HCP.out (by rw [join3]; have := hl.out; omega)
    rw [join3] at this
    exact this
  go_wp2
  rw [rounds_succ]
  go_wp2_with fail
  refine JN.out.mono ?_
  rintro e w7 ⟨rfl, hb⟩
  go_wp2
  go_ret
  exact ⟨rfl, nil_below (G0.out.trans (Gro.of_below hb))⟩
end Go.Proofs.YtkdbcmkmcjaenaaGreatDoor
