/- at; what is drawn of a group. -/
import Derived.Test.YtklajcdlacemaaaRows
import Derived.WalkKit
import Derived.WalkSpells
import Derived.WalkLawsBesides
import Derived.Deep.QuietTactic
import Derived.BigQuiet
import Derived.Deep.RegionHeld3
import Derived.Test.YtklajcdlacemaaaGm
import Derived.Test.YtklajcdlacemaaaSrc
import Derived.Test.YtklajcdlacemaaaGw
import Derived.LoopN
namespace Go.Proofs.Ytklajcdlacemaaa
open Go.RowKit
set_option linter.unusedSimpArgs false
set_option linter.unusedVariables false

def gEnd : Int → Int → Int → List Dt → Int × Int × Int
  | x, y, z, [] => (x, y, z)
  | x, y, z, d :: l => gEnd (upd d.p d.n 0 x) (upd d.p d.n 1 y) (upd d.p d.n 2 z) l
theorem gokL_app (a b c : Int) (m : List Dt) : ∀ (l : List Dt) (x y z : Int), gokL a b c x y z (l ++ m) = (gokL a b c x y z l && gokL a b c (gEnd x y z l).1 (gEnd x y z l).2.1 (gEnd x y z l).2.2 m)
  | [], x, y, z => by simp [gokL, gEnd]
  | d :: l, x, y, z => by
    have ih := gokL_app a b c m l (upd d.p d.n 0 x) (upd d.p d.n 1 y) (upd d.p d.n 2 z)
    simp only [List.cons_append, gokL, gEnd, ih, Bool.and_assoc]
theorem comp_mono {a b c a' b' c' p : Int} (ha : a ≤ a') (hb : b ≤ b') (hc : c ≤ c') : comp a b c p ≤ comp a' b' c' p := by
  unfold comp
  split
  · exact ha
  · split
    · exact hb
    · exact hc
theorem gokL_mono {a b c a' b' c' : Int} (ha : a ≤ a') (hb : b ≤ b') (hc : c ≤ c') : ∀ (l : List Dt) (x y z : Int), gokL a b c x y z l = true → gokL a' b' c' x y z l = true
  | [], x, y, z, _ => rfl
  | d :: l, x, y, z, h => by
    simp only [gokL, Bool.and_eq_true, decide_eq_true_eq] at h ⊢
    exact ⟨h.1, h.2.1, Int.le_trans h.2.2.1 (comp_mono ha hb hc), gokL_mono ha hb hc l _ _ _ h.2.2.2⟩
theorem gok_end {a b c : Int} : ∀ (l : List Dt) (x y z : Int), gokL a b c x y z l = true → x ≤ a → y ≤ b → z ≤ c → (gEnd x y z l).1 ≤ a ∧ (gEnd x y z l).2.1 ≤ b ∧ (gEnd x y z l).2.2 ≤ c
  | [], x, y, z, _, h1, h2, h3 => ⟨h1, h2, h3⟩
  | d :: l, x, y, z, h, h1, h2, h3 => by
    simp only [gokL, Bool.and_eq_true, decide_eq_true_eq] at h
    refine gok_end l _ _ _ h.2.2.2 ?_ ?_ ?_
    · unfold upd; split
      · rename_i e; have := h.2.2.1; rw [e] at this; simpa [comp] using this
      · exact h1
    · unfold upd; split
      · rename_i e; have := h.2.2.1; rw [e] at this; simpa [comp] using this
      · exact h2
    · unfold upd; split
      · rename_i e; have := h.2.2.1; rw [e] at this; simpa [comp] using this
      · exact h3
/-- What is drawn: a group whose events rise. -/
structure GI (k : Nat) (a b c : Int) (l : List Dt) : Prop where
  ok : gokL a b c 0 0 0 l = true
  a0 : 0 ≤ a ∧ a ≤ k
  b0 : 0 ≤ b ∧ b ≤ k
  c0 : 0 ≤ c ∧ c ≤ k
  len : l.length ≤ k
theorem GI.nil : GI 0 0 0 0 [] := ⟨rfl, by simp, by simp, by simp, by simp⟩
theorem GI.gok {k : Nat} {a b c e o : Int} {l : List Dt} (h : GI k a b c l) (hk : k ≤ 4096) (he : 1 ≤ e ∧ e ≤ 1000000) (ho : 0 ≤ o ∧ o < 3) : gokB e o a b c l = true := by
  have h1 := h.a0
  have h2 := h.b0
  have h3 := h.c0
  have h4 := h.len
  rw [gok_all (decide_eq_true he) (decide_eq_true ho) (decide_eq_true (by omega)) (by omega)]
  exact h.ok

theorem GI.step0 {k : Nat} {a b c : Int} {l : List Dt} (h : GI k a b c l) (hk : k < 9000) : GI (k + 1) (a + 1) b c (l ++ [⟨0, a + 1⟩]) := by
  have h1 := h.a0
  have h2 := h.b0
  have h3 := h.c0
  refine ⟨?_, ⟨by omega, by omega⟩, ⟨by omega, by omega⟩, ⟨by omega, by omega⟩, by simp; exact h.len⟩
  have he := gok_end l 0 0 0 h.ok h1.1 h2.1 h3.1
  rw [gokL_app, gokL_mono (by omega) (Int.le_refl _) (Int.le_refl _) l 0 0 0 h.ok]
  have q1 : dotB 0 (a + 1) = true := decide_eq_true (by omega)
  have q2 : decide (a + 1 ≤ comp (gEnd 0 0 0 l).1 (gEnd 0 0 0 l).2.1 (gEnd 0 0 0 l).2.2 0) = false := decide_eq_false (by simp only [comp]; simp; omega)
  have q3 : decide (a + 1 ≤ comp (a + 1) b c 0) = true := decide_eq_true (by simp [comp])
  simp only [gokL, q1, q2, q3]
  rfl

theorem GI.step1 {k : Nat} {a b c : Int} {l : List Dt} (h : GI k a b c l) (hk : k < 9000) : GI (k + 1) a (b + 1) c (l ++ [⟨1, b + 1⟩]) := by
  have h1 := h.a0
  have h2 := h.b0
  have h3 := h.c0
  refine ⟨?_, ⟨by omega, by omega⟩, ⟨by omega, by omega⟩, ⟨by omega, by omega⟩, by simp; exact h.len⟩
  have he := gok_end l 0 0 0 h.ok h1.1 h2.1 h3.1
  rw [gokL_app, gokL_mono (Int.le_refl _) (by omega) (Int.le_refl _) l 0 0 0 h.ok]
  have q1 : dotB 1 (b + 1) = true := decide_eq_true (by omega)
  have q2 : decide (b + 1 ≤ comp (gEnd 0 0 0 l).1 (gEnd 0 0 0 l).2.1 (gEnd 0 0 0 l).2.2 1) = false := decide_eq_false (by simp only [comp]; simp; omega)
  have q3 : decide (b + 1 ≤ comp a (b + 1) c 1) = true := decide_eq_true (by simp [comp])
  simp only [gokL, q1, q2, q3]
  rfl

theorem GI.step2 {k : Nat} {a b c : Int} {l : List Dt} (h : GI k a b c l) (hk : k < 9000) : GI (k + 1) a b (c + 1) (l ++ [⟨2, c + 1⟩]) := by
  have h1 := h.a0
  have h2 := h.b0
  have h3 := h.c0
  refine ⟨?_, ⟨by omega, by omega⟩, ⟨by omega, by omega⟩, ⟨by omega, by omega⟩, by simp; exact h.len⟩
  have he := gok_end l 0 0 0 h.ok h1.1 h2.1 h3.1
  rw [gokL_app, gokL_mono (Int.le_refl _) (Int.le_refl _) (by omega) l 0 0 0 h.ok]
  have q1 : dotB 2 (c + 1) = true := decide_eq_true (by omega)
  have q2 : decide (c + 1 ≤ comp (gEnd 0 0 0 l).1 (gEnd 0 0 0 l).2.1 (gEnd 0 0 0 l).2.2 2) = false := decide_eq_false (by simp only [comp]; simp; omega)
  have q3 : decide (c + 1 ≤ comp a b (c + 1) 2) = true := decide_eq_true (by simp [comp])
  simp only [gokL, q1, q2, q3]
  rfl
theorem row_cell {W : World} {ao : Option Addr} {len cap : Nat} {zs : List Int} (hr : Gen.IsRow .u8 W ao len cap zs) (hl : 0 < len) : ∃ b off, ao = some ⟨b, off, none⟩ ∧ ∀ j, j < len → ∃ z : Int, 0 ≤ z ∧ z ≤ 255 ∧ W.cell? ⟨b, off + j, none⟩ = some (.int .u8 z) := by
  rcases hr with ⟨_, h, _⟩ | ⟨x, rfl, h1, h2, h3, h4, h5⟩
  · omega
  · obtain ⟨b, off, spot⟩ := x
    have c0 := h4 0 (by omega)
    have hspot : spot = none := by
      have := World.cell?_spot (a := _) (w := W) (by simpa [Addr.add] using c0)
      simpa using this
    subst hspot
    refine ⟨b, off, rfl, fun j hj => ⟨zs.getD j 0, ?_⟩⟩
    have hm : zs.getD j 0 ∈ zs := by
      rw [List.getD_eq_getElem?_getD, List.getElem?_eq_getElem (by omega)]
      exact List.getElem_mem _
    have hw := h5 _ hm
    have cj := h4 j (by omega)
    rw [add_none] at cj
    generalize zs.getD j 0 = z at *
    have hmin : IntKind.u8.min = 0 := by decide
    have hmax : IntKind.u8.max = 255 := by decide
    simp [Lit.wf, hmin, hmax] at hw
    exact ⟨by omega, by omega, cj⟩
set_option maxHeartbeats 4000000 in
theorem at_det (ao : Option Addr) (len cap : Nat) (zs : List Int) (i : Int) (n : Nat) (w : World) (hi0 : 0 ≤ i) (hi : i ≤ 2) (hn : n ≤ 1048576) (hl : len ≤ 1048576) (hr0 : Gen.IsRow .u8 w ao len cap zs) :
    ∃ r : Nat, (r < n ∨ r = 0) ∧ ∀ W, Below w.heap.size w W → Calls Try.prog 9 #[.slice ao len cap, .int .i64 i, .int .i64 (n : Int)] W fun e w' => e = .returned (.int .i64 (r : Int)) ∧ Below W.heap.size W w' := by
  by_cases h1 : n ≤ 1
  · have h1' : (n : Int) ≤ 1 := by omega
    refine ⟨0, .inr rfl, fun W hW => ?_⟩
    clear hW hr0
    go_enter Try.func9, Try.ntmps9
    go_wp2
    go_ret
    exact ⟨rfl, Below.refl _ _⟩
  have h1' : ¬ (n : Int) ≤ 1 := by omega
  have hn0 : ¬ (n : Int) = 0 := by omega
  have hnb : ((n : Int) == 0) = false := beq_eq_false_iff_ne.2 hn0
  by_cases hz : len = 0
  · subst hz
    have q1 : IntKind.i64.wrap (i * 7) = i * 7 := by rw [IntKind.wrap_i64]; omega
    obtain ⟨r, hr⟩ : ∃ r : Nat, (i * 7).tmod (n : Int) = (r : Int) := ⟨((i * 7) % (n : Int)).toNat, by rw [Int.tmod_eq_emod_of_nonneg (by omega)]; have := Int.emod_nonneg (i * 7) hn0; omega⟩
    have hrl : r < n := by
      have h2 := Int.emod_lt_of_pos (i * 7) (show (0 : Int) < (n : Int) by omega)
      rw [Int.tmod_eq_emod_of_nonneg (by omega)] at hr
      omega
    have q2 : IntKind.i64.wrap (r : Int) = (r : Int) := by rw [IntKind.wrap_i64]; omega
    refine ⟨r, .inl hrl, fun W hW => ?_⟩
    clear hW hr0
    go_enter Try.func9, Try.ntmps9
    go_wp2
    go_ret
    exact ⟨rfl, Below.refl _ _⟩
  have hl0 : ¬ (len : Int) = 0 := by omega
  have hlb : ((len : Int) == 0) = false := beq_eq_false_iff_ne.2 hl0
  obtain ⟨b, off, rfl, hcell⟩ := row_cell hr0 (by omega)
  obtain ⟨a1, ha1, hb1⟩ : ∃ a1 : Nat, i.tmod (len : Int) = (a1 : Int) ∧ a1 < len := ⟨(i % (len : Int)).toNat, by rw [Int.tmod_eq_emod_of_nonneg hi0]; have := Int.emod_nonneg i hl0; omega, by have := Int.emod_lt_of_pos i (show (0 : Int) < (len : Int) by omega); have := Int.emod_nonneg i hl0; omega⟩
  obtain ⟨a2, ha2, hb2⟩ : ∃ a2 : Nat, (i + 1).tmod (len : Int) = (a2 : Int) ∧ a2 < len := ⟨((i + 1) % (len : Int)).toNat, by rw [Int.tmod_eq_emod_of_nonneg (by omega)]; have := Int.emod_nonneg (i + 1) hl0; omega, by have := Int.emod_lt_of_pos (i + 1) (show (0 : Int) < (len : Int) by omega); have := Int.emod_nonneg (i + 1) hl0; omega⟩
  obtain ⟨a3, ha3, hb3⟩ : ∃ a3 : Nat, i.tdiv (len : Int) = (a3 : Int) ∧ a3 ≤ 2 := ⟨(i / (len : Int)).toNat, by rw [Int.tdiv_eq_ediv_of_nonneg hi0]; have := Int.ediv_nonneg hi0 (show (0 : Int) ≤ (len : Int) by omega); omega, by have := Int.ediv_le_self (len : Int) hi0; omega⟩
  obtain ⟨z1, p1, p1', x1⟩ := hcell a1 hb1
  obtain ⟨z2, p2, p2', x2⟩ := hcell a2 hb2
  have k1 : (0 : Int) ≤ (a1 : Int) := by omega
  have k1' : (a1 : Int) < (len : Int) := by omega
  have k2 : (0 : Int) ≤ (a2 : Int) := by omega
  have k2' : (a2 : Int) < (len : Int) := by omega
  have q0 : IntKind.i64.wrap (i + 1) = i + 1 := by rw [IntKind.wrap_i64]; omega
  have q1 : IntKind.i64.wrap (a1 : Int) = (a1 : Int) := by rw [IntKind.wrap_i64]; omega
  have q2 : IntKind.i64.wrap (a2 : Int) = (a2 : Int) := by rw [IntKind.wrap_i64]; omega
  have q3 : IntKind.i64.wrap (a3 : Int) = (a3 : Int) := by rw [IntKind.wrap_i64]; omega
  have q4 : IntKind.i64.wrap z1 = z1 := by rw [IntKind.wrap_i64]; omega
  have q5 : IntKind.i64.wrap z2 = z2 := by rw [IntKind.wrap_i64]; omega
  have q6 : IntKind.i64.wrap (z1 * 31) = z1 * 31 := by rw [IntKind.wrap_i64]; omega
  have q7 : IntKind.i64.wrap (z1 * 31 + z2) = z1 * 31 + z2 := by rw [IntKind.wrap_i64]; omega
  have q8 : IntKind.i64.wrap (z1 * 31 + z2 + (a3 : Int)) = z1 * 31 + z2 + (a3 : Int) := by rw [IntKind.wrap_i64]; omega
  obtain ⟨r, hr, hrl⟩ : ∃ r : Nat, (z1 * 31 + z2 + (a3 : Int)).tmod (n : Int) = (r : Int) ∧ r < n := ⟨((z1 * 31 + z2 + (a3 : Int)) % (n : Int)).toNat, by rw [Int.tmod_eq_emod_of_nonneg (by omega)]; have := Int.emod_nonneg (z1 * 31 + z2 + (a3 : Int)) hn0; omega, by have := Int.emod_lt_of_pos (z1 * 31 + z2 + (a3 : Int)) (show (0 : Int) < (n : Int) by omega); have := Int.emod_nonneg (z1 * 31 + z2 + (a3 : Int)) hn0; omega⟩
  have q9 : IntKind.i64.wrap (r : Int) = (r : Int) := by rw [IntKind.wrap_i64]; omega
  refine ⟨r, .inl hrl, fun W hW => ?_⟩
  replace x1 := cell_next hW x1 (cell_lt (x := ⟨b, off + a1, none⟩) x1)
  replace x2 := cell_next hW x2 (cell_lt (x := ⟨b, off + a2, none⟩) x2)
  clear hcell hr0 hW
  go_enter Try.func9, Try.ntmps9
  go_wp2
  go_quiet (fail)
  go_wp2
  go_ret
  exact ⟨rfl, below_drewN (Below.refl _ _) _⟩
set_option maxHeartbeats 1000000 in
theorem source_any (len cap : Nat) (ao : Option Addr) (w : World) (hl : (len : Int) ≤ 1048576) :
    Calls Try.prog 25 #[.slice ao len cap] w fun e w' => e = .returned (.pointer (some ⟨w.heap.size, 0, none⟩)) ∧ w' = w.alloc (.cells #[.slice ao len cap, .int .i64 0, .int .i64 ((len : Int) % 1000)] 68) := by
  go_enter Try.func25, Try.ntmps25
  go_wp2
  go_ret
  exact ⟨rfl, rfl⟩
end Go.Proofs.Ytklajcdlacemaaa
