/- ModelObj of the specification. -/
import Derived.Test.YtkdbcmkmcjaenaaGreatDoorRows
import Derived.WalkKit
import Derived.WalkSpells
import Derived.WalkLawsBesides
import Derived.Deep.QuietTactic
import Derived.BigQuiet
import Derived.Deep.RegionHeld3
import Derived.Test.YtkdbcmkmcjaenaaGreatDoorOb
import Derived.Test.YtkdbcmkmcjaenaaGreatDoorEs
import Derived.LoopN
import Derived.OwnWalk
import Derived.Laws.StructEq
namespace Go.Proofs.YtkdbcmkmcjaenaaGreatDoor
open Go.RowKit
set_option linter.unusedSimpArgs false
set_option linter.unusedVariables false

/-- A row of siblings that may be written, from the block lo on. -/
structure SR (lo : Nat) (w : World) (p : Option Addr) (ss : List Sb) : Prop where
  row : GRow lo w p (flatS ss)
  wr : ss = [] ∨ ∃ g, p = some ⟨g, 0, none⟩ ∧ lo ≤ g ∧ g < w.heap.size ∧ There w g (ss.length * 4)
theorem SR.next {lo : Nat} {w w' : World} {p : Option Addr} {l : List Sb} (h : SR lo w p l) (hb : Below w.heap.size w w') : SR lo w' p l := by
  refine ⟨h.row.next hb, ?_⟩
  rcases h.wr with h' | ⟨g, h1, h2, h3, h4⟩
  · exact .inl h'
  · exact .inr ⟨g, h1, h2, Nat.lt_of_lt_of_le h3 hb.size, h4.next hb h3⟩
theorem SR.weak {lo lo' : Nat} {w : World} {p : Option Addr} {l : List Sb} (h : SR lo w p l) (hl : lo' ≤ lo) : SR lo' w p l := by
  refine ⟨h.row.weak hl, ?_⟩
  rcases h.wr with h' | ⟨g, h1, h2, h3⟩
  · exact .inl h'
  · exact .inr ⟨g, h1, by omega, h3⟩
theorem SR.nil (lo : Nat) (w : World) (p : Option Addr) : SR lo w p [] := ⟨.inl rfl, .inl rfl⟩
theorem SR.kp {E : Nat → Prop} {lo : Nat} {w w' : World} {p : Option Addr} {l : List Sb} (h : SR lo w p l) (k : Kp E w w') (hn : ∀ b, lo ≤ b → ¬ E b) : SR lo w' p l := by
  refine ⟨?_, ?_⟩
  · rcases h.row with h' | ⟨b, off, h1, h2, h3⟩
    · exact .inl h'
    · refine .inr ⟨b, off, h1, h2, fun j hj => ?_⟩
      have hc := h3 j hj
      rw [World.cell?_of_block (w := w) (k.block _ (cell_lt (x := ⟨b, off + j, none⟩) hc) (hn _ h2))]
      exact hc
  · rcases h.wr with h' | ⟨g, h1, h2, h3, h4⟩
    · exact .inl h'
    · exact .inr ⟨g, h1, h2, Nat.lt_of_lt_of_le h3 k.size, fun j hj => ⟨by rw [World.cell?_of_block (w := w) (k.block _ h3 (hn _ h2))]; exact (h4 j hj).1, by rw [World.frozen?_of_block (w := w) (k.block _ h3 (hn _ h2))]; exact (h4 j hj).2⟩⟩
theorem OwnG.sr {lo : Nat} {w : World} {p : Option Addr} {ss : List Sb} {c : Nat} (h : OwnG w 46 4 (.slice p ss.length c) ss.length (flatS ss) lo) : SR lo w p ss := by
  obtain ⟨_, _, e1, _, hg⟩ := h.grow
  cases e1
  refine ⟨hg, ?_⟩
  rcases h.own.2 with ⟨h2, h3⟩ | ⟨g', cap, cur, h2, h3, h4, h5, h6, h7, h8⟩
  · exact .inl (List.eq_nil_of_length_eq_zero h3)
  · cases h2
    refine .inr ⟨g', rfl, h.ge g' rfl, (h.own.lt g' rfl).2, fun j hj => ⟨?_, ?_⟩⟩
    · have hj2 : j < (flatS ss).length := by rw [flatS_len]; exact hj
      have := h.own.cellAt j hj
      rw [this, List.getElem?_eq_getElem hj2]
      rfl
    · exact h.own.frozenAt j
theorem kp4 {W : World} {g : Nat} {u0 u1 u2 u3 : Value} : Kp (· = g) W ((((W.setCell ⟨g, 0, none⟩ u0).setCell ⟨g, 1, none⟩ u1).setCell ⟨g, 2, none⟩ u2).setCell ⟨g, 3, none⟩ u3) := ((Kp.set.trans Kp.set (fun _ _ h => h) (fun _ _ h => h)).trans Kp.set (fun _ _ h => h) (fun _ _ h => h)).trans Kp.set (fun _ _ h => h) (fun _ _ h => h)
theorem set4_below {w W : World} {g : Nat} {u0 u1 u2 u3 : Value} (h : Below w.heap.size w W) (hg : w.heap.size ≤ g) : Below w.heap.size w ((((W.setCell ⟨g, 0, none⟩ u0).setCell ⟨g, 1, none⟩ u1).setCell ⟨g, 2, none⟩ u2).setCell ⟨g, 3, none⟩ u3) := h.trans (kp4.below h.size (fun b hb e => by omega))
theorem SR.set4 {lo : Nat} {W : World} {g : Nat} {u0 u1 u2 u3 : Value} {p : Option Addr} {ss : List Sb} (h : SR lo W p ss) (hg : g < lo) : SR lo ((((W.setCell ⟨g, 0, none⟩ u0).setCell ⟨g, 1, none⟩ u1).setCell ⟨g, 2, none⟩ u2).setCell ⟨g, 3, none⟩ u3) p ss := h.kp kp4 (fun b hb e => by omega)
/-- The answer of ModelObj. -/
def moP (l : List Ev) (key : ByteArray) (ss : List Sb) (a b c cd : Int) : Prop :=
  ((4096 < l.length ∨ 65536 < key.size) ∧ (ss = [] ∧ a = 0 ∧ b = 0 ∧ c = 0) ∧ cd = 2) ∨ (¬ (4096 < l.length ∨ 65536 < key.size) ∧ ¬ eok l ∧ (ss = [] ∧ a = 0 ∧ b = 0 ∧ c = 0) ∧ cd = 1) ∨
    (¬ (4096 < l.length ∨ 65536 < key.size) ∧ eok l ∧ ¬ keyP key ∧ (ss = [] ∧ a = 0 ∧ b = 0 ∧ c = 0) ∧ cd = 8) ∨ (¬ (4096 < l.length ∨ 65536 < key.size) ∧ eok l ∧ keyP key ∧ OInv l l.length key ss a b c ∧ cd = 0)
theorem oinv_one {l : List Ev} {i : Nat} {key : ByteArray} {ss ss' : List Sb} {a b c a' b' c' : Int} (h : OInv l i key ss a b c) (h' : OInv l i key ss' a' b' c') : ss = ss' ∧ a = a' ∧ b = b' ∧ c = c' :=
  ⟨ris_one h.1.1 h'.1.1 (fun x => (h.1.2.1 x).trans (h'.1.2.1 x).symm), supP_one h.2.1 h'.2.1, supP_one h.2.2.1 h'.2.2.1, supP_one h.2.2.2 h'.2.2.2⟩
theorem moP_one {l : List Ev} {key : ByteArray} {ss ss' : List Sb} {a b c a' b' c' d d' : Int} (h : moP l key ss a b c d) (h' : moP l key ss' a' b' c' d') : (ss = ss' ∧ a = a' ∧ b = b' ∧ c = c') ∧ d = d' := by
  rcases h with ⟨h1, ⟨rfl, rfl, rfl, rfl⟩, rfl⟩ | ⟨h1, h2, ⟨rfl, rfl, rfl, rfl⟩, rfl⟩ | ⟨h1, h2, h3, ⟨rfl, rfl, rfl, rfl⟩, rfl⟩ | ⟨h1, h2, h3, h4, rfl⟩ <;> rcases h' with ⟨k1, ⟨rfl, rfl, rfl, rfl⟩, rfl⟩ | ⟨k1, k2, ⟨rfl, rfl, rfl, rfl⟩, rfl⟩ | ⟨k1, k2, k3, ⟨rfl, rfl, rfl, rfl⟩, rfl⟩ | ⟨k1, k2, k3, k4, rfl⟩
  all_goals first
    | exact ⟨⟨rfl, rfl, rfl, rfl⟩, rfl⟩
    | exact absurd h1 k1
    | exact absurd k1 h1
    | exact absurd h2 k2
    | exact absurd k2 h2
    | exact absurd h3 k3
    | exact absurd k3 h3
    | exact ⟨oinv_one h4 k4, rfl⟩
def Tmo (l : List Ev) (key : ByteArray) (w : World) (e : Ending) (w' : World) : Prop := ∃ p q ss a b c cd, e = .returned (.tuple #[.agg #[.slice p ss.length q, .int .i64 a, .int .i64 b, .int .i64 c], .int .i64 cd]) ∧ moP l key ss a b c cd ∧ SR w.heap.size w' p ss ∧ Below w.heap.size w w'
theorem Tmo.mk {l : List Ev} {key : ByteArray} {w w' : World} {p : Option Addr} {n q : Nat} {ss : List Sb} {a b c cd : Int} (hn : n = ss.length) (hm : moP l key ss a b c cd) (ht : SR w.heap.size w' p ss) (hb : Below w.heap.size w w') : Tmo l key w (.returned (.tuple #[.agg #[.slice p n q, .int .i64 a, .int .i64 b, .int .i64 c], .int .i64 cd])) w' := by
  subst hn
  exact ⟨p, q, ss, a, b, c, cd, rfl, hm, ht, hb⟩
set_option maxRecDepth 20000 in
set_option maxHeartbeats 4000000 in
theorem specMo (lo q : Nat) (po : Option Addr) (l : List Ev) (key : ByteArray) (w : World) (hl1 : (l.length : Int) ≤ 1048576) (hks : ∀ x ∈ l, x.key.size < 1099511627776) (hkk : key.size < 1099511627776) (hr0 : GRow lo w po (flatE l)) :
    Calls Tryz.prog 10 #[.slice po l.length q, .string key] w (Tmo l key w) := by
  have hr : Hid (GRow lo w po (flatE l)) := hr0
  clear hr0
  go_enter Tryz.func10, Tryz.ntmps10
  by_cases hl : 4096 < (l.length : Int)
  case pos =>
    have HF : Hid (moP l key [] 0 0 0 2) := .inl ⟨.inl (by omega), ⟨rfl, rfl, rfl, rfl⟩, rfl⟩
    clear hr
    go_wp2
    refine bodyPost_ret (v := .tuple #[.agg #[.slice none 0 0, .int .i64 0, .int .i64 0, .int .i64 0], .int .i64 2]) ?_ rfl (Tmo.mk (p := none) (q := 0) (ss := []) rfl HF.out (SR.nil _ _ _) (bel_alloc _ _))
    · simp [results, Tryz.results10, go_sem]
  by_cases hk : 65536 < (key.size : Int)
  case pos =>
    have HF : Hid (moP l key [] 0 0 0 2) := .inl ⟨.inr (by omega), ⟨rfl, rfl, rfl, rfl⟩, rfl⟩
    clear hr
    go_wp2
    refine bodyPost_ret (v := .tuple #[.agg #[.slice none 0 0, .int .i64 0, .int .i64 0, .int .i64 0], .int .i64 2]) ?_ rfl (Tmo.mk (p := none) (q := 0) (ss := []) rfl HF.out (SR.nil _ _ _) (bel_alloc _ _))
    · simp [results, Tryz.results10, go_sem]
  have HLE : Hid (¬ (4096 < l.length ∨ 65536 < key.size)) := by show ¬ _; omega
  have HA : Hid (Below w.heap.size w (w.alloc (.cells #[.slice none 0 0, .int .i64 0, .int .i64 0, .int .i64 0] 34))) := bel_alloc _ _
  have HBX : Hid (Box (w.alloc (.cells #[.slice none 0 0, .int .i64 0, .int .i64 0, .int .i64 0] 34)) w.heap.size [.slice none 0 0, .int .i64 0, .int .i64 0, .int .i64 0]) := box_mk
  go_wp2_with fail
  refine (specEvents lo q po l _ hl1 hks (hr.out.next HA.out)).mono ?_
  rintro e1 W1 ⟨r1, rfl, hq, hb⟩
  have HB : Hid (Below w.heap.size w W1 ∧ Box W1 w.heap.size [.slice none 0 0, .int .i64 0, .int .i64 0, .int .i64 0]) := ⟨HA.out.trans (hb.mono HA.out.size), HBX.out.next hb⟩
  have HQ : Hid (r1 = true ↔ eok l) := hq
  clear hb hq HA HBX
  cases r1
  case false =>
    have HF : Hid (moP l key [] 0 0 0 1) := .inr (.inl ⟨HLE.out, fun h => (by have := HQ.out.2 h; cases this), ⟨rfl, rfl, rfl, rfl⟩, rfl⟩)
    clear HQ hr
    obtain ⟨q0, q1, q2, q3⟩ := HB.out.2.c4
    obtain ⟨r0, r1, r2, r3⟩ := HB.out.2.f4
    go_wp2
    refine bodyPost_ret (v := .tuple #[.agg #[.slice none 0 0, .int .i64 0, .int .i64 0, .int .i64 0], .int .i64 1]) ?_ rfl (Tmo.mk (p := none) (q := 0) (ss := []) rfl HF.out (SR.nil _ _ _) (set4_below HB.out.1 (Nat.le_refl _)))
    simp [results, Tryz.results10, go_sem, q0, q1, q2, q3]
  have HE : Hid (eok l) := HQ.out.1 rfl
  clear HQ
  obtain ⟨bk, hbk⟩ := bool_of (keyP key)
  have HK : Hid (bk = true ↔ keyP key) := hbk
  clear hbk
  go_wp2_with fail
  refine (specKey_any key bk HK.out W1 hkk).mono ?_
  rintro e1 W2 ⟨rfl, hw2⟩
  subst hw2
  cases bk
  case false =>
    have HF : Hid (moP l key [] 0 0 0 8) := .inr (.inr (.inl ⟨HLE.out, HE.out, fun h => (by have := HK.out.2 h; cases this), ⟨rfl, rfl, rfl, rfl⟩, rfl⟩))
    clear HK hr
    obtain ⟨q0, q1, q2, q3⟩ := HB.out.2.c4
    obtain ⟨r0, r1, r2, r3⟩ := HB.out.2.f4
    go_wp2
    refine bodyPost_ret (v := .tuple #[.agg #[.slice none 0 0, .int .i64 0, .int .i64 0, .int .i64 0], .int .i64 8]) ?_ rfl (Tmo.mk (p := none) (q := 0) (ss := []) rfl HF.out (SR.nil _ _ _) (set4_below HB.out.1 (Nat.le_refl _)))
    simp [results, Tryz.results10, go_sem, q0, q1, q2, q3]
  have HKP : Hid (keyP key) := HK.out.1 rfl
  clear HK
  go_wp2_with fail
  refine (obj13_any lo q po l key W2 HE.out (hr.out.next HB.out.1)).mono ?_
  rintro e1 W3 ⟨g, cc, ss, a, b, c, rfl, hO, hI, hb⟩
  have HW2 : Hid (w.heap.size < W2.heap.size) := HB.out.2.lt
  replace HB : Hid (Below w.heap.size w W3 ∧ Box W3 w.heap.size [.slice none 0 0, .int .i64 0, .int .i64 0, .int .i64 0]) := ⟨HB.out.1.trans (hb.mono HB.out.1.size), HB.out.2.next hb⟩
  have HS : Hid (SR W2.heap.size W3 (some ⟨g, 0, none⟩) ss) := hO.sr
  have HF : Hid (moP l key ss a b c 0) := .inr (.inr (.inr ⟨HLE.out, HE.out, HKP.out, hI, rfl⟩))
  have hl3 : (ss.length : Int) ≤ 100 := by have h1 := hI.1.2.2; have h2 := HE.out.1; omega
  clear hO hI hb HE HKP hr HLE
  go_upto_region 8 with fail
  refine wp_gen (fun W => Box W W3.heap.size [.slice (some ⟨g, 0, none⟩) ss.length cc, .int .i64 a, .int .i64 b, .int .i64 c] ∧ Below W3.heap.size W3 W) ⟨box_mk, bel_alloc _ _⟩ (fun W4 hI => ?_)
  replace HB : Hid (Below w.heap.size w W4 ∧ Box W4 w.heap.size [.slice none 0 0, .int .i64 0, .int .i64 0, .int .i64 0]) := ⟨HB.out.1.trans (hI.2.mono HB.out.1.size), HB.out.2.next hI.2⟩
  replace HS : Hid (SR W2.heap.size W4 (some ⟨g, 0, none⟩) ss) := HS.out.next hI.2
  obtain ⟨o0, o1, o2, o3⟩ := hI.1.c4
  clear hI
  obtain ⟨q0, q1, q2, q3⟩ := HB.out.2.c4
  obtain ⟨r0, r1, r2, r3⟩ := HB.out.2.f4
  have hl4 : ¬ 100 < (ss.length : Int) := by omega
  generalize W3.heap.size = go at *
  go_wp2
  refine bodyPost_ret (v := .tuple #[.agg #[.slice (some ⟨g, 0, none⟩) ss.length cc, .int .i64 a, .int .i64 b, .int .i64 c], .int .i64 0]) ?_ rfl (Tmo.mk rfl HF.out (HS.out.set4 HW2.out |>.weak (Nat.le_of_lt HW2.out)) (set4_below HB.out.1 (Nat.le_refl _)))
  simp [results, Tryz.results10, go_sem, q0, q1, q2, q3]
end Go.Proofs.YtkdbcmkmcjaenaaGreatDoor
