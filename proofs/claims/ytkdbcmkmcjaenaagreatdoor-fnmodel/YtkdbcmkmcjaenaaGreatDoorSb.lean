/- Siblings; the order of dots. -/
import Derived.Test.YtkdbcmkmcjaenaaGreatDoorRows
import Derived.WalkKit
import Derived.WalkSpells
import Derived.WalkLawsBesides
import Derived.Deep.QuietTactic
import Derived.BigQuiet
import Derived.Deep.RegionHeld3
import Derived.Test.YtkdbcmkmcjaenaaGreatDoorMr
import Derived.Test.YtkdbcmkmcjaenaaGreatDoorOv
import Derived.LoopN
import Derived.OwnWalk
namespace Go.Proofs.YtkdbcmkmcjaenaaGreatDoor
open Go.RowKit
set_option linter.unusedSimpArgs false
set_option linter.unusedVariables false

/-- A sibling. -/
structure Sb where
  p : Int
  n : Int
  v : Int
  dead : Bool
def sc (x : Sb) : List Value := [.int .i64 x.p, .int .i64 x.n, .int .i64 x.v, .bool x.dead]
def flatS : List Sb → List Value
  | [] => []
  | x :: l => sc x ++ flatS l
theorem flatS_len : ∀ l : List Sb, (flatS l).length = l.length * 4
  | [] => rfl
  | x :: l => by simp [flatS, sc, flatS_len l]; omega
theorem flatS_app : ∀ a b : List Sb, flatS (a ++ b) = flatS a ++ flatS b
  | [], b => rfl
  | x :: a, b => by simp [flatS, flatS_app a b]
theorem flatS_one : ∀ (l : List Sb), ∀ u ∈ flatS l, u.oneCell' = true
  | [], u, hu => by simp [flatS] at hu
  | x :: l, u, hu => by
    rcases List.mem_append.1 hu with h | h
    · simp [sc] at h
      rcases h with rfl | rfl | rfl | rfl <;> rfl
    · exact flatS_one l u h
theorem flatS_take (l : List Sb) (k : Nat) : flatS (l.take k) = (flatS l).take (k * 4) := by
  induction l generalizing k with
  | nil => simp [flatS]
  | cons x l ih =>
    cases k with
    | zero => simp [flatS]
    | succ k =>
      rw [List.take_succ_cons, flatS, ih, flatS, List.take_append, show (sc x).length = 4 from rfl, List.take_of_length_le (l := sc x) (i := (k + 1) * 4) (by rw [show (sc x).length = 4 from rfl]; omega), show (k + 1) * 4 - 4 = k * 4 by omega]
theorem flatS_drop (l : List Sb) (k : Nat) : flatS (l.drop k) = (flatS l).drop (k * 4) := by
  induction l generalizing k with
  | nil => simp [flatS]
  | cons x l ih =>
    cases k with
    | zero => simp [flatS]
    | succ k =>
      rw [List.drop_succ_cons, ih, flatS, List.drop_append, show (sc x).length = 4 from rfl, List.drop_of_length_le (l := sc x) (i := (k + 1) * 4) (by rw [show (sc x).length = 4 from rfl]; omega), show (k + 1) * 4 - 4 = k * 4 by omega, List.nil_append]
theorem flatS_at : ∀ (l : List Sb) (k i : Nat) (hk : k < l.length) (hi : i < 4), (flatS l)[k * 4 + i]? = (sc l[k])[i]?
  | x :: l, 0, i, _, hi => by
    rw [flatS, List.getElem?_append_left (by rw [show (sc x).length = 4 from rfl]; omega)]
    simp
  | x :: l, k + 1, i, hk, hi => by
    rw [flatS, List.getElem?_append_right (by rw [show (sc x).length = 4 from rfl]; omega), show (sc x).length = 4 from rfl, show (k + 1) * 4 + i - 4 = k * 4 + i by omega, flatS_at l k i (by simpa using hk) hi]
    simp
/-- A sibling in four cells. -/
def SAt (w : World) (b o : Nat) (x : Sb) : Prop := w.cell? ⟨b, o, none⟩ = some (.int .i64 x.p) ∧ w.cell? ⟨b, o + 1, none⟩ = some (.int .i64 x.n) ∧ w.cell? ⟨b, o + 2, none⟩ = some (.int .i64 x.v) ∧ w.cell? ⟨b, o + 3, none⟩ = some (.bool x.dead)
theorem SAt.next {w w' : World} {b o : Nat} {x : Sb} (h : SAt w b o x) (hb : Below w.heap.size w w') (hl : b < w.heap.size) : SAt w' b o x := ⟨cell_next hb h.1 hl, cell_next hb h.2.1 hl, cell_next hb h.2.2.1 hl, cell_next hb h.2.2.2 hl⟩
theorem grow_sat {lo : Nat} {w : World} {b off : Nat} {l : List Sb} (h : ∀ j (hj : j < (flatS l).length), w.cell? ⟨b, off + j, none⟩ = some (flatS l)[j]) {k : Nat} (hk : k < l.length) : SAt w b (off + k * 4) l[k] := by
  have g : ∀ i (hi : i < 4) (v : Value), (sc l[k])[i]? = some v → w.cell? ⟨b, off + k * 4 + i, none⟩ = some v := fun i hi v hv => by
    have hj : k * 4 + i < (flatS l).length := by rw [flatS_len]; omega
    have e := flatS_at l k i hk hi
    rw [hv, List.getElem?_eq_getElem hj] at e
    have := h _ hj
    rw [Option.some.inj e] at this
    rw [Nat.add_assoc]; exact this
  exact ⟨by simpa using g 0 (by omega) _ rfl, g 1 (by omega) _ rfl, g 2 (by omega) _ rfl, g 3 (by omega) _ rfl⟩
/-- By node, by number. -/
def dlt (p n q m : Int) : Prop := p < q ∨ (p = q ∧ n < m)
instance (p n q m : Int) : Decidable (dlt p n q m) := by unfold dlt; infer_instance
def sl (x y : Sb) : Prop := dlt x.p x.n y.p y.n
theorem sl_tr (a b c : Sb) (h : sl a b) (k : sl b c) : sl a c := by
  unfold sl dlt at *
  omega
def dcmp (p n q m : Int) : Int := if p < q then -1 else if q < p then 1 else if n < m then -1 else if m < n then 1 else 0
theorem dcmp_lt (p n q m : Int) : dcmp p n q m < 0 ↔ dlt p n q m := by
  unfold dcmp dlt
  repeat (first | split | omega)
theorem ins_R {α : Type} {R : α → α → Prop} (tr : ∀ a b c, R a b → R b c → R a c) {rs : List α} {key : α} {k : Nat} (hr : rs.Pairwise R) (hk : k ≤ rs.length) (h1 : ∀ j (h : j < rs.length), j < k → R rs[j] key) (h2 : ∀ (h : k < rs.length), R key rs[k]) :
    (rs.take k ++ key :: rs.drop k).Pairwise R ∧ ∀ x, x ∈ rs.take k ++ key :: rs.drop k ↔ (x ∈ rs ∨ x = key) := by
  have lt1 : ∀ x ∈ rs.take k, R x key := fun x hx => by
    obtain ⟨j, hj, rfl⟩ := List.getElem_of_mem hx
    have hj2 : j < k ∧ j < rs.length := by simp at hj; omega
    simpa using h1 j hj2.2 hj2.1
  have lt2 : ∀ x ∈ rs.drop k, R key x := fun x hx => by
    obtain ⟨j, hj, rfl⟩ := List.getElem_of_mem hx
    have hj2 : k + j < rs.length := by simp at hj; omega
    have hkl : k < rs.length := by omega
    rw [List.getElem_drop]
    rcases Nat.eq_zero_or_pos j with hz | hz
    · subst hz; exact h2 hkl
    · exact tr _ _ _ (h2 hkl) (List.pairwise_iff_getElem.1 hr k (k + j) hkl hj2 (by omega))
  refine ⟨List.pairwise_append.2 ⟨hr.sublist (List.take_sublist _ _), List.pairwise_cons.2 ⟨lt2, hr.sublist (List.drop_sublist _ _)⟩, fun x hx y hy => ?_⟩, fun x => ?_⟩
  · rcases List.mem_cons.1 hy with rfl | hy
    · exact lt1 x hx
    · exact tr _ _ _ (lt1 x hx) (lt2 y hy)
  · have e : rs = rs.take k ++ rs.drop k := (List.take_append_drop k rs).symm
    constructor
    · intro hx
      rcases List.mem_append.1 hx with hx | hx
      · exact .inl (List.mem_of_mem_take hx)
      · rcases List.mem_cons.1 hx with rfl | hx
        · exact .inr rfl
        · exact .inl (List.mem_of_mem_drop hx)
    · rintro (hx | rfl)
      · rw [e] at hx
        rcases List.mem_append.1 hx with hx | hx
        · exact List.mem_append.2 (.inl hx)
        · exact List.mem_append.2 (.inr (List.mem_cons.2 (.inr hx)))
      · simp
/-- Two rising lists of the same siblings are one. -/
theorem ris_one {a b : List Sb} (ha : a.Pairwise sl) (hb : b.Pairwise sl) (h : ∀ x, x ∈ a ↔ x ∈ b) : a = b := by
  have nd : ∀ l : List Sb, l.Pairwise sl → l.Nodup := fun l hl => hl.imp (fun {x y} hxy e => by subst e; unfold sl dlt at hxy; omega)
  exact ((List.perm_ext_iff_of_nodup (nd a ha) (nd b hb)).2 h).eq_of_pairwise (fun x y _ _ h1 h2 => by unfold sl dlt at h1 h2; omega) ha hb
theorem elSb : ElemT Tryz.prog 30 46 4 32 := by
  refine ⟨Tryz.underlying30, ?_, by decide, by decide⟩
  have hI : (Tryz.prog.info? 46).map (fun i => (i.zero, i.size, i.bytes)) = some (some (.agg #[.int .i64 0, .int .i64 0, .int .i64 0, .bool false]), 4, 32) := by kernel_rfl
  obtain ⟨i0, hi, hz0, hz1, hz2⟩ := info_parts hI
  exact ⟨i0, _, hi, hz0, hz1, hz2, rfl⟩
set_option maxHeartbeats 1000000 in
theorem bit_any (b : Bool) (w : World) : Calls Tryz.prog 108 #[.bool b] w fun e w' => e = .returned (.int .i64 (if b then 1 else 0)) ∧ w' = w := by
  cases b <;> (go_enter Tryz.func108, Tryz.ntmps108; go_wp2; go_ret; exact ⟨rfl, rfl⟩)
set_option maxHeartbeats 2000000 in
theorem dots_any (p n q m : Int) (w : World) : Calls Tryz.prog 95 #[.agg #[.int .i64 p, .int .i64 n], .agg #[.int .i64 q, .int .i64 m]] w fun e w' => e = .returned (.int .i64 (dcmp p n q m)) ∧ Below w.heap.size w w' := by
  have HB : Hid (Below w.heap.size w ((w.alloc (.cells #[.int .i64 p, .int .i64 n] 40)).alloc (.cells #[.int .i64 q, .int .i64 m] 40))) := (bel_alloc _ _).trans ((bel_alloc _ _).mono (bel_alloc _ _).size)
  rcases show p < q ∨ q < p ∨ (p = q ∧ n < m) ∨ (p = q ∧ m < n) ∨ (p = q ∧ n = m) by omega with h1 | h1 | ⟨h0, h1⟩ | ⟨h0, h1⟩ | ⟨h0, h1⟩
  · have HC : Hid (dcmp p n q m = -1) := by show _ = _; unfold dcmp; repeat (first | split | omega)
    have e1 : (p != q) = true := by simp; omega
    have l1 : p < q := by omega
    (try clear h0)
    (try clear h1)
    go_enter Tryz.func95, Tryz.ntmps95
    go_wp2_with fail
    refine (bit_any _ _).mono ?_
    rintro e W1 ⟨rfl, rfl⟩
    go_wp2
    go_ret
    exact ⟨congrArg (fun x => Ending.returned (.int .i64 x)) HC.out.symm, HB.out⟩
  · have HC : Hid (dcmp p n q m = 1) := by show _ = _; unfold dcmp; repeat (first | split | omega)
    have e1 : (p != q) = true := by simp; omega
    have l1 : ¬ p < q := by omega
    (try clear h0)
    (try clear h1)
    go_enter Tryz.func95, Tryz.ntmps95
    go_wp2_with fail
    refine (bit_any _ _).mono ?_
    rintro e W1 ⟨rfl, rfl⟩
    go_wp2
    go_ret
    exact ⟨congrArg (fun x => Ending.returned (.int .i64 x)) HC.out.symm, HB.out⟩
  · have HC : Hid (dcmp p n q m = -1) := by show _ = _; unfold dcmp; repeat (first | split | omega)
    have e1 : (p != q) = false := by simp; omega
    have e2 : (n != m) = true := by simp; omega
    have l1 : n < m := by omega
    (try clear h0)
    (try clear h1)
    go_enter Tryz.func95, Tryz.ntmps95
    go_wp2_with fail
    refine (bit_any _ _).mono ?_
    rintro e W1 ⟨rfl, rfl⟩
    go_wp2
    go_ret
    exact ⟨congrArg (fun x => Ending.returned (.int .i64 x)) HC.out.symm, HB.out⟩
  · have HC : Hid (dcmp p n q m = 1) := by show _ = _; unfold dcmp; repeat (first | split | omega)
    have e1 : (p != q) = false := by simp; omega
    have e2 : (n != m) = true := by simp; omega
    have l1 : ¬ n < m := by omega
    (try clear h0)
    (try clear h1)
    go_enter Tryz.func95, Tryz.ntmps95
    go_wp2_with fail
    refine (bit_any _ _).mono ?_
    rintro e W1 ⟨rfl, rfl⟩
    go_wp2
    go_ret
    exact ⟨congrArg (fun x => Ending.returned (.int .i64 x)) HC.out.symm, HB.out⟩
  · have HC : Hid (dcmp p n q m = 0) := by show _ = _; unfold dcmp; repeat (first | split | omega)
    have e1 : (p != q) = false := by simp; omega
    have e2 : (n != m) = false := by simp; omega
    (try clear h0)
    (try clear h1)
    go_enter Tryz.func95, Tryz.ntmps95
    go_wp2
    go_ret
    exact ⟨congrArg (fun x => Ending.returned (.int .i64 x)) HC.out.symm, HB.out⟩
end Go.Proofs.YtkdbcmkmcjaenaaGreatDoor
