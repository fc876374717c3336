/- Where an event is; appends of rows. -/
import Derived.Test.YtcmniplbiliobaaDoorRows
import Derived.WalkKit
import Derived.WalkSpells
import Derived.WalkLawsBesides
import Derived.Deep.QuietTactic
import Derived.BigQuiet
import Derived.Deep.RegionHeld3
import Derived.Test.YtcmniplbiliobaaDoorJo
import Derived.Test.YtcmniplbiliobaaDoorJm
import Derived.Deep.Upon
import Derived.LoopN
namespace Go.Proofs.YtcmniplbiliobaaDoor
open Go.RowKit
set_option linter.unusedSimpArgs false
set_option linter.unusedVariables false

def HasD (l : List Sib) (p n : Int) : Prop := ∃ o ∈ l, o.p = p ∧ o.n = n
set_option maxHeartbeats 2000000 in
/-- l02Find: a place where the event is, or -1. -/
theorem find_any (cap : Nat) (ao : Option Addr) (l : List Sib) (a b c p n : Int) (w : World) (hm : (l.length : Int) ≤ 1048576) (hr0 : SibRow w ao l) :
    Calls Tryd.prog 79 #[.agg #[.slice ao l.length cap, .int .i64 a, .int .i64 b, .int .i64 c], .agg #[.int .i64 p, .int .i64 n]] w fun e w' => ∃ k : Int, e = .returned (.int .i64 k) ∧ Hid (HasD l p n → 0 ≤ k) ∧ Hid (¬ HasD l p n → k = -1) ∧ Below w.heap.size w w' := by
  have hr : Hid (SibRow w ao l) := hr0
  clear hr0
  go_enter Tryd.func79, Tryd.ntmps79
  go_wp2
  go_loopw [5] (fun s5 wr => ∃ k : Nat, k ≤ l.length ∧ s5 = .int .i64 k ∧ Below w.heap.size w wr ∧ (∀ i (h : i < l.length), i < k → ¬ (l[i].p = p ∧ l[i].n = n)) ∧ w.heap.size + 1 < wr.heap.size ∧ wr.cell? ⟨w.heap.size, 0, none⟩ = some (.slice ao l.length cap) ∧ wr.cell? ⟨w.heap.size + 1, 0, none⟩ = some (.int .i64 p) ∧ wr.cell? ⟨w.heap.size + 1, 1, none⟩ = some (.int .i64 n)) (fun s5 _ => l.length - (intOf s5).toNat)
  case atStart => exact ⟨0, by omega, rfl, ((bel_alloc _ _).trans ((bel_alloc _ _).mono (by simp))), fun i h h' => by omega, by simp, by go_simp, by go_simp, by go_simp⟩
  case round =>
    obtain ⟨k, hk, rfl, hB0, hG0, hz, C0, D0, D1⟩ := hrel
    have hB : Hid (Below w.heap.size w wr) := hB0
    have hG : Hid (∀ i (h : i < l.length), i < k → ¬ (l[i].p = p ∧ l[i].n = n)) := hG0
    clear hB0 hG0
    by_cases hkl : k < l.length
    · have hkl' : (k : Int) < (l.length : Int) := by omega
      have kk : (0 : Int) ≤ (k : Int) := by omega
      rcases hr.out with h' | ⟨q, off, rfl, h2⟩
      · rw [h'] at hkl; simp at hkl
      obtain ⟨x0, x1, x2, x3⟩ := (h2 k hkl).next hB.out (cell_lt (x := ⟨q, off + k * 4, none⟩) (h2 k hkl).1)
      clear h2 x2 x3
      have es := eqd l[k].p l[k].n p n
      cases he : decide (l[k].p = p ∧ l[k].n = n)
      · have hq : (l[k].p == p && l[k].n == n) = false := dot_ne (of_decide_eq_false he)
        have hG1 : Hid (∀ i (h : i < l.length), i < k + 1 → ¬ (l[i].p = p ∧ l[i].n = n)) := fun i h h3 => by
          by_cases e : i = k
          · subst e; exact of_decide_eq_false he
          · exact hG.out i h (by omega)
        clear he
        go_wp2
        refine wp_region_held_drew (S := (fun w' => w'.cell? ⟨w.heap.size, 0, none⟩ = some (.slice (some ⟨q, off, none⟩) l.length cap) ∧ w'.cell? ⟨w.heap.size + 1, 0, none⟩ = some (.int .i64 p) ∧ w'.cell? ⟨w.heap.size + 1, 1, none⟩ = some (.int .i64 n) ∧ w'.cell? ⟨q, off + k * 4, none⟩ = some (.int .i64 l[k].p) ∧ w'.cell? ⟨q, off + k * 4 + 1, none⟩ = some (.int .i64 l[k].n))) (by kernel_rfl) ?_ (fun hHeld => ?_)
        · (try dsimp only)
          exact ⟨C0, D0, D1, x0, x1⟩
        refine wpAnyH_take (i := 0) (v := ?_) rfl (by kernel_rfl) (by kernel_rfl) (by kernel_rfl) (fun _ _ _ h => h) (Or.inl ⟨by rfl, ?_⟩) (by assumption) ?_
        rotate_left
        · intro w' hSw
          (try dsimp only at hSw)
          go_simp
          all_goals (try with_reducible rfl)
        (try simp only [Act.put, List.getElem_toArray, List.getElem_cons_zero, List.getElem_cons_succ, List.setIfInBounds_toArray, List.set_cons_zero, List.set_cons_succ])
        refine wpAnyH_take (i := 1) (v := ?_) rfl (by kernel_rfl) (by kernel_rfl) (by kernel_rfl) (fun _ _ _ h => h) (Or.inl ⟨by rfl, ?_⟩) (by assumption) ?_
        rotate_left
        · intro w' hSw
          (try dsimp only at hSw)
          go_simp
          all_goals (try with_reducible rfl)
        (try simp only [Act.put, List.getElem_toArray, List.getElem_cons_zero, List.getElem_cons_succ, List.setIfInBounds_toArray, List.set_cons_zero, List.set_cons_succ])
        refine wpAnyH_take (i := 2) (v := ?_) rfl (by kernel_rfl) (by kernel_rfl) (by kernel_rfl) (fun _ _ _ h => h) (Or.inl ⟨by rfl, ?_⟩) (by assumption) ?_
        rotate_left
        · intro w' hSw
          (try dsimp only at hSw)
          go_simp
          all_goals (try with_reducible rfl)
        (try simp only [Act.put, List.getElem_toArray, List.getElem_cons_zero, List.getElem_cons_succ, List.setIfInBounds_toArray, List.set_cons_zero, List.set_cons_succ])
        refine wpAnyH_take (i := 3) (v := ?_) rfl (by kernel_rfl) (by kernel_rfl) (by kernel_rfl) (fun _ _ _ h => h) (Or.inl ⟨by rfl, ?_⟩) (by assumption) ?_
        rotate_left
        · intro w' hSw
          (try dsimp only at hSw)
          go_simp
          all_goals (try with_reducible rfl)
        (try simp only [Act.put, List.getElem_toArray, List.getElem_cons_zero, List.getElem_cons_succ, List.setIfInBounds_toArray, List.set_cons_zero, List.set_cons_succ])
        refine wpAnyH_take (i := 4) (v := ?_) rfl (by kernel_rfl) (by kernel_rfl) (by kernel_rfl) (fun _ _ _ h => h) (Or.inl ⟨by rfl, ?_⟩) (by assumption) ?_
        rotate_left
        · intro w' hSw
          (try dsimp only at hSw)
          go_simp
          all_goals (try with_reducible rfl)
        (try simp only [Act.put, List.getElem_toArray, List.getElem_cons_zero, List.getElem_cons_succ, List.setIfInBounds_toArray, List.set_cons_zero, List.set_cons_succ])
        refine wpAnyH_take (i := 5) (v := ?_) rfl (by kernel_rfl) (by kernel_rfl) (by kernel_rfl) (fun _ _ _ h => h) (Or.inl ⟨by rfl, ?_⟩) (by assumption) ?_
        rotate_left
        · intro w' hSw
          (try dsimp only at hSw)
          go_simp
          all_goals (try with_reducible rfl)
        (try simp only [Act.put, List.getElem_toArray, List.getElem_cons_zero, List.getElem_cons_succ, List.setIfInBounds_toArray, List.set_cons_zero, List.set_cons_succ])
        refine wpAnyH_take (i := 6) (v := ?_) rfl (by kernel_rfl) (by kernel_rfl) (by kernel_rfl) (fun _ _ _ h => h) (Or.inl ⟨by rfl, ?_⟩) (by assumption) ?_
        rotate_left
        · intro w' hSw
          (try dsimp only at hSw)
          go_simp
          all_goals (try with_reducible rfl)
        (try simp only [Act.put, List.getElem_toArray, List.getElem_cons_zero, List.getElem_cons_succ, List.setIfInBounds_toArray, List.set_cons_zero, List.set_cons_succ])
        refine wpAnyH_take (i := 7) (v := ?_) rfl (by kernel_rfl) (by kernel_rfl) (by kernel_rfl) (fun _ _ _ h => h) (Or.inl ⟨by rfl, ?_⟩) (by assumption) ?_
        rotate_left
        · intro w' hSw
          (try dsimp only at hSw)
          go_simp
          all_goals (try with_reducible rfl)
        (try simp only [Act.put, List.getElem_toArray, List.getElem_cons_zero, List.getElem_cons_succ, List.setIfInBounds_toArray, List.set_cons_zero, List.set_cons_succ])
        refine wpAnyH_done (by kernel_rfl) ?_ _
        have hB5 : Hid (Below w.heap.size w wr.drew) := bel_next hB (bel_drew _)
        clear hHeld x0 x1 es hq
        go_wp2
        go_roundw
        case rel => first | exact ⟨k + 1, by omega, by go_num, hB5.out, hG1.out, hz, C0, D0, D1⟩ | ((repeat apply Exists.intro); exact ⟨⟨k + 1, by omega, by go_num, hB5.out, hG1.out, hz, C0, D0, D1⟩, rfl⟩)
        case measure => simp [intOf]; omega
      · have hq : (l[k].p == p && l[k].n == n) = true := dot_eq (of_decide_eq_true he)
        have hY : Hid (HasD l p n) := ⟨l[k], List.getElem_mem hkl, of_decide_eq_true he⟩
        clear he
        go_wp2
        refine wp_region_held_drew (S := (fun w' => w'.cell? ⟨w.heap.size, 0, none⟩ = some (.slice (some ⟨q, off, none⟩) l.length cap) ∧ w'.cell? ⟨w.heap.size + 1, 0, none⟩ = some (.int .i64 p) ∧ w'.cell? ⟨w.heap.size + 1, 1, none⟩ = some (.int .i64 n) ∧ w'.cell? ⟨q, off + k * 4, none⟩ = some (.int .i64 l[k].p) ∧ w'.cell? ⟨q, off + k * 4 + 1, none⟩ = some (.int .i64 l[k].n))) (by kernel_rfl) ?_ (fun hHeld => ?_)
        · (try dsimp only)
          exact ⟨C0, D0, D1, x0, x1⟩
        refine wpAnyH_take (i := 0) (v := ?_) rfl (by kernel_rfl) (by kernel_rfl) (by kernel_rfl) (fun _ _ _ h => h) (Or.inl ⟨by rfl, ?_⟩) (by assumption) ?_
        rotate_left
        · intro w' hSw
          (try dsimp only at hSw)
          go_simp
          all_goals (try with_reducible rfl)
        (try simp only [Act.put, List.getElem_toArray, List.getElem_cons_zero, List.getElem_cons_succ, List.setIfInBounds_toArray, List.set_cons_zero, List.set_cons_succ])
        refine wpAnyH_take (i := 1) (v := ?_) rfl (by kernel_rfl) (by kernel_rfl) (by kernel_rfl) (fun _ _ _ h => h) (Or.inl ⟨by rfl, ?_⟩) (by assumption) ?_
        rotate_left
        · intro w' hSw
          (try dsimp only at hSw)
          go_simp
          all_goals (try with_reducible rfl)
        (try simp only [Act.put, List.getElem_toArray, List.getElem_cons_zero, List.getElem_cons_succ, List.setIfInBounds_toArray, List.set_cons_zero, List.set_cons_succ])
        refine wpAnyH_take (i := 2) (v := ?_) rfl (by kernel_rfl) (by kernel_rfl) (by kernel_rfl) (fun _ _ _ h => h) (Or.inl ⟨by rfl, ?_⟩) (by assumption) ?_
        rotate_left
        · intro w' hSw
          (try dsimp only at hSw)
          go_simp
          all_goals (try with_reducible rfl)
        (try simp only [Act.put, List.getElem_toArray, List.getElem_cons_zero, List.getElem_cons_succ, List.setIfInBounds_toArray, List.set_cons_zero, List.set_cons_succ])
        refine wpAnyH_take (i := 3) (v := ?_) rfl (by kernel_rfl) (by kernel_rfl) (by kernel_rfl) (fun _ _ _ h => h) (Or.inl ⟨by rfl, ?_⟩) (by assumption) ?_
        rotate_left
        · intro w' hSw
          (try dsimp only at hSw)
          go_simp
          all_goals (try with_reducible rfl)
        (try simp only [Act.put, List.getElem_toArray, List.getElem_cons_zero, List.getElem_cons_succ, List.setIfInBounds_toArray, List.set_cons_zero, List.set_cons_succ])
        refine wpAnyH_take (i := 4) (v := ?_) rfl (by kernel_rfl) (by kernel_rfl) (by kernel_rfl) (fun _ _ _ h => h) (Or.inl ⟨by rfl, ?_⟩) (by assumption) ?_
        rotate_left
        · intro w' hSw
          (try dsimp only at hSw)
          go_simp
          all_goals (try with_reducible rfl)
        (try simp only [Act.put, List.getElem_toArray, List.getElem_cons_zero, List.getElem_cons_succ, List.setIfInBounds_toArray, List.set_cons_zero, List.set_cons_succ])
        refine wpAnyH_take (i := 5) (v := ?_) rfl (by kernel_rfl) (by kernel_rfl) (by kernel_rfl) (fun _ _ _ h => h) (Or.inl ⟨by rfl, ?_⟩) (by assumption) ?_
        rotate_left
        · intro w' hSw
          (try dsimp only at hSw)
          go_simp
          all_goals (try with_reducible rfl)
        (try simp only [Act.put, List.getElem_toArray, List.getElem_cons_zero, List.getElem_cons_succ, List.setIfInBounds_toArray, List.set_cons_zero, List.set_cons_succ])
        refine wpAnyH_take (i := 6) (v := ?_) rfl (by kernel_rfl) (by kernel_rfl) (by kernel_rfl) (fun _ _ _ h => h) (Or.inl ⟨by rfl, ?_⟩) (by assumption) ?_
        rotate_left
        · intro w' hSw
          (try dsimp only at hSw)
          go_simp
          all_goals (try with_reducible rfl)
        (try simp only [Act.put, List.getElem_toArray, List.getElem_cons_zero, List.getElem_cons_succ, List.setIfInBounds_toArray, List.set_cons_zero, List.set_cons_succ])
        refine wpAnyH_take (i := 7) (v := ?_) rfl (by kernel_rfl) (by kernel_rfl) (by kernel_rfl) (fun _ _ _ h => h) (Or.inl ⟨by rfl, ?_⟩) (by assumption) ?_
        rotate_left
        · intro w' hSw
          (try dsimp only at hSw)
          go_simp
          all_goals (try with_reducible rfl)
        (try simp only [Act.put, List.getElem_toArray, List.getElem_cons_zero, List.getElem_cons_succ, List.setIfInBounds_toArray, List.set_cons_zero, List.set_cons_succ])
        refine wpAnyH_done (by kernel_rfl) ?_ _
        have hB5 : Hid (Below w.heap.size w wr.drew) := bel_next hB (bel_drew _)
        clear hHeld x0 x1 es hq C0 D0 D1
        go_wp2
        go_ret
        exact ⟨k, rfl, fun _ => kk, fun h => (h hY.out).elim, hB5.out⟩
    · have hkl' : ¬ (k : Int) < (l.length : Int) := by omega
      have hY : Hid (¬ HasD l p n) := by
        rintro ⟨o, ho, e⟩
        obtain ⟨i, hi, rfl⟩ := List.mem_iff_getElem.1 ho
        exact hG.out i hi (by omega) e
      go_wp2
      go_ret
      exact ⟨-1, rfl, fun h => (hY.out h).elim, fun _ => rfl, hB.out⟩

/-- A row's cells, or nothing. -/
def SrcRow (w : World) (ao : Option Addr) (m : Nat) (l : List Sib) : Prop := m = l.length ∧ SibRow w ao l
theorem SrcRow.next {w w' : World} {ao : Option Addr} {m : Nat} {l : List Sib} (h : SrcRow w ao m l) (hb : Below w.heap.size w w') : SrcRow w' ao m l := ⟨h.1, h.2.next hb⟩
section
variable {P : Program}
theorem run_append3 (w : World) (t ty e : TypeId) (i : TypeInfo) (z : Value) (bytes : Nat) (ht : P.underlying t = some (.slice e)) (hi : P.info? e = some i) (hz : i.zero = some z)
    (hsize : i.size = 4) (hby : i.bytes = bytes) (hzs : z.cells.size = 4)
    (v : Value) (n : Nat) (xs : List Value) (hown : w.ownsRow 0 e 4 v n xs)
    (ao : Option Addr) (m c : Nat) (l : List Sib) (hsrc : SrcRow w ao m l)
    (h63 : n + m ≤ maxLen) (hbytes : (n + m) * bytes ≤ 140737488355328) :
    ∃ v' w', (Builtin.append_ #[t, t] ty #[v, .slice ao m c]).run P w = .ok v' w' ∧ w'.ownsRow 0 e 4 v' (n + m) (xs ++ flat l) ∧ Gro w w' v v' := by
  obtain ⟨rfl, hrow⟩ := hsrc
  by_cases hl : l = []
  · subst hl
    have hsr : Src P i.size t (.slice ao 0 c) 0 [] w := by
      cases ao with
      | none => exact Src.ofNil w ht c
      | some ad => exact Src.ofSlice w ht ad 0 c [] (by simp) (fun j u h => by simp at h) (fun u h => by cases h)
    rcases hown.2 with ⟨rfl, rfl⟩ | ⟨g, cap, cur, rfl, _, _, hnc, _⟩
    · exact ⟨_, _, run_append_nothing w t t ty e i ht hi none 0 0 (Nat.le_refl _) _ hsr, by simpa [flat] using hown, Gro.refl _ _⟩
    · exact ⟨_, _, run_append_nothing w t t ty e i ht hi _ n cap hnc _ hsr, by simpa [flat] using hown, Gro.refl _ _⟩
  · rcases hrow with h | ⟨b, off, rfl, h2⟩
    · exact (hl h).elim
    · exact run_append2 (P := P) w t ty e i z 4 bytes ht hi hz hsize hby hzs (by decide) v n xs hown ⟨b, off, none⟩ l.length c (flat l) (flat_length l) (fun j u hu => by rw [addr_add]; exact flat_cells (l := l) (off := off) rfl h2 j u hu) (flat_one l) h63 hbytes
theorem wp_append3 {w : World} {o : Oper} {a : Act} {K : Act → World → Prop} {Q : Exit → Act → World → Prop} (s x : Operand) (t : TypeId)
    (ho : o.op = .call { callee := .builtin .append, args := #[s, x], argTypes := #[t, t] })
    (e : TypeId) (i : TypeInfo) (z : Value) (bytes : Nat) (ht : P.underlying t = some (.slice e)) (hi : P.info? e = some i) (hz : i.zero = some z)
    (hsize : i.size = 4) (hby : i.bytes = bytes) (hzs : z.cells.size = 4)
    (v : Value) (n : Nat) (xs : List Value) (hs : a.eval s = v) (hown : w.ownsRow 0 e 4 v n xs)
    (ao : Option Addr) (m c : Nat) (l : List Sib) (hx : a.eval x = .slice ao m c) (hsrc : SrcRow w ao m l)
    (h63 : n + m ≤ maxLen) (hbytes : (n + m) * bytes ≤ 140737488355328)
    (h : ∀ v' w', w'.ownsRow 0 e 4 v' (n + m) (xs ++ flat l) → Gro w w' v v' → K (a.put o.dst v') w') : o.wp P a w K Q := by
  obtain ⟨v', w', hr, h2, h3⟩ := run_append3 (P := P) w t o.type e i z bytes ht hi hz hsize hby hzs v n xs hown ao m c l hsrc h63 hbytes
  unfold Oper.wp execOp
  simp only [ho, resolve, invoke, builtin, Sem.run_bind, Sem.run_pure, Result.andThen_ok, List.map_toArray, List.map_cons, List.map_nil, hs, hx, hr]
  exact h v' w' h2 h3
theorem wpList_append3 {w : World} {ops : Array Oper} {rest : List Oper} {o : Oper} {a : Act} {Q : Exit → Act → World → Prop} (hgd : o.guard = none) (s x : Operand) (t : TypeId)
    (ho : o.op = .call { callee := .builtin .append, args := #[s, x], argTypes := #[t, t] })
    (e : TypeId) (i : TypeInfo) (z : Value) (bytes : Nat) (ht : P.underlying t = some (.slice e)) (hi : P.info? e = some i) (hz : i.zero = some z)
    (hsize : i.size = 4) (hby : i.bytes = bytes) (hzs : z.cells.size = 4)
    (v : Value) (n : Nat) (xs : List Value) (hs : a.eval s = v) (hown : w.ownsRow 0 e 4 v n xs)
    (ao : Option Addr) (m c : Nat) (l : List Sib) (hx : a.eval x = .slice ao m c) (hsrc : SrcRow w ao m l)
    (h63 : n + m ≤ maxLen) (hbytes : (n + m) * bytes ≤ 140737488355328)
    (h : ∀ v' w', w'.ownsRow 0 e 4 v' (n + m) (xs ++ flat l) → Gro w w' v v' → wpList P ops Q rest (a.put o.dst v') w') : wpList P ops Q (o :: rest) a w :=
  wpList_plain hgd fun _ hK => wp_append3 s x t ho e i z bytes ht hi hz hsize hby hzs v n xs hs hown ao m c l hx hsrc h63 hbytes (fun v' w' h2 h3 => hK _ _ (h v' w' h2 h3))
end

/-- A row that grows above an old world. -/
def Own (wr W : World) (e : TypeId) (v : Value) (n : Nat) (xs : List Value) : Prop := W.ownsRow 0 e 4 v n xs ∧ Below wr.heap.size wr W ∧ ∀ k, v.ownBlock = some k → wr.heap.size ≤ k
theorem Own.step {wr W W' : World} {e : TypeId} {v : Value} {n : Nat} {xs : List Value} (h : Own wr W e v n xs) (hb : Below W.heap.size W W') : Own wr W' e v n xs := ⟨own_next h.1 hb, h.2.1.trans (hb.mono h.2.1.size), h.2.2⟩
theorem Own.app {wr W W' : World} {e : TypeId} {v v' : Value} {n n' : Nat} {xs xs' : List Value} (h : Own wr W e v n xs) (ho : W'.ownsRow 0 e 4 v' n' xs') (hg : Gro W W' v v') : Own wr W' e v' n' xs' :=
  ⟨ho, h.2.1.trans (hg.below h.2.1.size h.2.2), fun k hk => by
    rcases hg.fresh k hk with h' | h'
    · exact h.2.2 k h'
    · exact Nat.le_trans h.2.1.size h'⟩
theorem Own.lit {wr W : World} {e : TypeId} (hb : Below wr.heap.size wr W) : Own wr (W.alloc (.cells #[] e)) e (.slice (some ⟨W.heap.size, 0, none⟩) 0 0) 0 [] :=
  ⟨World.ownsRow_lit (base := 0) (e := e) (size := 4) W #[] 0 (Nat.zero_le _) (by unfold maxLen; omega) (by simp), hb.trans ((bel_alloc _ _).mono hb.size), fun k hk => by
    simp [Value.ownBlock] at hk
    have := hb.size
    omega⟩
theorem Own.gro {wr W : World} {e : TypeId} {v : Value} {n : Nat} {xs : List Value} (h : Own wr W e v n xs) : Gro wr W (.slice none 0 0) v := ⟨gb_below h.2.1, fun k hk => .inr (h.2.2 k hk)⟩
theorem Own.shape {wr W : World} {e : TypeId} {v : Value} {n : Nat} {xs : List Value} (h : Own wr W e v n xs) : ∃ o c, v = .slice o n c ∧ n ≤ c := by
  rcases h.1.2 with ⟨rfl, rfl⟩ | ⟨g, cap, cur, rfl, _, _, hnc, _⟩
  · exact ⟨_, _, rfl, Nat.le_refl _⟩
  · exact ⟨_, _, rfl, hnc⟩
theorem src_take {W : World} {b off : Nat} {l : List Sib} {k : Nat} (hk : k ≤ l.length) (h : SibRow W (some ⟨b, off, none⟩) l) : SrcRow W (some ⟨b, off, none⟩) k (l.take k) := by
  refine ⟨by simp; omega, ?_⟩
  rcases h with h | ⟨b', off', e, h2⟩
  · left; rw [h]; simp
  · cases e
    exact .inr ⟨b, off, rfl, fun i hi => by
      have := h2 i (by simp at hi; omega)
      simpa using this⟩
theorem src_drop {W : World} {b off : Nat} {l : List Sib} {k : Nat} (hk : k ≤ l.length) (h : SibRow W (some ⟨b, off, none⟩) l) : SrcRow W (some ⟨b, off + k * 4, none⟩) (l.length - k) (l.drop k) := by
  refine ⟨by simp, ?_⟩
  rcases h with h | ⟨b', off', e, h2⟩
  · left; rw [h]; simp
  · cases e
    refine .inr ⟨b, off + k * 4, rfl, fun i hi => ?_⟩
    have := h2 (k + i) (by simp at hi; omega)
    have e1 : off + (k + i) * 4 = off + k * 4 + i * 4 := by omega
    rw [e1] at this
    simpa using this
theorem src_drop' {W : World} {b off cap : Nat} {l : List Sib} {k : Nat} (hk : k ≤ l.length) (hc : l.length ≤ cap) (h : SibRow W (some ⟨b, off, none⟩) l) : SrcRow W (if cap = k then some ⟨b, off, none⟩ else some ⟨b, off + k * 4, none⟩) (l.length - k) (l.drop k) := by
  by_cases e : cap = k
  · rw [if_pos e]
    have : l.length = k := by omega
    exact ⟨by simp, .inl (by simp; omega)⟩
  · rw [if_neg e]
    exact src_drop hk h
theorem src_drop_all {W : World} {b off cap : Nat} {l : List Sib} (hc : l.length ≤ cap) (h : SibRow W (some ⟨b, off, none⟩) l) : SrcRow W (if cap = l.length then some ⟨b, off, none⟩ else some ⟨b, off + l.length * 4, none⟩) 0 (l.drop l.length) := by
  have := src_drop' (Nat.le_refl _) hc h
  rwa [Nat.sub_self] at this
theorem src_gro {W W' : World} {v v' : Value} {g : Nat} {m : Nat} {l : List Sib} (h : SrcRow W (some ⟨g, 0, none⟩) m l) (hg : Gro W W' v v') (hne : v.ownBlock ≠ some g) : SrcRow W' (some ⟨g, 0, none⟩) m l := ⟨h.1, hg.row h.2 (fun q hq => by cases hq; exact hne)⟩
theorem src_none {W : World} {ao : Option Addr} : SrcRow W ao 0 [] := ⟨rfl, .inl rfl⟩
theorem src_one {W : World} {x : Sib} {t : TypeId} : SrcRow (W.alloc (.cells #[.int .i64 x.p, .int .i64 x.n, .int .i64 x.v, .bool x.d] t)) (some ⟨W.heap.size, 0, none⟩) 1 [x] := ⟨rfl, lit_row⟩
end Go.Proofs.YtcmniplbiliobaaDoor
