/- Maps from dots to past events: what they hold, told by a set of events. -/
import Derived.Test.YtkdbcmkmcjaenaaGreatDoorRows
import Derived.WalkKit
import Derived.WalkSpells
import Derived.WalkLawsBesides
import Derived.Deep.QuietTactic
import Derived.BigQuiet
import Derived.Deep.RegionHeld3
import Derived.Test.YtkdbcmkmcjaenaaGreatDoorEm
import Derived.LoopN
import Derived.OwnWalk
import Derived.Maps.Own
import Derived.Maps.Views
import Derived.Maps.RangeWalk
import Derived.DeepKeys4
import Derived.WideKeyPair
namespace Go.Proofs.YtkdbcmkmcjaenaaGreatDoor
open Go.RowKit
set_option linter.unusedSimpArgs false
set_option linter.unusedVariables false

open Go.Maps
/-- An element is read as the value that it is. -/
def rawE : Value → Option (DataW Value × List MemPlace) := fun v => some (.held v, [])
def wfI (a : Int) : Prop := (Lit.int .i64 a).wf = true
theorem wfI_of {a : Int} (h : -9223372036854775808 ≤ a ∧ a ≤ 9223372036854775807) : wfI a := WalkArith.wf_i64 (by omega)
def dk (p n : Int) : Lit := .string (keyBytes [.int .i64 p, .int .i64 n])
def kv (p n : Int) : Value := .agg #[.int .i64 p, .int .i64 n]
def pv (e : Ev) : Value := .agg #[.int .i64 e.p, .int .i64 e.n, .int .i64 e.v, .bool e.dead, .string e.key, .int .i64 e.a, .int .i64 e.b, .int .i64 e.c]
theorem pv_inj {e f : Ev} (h : pv e = pv f) : e = f := by
  obtain ⟨p, n, k, v, d, a, b, c⟩ := e
  obtain ⟨p', n', k', v', d', a', b', c'⟩ := f
  simp only [pv, Value.agg.injEq, Array.mk.injEq, List.cons.injEq, Value.int.injEq, Value.bool.injEq, Value.string.injEq] at h
  obtain ⟨⟨_, rfl⟩, ⟨_, rfl⟩, ⟨_, rfl⟩, rfl, rfl, ⟨_, rfl⟩, ⟨_, rfl⟩, ⟨_, rfl⟩, _⟩ := h
  rfl
theorem dotSize : Tryz.prog.cellsOf 40 = 2 := by kernel_rfl
theorem dotKey : Tryz.prog.keyType 40 = true := by kernel_rfl
theorem intSize : Tryz.prog.cellsOf 3 = 1 := by kernel_rfl
theorem tySize : ∃ m, Tryz.prog.types.size = m + 1 := ⟨Tryz.prog.types.size - 1, by kernel_rfl⟩
theorem laidMap : laidOutB Tryz.prog = true := by kernel_rfl
theorem dotRow : (40 : TypeId) < Tryz.prog.types.size := of_decide_eq_true (by kernel_rfl)
theorem dotWide : (match Tryz.prog.underlying 40 with | some (.array _ _) | some (.struct _) => true | _ => false) = true := by rw [Tryz.underlying40]
theorem dotAt : Tryz.prog.keyTypeAt 2 40 = true := by kernel_rfl
set_option maxRecDepth 100000 in
theorem dotLaw : WideMaps.KeyLaw Tryz.prog 40 := deep_law_laid laidMap (m := 2) (by omega) dotRow dotAt dotWide
theorem dotKeyed : Keyed Tryz.prog 40 := Keyed.of_law dotLaw
theorem dotLits (p n : Int) (wp : wfI p) (wn : wfI n) : Tryz.prog.keyLits (Tryz.prog.types.size + 1) 40 [.int .i64 p, .int .i64 n] = some [.int .i64 p, .int .i64 n] := by
  obtain ⟨m, hm⟩ := tySize
  have hu := Tryz.underlying40
  have hi := Tryz.underlying3
  have hc := dotSize
  have h1 := intSize
  unfold wfI at wp wn
  rw [hm]
  unfold Program.keyLits
  simp only [hu]
  rw [if_pos (by rw [hc]; exact ⟨rfl, by simp⟩)]
  simp [Program.keyLits, hi, h1, wp, wn]
theorem keyDot (p n : Int) (wp : wfI p) (wn : wfI n) : keyOf Tryz.prog 40 (kv p n) = some (dk p n) := by
  have hu := Tryz.underlying40
  have hk := dotKey
  have hc := dotSize
  unfold keyOf
  simp only [hu]
  rw [if_pos (by simp [hk, kv, Value.formed, hu, hc])]
  unfold kv
  simp only [Value.cells]
  rw [dotLits p n wp wn]
  rfl
theorem two_of {cs : Array Value} (h : cs.size = 2) : ∃ x y, cs = #[x, y] := by
  obtain ⟨l⟩ := cs
  match l, h with
  | [x, y], _ => exact ⟨x, y, rfl⟩
set_option maxRecDepth 100000 in
theorem key_inv {key : Value} {kl : Lit} (h : keyOf Tryz.prog 40 key = some kl) : ∃ p n, key = kv p n ∧ kl = dk p n ∧ wfI p ∧ wfI n := by
  have hu := Tryz.underlying40
  have hi := Tryz.underlying3
  have hc := dotSize
  have h1 := intSize
  have h0 := h
  unfold keyOf at h
  simp only [hu] at h
  split at h
  case isFalse => cases h
  case isTrue hf =>
    simp only [Bool.and_eq_true] at hf
    obtain ⟨_, hf⟩ := hf
    cases key <;> simp [Value.formed, hu, hc] at hf
    rename_i cs
    obtain ⟨x, y, rfl⟩ := two_of hf
    obtain ⟨m, hm⟩ := tySize
    rw [hm] at h
    simp only [Value.cells] at h
    unfold Program.keyLits at h
    simp only [hu] at h
    rw [if_pos (by rw [hc]; exact ⟨rfl, by simp⟩)] at h
    have g : ∀ {z : Value} {q : List Lit}, Tryz.prog.keyLits (m + 1) 3 [z] = some q → ∃ a, z = .int .i64 a ∧ q = [.int .i64 a] ∧ wfI a := by
      intro z q hz
      unfold Program.keyLits at hz
      simp only [hi] at hz
      cases z <;> simp at hz
      obtain ⟨⟨rfl, hw⟩, rfl⟩ := hz
      exact ⟨_, rfl, rfl, hw⟩
    cases hx : Tryz.prog.keyLits (m + 1) 3 [x] with
    | none => simp [h1, hx] at h
    | some x1 =>
      cases hy : Tryz.prog.keyLits (m + 1) 3 [y] with
      | none => simp [h1, hx, hy] at h
      | some y1 =>
        simp [h1, hx, hy] at h
        obtain ⟨a, rfl, rfl, wa⟩ := g hx
        obtain ⟨b, rfl, rfl, wb⟩ := g hy
        exact ⟨a, b, rfl, h.symm, wa, wb⟩
theorem dk_inj {p n p' n' : Int} (wp : wfI p) (wn : wfI n) (wp' : wfI p') (wn' : wfI n') (h : dk p n = dk p' n') : p = p' ∧ n = n' := by
  have h1 := keyDot p n wp wn
  have h2 := keyDot p' n' wp' wn'
  rw [← h] at h2
  have := dotLaw.inj h1 h2
  simp only [kv, Value.agg.injEq, Array.mk.injEq, List.cons.injEq, Value.int.injEq] at this
  exact ⟨this.1.2, this.2.1.2⟩
theorem dk_same {p n p' n' : Int} (wp : wfI p) (wn : wfI n) (wp' : wfI p') (wn' : wfI n') : (dk p n).sameKey (dk p' n') = true ↔ p = p' ∧ n = n' := by
  constructor
  · intro h
    refine dk_inj wp wn wp' wn' ?_
    unfold dk Lit.sameKey at *
    simp only [beq_iff_eq] at h
    rw [h]
  · rintro ⟨rfl, rfl⟩
    unfold dk Lit.sameKey
    simp
/-- D holds just the events of Q, each at its dot. -/
structure Past (D : DataW Value) (Q : Ev → Prop) : Prop where
  map : IsMap D
  has : ∀ e, Q e → ∀ z, D.atKey (dk e.p e.n) z = .held (pv e)
  not : ∀ p n, wfI p → wfI n → (∀ e, Q e → ¬ (e.p = p ∧ e.n = n)) → ∀ z, D.atKey (dk p n) z = z
  wf : ∀ e, Q e → wfI e.p ∧ wfI e.n
theorem Past.inj {D : DataW Value} {Q : Ev → Prop} (h : Past D Q) {e f : Ev} (he : Q e) (hf : Q f) (hp : e.p = f.p) (hn : e.n = f.n) : e = f := by
  have h1 := h.has e he .nil
  have h2 := h.has f hf .nil
  rw [hp, hn, h2] at h1
  simp only [DataW.held.injEq] at h1
  exact (pv_inj h1).symm
theorem Past.empty : Past (.map []) (fun _ => False) := ⟨isMap_empty, fun _ h => h.elim, fun _ _ _ _ _ _ => rfl, fun _ h => h.elim⟩
theorem Past.same {D : DataW Value} {Q R : Ev → Prop} (h : Past D Q) (hq : ∀ e, Q e ↔ R e) : Past D R :=
  ⟨h.map, fun e he => h.has e ((hq e).2 he), fun p n wp wn hn => h.not p n wp wn (fun e he => hn e ((hq e).1 he)), fun e he => h.wf e ((hq e).2 he)⟩
theorem Past.put {D : DataW Value} {Q : Ev → Prop} (h : Past D Q) (e : Ev) (wp : wfI e.p) (wn : wfI e.n) (hn : ∀ f, Q f → ¬ (f.p = e.p ∧ f.n = e.n)) : Past (D.put (dk e.p e.n) (.held (pv e))) (fun x => Q x ∨ x = e) := by
  refine ⟨h.map.put _ _, fun f hf z => ?_, fun p n wp' wn' hf z => ?_, fun f hf => ?_⟩
  · rcases hf with hf | rfl
    · rw [atKey_put_other (fun e' => hn f hf (dk_inj (h.wf f hf).1 (h.wf f hf).2 wp wn e'))]
      exact h.has f hf z
    · exact atKey_put_same h.map (dotKeyed.key (keyDot _ _ wp wn)) _ _
  · rw [atKey_put_other (fun e' => hf e (.inr rfl) (by
      have := dk_inj wp' wn' wp wn e'
      exact ⟨this.1.symm, this.2.symm⟩))]
    exact h.not p n wp' wn' (fun g hg => hf g (.inl hg)) z
  · rcases hf with hf | rfl
    · exact h.wf f hf
    · exact ⟨wp, wn⟩
/-- Block b is such a map, of at most n entries. -/
def PMap (w : World) (b n : Nat) (Q : Ev → Prop) : Prop := ∃ D : DataW Value, w.ownsMap Tryz.prog 40 rawE b n D ∧ Past D Q
theorem PMap.lt {w : World} {b n : Nat} {Q : Ev → Prop} (h : PMap w b n Q) : b < w.heap.size := by
  obtain ⟨D, h1, _⟩ := h
  exact h1.lt
theorem PMap.made (w : World) : PMap (w.alloc (.map #[] 0)) w.heap.size 0 (fun _ => False) := ⟨_, World.ownsMap_made w _ _ rawE, Past.empty⟩
theorem PMap.kept {w w' : World} {b n : Nat} {Q : Ev → Prop} {row : Option Nat} (h : PMap w b n Q) (hg : w.grownBy w' row) (hne : some b ≠ row) : PMap w' b n Q := by
  obtain ⟨D, h1, h2⟩ := h
  exact ⟨D, h1.kept hg hne, h2⟩
theorem PMap.next {w w' : World} {b n : Nat} {Q : Ev → Prop} (h : PMap w b n Q) (hb : Below w.heap.size w w') : PMap w' b n Q :=
  h.kept (row := none) ⟨hb.os, hb.tape, hb.output, hb.size, fun i hi _ => hb.block i hi⟩ (by simp)
theorem PMap.more {w : World} {b n n' : Nat} {Q : Ev → Prop} (h : PMap w b n Q) (hn : n ≤ n') : PMap w b n' Q := by
  obtain ⟨D, h1, h2⟩ := h
  exact ⟨D, h1.mono hn, h2⟩
theorem PMap.same {w : World} {b n : Nat} {Q R : Ev → Prop} (h : PMap w b n Q) (hq : ∀ e, Q e ↔ R e) : PMap w b n R := by
  obtain ⟨D, h1, h2⟩ := h
  exact ⟨D, h1, h2.same hq⟩
theorem PMap.set {w : World} {b n g i : Nat} {u : Value} {Q : Ev → Prop} (h : PMap w b n Q) (hg : b ≠ g) : PMap (w.setCell ⟨g, i, none⟩ u) b n Q :=
  h.kept (row := some g) (gb_set _ _ _ _) (fun e => hg (Option.some.inj e))
theorem PMap.store {w : World} {b n : Nat} {Q : Ev → Prop} (h : PMap w b n Q) (hn : n < maxLen) (e : Ev) (wp : wfI e.p) (wn : wfI e.n) (hd : ∀ f, Q f → ¬ (f.p = e.p ∧ f.n = e.n)) :
    ∃ w', (Instr.mapUpdate 61 (.map (some b)) (.agg #[.int .i64 e.p, .int .i64 e.n]) (.agg #[.int .i64 e.p, .int .i64 e.n, .int .i64 e.v, .bool e.dead, .string e.key, .int .i64 e.a, .int .i64 e.b, .int .i64 e.c])).run Tryz.prog w = .ok () w' ∧ PMap w' b (n + 1) (fun x => Q x ∨ x = e) ∧ w.grownBy w' (some b) := by
  obtain ⟨D, h1, h2⟩ := h
  obtain ⟨w', hrun, h4, hg⟩ := h1.update dotKeyed Tryz.underlying61 hn (keyDot e.p e.n wp wn) (show rawE (pv e) = some (.held (pv e), []) from rfl)
  exact ⟨w', hrun, ⟨_, h4, h2.put e wp wn hd⟩, hg⟩
theorem zeroPast (w : World) : (zeroValue 72).run Tryz.prog w = .ok (.agg #[.int .i64 0, .int .i64 0, .int .i64 0, .bool false, .string ⟨#[]⟩, .int .i64 0, .int .i64 0, .int .i64 0]) w := by kernel_rfl
theorem PMap.look {w : World} {b n : Nat} {Q : Ev → Prop} (h : PMap w b n Q) (e : Ev) (he : Q e) :
    (Instr.lookup 61 (.map (some b)) (.agg #[.int .i64 e.p, .int .i64 e.n]) true).run Tryz.prog w = .ok (.tuple #[.agg #[.int .i64 e.p, .int .i64 e.n, .int .i64 e.v, .bool e.dead, .string e.key, .int .i64 e.a, .int .i64 e.b, .int .i64 e.c], .bool true]) w ∧ (Instr.lookup 61 (.map (some b)) (.agg #[.int .i64 e.p, .int .i64 e.n]) false).run Tryz.prog w = .ok (.agg #[.int .i64 e.p, .int .i64 e.n, .int .i64 e.v, .bool e.dead, .string e.key, .int .i64 e.a, .int .i64 e.b, .int .i64 e.c]) w := by
  obtain ⟨D, ⟨es, clock, hb, F, hn, hD⟩, h2⟩ := h
  have hkey := keyDot e.p e.n (h2.wf e he).1 (h2.wf e he).2
  have main : ∀ c : Bool, (Instr.lookup 61 (.map (some b)) (kv e.p e.n) c).run Tryz.prog w = .ok (if c then .tuple #[pv e, .bool true] else pv e) w := fun c => by
    rcases Maps.fit_look c dotKeyed Tryz.underlying61 (zeroPast w) hb F hkey with ⟨hrun, _, hat⟩ | ⟨e0, y, _, _, hrun, hRv, hat, _⟩
    · have h5 := h2.has e he .nil
      rw [hD, hat] at h5
      cases h5
    · have h5 := h2.has e he .nil
      rw [hD, hat] at h5
      unfold rawE at hRv
      cases hRv
      simp only [DataW.held.injEq] at h5
      rw [hrun, h5]
  exact ⟨main true, main false⟩
theorem PMap.miss {w : World} {b n : Nat} {Q : Ev → Prop} (h : PMap w b n Q) (p q : Int) (wp : wfI p) (wq : wfI q) (hn : ∀ e, Q e → ¬ (e.p = p ∧ e.n = q)) :
    (Instr.lookup 61 (.map (some b)) (.agg #[.int .i64 p, .int .i64 q]) true).run Tryz.prog w = .ok (.tuple #[.agg #[.int .i64 0, .int .i64 0, .int .i64 0, .bool false, .string ⟨#[]⟩, .int .i64 0, .int .i64 0, .int .i64 0], .bool false]) w := by
  obtain ⟨D, ⟨es, clock, hb, F, _, hD⟩, h2⟩ := h
  have hkey := keyDot p q wp wq
  rcases Maps.fit_look true dotKeyed Tryz.underlying61 (zeroPast w) hb F hkey with ⟨hrun, _, hat⟩ | ⟨e0, y, _, _, hrun, hRv, hat, _⟩
  · exact hrun
  · have h5 := h2.not p q wp wq hn .nil
    rw [hD, hat] at h5
    unfold rawE at hRv
    cases hRv
    cases h5
theorem map_size {w : World} {b n : Nat} {D : DataW Value} (h : w.ownsMap Tryz.prog 40 rawE b n D) : Maps.size D ≤ n := by
  obtain ⟨es, clock, _, _, hn, rfl⟩ := h
  rw [Maps.size_eq, length_sorted]
  simpa using hn
/-- A range over such a map, under way: who is left. -/
structure PRange (w : World) (b r n : Nat) (Q : Ev → Prop) (D : DataW Value) (left : Lit → Bool) (cnt : Nat) : Prop where
  rg : w.ranges Tryz.prog 40 rawE b r n D left cnt
  past : Past D Q
theorem PRange.map {w : World} {b r n : Nat} {Q : Ev → Prop} {D : DataW Value} {left : Lit → Bool} {cnt : Nat} (h : PRange w b r n Q D left cnt) : PMap w b n Q := ⟨D, h.rg.owns, h.past⟩
theorem PRange.kept {w w' : World} {b r n : Nat} {Q : Ev → Prop} {D : DataW Value} {left : Lit → Bool} {cnt : Nat} {row : Option Nat} (h : PRange w b r n Q D left cnt) (hg : w.grownBy w' row) (h1 : some b ≠ row) (h2 : some r ≠ row) : PRange w' b r n Q D left cnt := ⟨h.rg.kept hg h1 h2, h.past⟩
theorem PRange.next {w w' : World} {b r n : Nat} {Q : Ev → Prop} {D : DataW Value} {left : Lit → Bool} {cnt : Nat} (h : PRange w b r n Q D left cnt) (hb : Below w.heap.size w w') : PRange w' b r n Q D left cnt :=
  h.kept (row := none) ⟨hb.os, hb.tape, hb.output, hb.size, fun i hi _ => hb.block i hi⟩ (by simp) (by simp)
theorem PRange.set {w : World} {b r n g i : Nat} {u : Value} {Q : Ev → Prop} {D : DataW Value} {left : Lit → Bool} {cnt : Nat} (h : PRange w b r n Q D left cnt) (hb : b ≠ g) (hr : r ≠ g) : PRange (w.setCell ⟨g, i, none⟩ u) b r n Q D left cnt :=
  h.kept (row := some g) (gb_set _ _ _ _) (fun e => hb (Option.some.inj e)) (fun e => hr (Option.some.inj e))
section
variable (w : World) {ops : Array Oper} {rest : List Oper} {o : Oper} {a : Act} {Q' : Exit → Act → World → Prop}
theorem wpList_range_past (hg : o.guard = none) (m : Operand) (hop : o.op = Op.range 61 m) (b n : Nat) (Q : Ev → Prop) (hm : a.eval m = .map (some b)) (h : PMap w b n Q)
    (hK : ∀ w' D cnt, PRange w' b w.heap.size n Q D (Maps.has D) cnt → cnt ≤ n → w.grownBy w' none → w'.heap.size = w.heap.size + 1 → wpList Tryz.prog ops Q' rest (a.put o.dst (.pointer (some ⟨w.heap.size, 0, none⟩))) w') :
    wpList Tryz.prog ops Q' (o :: rest) a w := by
  obtain ⟨D, h1, h2⟩ := h
  exact wpList_range_own w hg m 61 hop 40 72 dotKeyed Tryz.underlying61 rawE b n D hm h1 (fun w' r1 r2 r3 => hK w' D _ ⟨r1, h2⟩ (map_size h1) r2 r3)
theorem wpList_next_past (hg : o.guard = none) (it : Operand) (hop : o.op = Op.next it false) (b r n : Nat) (Q : Ev → Prop) (D : DataW Value) (left : Lit → Bool) (cnt : Nat)
    (hit : a.eval it = .pointer (some ⟨r, 0, none⟩)) (h : PRange w b r n Q D left cnt)
    (hDone : (∀ kl, left kl = false) → wpList Tryz.prog ops Q' rest (a.put o.dst (.tuple #[.bool false])) w)
    (hMore : ∀ (e : Ev) (w' : World) (cnt' : Nat), Q e → left (dk e.p e.n) = true → PRange w' b r n Q D (fun z => left z && !z.sameKey (dk e.p e.n)) cnt' → cnt' < cnt →
      w.grownBy w' (some r) → w'.heap.size = w.heap.size → (Instr.entry (.pointer (some ⟨r, 0, none⟩))).run Tryz.prog w' = .ok (.tuple #[.agg #[.int .i64 e.p, .int .i64 e.n], .agg #[.int .i64 e.p, .int .i64 e.n, .int .i64 e.v, .bool e.dead, .string e.key, .int .i64 e.a, .int .i64 e.b, .int .i64 e.c]]) w' → wpList Tryz.prog ops Q' rest (a.put o.dst (.tuple #[.bool true, .agg #[.int .i64 e.p, .int .i64 e.n], .agg #[.int .i64 e.p, .int .i64 e.n, .int .i64 e.v, .bool e.dead, .string e.key, .int .i64 e.a, .int .i64 e.b, .int .i64 e.c]])) w') :
    wpList Tryz.prog ops Q' (o :: rest) a w := by
  refine wpList_next_ranges w hg it hop 40 dotKeyed rawE (fun x : Int × Int => kv x.1 x.2) (fun v : Value => v) (fun key kl hk => ?_) (fun v y _ => ⟨v, rfl⟩) b r n D left cnt hit h.rg (fun _ hl => hDone hl) (fun x c kl y w' cnt' hkey hlk hv hat hrg hlt hgr hsz hen => ?_)
  · obtain ⟨p, q, rfl, _⟩ := key_inv hk
    exact ⟨(p, q), rfl⟩
  · obtain ⟨p, q, ex, rfl, wp, wq⟩ := key_inv hkey
    unfold rawE at hv
    cases hv
    simp only [kv, Value.agg.injEq, Array.mk.injEq, List.cons.injEq, Value.int.injEq] at ex
    obtain ⟨x1, x2⟩ := x
    obtain ⟨⟨_, rfl⟩, ⟨_, rfl⟩, _⟩ := ex
    dsimp only at *
    have hQ : ∃ e, Q e ∧ e.p = x1 ∧ e.n = x2 := by
      refine Classical.byContradiction fun hn => ?_
      have h1 := h.past.not x1 x2 wp wq (fun e he hc => hn ⟨e, he, hc⟩)
      have h2 := hat .nil
      rw [h1 .nil] at h2
      cases h2
    obtain ⟨e, he, rfl, rfl⟩ := hQ
    have h3 := h.past.has e he .nil
    rw [hat .nil] at h3
    simp only [DataW.held.injEq] at h3
    subst h3
    exact hMore e w' cnt' he hlk ⟨hrg, h.past⟩ hlt hgr hsz hen
end
/-- Those that were met: what is left behind a step. -/
theorem Past.left_step {D : DataW Value} {Q : Ev → Prop} (h : Past D Q) {left : Lit → Bool} {e f : Ev} (he : Q e) (hf : Q f) : (left (dk f.p f.n) && !(dk f.p f.n).sameKey (dk e.p e.n)) = false ↔ (left (dk f.p f.n) = false ∨ f = e) := by
  rw [Bool.and_eq_false_iff, Bool.not_eq_false', dk_same (h.wf f hf).1 (h.wf f hf).2 (h.wf e he).1 (h.wf e he).2]
  constructor
  · rintro (h1 | ⟨h1, h2⟩)
    · exact .inl h1
    · exact .inr (h.inj hf he h1 h2)
  · rintro (h1 | rfl)
    · exact .inl h1
    · exact .inr ⟨rfl, rfl⟩
theorem Past.left_all {D : DataW Value} {Q : Ev → Prop} (h : Past D Q) {e : Ev} (he : Q e) : Maps.has D (dk e.p e.n) = true := has_true_of_atKey (h.has e he)
end Go.Proofs.YtkdbcmkmcjaenaaGreatDoor
