/- The keys of a past, one by one, as they come to a loop's body. -/
import Derived.Test.YtkdbcmkmcjaenaaGreatDoorRows
import Derived.WalkKit
import Derived.WalkSpells
import Derived.WalkLawsBesides
import Derived.Deep.QuietTactic
import Derived.BigQuiet
import Derived.Deep.RegionHeld3
import Derived.Shelf.SlIter.Collect
import Derived.Test.YtkdbcmkmcjaenaaGreatDoorPm
namespace Go.Proofs.YtkdbcmkmcjaenaaGreatDoor
open Go.RowKit
set_option linter.unusedSimpArgs false
set_option linter.unusedVariables false

open Go.Maps Go.Sort
section
variable {F : Fence} {n : Nat} (w : World) {ops : Array Oper} {rest : List Oper} {o : Oper} {a : Act} {Q' : Exit → Act → World → Prop}
theorem wpListIn_range_past (hg : o.guard = none) (m : Operand) (hop : o.op = Op.range 61 m) (b k : Nat) (Q : Ev → Prop) (hm : a.eval m = .map (some b)) (h : PMap w b k Q)
    (hK : ∀ w' D cnt, PRange w' b w.heap.size k Q D (Maps.has D) cnt → cnt ≤ k → w.grownBy w' none → w'.heap.size = w.heap.size + 1 → wpListIn F n Tryz.prog ops Q' rest (a.put o.dst (.pointer (some ⟨w.heap.size, 0, none⟩))) w') :
    wpListIn F n Tryz.prog ops Q' (o :: rest) a w := by
  obtain ⟨D, h1, h2⟩ := h
  exact wpListIn_range_own w hg m 61 hop 40 72 dotKeyed Tryz.underlying61 rawE b k D hm h1 (fun w' r1 r2 r3 => hK w' D _ ⟨r1, h2⟩ (map_size h1) r2 r3)
theorem wpListIn_next_past (hg : o.guard = none) (it : Operand) (hop : o.op = Op.next it false) (b r k : Nat) (Q : Ev → Prop) (D : DataW Value) (left : Lit → Bool) (cnt : Nat)
    (hit : a.eval it = .pointer (some ⟨r, 0, none⟩)) (h : PRange w b r k Q D left cnt)
    (hDone : (∀ kl, left kl = false) → wpListIn F n Tryz.prog ops Q' rest (a.put o.dst (.tuple #[.bool false])) w)
    (hMore : ∀ (e : Ev) (w' : World) (cnt' : Nat), Q e → left (dk e.p e.n) = true → PRange w' b r k Q D (fun z => left z && !z.sameKey (dk e.p e.n)) cnt' → cnt' < cnt →
      w.grownBy w' (some r) → w'.heap.size = w.heap.size → (Instr.entry (.pointer (some ⟨r, 0, none⟩))).run Tryz.prog w' = .ok (.tuple #[.agg #[.int .i64 e.p, .int .i64 e.n], .agg #[.int .i64 e.p, .int .i64 e.n, .int .i64 e.v, .bool e.dead, .string e.key, .int .i64 e.a, .int .i64 e.b, .int .i64 e.c]]) w' → wpListIn F n Tryz.prog ops Q' rest (a.put o.dst (.tuple #[.bool true, .agg #[.int .i64 e.p, .int .i64 e.n], .agg #[.int .i64 e.p, .int .i64 e.n, .int .i64 e.v, .bool e.dead, .string e.key, .int .i64 e.a, .int .i64 e.b, .int .i64 e.c]])) w') :
    wpListIn F n Tryz.prog ops Q' (o :: rest) a w := by
  refine wpListIn_next_ranges w hg it hop 40 dotKeyed rawE (fun x : Int × Int => kv x.1 x.2) (fun v : Value => v) (fun key kl hk => ?_) (fun v y _ => ⟨v, rfl⟩) b r k D left cnt hit h.rg (fun _ hl => hDone hl) (fun x c kl y w' cnt' hkey hlk hv hat hrg hlt hgr hsz hen => ?_)
  · obtain ⟨p, q, rfl, _⟩ := key_inv hk
    exact ⟨(p, q), rfl⟩
  · obtain ⟨p, q, ex, rfl, wp, wq⟩ := key_inv hkey
    unfold rawE at hv
    cases hv
    simp only [kv, Value.agg.injEq, Array.mk.injEq, List.cons.injEq, Value.int.injEq] at ex
    obtain ⟨x1, x2⟩ := x
    obtain ⟨⟨_, rfl⟩, ⟨_, rfl⟩, _⟩ := ex
    dsimp only at *
    have hQ : ∃ e, Q e ∧ e.p = x1 ∧ e.n = x2 := by
      refine Classical.byContradiction fun hn => ?_
      have h1 := h.past.not x1 x2 wp wq (fun e he hc => hn ⟨e, he, hc⟩)
      have h2 := hat .nil
      rw [h1 .nil] at h2
      cases h2
    obtain ⟨e, he, rfl, rfl⟩ := hQ
    have h3 := h.past.has e he .nil
    rw [hat .nil] at h3
    simp only [DataW.held.injEq] at h3
    subst h3
    exact hMore e w' cnt' he hlk ⟨hrg, h.past⟩ hlt hgr hsz hen
end
/-- The events whose keys have come, each once. -/
def Come (Q : Ev → Prop) (left : Lit → Bool) (es : List Ev) : Prop := es.Nodup ∧ ∀ x, x ∈ es ↔ (Q x ∧ left (dk x.p x.n) = false)
theorem Come.start {D : DataW Value} {Q : Ev → Prop} (h : Past D Q) : Come Q (Maps.has D) [] := ⟨List.nodup_nil, fun x => ⟨fun hx => by simp at hx, fun ⟨hq, hl⟩ => by rw [h.left_all hq] at hl; cases hl⟩⟩
theorem Come.step {D : DataW Value} {Q : Ev → Prop} (h : Past D Q) {left : Lit → Bool} {es : List Ev} (hC : Come Q left es) {e : Ev} (he : Q e) (hl : left (dk e.p e.n) = true) : Come Q (fun z => left z && !z.sameKey (dk e.p e.n)) (es ++ [e]) := by
  have hn : e ∉ es := fun hx => by have := ((hC.2 e).1 hx).2; rw [hl] at this; cases this
  refine ⟨List.nodup_append.2 ⟨hC.1, by simp, fun a ha b hb => by simp at hb; subst hb; exact fun e' => hn (e' ▸ ha)⟩, fun x => ?_⟩
  rw [List.mem_append, List.mem_singleton, hC.2 x]
  constructor
  · rintro (⟨hq, h1⟩ | rfl)
    · exact ⟨hq, (h.left_step he hq).2 (.inl h1)⟩
    · exact ⟨he, (h.left_step he he).2 (.inr rfl)⟩
  · rintro ⟨hq, h1⟩
    rcases (h.left_step he hq).1 h1 with h2 | rfl
    · exact .inl ⟨hq, h2⟩
    · exact .inr rfl
/-- A new box with two cells of it stored: nothing that lay has turned. -/
theorem gb_box2 (W : World) (o : Obj) (u v : Value) : W.grownBy (((W.alloc o).setCell ⟨W.heap.size, 0, none⟩ u).setCell ⟨W.heap.size, 1, none⟩ v) none := by
  have s1 : (W.alloc o).heap.size = W.heap.size + 1 := by simp
  refine ⟨rfl, rfl, rfl, ?_, fun k hk _ => ?_⟩
  · have h1 := (KeepsWalks.setCell (W.alloc o) ⟨W.heap.size, 0, none⟩ u).size
    have h2 := (KeepsWalks.setCell ((W.alloc o).setCell ⟨W.heap.size, 0, none⟩ u) ⟨W.heap.size, 1, none⟩ v).size
    omega
  · exact (Below.heap_setCell _ _ _ k (by show k ≠ W.heap.size; omega)).trans ((Below.heap_setCell _ _ _ k (by show k ≠ W.heap.size; omega)).trans (Below.heap_alloc _ _ k hk))
set_option maxRecDepth 100000 in
set_option maxHeartbeats 2000000 in
theorem keys75 (F : Fence) (k : Nat) (h75 : F.fn 93) (hro : F.round = none) (hk : 1 ≤ k) (l Bm b n : Nat) (Q : Ev → Prop) (J : List Ev → World → Prop)
    (hY : ∀ pre x W, J pre W → pre.length < n → YieldAt F (k - 1) Tryz.prog l #[.agg #[.int .i64 x.p, .int .i64 x.n]] W fun e W' => e = .returned (.bool true) ∧ J (pre ++ [x]) W' ∧ KeepsWalks W W')
    (W : World) (hJ : AbidesFrom W.heap.size J) (hm : W.cell? ⟨Bm, 0, none⟩ = some (.map (some b))) (hown : PMap W b n Q) (h0 : J [] W) :
    CallsIn F k Tryz.prog 93 #[.func (.yield l) #[] #[], .pointer (some ⟨Bm, 0, none⟩)] W fun e W' => (∃ v, e = .returned v) ∧ ∃ es : List Ev, (es.Nodup ∧ ∀ x, x ∈ es ↔ Q x) ∧ J es W' := by
  refine callsIn_of_wp Tryz.func93 rfl h75 ?_ hro
  simp only [Tryz.ntmps93, List.size_toArray, List.length_cons, List.length_nil, Nat.reduceAdd, Nat.reduceSub, Array.replicate_succ, Array.replicate_zero, List.push_toArray, List.append_toArray, List.nil_append, List.cons_append]
  gi_wp2_with (first
    | (gi_at_range; refine wpListIn_range_past _ rfl _ rfl b n Q rfl hown ?_; intro w0 D cnt0 hrg0 hc0 hg0 hs0)
    | gi_in)
  go_frame
  gi_loopw [3] (fun _ wr => ∃ (left : Lit → Bool) (cnt : Nat) (es : List Ev), PRange wr b W.heap.size n Q D left cnt ∧ es.length + cnt ≤ n ∧ Come Q left es ∧ J es wr ∧ W.heap.size < wr.heap.size)
    (fun _ wr => wr.rangeLeft b W.heap.size)
  case atStart =>
    exact ⟨_, _, [], hrg0, by simpa using hc0, Come.start hrg0.past, hJ [] W w0 none h0 hg0 (fun r e => by cases e), by omega⟩
  case round =>
    obtain ⟨left, cnt, es, hrg, hcs, hC, hJs, hsz⟩ := hrel
    gi_wp2_with (first
      | (gi_at_next; refine wpListIn_next_past _ rfl _ rfl b W.heap.size n Q D left cnt rfl hrg ?_ ?_)
      | gi_in)
    · intro hl0
      gi_wp2
      go_end0
      exact ⟨⟨_, rfl⟩, es, ⟨hC.1, fun x => by rw [hC.2 x, hl0]; simp⟩, hJs⟩
    · intro x w2 cnt2 hq hlk hrg2 hlt hg2 hs2 hen
      gi_wp2
      have hJ2 : J es w2 := hJ es wr w2 (some W.heap.size) hJs hg2 (fun r e => by cases e; exact ⟨Nat.le_refl _, hrg.rg.iter_walk⟩)
      have hg3 : w2.grownBy (w2.alloc (.cells #[.int .i64 x.p, .int .i64 x.n] 40)) none := ⟨rfl, rfl, rfl, by simp, fun k hk _ => Below.heap_alloc _ _ k hk⟩
      have hJ3 : J es (w2.alloc (.cells #[.int .i64 x.p, .int .i64 x.n] 40)) := hJ es w2 _ none hJ2 hg3 (fun r e => by cases e)
      obtain ⟨fn, tmps, assign, body, hy, hR⟩ := hY es x _ hJ3 (by omega)
      rw [hy]
      gi_wp2
      refine hR.mono ?_
      rintro e W3 ⟨rfl, hJ4, hk4⟩
      gi_wp2
      have hrg3 := (hrg2.kept hg3 (by simp) (by simp)).rg.of_walks hk4
      have hs3 := hk4.size
      go_roundw
      case rel => exact ⟨_, cnt2, es ++ [x], ⟨hrg3, hrg.past⟩, by simp; omega, hC.step hrg.past hq hlk, hJ4, by simp at hs3; omega⟩
      case measure => rw [hrg3.left_eq, hrg.rg.left_eq]; exact hlt
/-- The keys of a past as an iterator gives them. -/
theorem keys_gives (F : Fence) (k : Nat) (h75 : F.fn 93) (hro : F.round = none) (hk : 1 ≤ k) (Bm b n : Nat) (Q : Ev → Prop) (w : World) (hB : Bm < w.heap.size) (hm : w.cell? ⟨Bm, 0, none⟩ = some (.map (some b))) (hown : PMap w b n Q) :
    SeqGives F k Tryz.prog 93 #[.pointer (some ⟨Bm, 0, none⟩)] (fun x : Ev => .agg #[.int .i64 x.p, .int .i64 x.n]) (fun es => es.Nodup ∧ ∀ x, x ∈ es ↔ Q x) n w := fun l J W hW hJ hY h0 =>
  keys75 F k h75 hro hk l Bm b n Q J hY W hJ ((hW.cell (p := ⟨Bm, 0, none⟩) hB).trans hm) (hown.next hW) h0

end Go.Proofs.YtkdbcmkmcjaenaaGreatDoor
