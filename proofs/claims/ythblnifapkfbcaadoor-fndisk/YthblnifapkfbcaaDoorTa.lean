/- append on rows of texts. -/
import Derived.Test.YthblnifapkfbcaaDoorRows
import Derived.WalkKit
import Derived.WalkSpells
import Derived.WalkLawsBesides
import Derived.Deep.QuietTactic
import Derived.BigQuiet
import Derived.Deep.RegionHeld3
import Derived.Test.YthblnifapkfbcaaDoorDk
import Derived.OwnWalk
import Derived.Laws.OwnMore
import Derived.Deep.AppendSrc
import Derived.Deep.Upon
namespace Go.Proofs.YthblnifapkfbcaaDoor
open Go.RowKit
set_option linter.unusedSimpArgs false
set_option linter.unusedVariables false
/-- The world grows; of old blocks only the row's may be written; the row's block then is the old one or a new one. -/
structure Gro (w w' : World) (v v' : Value) : Prop where
  grown : w.grownBy w' v.ownBlock
  fresh : ∀ k, v'.ownBlock = some k → v.ownBlock = some k ∨ w.heap.size ≤ k
theorem Gro.refl (w : World) (v : Value) : Gro w w v v := ⟨⟨rfl, rfl, rfl, Nat.le_refl _, fun _ _ _ => rfl⟩, fun _ h => .inl h⟩
theorem Gro.trans {w w1 w2 : World} {v v1 v2 : Value} (h : Gro w w1 v v1) (k : Gro w1 w2 v1 v2) : Gro w w2 v v2 := by
  refine ⟨⟨k.grown.os.trans h.grown.os, k.grown.tape.trans h.grown.tape, k.grown.output.trans h.grown.output, Nat.le_trans h.grown.size k.grown.size, fun b hb hne => ?_⟩, fun b hb => ?_⟩
  · refine (k.grown.block b (Nat.lt_of_lt_of_le hb h.grown.size) (fun e => ?_)).trans (h.grown.block b hb hne)
    rcases h.fresh b e.symm with q | q
    · exact hne q.symm
    · omega
  · rcases k.fresh b hb with q | q
    · exact h.fresh b q
    · exact .inr (Nat.le_trans h.grown.size q)
theorem Gro.of_below {w w' : World} {v : Value} (hb : Below w.heap.size w w') : Gro w w' v v := ⟨⟨hb.os, hb.tape, hb.output, hb.size, fun b h _ => hb.block b h⟩, fun _ h => .inl h⟩
theorem Gro.size {w w' : World} {v v' : Value} (h : Gro w w' v v') : w.heap.size ≤ w'.heap.size := h.grown.size
theorem Gro.below {w w' : World} {v v' : Value} {base : Nat} (h : Gro w w' v v') (hb : base ≤ w.heap.size) (hv : ∀ k, v.ownBlock = some k → base ≤ k) : Below base w w' :=
  ⟨h.grown.os, h.grown.tape, h.grown.output, h.grown.size, fun b hk => h.grown.block b (by omega) (fun e => by have := hv b e.symm; omega)⟩
theorem Gro.cell {w w' : World} {v v' : Value} (h : Gro w w' v v') {b o : Nat} {u : Value} (hc : w.cell? ⟨b, o, none⟩ = some u) (hne : v.ownBlock ≠ some b) : w'.cell? ⟨b, o, none⟩ = some u :=
  h.grown.cell hc (fun e => hne e.symm)
theorem Gro.ne {w w' : World} {v v' : Value} (h : Gro w w' v v') {b : Nat} (hb : b < w.heap.size) (hne : v.ownBlock ≠ some b) : v'.ownBlock ≠ some b := fun e => by
  rcases h.fresh b e with q | q
  · exact hne q
  · omega
section
variable {P : Program}
theorem run_append2 (w : World) (t ty e : TypeId) (i : TypeInfo) (z : Value) (size bytes : Nat) (ht : P.underlying t = some (.slice e)) (hi : P.info? e = some i) (hz : i.zero = some z)
    (hsize : i.size = size) (hby : i.bytes = bytes) (hzs : z.cells.size = size) (hsz : 0 < size)
    (v : Value) (n : Nat) (xs : List Value) (hown : w.ownsRow 0 e size v n xs)
    (a : Addr) (m c : Nat) (news : List Value) (hl : news.length = m * size) (hnews : ∀ j u, news[j]? = some u → w.cell? (a.add j) = some u) (h1 : ∀ u ∈ news, u.oneCell' = true)
    (h63 : n + m ≤ maxLen) (hbytes : (n + m) * bytes ≤ 140737488355328) :
    ∃ v' w', (Builtin.append_ #[t, t] ty #[v, .slice (some a) m c]).run P w = .ok v' w' ∧ w'.ownsRow 0 e size v' (n + m) (xs ++ news) ∧ Gro w w' v v' := by
  rcases hown.2 with ⟨rfl, rfl⟩ | ⟨g, cap, cur, rfl, hbg, hg, hnc, hcm, hcs, htake⟩
  · have hx : xs = [] := List.eq_nil_of_length_eq_zero (by simpa using hown.1)
    subst hx
    obtain ⟨v', w', r1, r2, r3, _⟩ := run_append_own (P := P) w w.heap.size t ty e i z size bytes ht hi hz hsize hby hzs hsz _ 0 [] (World.ownsRow_nil w w.heap.size e size) a m c news hl hnews h1 h63 hbytes (Nat.le_refl _)
    exact ⟨v', w', r1, own_base r2 (fun _ _ => Nat.zero_le _), r3, fun k hk => .inr (r2.lt k hk).1⟩
  · by_cases hroom : n + m ≤ cap
    · obtain ⟨w', r1, r2, r3⟩ := run_append_fits (P := P) w 0 t ty e i size ht hi hsize g n cap xs hown a m c news hl hnews h1 hroom
      exact ⟨_, w', r1, r2, r3, fun k hk => .inl hk⟩
    · obtain ⟨v', w', r1, r2, r3, _⟩ := run_append_own (P := P) w 0 t ty e i z size bytes ht hi hz hsize hby hzs hsz _ n xs hown a m c news hl hnews h1 h63 hbytes (Nat.zero_le _)
      subst hsize
      subst hby
      have hsmall : n + m ≤ 9223372036854775807 := by simp only [maxLen] at h63; omega
      have holds : ∀ j u, xs[j]? = some u → w.cell? ((⟨g, 0, none⟩ : Addr).add j) = some u := hown.cells (g := g) rfl
      have hr := run_append_grow (P := P) w t ty e i z ht hi hz ⟨g, 0, none⟩ n cap xs hown.1 holds a m c news hl hnews (by omega) (by omega) (growslice_fits (by omega) hbytes)
      rw [hr] at r1
      cases r1
      exact ⟨_, _, hr, r2, r3, fun k hk => .inr (by simp [Value.ownBlock] at hk; omega)⟩
theorem wpList_append2 {w : World} {ops : Array Oper} {rest : List Oper} {o : Oper} {a : Act} {Q : Exit → Act → World → Prop} (hgd : o.guard = none) (s x : Operand) (t : TypeId)
    (ho : o.op = .call { callee := .builtin .append, args := #[s, x], argTypes := #[t, t] })
    (e : TypeId) (i : TypeInfo) (z : Value) (size bytes : Nat) (ht : P.underlying t = some (.slice e)) (hi : P.info? e = some i) (hz : i.zero = some z)
    (hsize : i.size = size) (hby : i.bytes = bytes) (hzs : z.cells.size = size) (hsz : 0 < size)
    (v : Value) (n : Nat) (xs : List Value) (hs : a.eval s = v) (hown : w.ownsRow 0 e size v n xs)
    (ad : Addr) (m c : Nat) (news : List Value) (hx : a.eval x = .slice (some ad) m c) (hl : news.length = m * size) (hnews : ∀ j u, news[j]? = some u → w.cell? (ad.add j) = some u) (h1 : ∀ u ∈ news, u.oneCell' = true)
    (h63 : n + m ≤ maxLen) (hbytes : (n + m) * bytes ≤ 140737488355328)
    (h : ∀ v' w', w'.ownsRow 0 e size v' (n + m) (xs ++ news) → Gro w w' v v' → wpList P ops Q rest (a.put o.dst v') w') : wpList P ops Q (o :: rest) a w :=
  wpList_plain hgd fun _ hK => by
    obtain ⟨v', w', hr, h2, h3⟩ := run_append2 (P := P) w t o.type e i z size bytes ht hi hz hsize hby hzs hsz v n xs hown ad m c news hl hnews h1 h63 hbytes
    unfold Oper.wp execOp
    simp only [ho, resolve, invoke, builtin, Sem.run_bind, Sem.run_pure, Result.andThen_ok, List.map_toArray, List.map_cons, List.map_nil, hs, hx, hr]
    exact hK _ _ (h v' w' h2 h3)

end

theorem Gro.none_ne {b : Nat} : Value.ownBlock (.slice none 0 0) ≠ some b := by simp [Value.ownBlock]
theorem trow_src {W : World} {b off : Nat} {ls : List ByteArray} (h2 : ∀ i (h : i < ls.length), W.cell? ⟨b, off + i, none⟩ = some (.string ls[i])) : ∀ j v, (V ls)[j]? = some v → W.cell? ((⟨b, off, none⟩ : Addr).add j) = some v := fun j v hv => by
  have hj : j < ls.length := by
    rcases Nat.lt_or_ge j ls.length with q | q
    · exact q
    · rw [List.getElem?_eq_none (by rw [V_len]; exact q)] at hv; cases hv
  rw [V_at ls j hj] at hv
  cases hv
  have : ((⟨b, off, none⟩ : Addr).add j) = ⟨b, off + j, none⟩ := by
    unfold Addr.add
    by_cases hk : j = 0 <;> simp [hk]
  rw [this]
  exact h2 j hj
/-- A row of texts of one's own, its block from lo on. -/
structure OwnT (W : World) (v : Value) (ss : List ByteArray) (lo : Nat) : Prop where
  own : W.ownsRow 0 9 1 v ss.length (V ss)
  ge : ∀ k, v.ownBlock = some k → lo ≤ k
theorem OwnT.lt {W : World} {v : Value} {ss : List ByteArray} {lo : Nat} (h : OwnT W v ss lo) : ∀ k, v.ownBlock = some k → lo ≤ k ∧ k < W.heap.size := fun k hk => ⟨h.ge k hk, (h.own.lt k hk).2⟩
theorem OwnT.next {W W' : World} {v : Value} {ss : List ByteArray} {lo : Nat} (h : OwnT W v ss lo) (hb : Below W.heap.size W W') : OwnT W' v ss lo := ⟨own_next h.own hb, h.ge⟩
theorem own_gro {w w' : World} {e n : Nat} {v u u' : Value} {xs : List Value} (h : w.ownsRow 0 e 1 v n xs) (hg : Gro w w' u u') (hne : ∀ k, v.ownBlock = some k → u.ownBlock ≠ some k) : w'.ownsRow 0 e 1 v n xs := by
  refine ⟨h.1, ?_⟩
  rcases h.2 with h' | ⟨g, cap, cur, rfl, hg', hh, r⟩
  · exact .inl h'
  · refine .inr ⟨g, cap, cur, rfl, hg', ?_, r⟩
    rw [hg.grown.block g (by
      rcases Nat.lt_or_ge g w.heap.size with h' | h'
      · exact h'
      · rw [Array.getElem?_eq_none h'] at hh; cases hh) (fun e => hne g rfl e.symm)]
    exact hh
theorem OwnT.new {W : World} {lo : Nat} (h : lo ≤ W.heap.size) : OwnT (W.alloc (.cells #[] 9)) (.slice (some ⟨W.heap.size, 0, none⟩) 0 0) [] lo :=
  ⟨World.ownsRow_lit (base := 0) (e := 9) (size := 1) W #[] 0 (Nat.zero_le _) (by unfold maxLen; omega) (by simp), fun k hk => by simp [Value.ownBlock] at hk; omega⟩
theorem own_sliceT {W : World} {e n : Nat} {v : Value} {xs : List Value} (h : W.ownsRow 0 e 1 v n xs) : ∃ ao cap, v = .slice ao n cap := by
  rcases h.2 with ⟨rfl, hn⟩ | ⟨g, cap', cur, rfl, _⟩
  · exact ⟨none, 0, by rw [hn]⟩
  · exact ⟨_, _, rfl⟩
theorem run_appT (W : World) (v : Value) (n : Nat) (ss : List ByteArray) (lo tt : Nat) (hn : n = ss.length) (hO : OwnT W v ss lo) (hlo : lo ≤ W.heap.size) (ao : Option Addr) (m c : Nat) (ms : List ByteArray) (hm : m = ms.length) (hsrc : TRow W ao ms) (h20 : n + m ≤ 4194304) (htt : tt = n + m) :
    ∃ vo vc w', (Builtin.append_ #[23, 23] 23 #[v, .slice ao m c]).run Tryd.prog W = .ok (.slice vo tt vc) w' ∧ OwnT w' (.slice vo tt vc) (ss ++ ms) lo ∧ Gro W w' v (.slice vo tt vc) := by
  subst htt
  subst hn
  subst hm
  obtain ⟨i0, hi, hz0, hz1, hz2⟩ := info_parts info_str
  have hml : ss.length + ms.length ≤ maxLen := by unfold maxLen; omega
  have main : ∃ v' w', (Builtin.append_ #[23, 23] 23 #[v, .slice ao ms.length c]).run Tryd.prog W = .ok v' w' ∧ w'.ownsRow 0 9 1 v' (ss.length + ms.length) (V ss ++ V ms) ∧ Gro W w' v v' := by
    by_cases hl : ms = []
    · subst hl
      have hsr : Src Tryd.prog i0.size 23 (.slice ao 0 c) 0 [] W := by
        cases ao with
        | none => exact Src.ofNil W Tryd.underlying23 c
        | some ad => exact Src.ofSlice W Tryd.underlying23 ad 0 c [] (by simp) (fun j u h => by simp at h) (fun u h => by cases h)
      have ho := hO.own
      rcases ho.2 with ⟨rfl, h0⟩ | ⟨g, cap, cur, rfl, _, _, hnc, _⟩
      · exact ⟨_, _, run_append_nothing W 23 23 23 9 i0 Tryd.underlying23 hi none 0 0 (Nat.le_refl _) _ hsr, by simpa [V] using ho, Gro.refl _ _⟩
      · exact ⟨_, _, run_append_nothing W 23 23 23 9 i0 Tryd.underlying23 hi _ ss.length cap hnc _ hsr, by simpa [V] using ho, Gro.refl _ _⟩
    · rcases hsrc with h | ⟨b, off, rfl, h2⟩
      · exact (hl h).elim
      · exact run_append2 (P := Tryd.prog) W 23 23 9 i0 (.string ⟨#[]⟩) 1 16 Tryd.underlying23 hi hz0 hz1 hz2 rfl (by decide) v ss.length (V ss) hO.own ⟨b, off, none⟩ ms.length c (V ms) (by rw [V_len]; omega) (trow_src h2) (V_one _) hml (by omega)
  obtain ⟨v', w', hr, ho, hg⟩ := main
  obtain ⟨vo, vc, rfl⟩ := own_sliceT ho
  refine ⟨vo, vc, w', hr, ⟨?_, fun k hk => ?_⟩, hg⟩
  · rw [V_app, List.length_append]; exact ho
  · rcases hg.fresh k hk with h' | h'
    · exact hO.ge k h'
    · omega
theorem wp_appT {W : World} {o : Oper} {a : Act} {K : Act → World → Prop} {Q : Exit → Act → World → Prop} (s x : Operand)
    (ho : o.op = .call { callee := .builtin .append, args := #[s, x], argTypes := #[23, 23] }) (hty : o.type = 23)
    (v : Value) (n : Nat) (ss : List ByteArray) (lo tt : Nat) (hs : a.eval s = v) (hn : n = ss.length) (hO : OwnT W v ss lo) (hlo : lo ≤ W.heap.size) (ao : Option Addr) (m c : Nat) (ms : List ByteArray) (hx : a.eval x = .slice ao m c) (hm : m = ms.length) (hsrc : TRow W ao ms) (h20 : n + m ≤ 4194304) (htt : tt = n + m)
    (h : ∀ vo vc w', OwnT w' (.slice vo tt vc) (ss ++ ms) lo → Gro W w' v (.slice vo tt vc) → K (a.put o.dst (.slice vo tt vc)) w') : o.wp Tryd.prog a W K Q := by
  obtain ⟨vo, vc, w', hr, h2, h3⟩ := run_appT W v n ss lo tt hn hO hlo ao m c ms hm hsrc h20 htt
  unfold Oper.wp execOp
  simp only [ho, hty, resolve, invoke, builtin, Sem.run_bind, Sem.run_pure, Result.andThen_ok, List.map_toArray, List.map_cons, List.map_nil, hs, hx, hr]
  exact h vo vc w' h2 h3
theorem wpList_appT {W : World} {ops : Array Oper} {rest : List Oper} {o : Oper} {a : Act} {Q : Exit → Act → World → Prop} (hgd : o.guard = none) (s x : Operand)
    (ho : o.op = .call { callee := .builtin .append, args := #[s, x], argTypes := #[23, 23] }) (hty : o.type = 23)
    (v : Value) (n : Nat) (ss : List ByteArray) (lo tt : Nat) (hs : a.eval s = v) (hn : n = ss.length) (hO : OwnT W v ss lo) (hlo : lo ≤ W.heap.size) (ao : Option Addr) (m c : Nat) (ms : List ByteArray) (hx : a.eval x = .slice ao m c) (hm : m = ms.length) (hsrc : TRow W ao ms) (h20 : n + m ≤ 4194304) (htt : tt = n + m)
    (h : ∀ vo vc w', OwnT w' (.slice vo tt vc) (ss ++ ms) lo → Gro W w' v (.slice vo tt vc) → wpList Tryd.prog ops Q rest (a.put o.dst (.slice vo tt vc)) w') : wpList Tryd.prog ops Q (o :: rest) a W :=
  wpList_plain hgd fun _ hK => wp_appT s x ho hty v n ss lo tt hs hn hO hlo ao m c ms hx hm hsrc h20 htt (fun vo vc w' h2 h3 => hK _ _ (h vo vc w' h2 h3))
theorem OwnT.below {w W W' : World} {v v' : Value} {ss : List ByteArray} {lo : Nat} (h : OwnT W v ss lo) (hb : Below w.heap.size w W) (hlo : w.heap.size ≤ lo) (hg : Gro W W' v v') : Below w.heap.size w W' :=
  hb.trans (hg.below hb.size (fun k hk => Nat.le_trans hlo (h.ge k hk)))
theorem OwnT.cell {W W' : World} {v v' u : Value} {ss : List ByteArray} {lo b o : Nat} (h : OwnT W v ss lo) (hg : Gro W W' v v') (hc : W.cell? ⟨b, o, none⟩ = some u) (hb : b < lo) : W'.cell? ⟨b, o, none⟩ = some u :=
  hg.cell hc (fun e => by have := h.ge b e; omega)
theorem OwnT.frozen {W W' : World} {v v' : Value} {ss : List ByteArray} {lo b o : Nat} (h : OwnT W v ss lo) (hg : Gro W W' v v') (hc : W.frozen? ⟨b, o, none⟩ = false) (hl : b < W.heap.size) (hb : b < lo) : W'.frozen? ⟨b, o, none⟩ = false := by
  rw [World.frozen?_of_block (w := W) (hg.grown.block b hl (fun e => by have := h.ge b e.symm; omega))]; exact hc
end Go.Proofs.YthblnifapkfbcaaDoor
