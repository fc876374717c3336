/- append on a row of the call's own: its block is the old one or a new one; what is kept. -/
import Derived.Test.YtmkichdiecpklaaRows
import Derived.WalkKit
import Derived.WalkSpells
import Derived.WalkLawsBesides
import Derived.Deep.QuietTactic
import Derived.BigQuiet
import Derived.Deep.RegionHeld3
import Derived.Test.YtmkichdiecpklaaSu
import Derived.LoopN
import Derived.OwnWalk
import Derived.Laws.OwnMore
namespace Go.Proofs.Ytmkichdiecpklaa
open Go.RowKit
set_option linter.unusedSimpArgs false
set_option linter.unusedVariables false


theorem cell_lt {W : World} {x : Addr} {v : Value} (h : W.cell? x = some v) : x.block < W.heap.size := by
  rcases Nat.lt_or_ge x.block W.heap.size with h' | h'
  · exact h'
  · simp [World.cell?, Array.getElem?_eq_none h'] at h
theorem own_base {w : World} {base base' e size n : Nat} {v : Value} {xs : List Value} (h : w.ownsRow base e size v n xs) (hk : ∀ k, v.ownBlock = some k → base' ≤ k) : w.ownsRow base' e size v n xs := by
  refine ⟨h.1, ?_⟩
  rcases h.2 with h' | ⟨g, cap, cur, rfl, hb, r⟩
  · exact .inl h'
  · exact .inr ⟨g, cap, cur, rfl, hk g rfl, r⟩
/-- The world grows; of old blocks only the row's may be written; the row's block then is the old one or a new one. -/
structure Gro (w w' : World) (v v' : Value) : Prop where
  grown : w.grownBy w' v.ownBlock
  fresh : ∀ k, v'.ownBlock = some k → v.ownBlock = some k ∨ w.heap.size ≤ k
theorem Gro.refl (w : World) (v : Value) : Gro w w v v := ⟨⟨rfl, rfl, rfl, Nat.le_refl _, fun _ _ _ => rfl⟩, fun _ h => .inl h⟩
theorem Gro.trans {w w1 w2 : World} {v v1 v2 : Value} (h : Gro w w1 v v1) (k : Gro w1 w2 v1 v2) : Gro w w2 v v2 := by
  refine ⟨⟨k.grown.os.trans h.grown.os, k.grown.tape.trans h.grown.tape, k.grown.output.trans h.grown.output, Nat.le_trans h.grown.size k.grown.size, fun b hb hne => ?_⟩, fun b hb => ?_⟩
  · refine (k.grown.block b (Nat.lt_of_lt_of_le hb h.grown.size) (fun e => ?_)).trans (h.grown.block b hb hne)
    rcases h.fresh b e.symm with q | q
    · exact hne q.symm
    · omega
  · rcases k.fresh b hb with q | q
    · exact h.fresh b q
    · exact .inr (Nat.le_trans h.grown.size q)
theorem Gro.of_below {w w' : World} {v : Value} (hb : Below w.heap.size w w') : Gro w w' v v := ⟨⟨hb.os, hb.tape, hb.output, hb.size, fun b h _ => hb.block b h⟩, fun _ h => .inl h⟩
theorem Gro.size {w w' : World} {v v' : Value} (h : Gro w w' v v') : w.heap.size ≤ w'.heap.size := h.grown.size
theorem Gro.below {w w' : World} {v v' : Value} {base : Nat} (h : Gro w w' v v') (hb : base ≤ w.heap.size) (hv : ∀ k, v.ownBlock = some k → base ≤ k) : Below base w w' :=
  ⟨h.grown.os, h.grown.tape, h.grown.output, h.grown.size, fun b hk => h.grown.block b (by omega) (fun e => by have := hv b e.symm; omega)⟩
theorem Gro.cell {w w' : World} {v v' : Value} (h : Gro w w' v v') {b o : Nat} {u : Value} (hc : w.cell? ⟨b, o, none⟩ = some u) (hne : v.ownBlock ≠ some b) : w'.cell? ⟨b, o, none⟩ = some u :=
  h.grown.cell hc (fun e => hne e.symm)
theorem Gro.ne {w w' : World} {v v' : Value} (h : Gro w w' v v') {b : Nat} (hb : b < w.heap.size) (hne : v.ownBlock ≠ some b) : v'.ownBlock ≠ some b := fun e => by
  rcases h.fresh b e with q | q
  · exact hne q
  · omega
theorem own_next {w w' : World} {base e size n : Nat} {v : Value} {xs : List Value} (h : w.ownsRow base e size v n xs) (hb : Below w.heap.size w w') : w'.ownsRow base e size v n xs := by
  refine ⟨h.1, ?_⟩
  rcases h.2 with h' | ⟨g, cap, cur, rfl, hg, hh, r⟩
  · exact .inl h'
  · refine .inr ⟨g, cap, cur, rfl, hg, ?_, r⟩
    rw [hb.block g (by
      rcases Nat.lt_or_ge g w.heap.size with h' | h'
      · exact h'
      · rw [Array.getElem?_eq_none h'] at hh; cases hh)]
    exact hh
variable {P : Program}
theorem run_append2 (w : World) (t ty e : TypeId) (i : TypeInfo) (z : Value) (size bytes : Nat) (ht : P.underlying t = some (.slice e)) (hi : P.info? e = some i) (hz : i.zero = some z)
    (hsize : i.size = size) (hby : i.bytes = bytes) (hzs : z.cells.size = size) (hsz : 0 < size)
    (v : Value) (n : Nat) (xs : List Value) (hown : w.ownsRow 0 e size v n xs)
    (a : Addr) (m c : Nat) (news : List Value) (hl : news.length = m * size) (hnews : ∀ j u, news[j]? = some u → w.cell? (a.add j) = some u) (h1 : ∀ u ∈ news, u.oneCell' = true)
    (h63 : n + m ≤ maxLen) (hbytes : (n + m) * bytes ≤ 140737488355328) :
    ∃ v' w', (Builtin.append_ #[t, t] ty #[v, .slice (some a) m c]).run P w = .ok v' w' ∧ w'.ownsRow 0 e size v' (n + m) (xs ++ news) ∧ Gro w w' v v' := by
  rcases hown.2 with ⟨rfl, rfl⟩ | ⟨g, cap, cur, rfl, hbg, hg, hnc, hcm, hcs, htake⟩
  · have hx : xs = [] := List.eq_nil_of_length_eq_zero (by simpa using hown.1)
    subst hx
    obtain ⟨v', w', r1, r2, r3, _⟩ := run_append_own (P := P) w w.heap.size t ty e i z size bytes ht hi hz hsize hby hzs hsz _ 0 [] (World.ownsRow_nil w w.heap.size e size) a m c news hl hnews h1 h63 hbytes (Nat.le_refl _)
    exact ⟨v', w', r1, own_base r2 (fun _ _ => Nat.zero_le _), r3, fun k hk => .inr (r2.lt k hk).1⟩
  · by_cases hroom : n + m ≤ cap
    · obtain ⟨w', r1, r2, r3⟩ := run_append_fits (P := P) w 0 t ty e i size ht hi hsize g n cap xs hown a m c news hl hnews h1 hroom
      exact ⟨_, w', r1, r2, r3, fun k hk => .inl hk⟩
    · obtain ⟨v', w', r1, r2, r3, _⟩ := run_append_own (P := P) w 0 t ty e i z size bytes ht hi hz hsize hby hzs hsz _ n xs hown a m c news hl hnews h1 h63 hbytes (Nat.zero_le _)
      subst hsize
      subst hby
      have hsmall : n + m ≤ 9223372036854775807 := by simp only [maxLen] at h63; omega
      have holds : ∀ j u, xs[j]? = some u → w.cell? ((⟨g, 0, none⟩ : Addr).add j) = some u := hown.cells (g := g) rfl
      have hr := run_append_grow (P := P) w t ty e i z ht hi hz ⟨g, 0, none⟩ n cap xs hown.1 holds a m c news hl hnews (by omega) (by omega) (growslice_fits (by omega) hbytes)
      rw [hr] at r1
      cases r1
      exact ⟨_, _, hr, r2, r3, fun k hk => .inr (by simp [Value.ownBlock] at hk; omega)⟩
theorem wpList_append2 {w : World} {ops : Array Oper} {rest : List Oper} {o : Oper} {a : Act} {Q : Exit → Act → World → Prop} (hgd : o.guard = none) (s x : Operand) (t : TypeId)
    (ho : o.op = .call { callee := .builtin .append, args := #[s, x], argTypes := #[t, t] })
    (e : TypeId) (i : TypeInfo) (z : Value) (size bytes : Nat) (ht : P.underlying t = some (.slice e)) (hi : P.info? e = some i) (hz : i.zero = some z)
    (hsize : i.size = size) (hby : i.bytes = bytes) (hzs : z.cells.size = size) (hsz : 0 < size)
    (v : Value) (n : Nat) (xs : List Value) (hs : a.eval s = v) (hown : w.ownsRow 0 e size v n xs)
    (ad : Addr) (m c : Nat) (news : List Value) (hx : a.eval x = .slice (some ad) m c) (hl : news.length = m * size) (hnews : ∀ j u, news[j]? = some u → w.cell? (ad.add j) = some u) (h1 : ∀ u ∈ news, u.oneCell' = true)
    (h63 : n + m ≤ maxLen) (hbytes : (n + m) * bytes ≤ 140737488355328)
    (h : ∀ v' w', w'.ownsRow 0 e size v' (n + m) (xs ++ news) → Gro w w' v v' → wpList P ops Q rest (a.put o.dst v') w') : wpList P ops Q (o :: rest) a w :=
  wpList_plain hgd fun _ hK => by
    obtain ⟨v', w', hr, h2, h3⟩ := run_append2 (P := P) w t o.type e i z size bytes ht hi hz hsize hby hzs hsz v n xs hown ad m c news hl hnews h1 h63 hbytes
    unfold Oper.wp execOp
    simp only [ho, resolve, invoke, builtin, Sem.run_bind, Sem.run_pure, Result.andThen_ok, List.map_toArray, List.map_cons, List.map_nil, hs, hx, hr]
    exact hK _ _ (h v' w' h2 h3)

theorem own_cast {w : World} {base e size n n' : Nat} {v : Value} {xs xs' : List Value} (h : w.ownsRow base e size v n xs) (h1 : n = n') (h2 : xs = xs') : w.ownsRow base e size v n' xs' := by subst h1; subst h2; exact h
theorem Gro.none_ne {b : Nat} : Value.ownBlock (.slice none 0 0) ≠ some b := by simp [Value.ownBlock]
theorem bel_alloc (W : World) (o : Obj) : Below W.heap.size W (W.alloc o) := (Below.refl _ _).alloc (Nat.le_refl _) _
theorem bel_drew (W : World) : Below W.heap.size W W.drew := (Below.refl _ _).drew
theorem bel_next {w W W' : World} (h : Hid (Below w.heap.size w W)) (hb : Below W.heap.size W W') : Hid (Below w.heap.size w W') := h.out.trans (hb.mono h.out.size)
theorem info_parts {i : Option TypeInfo} {z : Option Value} {a b : Nat} (h : i.map (fun i => (i.zero, i.size, i.bytes)) = some (z, a, b)) : ∃ i0, i = some i0 ∧ i0.zero = z ∧ i0.size = a ∧ i0.bytes = b := by
  cases i with
  | none => cases h
  | some i0 => simp at h; exact ⟨i0, rfl, h.1, h.2.1, h.2.2⟩
theorem own_hnext {w w' : World} {e size n : Nat} {v : Value} {xs : List Value} (h : Hid (w.ownsRow 0 e size v n xs)) (hb : Below w.heap.size w w') : Hid (w'.ownsRow 0 e size v n xs) := own_next h.out hb
theorem own_mark {w w' : World} {e size n : Nat} {v : Value} {xs : List Value} {r : Option Nat} (h : Hid (w.ownsRow 0 e size v n xs)) (hg : w.grownBy w' r) (hne : ∀ k, v.ownBlock = some k → r ≠ some k) : Hid (w'.ownsRow 0 e size v n xs) := by
  refine h.out.kept hg ?_
  cases hv : v.ownBlock with
  | none => exact .inl rfl
  | some k => exact .inr (fun e => hne k hv e.symm)
theorem int_lit {W : World} {x : Int} {t : TypeId} : ∀ j u, ([Value.int .i64 x])[j]? = some u → (W.alloc (.cells #[.int .i64 x] t)).cell? ((⟨W.heap.size, 0, none⟩ : Addr).add j) = some u := by
  intro j u hu
  match j, hu with
  | 0, hu => simp at hu; subst hu; simp [Addr.add]
theorem int_one {x : Int} : ∀ u ∈ [Value.int .i64 x], u.oneCell' = true := by intro u hu; simp at hu; subst hu; rfl
theorem own_slice {w : World} {base e size n : Nat} {v : Value} {xs : List Value} (h : w.ownsRow base e size v n xs) : ∃ ao cap, v = .slice ao n cap := by
  rcases h.2 with ⟨rfl, hn⟩ | ⟨g, cap, cur, rfl, _⟩
  · exact ⟨none, 0, by rw [hn]⟩
  · exact ⟨_, cap, rfl⟩
theorem own_some {w : World} {base e size n : Nat} {v : Value} {xs : List Value} (h : w.ownsRow base e size v n xs) (hn : 0 < n) : ∃ g cap, v = .slice (some ⟨g, 0, none⟩) n cap ∧ g < w.heap.size ∧ n ≤ cap := by
  rcases h.2 with ⟨rfl, hz⟩ | ⟨g, cap, cur, rfl, _, hg, hc, _⟩
  · omega
  · exact ⟨g, cap, rfl, (h.lt g rfl).2, hc⟩
/-- The first elements of a row, as a row. -/
theorem own_take {w : World} {base e size n m g cap : Nat} {xs : List Value} (h : w.ownsRow base e size (.slice (some ⟨g, 0, none⟩) n cap) n xs) (hm : m ≤ n) : w.ownsRow base e size (.slice (some ⟨g, 0, none⟩) m cap) m (xs.take (m * size)) := by
  have hmn : m * size ≤ n * size := Nat.mul_le_mul_right _ hm
  refine ⟨by rw [List.length_take, h.1]; omega, ?_⟩
  rcases h.2 with ⟨h', hz⟩ | ⟨g', cap', cur, h', hb, hg, hc, hx, hs, ht⟩
  · cases h'
  · cases h'
    refine .inr ⟨g, cap, cur, rfl, hb, hg, by omega, hx, hs, ?_⟩
    rw [← ht, List.take_take, Nat.min_eq_left hmn]
theorem gb_refl (w : World) (r : Option Nat) : w.grownBy w r := ⟨rfl, rfl, rfl, Nat.le_refl _, fun _ _ _ => rfl⟩
theorem gb_trans {w w1 w2 : World} {r : Option Nat} (h : w.grownBy w1 r) (k : w1.grownBy w2 r) : w.grownBy w2 r :=
  ⟨k.os.trans h.os, k.tape.trans h.tape, k.output.trans h.output, Nat.le_trans h.size k.size, fun b hb hne => (k.block b (Nat.lt_of_lt_of_le hb h.size) hne).trans (h.block b hb hne)⟩
theorem gb_below {w w' : World} {r : Option Nat} (h : Below w.heap.size w w') : w.grownBy w' r := ⟨h.os, h.tape, h.output, h.size, fun b hb _ => h.block b hb⟩
theorem gb_set (w : World) (g o : Nat) (u : Value) : w.grownBy (w.setCell ⟨g, o, none⟩ u) (some g) :=
  ⟨by simp [World.setCell], by simp [World.setCell], by simp [World.setCell], by simp [World.setCell], fun b _ hne => Below.heap_setCell w ⟨g, o, none⟩ u b (fun e => hne (by rw [e]))⟩
theorem bel_mark {w W W' : World} {r : Option Nat} (h : Hid (Below w.heap.size w W)) (hg : W.grownBy W' r) (hr : ∀ k, r = some k → w.heap.size ≤ k) : Hid (Below w.heap.size w W') :=
  ⟨hg.os.trans h.out.os, hg.tape.trans h.out.tape, hg.output.trans h.out.output, Nat.le_trans h.out.size hg.size, fun b hb => (hg.block b (Nat.lt_of_lt_of_le hb h.out.size) (fun e => by have := hr b e.symm; omega)).trans (h.out.block b hb)⟩
def IntRow (W : World) (ao : Option Addr) (zs : List Int) : Prop := zs = [] ∨ ∃ b off, ao = some ⟨b, off, none⟩ ∧ ∀ i (h : i < zs.length), W.cell? ⟨b, off + i, none⟩ = some (.int .i64 zs[i])
theorem owned_ints {w : World} {ao : Option Addr} {n cap : Nat} {zs : List Int} (h : w.ownsRow 0 3 1 (.slice ao n cap) n (zs.map (Value.int .i64))) (hn : n = zs.length) : IntRow w ao zs := by
  subst hn
  rcases h.2 with ⟨h', hz⟩ | ⟨g, cap', cur, h', _⟩
  · exact .inl (List.length_eq_zero_iff.1 hz)
  · cases h'
    refine .inr ⟨g, 0, rfl, fun i hi => ?_⟩
    rw [Nat.zero_add, h.cellAt i (by omega)]
    simp [hi]
set_option maxHeartbeats 1000000 in
theorem eqInts_same (cap cp n : Nat) (ao bo : Option Addr) (zs : List Int) (w : World) (hn0 : n = zs.length) (hm : (n : Int) ≤ 1048576) (hr0 : IntRow w ao zs) (hs0 : IntRow w bo zs) :
    Calls Try.prog 8 #[.slice ao n cap, .slice bo n cp] w fun e w' => e = .returned (.bool true) ∧ Below w.heap.size w w' := by
  have hr : Hid (IntRow w ao zs) := hr0
  have hs : Hid (IntRow w bo zs) := hs0
  have hn : Hid (n = zs.length) := hn0
  clear hr0 hs0 hn0
  go_enter Try.func8, Try.ntmps8
  go_wp2
  go_loopw [5] (fun s5 wr => ∃ k : Nat, k ≤ n ∧ s5 = .int .i64 k ∧ Below w.heap.size w wr) (fun s5 _ => n - (intOf s5).toNat)
  case atStart => exact ⟨0, by omega, rfl, Below.refl _ _⟩
  case round =>
    obtain ⟨k, hk, rfl, hB0⟩ := hrel
    have hB : Hid (Below w.heap.size w wr) := hB0
    clear hB0
    by_cases hkl : k < n
    · have hkl' : (k : Int) < (n : Int) := by omega
      have kz : k < zs.length := by have := hn.out; omega
      rcases hr.out with h' | ⟨b, off, rfl, h2⟩
      · rw [h'] at kz; simp at kz
      rcases hs.out with h' | ⟨c, oft, rfl, h3⟩
      · rw [h'] at kz; simp at kz
      have x0 : wr.cell? ⟨b, off + k, none⟩ = some (.int .i64 zs[k]) := (hB.out.cell (p := ⟨b, off + k, none⟩) (cell_lt (x := ⟨b, off + k, none⟩) (h2 k kz))).trans (h2 k kz)
      have y0 : wr.cell? ⟨c, oft + k, none⟩ = some (.int .i64 zs[k]) := (hB.out.cell (p := ⟨c, oft + k, none⟩) (cell_lt (x := ⟨c, oft + k, none⟩) (h3 k kz))).trans (h3 k kz)
      have k0 : (0 : Int) ≤ (k : Int) := by omega
      clear h2 h3
      go_wp2
      go_quiet (fail)
      go_wp2
      go_roundw
      case rel => first | exact ⟨k + 1, by omega, by go_num, below_drewN hB.out _⟩ | ((repeat apply Exists.intro); exact ⟨⟨k + 1, by omega, by go_num, below_drewN hB.out _⟩, rfl⟩)
      case measure => simp [intOf]; omega
    · have hkl' : ¬ (k : Int) < (n : Int) := by omega
      go_wp2
      go_ret
      exact ⟨rfl, hB.out⟩
def seqI (k : Int) (n : Nat) : List Value := (List.range n).map fun (i : Nat) => Value.int .i64 (k + (i : Int))
theorem seqI_len (k : Int) (n : Nat) : (seqI k n).length = n := by simp [seqI]
theorem seqI_at (k : Int) (n i : Nat) (h : i < n) : (seqI k n)[i]? = some (.int .i64 (k + i)) := by simp [seqI, h]
theorem seqI_succ (k : Int) (n : Nat) : seqI k (n + 1) = seqI k n ++ [.int .i64 (k + n)] := by simp [seqI, List.range_succ]
theorem seqI_set (k : Int) (j : Nat) (xs : List Value) (h : j < xs.length) : (seqI k j ++ xs.drop j).set j (.int .i64 (k + j)) = seqI k (j + 1) ++ xs.drop (j + 1) := by
  rw [List.set_append_right _ _ (by rw [seqI_len]; exact Nat.le_refl _), seqI_len, Nat.sub_self, seqI_succ, List.append_assoc, List.drop_eq_getElem_cons h]
  rfl
set_option maxHeartbeats 1000000 in
theorem markInts_any (cap n : Nat) (ao : Option Addr) (k : Int) (xs : List Value) (w : World) (hm : n ≤ 1048576) (h0 : 0 ≤ k) (hk : k ≤ 100000000) (hO0 : w.ownsRow 0 3 1 (.slice ao n cap) n xs) :
    Calls Try.prog 9 #[.slice ao n cap, .int .i64 k] w fun e w' => e = .returned (.int .i64 (k + n)) ∧ w.grownBy w' (Value.ownBlock (.slice ao n cap)) ∧ w'.ownsRow 0 3 1 (.slice ao n cap) n (seqI k n) := by
  have hO : Hid (w.ownsRow 0 3 1 (.slice ao n cap) n xs) := hO0
  have hX : Hid (xs.length = n) := by have := hO0.1; show _ = _; omega
  clear hO0
  go_enter Try.func9, Try.ntmps9
  go_wp2
  go_loopw [1, 5] (fun s1 s5 wr => ∃ j : Nat, j ≤ n ∧ s5 = .int .i64 j ∧ s1 = .int .i64 (k + j) ∧ w.grownBy wr (Value.ownBlock (.slice ao n cap)) ∧ wr.ownsRow 0 3 1 (.slice ao n cap) n (seqI k j ++ xs.drop j)) (fun _ s5 _ => n - (intOf s5).toNat)
  case atStart => exact ⟨0, by omega, rfl, by simp, gb_refl _ _, by simpa [seqI] using hO.out⟩
  case round =>
    obtain ⟨j, hj, rfl, rfl, hG0, hO1⟩ := hrel
    have hG : Hid (w.grownBy wr (Value.ownBlock (.slice ao n cap))) := hG0
    have hP : Hid (wr.ownsRow 0 3 1 (.slice ao n cap) n (seqI k j ++ xs.drop j)) := hO1
    clear hG0 hO1 hO
    by_cases hjn : j < n
    · have hjn' : (j : Int) < (n : Int) := by omega
      have j0 : (0 : Int) ≤ (j : Int) := by omega
      have hxj : j < xs.length := by have := hX.out; omega
      obtain ⟨g, rfl⟩ : ∃ g, ao = some ⟨g, 0, none⟩ := by
        rcases hP.out.2 with ⟨h', hz⟩ | ⟨g, cap', cur, h', _⟩
        · omega
        · cases h'; exact ⟨g, rfl⟩
      obtain ⟨u, y0⟩ : ∃ u, wr.cell? ⟨g, j, none⟩ = some u := by
        rw [hP.out.cellAt j (by omega)]
        have : j < (seqI k j ++ xs.drop j).length := by simp [seqI_len]; omega
        exact ⟨_, List.getElem?_eq_getElem this⟩
      have z0 : wr.frozen? ⟨g, j, none⟩ = false := hP.out.frozenAt j
      have S1 : Hid (wr.setCell ⟨g, j, none⟩ (.int .i64 (k + j)) |>.ownsRow 0 3 1 (.slice (some ⟨g, 0, none⟩) n cap) n (seqI k (j + 1) ++ xs.drop (j + 1))) := by
        have := (hP.out.stored j (.int .i64 (k + j))).1
        rw [seqI_set k j xs hxj] at this
        exact this
      go_wp2
      go_roundw
      case rel => first | exact ⟨j + 1, by omega, by go_num, by go_num, gb_trans hG.out (gb_set _ _ _ _), S1.out⟩ | ((repeat apply Exists.intro); exact ⟨⟨j + 1, by omega, by go_num, by go_num, gb_trans hG.out (gb_set _ _ _ _), S1.out⟩, rfl⟩)
      case measure => simp [intOf]; omega
    · have hjn' : ¬ (j : Int) < (n : Int) := by omega
      have e : j = n := by omega
      subst e
      go_wp2
      go_ret
      refine ⟨rfl, hG.out, ?_⟩
      have := hP.out
      rw [List.drop_of_length_le (by have := hX.out; omega), List.append_nil] at this
      exact this
set_option maxHeartbeats 1000000 in
theorem heldInts_any (cap n : Nat) (ao : Option Addr) (k : Int) (w : World) (hm : n ≤ 1048576) (h0 : 0 ≤ k) (hk : k ≤ 100000000) (hO0 : w.ownsRow 0 3 1 (.slice ao n cap) n (seqI k n)) :
    Calls Try.prog 10 #[.slice ao n cap, .int .i64 k] w fun e w' => e = .returned (.int .i64 (k + n)) ∧ Below w.heap.size w w' := by
  have hO : Hid (w.ownsRow 0 3 1 (.slice ao n cap) n (seqI k n)) := hO0
  clear hO0
  go_enter Try.func10, Try.ntmps10
  go_wp2
  go_loopw [1, 5] (fun s1 s5 wr => ∃ j : Nat, j ≤ n ∧ s5 = .int .i64 j ∧ s1 = .int .i64 (k + j) ∧ wr = w) (fun _ s5 _ => n - (intOf s5).toNat)
  case atStart => exact ⟨0, by omega, rfl, by simp, rfl⟩
  case round =>
    obtain ⟨j, hj, rfl, rfl, rfl⟩ := hrel
    by_cases hjn : j < n
    · have hjn' : (j : Int) < (n : Int) := by omega
      have j0 : (0 : Int) ≤ (j : Int) := by omega
      obtain ⟨g, rfl⟩ : ∃ g, ao = some ⟨g, 0, none⟩ := by
        rcases hO.out.2 with ⟨h', hz⟩ | ⟨g, cap', cur, h', _⟩
        · omega
        · cases h'; exact ⟨g, rfl⟩
      have y0 : wr.cell? ⟨g, j, none⟩ = some (.int .i64 (k + j)) := by
        rw [hO.out.cellAt j (by omega)]
        exact seqI_at k n j hjn
      go_wp2
      go_roundw
      case rel => first | exact ⟨j + 1, by omega, by go_num, by go_num, trivial⟩ | exact ⟨j + 1, by omega, by go_num, by go_num, rfl⟩ | ((repeat apply Exists.intro); exact ⟨⟨j + 1, by omega, by go_num, by go_num, rfl⟩, rfl⟩)
      case measure => simp [intOf]; omega
    · have hjn' : ¬ (j : Int) < (n : Int) := by omega
      have e : j = n := by omega
      subst e
      go_wp2
      go_ret
      exact ⟨rfl, Below.refl _ _⟩

end Go.Proofs.Ytmkichdiecpklaa
