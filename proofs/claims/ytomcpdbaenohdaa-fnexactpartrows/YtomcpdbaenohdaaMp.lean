/- Maps by texts, their elements held as the values that they are. -/
import Derived.Test.YtomcpdbaenohdaaRows
import Derived.WalkKit
import Derived.WalkSpells
import Derived.WalkLawsBesides
import Derived.Deep.QuietTactic
import Derived.BigQuiet
import Derived.Deep.RegionHeld3
import Derived.Maps.Own
import Derived.Maps.Views
import Derived.StringKeys
import Derived.Sort.KeysCollected
import Derived.Lib.SlKeysI
import Derived.Test.YtomcpdbaenohdaaCm
namespace Go.Proofs.Ytomcpdbaenohdaa
open Go.RowKit
set_option linter.unusedSimpArgs false
set_option linter.unusedVariables false

open Go.Maps Go.Sort
/-- An element is read as the value that it is: nothing is said of the memory that it leads to. -/
def rawE : Value → Option (DataW Value × List MemPlace) := fun v => some (.held v, [])
def keyL (s : ByteArray) : Lit := .string s.data.toList
theorem keyL_inj {s t : ByteArray} (h : keyL s = keyL t) : s = t := by
  unfold keyL at h
  simp only [Lit.string.injEq] at h
  apply ByteArray.ext
  exact Array.toList_inj.1 h
/-- Block b is a map of at most n entries: what it has at each text. -/
structure MapF (w : World) (P : Program) (k : TypeId) (b n : Nat) (M : ByteArray → Option Value) : Prop where
  view : ∃ D : DataW Value, w.ownsMap P k rawE b n D ∧ Maps.IsMap D ∧ ∀ s z, D.atKey (keyL s) z = (match M s with | some v => .held v | none => z)
theorem mapF_made (w : World) (P : Program) (k : TypeId) : MapF (w.alloc (.map #[] 0)) P k w.heap.size 0 (fun _ => none) :=
  ⟨⟨_, World.ownsMap_made w P k rawE, Maps.isMap_empty, fun s z => rfl⟩⟩
theorem MapF.kept {w w' : World} {P : Program} {k : TypeId} {b n : Nat} {M : ByteArray → Option Value} {row : Option Nat} (h : MapF w P k b n M) (hg : w.grownBy w' row) (hne : some b ≠ row) : MapF w' P k b n M := by
  obtain ⟨D, h1, h2, h3⟩ := h.view
  exact ⟨⟨D, h1.kept hg hne, h2, h3⟩⟩
theorem MapF.lt {w : World} {P : Program} {k : TypeId} {b n : Nat} {M : ByteArray → Option Value} (h : MapF w P k b n M) : b < w.heap.size := by
  obtain ⟨D, h1, _, _⟩ := h.view
  exact h1.lt
theorem MapF.next {w w' : World} {P : Program} {k : TypeId} {b n : Nat} {M : ByteArray → Option Value} (h : MapF w P k b n M) (hb : Below w.heap.size w w') : MapF w' P k b n M :=
  h.kept (row := none) ⟨hb.os, hb.tape, hb.output, hb.size, fun i hi _ => hb.block i hi⟩ (by simp)
/-- What is asked with 'ok'. -/
theorem MapF.look {w : World} {P : Program} {k t e : TypeId} {b n : Nat} {M : ByteArray → Option Value} (h : MapF w P k b n M) (hk : P.underlying k = some .string) (ht : P.underlying t = some (.map k e)) {z : Value} (hz : (zeroValue e).run P w = .ok z w) (c : Bool) (s : ByteArray) (hs : s.size ≤ maxLen) :
    (Instr.lookup t (.map (some b)) (.string s) c).run P w = .ok (if c then .tuple #[(M s).getD z, .bool (M s).isSome] else (M s).getD z) w := by
  obtain ⟨D, ⟨es, clock, hb, F, hn, hD⟩, h2, h3⟩ := h.view
  have hkey : keyOf P k (.string s) = some (keyL s) := Go.WideMaps.keyOf_string_mk hk hs
  rcases Maps.fit_look c (string_keyed hk) ht hz hb F hkey with ⟨hrun, _, hat⟩ | ⟨e0, y, _, _, hrun, hRv, hat, _⟩
  · have h4 : M s = none := by
      have h5 := h3 s .nil
      have h6 := h3 s (.held z)
      rw [hD, hat] at h5 h6
      cases hM : M s with
      | none => rfl
      | some v => rw [hM] at h5; cases h5
    rw [hrun, h4]
    rfl
  · have h4 : M s = some e0.val := by
      have h5 := h3 s .nil
      rw [hD, hat] at h5
      unfold rawE at hRv
      cases hRv
      cases hM : M s with
      | none => rw [hM] at h5; cases h5
      | some v =>
        rw [hM] at h5
        simp only [DataW.held.injEq] at h5
        rw [h5]
    rw [hrun, h4]
    rfl
def mset (M : ByteArray → Option Value) (s : ByteArray) (v : Value) : ByteArray → Option Value := fun t => if t = s then some v else M t
/-- What is stored. -/
theorem MapF.store {w : World} {P : Program} {k t e : TypeId} {b n : Nat} {M : ByteArray → Option Value} (h : MapF w P k b n M) (hk : P.underlying k = some .string) (ht : P.underlying t = some (.map k e)) (hn : n < maxLen) (s : ByteArray) (hs : s.size ≤ maxLen) (v : Value) :
    ∃ w', (Instr.mapUpdate t (.map (some b)) (.string s) v).run P w = .ok () w' ∧ MapF w' P k b (n + 1) (mset M s v) ∧ w.grownBy w' (some b) := by
  obtain ⟨D, h1, h2, h3⟩ := h.view
  have hkey : keyOf P k (.string s) = some (keyL s) := Go.WideMaps.keyOf_string_mk hk hs
  obtain ⟨w', hrun, h4, hg⟩ := h1.update (string_keyed hk) ht hn hkey (show rawE v = some (.held v, []) from rfl)
  refine ⟨w', hrun, ⟨⟨_, h4, h2.put _ _, fun u z => ?_⟩⟩, hg⟩
  unfold mset
  by_cases e : u = s
  · rw [if_pos e, e]
    exact Maps.atKey_put_same h2 ((string_keyed hk).key hkey) _ _
  · rw [if_neg e]
    rw [Maps.atKey_put_other (fun e' => e (keyL_inj e'))]
    exact h3 u z

theorem MapF.more {w : World} {P : Program} {k : TypeId} {b n n' : Nat} {M : ByteArray → Option Value} (h : MapF w P k b n M) (hn : n ≤ n') : MapF w P k b n' M := by
  obtain ⟨D, h1, h2, h3⟩ := h.view
  exact ⟨⟨D, h1.mono hn, h2, h3⟩⟩
theorem MapF.kp {E : Nat → Prop} {w w' : World} {P : Program} {k : TypeId} {b n : Nat} {M : ByteArray → Option Value} (h : MapF w P k b n M) (q : Kp E w w') (hn : ¬ E b) : MapF w' P k b n M := by
  obtain ⟨D, ⟨es, clock, hb, F, hn', hD⟩, h2, h3⟩ := h.view
  exact ⟨⟨D, ⟨es, clock, (q.block b h.lt hn).trans hb, F, hn', hD⟩, h2, h3⟩⟩
/-- Block b is a map by numbers of at most n entries. -/
structure MapI (w : World) (P : Program) (k : TypeId) (b n : Nat) (M : Int → Option Value) : Prop where
  view : ∃ D : DataW Value, w.ownsMap P k rawE b n D ∧ Maps.IsMap D ∧ ∀ s z, D.atKey (.int .i64 s) z = (match M s with | some v => .held v | none => z)
theorem mapI_made (w : World) (P : Program) (k : TypeId) : MapI (w.alloc (.map #[] 0)) P k w.heap.size 0 (fun _ => none) :=
  ⟨⟨_, World.ownsMap_made w P k rawE, Maps.isMap_empty, fun s z => rfl⟩⟩
theorem MapI.lt {w : World} {P : Program} {k : TypeId} {b n : Nat} {M : Int → Option Value} (h : MapI w P k b n M) : b < w.heap.size := by
  obtain ⟨D, h1, _, _⟩ := h.view
  exact h1.lt
theorem MapI.more {w : World} {P : Program} {k : TypeId} {b n n' : Nat} {M : Int → Option Value} (h : MapI w P k b n M) (hn : n ≤ n') : MapI w P k b n' M := by
  obtain ⟨D, h1, h2, h3⟩ := h.view
  exact ⟨⟨D, h1.mono hn, h2, h3⟩⟩
theorem MapI.kp {E : Nat → Prop} {w w' : World} {P : Program} {k : TypeId} {b n : Nat} {M : Int → Option Value} (h : MapI w P k b n M) (q : Kp E w w') (hn : ¬ E b) : MapI w' P k b n M := by
  obtain ⟨D, ⟨es, clock, hb, F, hn', hD⟩, h2, h3⟩ := h.view
  exact ⟨⟨D, ⟨es, clock, (q.block b h.lt hn).trans hb, F, hn', hD⟩, h2, h3⟩⟩
theorem MapI.next {w w' : World} {P : Program} {k : TypeId} {b n : Nat} {M : Int → Option Value} (h : MapI w P k b n M) (hb : Below w.heap.size w w') : MapI w' P k b n M := h.kp (Kp.of_below (E := fun _ => False) hb) (fun h => h)
theorem MapI.look {w : World} {P : Program} {k t e : TypeId} {b n : Nat} {M : Int → Option Value} (h : MapI w P k b n M) (hk : P.underlying k = some (.int .i64)) (ht : P.underlying t = some (.map k e)) {z : Value} (hz : (zeroValue e).run P w = .ok z w) (c : Bool) (s : Int) (hs : (Lit.int .i64 s).wf = true) :
    (Instr.lookup t (.map (some b)) (.int .i64 s) c).run P w = .ok (if c then .tuple #[(M s).getD z, .bool (M s).isSome] else (M s).getD z) w := by
  obtain ⟨D, ⟨es, clock, hb, F, hn, hD⟩, h2, h3⟩ := h.view
  have hkey : keyOf P k (.int .i64 s) = some (.int .i64 s) := Maps.keyOf_int_mk hk hs
  rcases Maps.fit_look c (Maps.int_keyed hk) ht hz hb F hkey with ⟨hrun, _, hat⟩ | ⟨e0, y, _, _, hrun, hRv, hat, _⟩
  · have h4 : M s = none := by
      have h5 := h3 s .nil
      have h6 := h3 s (.held z)
      rw [hD, hat] at h5 h6
      cases hM : M s with
      | none => rfl
      | some v => rw [hM] at h5; cases h5
    rw [hrun, h4]
    rfl
  · have h4 : M s = some e0.val := by
      have h5 := h3 s .nil
      rw [hD, hat] at h5
      unfold rawE at hRv
      cases hRv
      cases hM : M s with
      | none => rw [hM] at h5; cases h5
      | some v =>
        rw [hM] at h5
        simp only [DataW.held.injEq] at h5
        rw [h5]
    rw [hrun, h4]
    rfl
def msetI (M : Int → Option Value) (s : Int) (v : Value) : Int → Option Value := fun t => if t = s then some v else M t
theorem MapI.store {w : World} {P : Program} {k t e : TypeId} {b n : Nat} {M : Int → Option Value} (h : MapI w P k b n M) (hk : P.underlying k = some (.int .i64)) (ht : P.underlying t = some (.map k e)) (hn : n < maxLen) (s : Int) (hs : (Lit.int .i64 s).wf = true) (v : Value) :
    ∃ w', (Instr.mapUpdate t (.map (some b)) (.int .i64 s) v).run P w = .ok () w' ∧ MapI w' P k b (n + 1) (msetI M s v) ∧ w.grownBy w' (some b) := by
  obtain ⟨D, h1, h2, h3⟩ := h.view
  have hkey : keyOf P k (.int .i64 s) = some (.int .i64 s) := Maps.keyOf_int_mk hk hs
  obtain ⟨w', hrun, h4, hg⟩ := h1.update (Maps.int_keyed hk) ht hn hkey (show rawE v = some (.held v, []) from rfl)
  refine ⟨w', hrun, ⟨⟨_, h4, h2.put _ _, fun u z => ?_⟩⟩, hg⟩
  unfold msetI
  by_cases e : u = s
  · rw [if_pos e, e]
    exact Maps.atKey_put_same h2 ((Maps.int_keyed hk).key hkey) _ _
  · rw [if_neg e]
    rw [Maps.atKey_put_other (fun e' => e (by cases e'; rfl))]
    exact h3 u z
theorem MapI.same {w : World} {P : Program} {k : TypeId} {b n : Nat} {M M' : Int → Option Value} (h : MapI w P k b n M) (e : ∀ s, M s = M' s) : MapI w P k b n M' := by
  obtain rfl : M = M' := funext e
  exact h
theorem MapF.same {w : World} {P : Program} {k : TypeId} {b n : Nat} {M M' : ByteArray → Option Value} (h : MapF w P k b n M) (e : ∀ s, M s = M' s) : MapF w P k b n M' := by
  obtain rfl : M = M' := funext e
  exact h
theorem has_of {D : DataW Value} {s : Lit} {o : Option Value} (h : ∀ z, D.atKey s z = (match o with | some v => .held v | none => z)) (hi : Maps.IsMap D) : Maps.has D s = o.isSome := by
  obtain ⟨es, rfl⟩ := hi
  cases o with
  | some v => exact Maps.has_true_of_atKey h
  | none =>
    cases hh : Maps.has (.map es : DataW Value) s with
    | false => rfl
    | true =>
      rw [Maps.has_eq, List.any_eq_true] at hh
      have h1 := h .nil
      have h2 := h (.held (.bool true))
      unfold DataW.atKey at h1 h2
      cases hf : es.find? (fun p => p.1.sameKey s) with
      | none =>
        obtain ⟨p, hp, hs⟩ := hh
        have := List.find?_eq_none.1 hf p hp
        exact absurd hs this
      | some p =>
        simp only [hf] at h1 h2
        rw [h1] at h2
        cases h2
/-- The keys of a map by texts, sorted. -/
theorem MapF.sorted {W : World} {P : Program} {k b n : Nat} {M : ByteArray → Option Value} {ks : List ByteArray} (h : MapF W P k b n M) (hk : P.underlying k = some .string) (hM : ∀ s, (M s).isSome = true ↔ s ∈ ks) (hlt : (ks.map (fun s => s.data.toList)).Pairwise (fun a b => a < b)) :
    ∃ D : DataW Value, W.ownsMap P k rawE b n D ∧ Maps.size D = ks.length ∧ ∀ ss : List (List UInt8), ss.Perm (strKeys D) → ss.mergeSort (fun x y => decide (x ≤ y)) = ks.map (fun s => s.data.toList) := by
  obtain ⟨D, h1, h2, h3⟩ := h.view
  have main : ∀ ss : List (List UInt8), ss.Perm (strKeys D) → ss.mergeSort (fun x y => decide (x ≤ y)) = ks.map (fun s => s.data.toList) := fun ss hp => by
    have hC : Collected D (fun _ => false) (ks.map (fun s => s.data.toList)) := by
      refine ⟨hlt.imp (fun {a b} hab e => ?_), fun x => ?_⟩
      · subst e
        exact List.lt_irrefl a hab
      · have hh := has_of (h3 ⟨x.toArray⟩) h2
        rw [show keyL (⟨x.toArray⟩ : ByteArray) = .string x from rfl] at hh
        rw [hh, hM]
        simp only [and_true, List.mem_map]
        constructor
        · rintro ⟨s, hs, rfl⟩
          exact hs
        · intro hx
          exact ⟨_, hx, rfl⟩
    have hq := hC.perm h1 (Maps.string_keyed hk) hk (fun _ => rfl)
    have e := mergeSort_of_perm (hp.trans hq.symm)
    show ss.mergeSort leB = _
    rw [e]
    exact List.mergeSort_of_pairwise (hlt.imp (fun hab => decide_eq_true (List.le_of_lt hab)))
  refine ⟨D, h1, ?_, main⟩
  have h5 := congrArg List.length (main _ (List.Perm.refl _))
  rw [List.length_mergeSort, List.length_map] at h5
  rw [← h5]
  obtain ⟨es, clock, _, _, _, hD⟩ := h1
  rw [hD]
  simp [strKeys, Maps.size]
/-- The one key of a map by numbers. -/
theorem MapI.sorted {W : World} {P : Program} {k b n : Nat} {M : Int → Option Value} {ks : List Int} (h : MapI W P k b n M) (hk : P.underlying k = some (.int .i64)) (hM : ∀ s, (M s).isSome = true ↔ s ∈ ks) (hlt : ks.Pairwise (fun a b => a < b)) :
    ∃ D : DataW Value, W.ownsMap P k rawE b n D ∧ Maps.size D = ks.length ∧ ∀ ss : List Int, ss.Perm (intKeys D) → ss.mergeSort (fun x y => decide (x ≤ y)) = ks := by
  obtain ⟨D, h1, h2, h3⟩ := h.view
  have main : ∀ ss : List Int, ss.Perm (intKeys D) → ss.mergeSort (fun x y => decide (x ≤ y)) = ks := fun ss hp => by
    have hC : CollectedI D (fun _ => false) ks := by
      refine ⟨hlt.imp (fun {a b} hab e => by omega), fun x => ?_⟩
      have hh := has_of (h3 x) h2
      rw [hh, hM]
      simp
    have hq := hC.perm h1 (Maps.int_keyed hk) hk (fun _ => rfl)
    have e := mergeSort_of_perm_i (hp.trans hq.symm)
    show ss.mergeSort leI = _
    rw [e]
    exact List.mergeSort_of_pairwise (hlt.imp (fun hab => decide_eq_true (Int.le_of_lt hab)))
  refine ⟨D, h1, ?_, main⟩
  have h5 := congrArg List.length (main _ (List.Perm.refl _))
  rw [List.length_mergeSort] at h5
  rw [← h5]
  obtain ⟨es, clock, _, _, _, hD⟩ := h1
  rw [hD]
  simp [intKeys, Maps.size]
end Go.Proofs.Ytomcpdbaenohdaa
