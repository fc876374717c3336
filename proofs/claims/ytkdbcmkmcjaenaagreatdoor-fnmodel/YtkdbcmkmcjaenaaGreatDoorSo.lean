/- The keys of a past, sorted by slices.SortedFunc. -/
import Derived.Test.YtkdbcmkmcjaenaaGreatDoorRows
import Derived.WalkKit
import Derived.WalkSpells
import Derived.WalkLawsBesides
import Derived.Deep.QuietTactic
import Derived.BigQuiet
import Derived.Deep.RegionHeld3
import Derived.Shelf.SlSortCmp.NoneTotal
import Derived.Test.YtkdbcmkmcjaenaaGreatDoorAc
import Derived.Test.YtkdbcmkmcjaenaaGreatDoorSf
import Derived.Test.YtkdbcmkmcjaenaaGreatDoorCd
import Derived.Test.YtkdbcmkmcjaenaaGreatDoorOn
namespace Go.Proofs.YtkdbcmkmcjaenaaGreatDoor
open Go.RowKit
set_option linter.unusedSimpArgs false
set_option linter.unusedVariables false

open Go.Maps Go.Sort Go.Shelf
instance evIn : Inhabited Ev := ⟨⟨0, 0, ⟨#[]⟩, 0, false, 0, 0, 0⟩⟩
def encD (e : Ev) : List Value := [.int .i64 e.p, .int .i64 e.n]
def cfD (x y : Ev) : Int := dcmp x.p x.n y.p y.n
theorem fKD : ∀ es : List Ev, fK es = fD es
  | [] => rfl
  | e :: l => by simp [fK, fD, fKD l]
theorem fK_get : ∀ (es : List Ev) (t : Nat), t < es.length * 2 → (fK es)[t]? = some ((encD es[t / 2]!)[t % 2]!)
  | [], t, h => by simp at h
  | e :: l, 0, _ => by simp [fK, encD]
  | e :: l, 1, _ => by simp [fK, encD]
  | e :: l, t + 2, h => by
    have := fK_get l t (by simp at h; omega)
    rw [show (t + 2) / 2 = t / 2 + 1 by omega, show (t + 2) % 2 = t % 2 by omega]
    simpa [fK] using this
theorem flat_get (es : List Ev) (t : Nat) (h : t < es.length * 2) : (fK es)[t]? = some ((flatK encD 2 es.toArray)[t]!) := by
  rw [get_flatK encD 2 es.toArray t (by simpa using h), fK_get es t h]
  simp
theorem swoD : SWO (ltOf cfD) := by
  have key : ∀ x y : Ev, ltOf cfD x y = true ↔ dlt x.p x.n y.p y.n := fun x y => by
    unfold ltOf cfD
    rw [decide_eq_true_eq]
    exact dcmp_lt _ _ _ _
  have kno : ∀ x y : Ev, ltOf cfD x y = false ↔ ¬ dlt x.p x.n y.p y.n := fun x y => by rw [← key, Bool.not_eq_true]
  refine ⟨fun x => ?_, fun x y z h1 h2 => ?_, fun x y z h1 h2 => ?_⟩
  · rw [kno]; unfold dlt; omega
  · rw [key] at *; unfold dlt at *; omega
  · rw [kno] at *; unfold dlt at *; omega
theorem ltD (x y : Ev) : ltOf cfD x y = false ↔ ¬ dlt x.p x.n y.p y.n := by
  unfold ltOf cfD
  rw [decide_eq_false_iff_not, dcmp_lt]
theorem gb_sort {w : World} {g n : Nat} {os : Array Obj} (F : Array Value) : w.grownBy (grow (putRow id (Sort.ahead w n) g 0 F) os) (some g) := by
  refine ⟨rfl, rfl, rfl, by simp, fun k hk hne => ?_⟩
  rw [heap_grow_old _ _ (by simpa using hk)]
  have : g ≠ k := fun e => hne (by rw [e])
  simp [putRow, mapBlock, Sort.ahead, Array.getElem?_modify, this]
theorem layD (blk off size : Nat) (w : World) : CmpLays Tryz.prog 34 #[] encD 2 cfD blk off size w := fun m os dk _ x y => by
  have h := cmpDots x.p x.n y.p y.n (sortWorldK encD 2 w blk off m dk os)
  exact h.mono (fun e w' ⟨he, k, os', hw⟩ => ⟨he, k, os', hw⟩)
theorem ez_of {Q : Ev → Prop} {D : DataW Value} (hP : Past D Q) {es : List Ev} (hnd : es.Nodup) (hq : ∀ x, x ∈ es → Q x) (hs : ∀ i j (hi : i < es.length) (hj : j < es.length), i < j → ¬ dlt es[j].p es[j].n es[i].p es[i].n) : es.Pairwise ez := by
  rw [List.pairwise_iff_getElem]
  intro i j hi hj hij
  have h1 := hs i j hi hj hij
  have h2 : es[i] ≠ es[j] := List.pairwise_iff_getElem.1 hnd i j hi hj hij
  have h3 : ¬ (es[i].p = es[j].p ∧ es[i].n = es[j].n) := fun ⟨a, b⟩ => h2 (hP.inj (hq _ (List.getElem_mem _)) (hq _ (List.getElem_mem _)) a b)
  unfold ez
  unfold dlt at *
  omega
/-- slices.SortFunc at keys that an own row holds. -/
theorem sort74 {Q : Ev → Prop} {D : DataW Value} (hP : Past D Q) (w0 : World) (g cap : Nat) (cur : Array Value) (es : List Ev) (w : World) (hnd : es.Nodup) (hq : ∀ x, x ∈ es ↔ Q x) (hl : es.length ≤ 100) (hbase : w0.heap.size ≤ g) (hgb : w.heap[g]? = some (.cells cur 40 (0, 0))) (h4 : cur.toList.take (es.length * 2) = fK es) :
    Calls Tryz.prog 92 #[.slice (some ⟨g, 0, none⟩) es.length cap, .func (.func 34) #[] #[]] w fun e w' => e = .returned (.tuple #[]) ∧ ∃ es' : List Ev, es'.length = es.length ∧ GRow w0.heap.size w' (some ⟨g, 0, none⟩) (fD es') ∧ es'.Pairwise ez ∧ (∀ x, x ∈ es' ↔ Q x) ∧ w.grownBy w' (some g) := by
  have hgl : g < w.heap.size := (Array.getElem?_eq_some_iff.1 hgb).1
  have hH : HoldsK encD 2 w g 0 es.toArray := fun j hj => by
    have hj' : j < es.length * 2 := by simpa using hj
    refine ⟨?_, by simp [World.frozen?, hgb]⟩
    have h1 : (cur.toList.take (es.length * 2))[j]? = (fK es)[j]? := by rw [h4]
    rw [List.getElem?_take_of_lt hj', flat_get es j hj'] at h1
    simp only [World.cell?, hgb, Nat.zero_add]
    simp only [Option.isSome_none, Bool.false_eq_true, if_false]
    rw [← Array.getElem?_toList, h1]
    rfl
  have h := AnyQ.slices_SortFunc Tryz.sfDot 2 Tryz.isAgg40 Tryz.sizeOf40 encD (fun _ => rfl) (fun x v hv => by simp [encD] at hv; rcases hv with rfl | rfl <;> rfl) cfD swoD 34 #[] g 0 cap es.toArray w (enters_of Tryz.func34 (by kernel_rfl) rfl) (layD g 0 es.toArray.size w) hH hgl (by simp; omega)
  refine Calls.mono h ?_
  rintro e w' ⟨rfl, d', n, os, hp, hs, rfl⟩
  have hsz : d'.size = es.length := by have := hp.1; simpa using this
  have hperm : d'.toList.Perm es := by
    have := hp.2.2
    simp only [List.size_toArray] at this
    rw [show d'.extract 0 es.length = d' by rw [← hsz]; exact Array.extract_size, show (es.toArray).extract 0 es.length = es.toArray by simp] at this
    simpa using this
  have hmem : ∀ x, x ∈ d'.toList ↔ Q x := fun x => by rw [hperm.mem_iff, hq]
  have hH' := holdsK_sortWorldK_c encD 2 w g 0 es.toArray d' n os hH hgl (by simpa using hsz)
  refine ⟨rfl, d'.toList, by simpa using hsz, ?_, ez_of hP (hperm.nodup_iff.2 hnd) (fun x hx => (hmem x).1 hx) (fun i j hi hj hij => ?_), hmem, gb_sort _⟩
  · rcases Nat.eq_zero_or_pos es.length with h0 | h0
    · left
      have : d'.toList = [] := List.eq_nil_of_length_eq_zero (by simpa [hsz] using h0)
      rw [this]
      rfl
    · refine .inr ⟨g, 0, rfl, hbase, fun j hj => ?_⟩
      have hj' : j < d'.toList.length * 2 := by rw [fD_len] at hj; exact hj
      have h1 := (hH' j (by rw [size_flatK]; simpa using hj')).1
      rw [h1]
      have h2 := flat_get d'.toList j hj'
      rw [fKD, List.getElem?_eq_getElem hj] at h2
      simp only [Array.toArray_toList] at h2
      rw [h2]
      rfl
  · have h1 := hs i j (Nat.zero_le _) hij (by simpa [hsz] using hj)
    rw [ltD] at h1
    have hi' : i < d'.size := by simpa using hi
    have hj' : j < d'.size := by simpa using hj
    rw [getElem!_pos d' i hi', getElem!_pos d' j hj'] at h1
    simpa using h1
set_option maxHeartbeats 1000000 in
theorem sortedK : SortedK := fun b n Bm Q w hn hM hm => by
  obtain ⟨D, hD, hP⟩ := id hM
  have HK : Hid (Calls Tryz.prog 91 #[.func (.func 93) #[] #[.pointer (some ⟨Bm, 0, none⟩)]] w _) := keys_row b n Bm Q w hn hM hm
  clear hM hm hD
  go_enter Tryz.func57, Tryz.ntmps57
  go_wp2_with (go_at_call 91; refine HK.out.mono ?_; rintro e W ⟨v, es, rfl, ⟨⟨hnd, hq⟩, hlen⟩, hrow, hb⟩)
  rcases hrow.2 with ⟨rfl, hz⟩ | ⟨gb, cap, cur, rfl, hbase, hgb, r1, r2, r3, r4⟩
  · obtain rfl : es = [] := List.eq_nil_of_length_eq_zero hz
    go_wp2_with (go_at_call 92; refine Calls.mono (AnyF.slices_SortFunc_none Tryz.sfDot none 0 _ _) ?_; rintro e w' ⟨rfl, rfl⟩)
    go_ret
    exact ⟨none, 0, [], rfl, .inl rfl, List.Pairwise.nil, hq, hb, by simp⟩
  · go_wp2_with (go_at_call 92; refine (sort74 hP w gb cap cur es W hnd hq (by omega) hbase hgb r4).mono ?_; rintro e w' ⟨rfl, es', hl', hG, hpw, hmem, hg⟩)
    go_ret
    exact ⟨some ⟨gb, 0, none⟩, cap, es', by rw [hl']; rfl, hG, hpw, hmem, hb.grown hg hb.size (fun j hj => by cases hj; exact hbase), by omega⟩
end Go.Proofs.YtkdbcmkmcjaenaaGreatDoor
