/- Keys of events, each once and rising, as the specification makes them. -/
import Derived.Test.YtkdbcmkmcjaenaaGreatDoorRows
import Derived.WalkKit
import Derived.WalkSpells
import Derived.WalkLawsBesides
import Derived.Deep.QuietTactic
import Derived.BigQuiet
import Derived.Deep.RegionHeld3
import Derived.Test.YtkdbcmkmcjaenaaGreatDoorMj
import Derived.Test.YtkdbcmkmcjaenaaGreatDoorEs
import Derived.LoopN
import Derived.OwnWalk
namespace Go.Proofs.YtkdbcmkmcjaenaaGreatDoor
open Go.RowKit
set_option linter.unusedSimpArgs false
set_option linter.unusedVariables false

section
variable {P : Program} {md : Region.Mode} {ops : Array Oper} {Q : Exit → Act → World → Prop} {S : World → Prop} {oi oj : Oper} {fuel : Nat} {listed : Array Bool} {a : Act} {w : World}
theorem wRd2 (i j : Nat) {H H2 : (Act → World → Prop) → Prop}
    (h : ∀ K' : Act → World → Prop, Shut (∀ a w, S w → (S w → wpAnyH P md ops Q S fuel (listed.setIfInBounds i true) a w) → K' a w) → H K')
    (h2 : ∀ K' : Act → World → Prop, Shut (∀ a w, S w → (S w → wpAnyH P md ops Q S fuel (listed.setIfInBounds j true) a w) → K' a w) → H2 K')
    (ho : ops[i]? = some oi := by rfl) (ho2 : ops[j]? = some oj := by rfl) (hr : Region.ready md ops listed = [i, j] := by kernel_rfl)
    (e : ∀ K', (if Region.wanted oi (yielded ops a.tmps) = true then Oper.wp P oi a w K' Q else K' (a.put oi.dst undef) w) = H K' := by
      intro K
      (try simp only [Act.put, List.getElem_toArray, List.getElem_cons_zero, List.getElem_cons_succ, List.setIfInBounds_toArray, List.set_cons_zero, List.set_cons_succ])
      rfl)
    (e2 : ∀ K', (if Region.wanted oj (yielded ops a.tmps) = true then Oper.wp P oj a w K' Q else K' (a.put oj.dst undef) w) = H2 K' := by
      intro K
      (try simp only [Act.put, List.getElem_toArray, List.getElem_cons_zero, List.getElem_cons_succ, List.setIfInBounds_toArray, List.set_cons_zero, List.set_cons_succ])
      rfl) : wpAnyH P md ops Q S (fuel + 1) listed a w := wpAnyH_ready hr (by simp) (.cons ho (fun K hK => e K ▸ h K hK) (.cons ho2 (fun K hK => e2 K ▸ h2 K hK) .nil))
end
theorem bless (a b : ByteArray) : Op.bytesLess a.toList b.toList = decide (kb a < kb b) := by
 have h : ∀ x y : List UInt8, Op.bytesLess x y = decide (x < y) := by
  intro x
  induction x with
  | nil => intro y; cases y <;> simp [Op.bytesLess]
  | cons u x ih =>
   intro y
   cases y with
   | nil => simp [Op.bytesLess]
   | cons v y =>
    rw [Op.bytesLess, ih y]
    simp only [List.cons_lt_cons_iff]
    by_cases h1 : u < v <;> by_cases h2 : u = v <;> by_cases h3 : x < y <;> simp [h1, h2, h3]
 rw [h, ByteArray.toList_eq, ByteArray.toList_eq]
 rfl
theorem bless_y {a b : ByteArray} (h : kb a < kb b) : Op.bytesLess a.toList b.toList = true := by rw [bless]; exact decide_eq_true h
theorem bless_n {a b : ByteArray} (h : ¬ kb a < kb b) : Op.bytesLess a.toList b.toList = false := by rw [bless]; exact decide_eq_false h

open Go.Sort
theorem txt_take (rs : List (List UInt8)) (k : Nat) : txt (rs.take k) = (txt rs).take k := by simp [txt]
theorem txt_drop (rs : List (List UInt8)) (k : Nat) : txt (rs.drop k) = (txt rs).drop k := by simp [txt]
theorem txt_at {lo : Nat} {W : World} {g : Nat} {rs : List (List UInt8)} (h : GRow lo W (some ⟨g, 0, none⟩) (txt rs)) {k : Nat} (hk : k < rs.length) : W.cell? ⟨g, k, none⟩ = some (.string ⟨rs[k].toArray⟩) := by
  rcases h with h | ⟨b, off, h1, h2, h3⟩
  · have := congrArg List.length h
    simp [txt] at this
    rw [this] at hk
    simp at hk
  · cases h1
    have := h3 k (by simpa [txt] using hk)
    simpa [txt, encStr] using this
theorem grow_pre {lo : Nat} {W : World} {p : Option Addr} {rs : List (List UInt8)} {k : Nat} (h : GRow lo W p (txt rs)) : GRow lo W p (txt (rs.take k)) := by
  rcases h with h | ⟨b, off, h1, h2, h3⟩
  · exact .inl (by rw [txt_take, h]; simp)
  · refine .inr ⟨b, off, h1, h2, fun j hj => ?_⟩
    have hj2 : j < (txt rs).length := by simp [txt] at hj ⊢; omega
    rw [h3 j hj2]
    simp [txt]
theorem grow_dropT {lo : Nat} {W : World} {g c k : Nat} {rs : List (List UInt8)} (h : GRow lo W (some ⟨g, 0, none⟩) (txt rs)) (hk : k ≤ rs.length) (hc : rs.length ≤ c) : GRow lo W (if c = k then some ⟨g, 0, none⟩ else some ⟨g, k, none⟩) (txt (rs.drop k)) := by
  by_cases e : c = k
  · rw [if_pos e]
    refine .inl ?_
    rw [List.drop_eq_nil_of_le (by omega)]
    rfl
  · rw [if_neg e]
    rcases h with h | ⟨b, off, h1, h2, h3⟩
    · exact .inl (by rw [txt_drop, h]; simp)
    · cases h1
      refine .inr ⟨g, k, rfl, h2, fun j hj => ?_⟩
      have hj2 : k + j < (txt rs).length := by simp [txt] at hj ⊢; omega
      have := h3 (k + j) hj2
      rw [Nat.zero_add] at this
      rw [this]
      simp [txt]
/-- A text that is put at its place among rising ones. -/
theorem ins_rise {rs : List (List UInt8)} {key : List UInt8} {k : Nat} (hr : rs.Pairwise (fun x y => x < y)) (hk : k ≤ rs.length) (h1 : ∀ j (h : j < rs.length), j < k → rs[j] < key) (h2 : ∀ (h : k < rs.length), key < rs[k]) :
    (rs.take k ++ key :: rs.drop k).Pairwise (fun x y => x < y) ∧ ∀ x, x ∈ rs.take k ++ key :: rs.drop k ↔ (x ∈ rs ∨ x = key) := by
  have lt1 : ∀ x ∈ rs.take k, x < key := fun x hx => by
    obtain ⟨j, hj, rfl⟩ := List.getElem_of_mem hx
    have hj2 : j < k ∧ j < rs.length := by simp at hj; omega
    simpa using h1 j hj2.2 hj2.1
  have lt2 : ∀ x ∈ rs.drop k, key < x := fun x hx => by
    obtain ⟨j, hj, rfl⟩ := List.getElem_of_mem hx
    have hj2 : k + j < rs.length := by simp at hj; omega
    have hkl : k < rs.length := by omega
    rw [List.getElem_drop]
    rcases Nat.eq_zero_or_pos j with hz | hz
    · subst hz; exact h2 hkl
    · exact List.lt_trans (h2 hkl) (List.pairwise_iff_getElem.1 hr k (k + j) hkl hj2 (by omega))
  refine ⟨List.pairwise_append.2 ⟨hr.sublist (List.take_sublist _ _), List.pairwise_cons.2 ⟨lt2, hr.sublist (List.drop_sublist _ _)⟩, fun x hx y hy => ?_⟩, fun x => ?_⟩
  · rcases List.mem_cons.1 hy with rfl | hy
    · exact lt1 x hx
    · exact List.lt_trans (lt1 x hx) (lt2 y hy)
  · have e : rs = rs.take k ++ rs.drop k := (List.take_append_drop k rs).symm
    constructor
    · intro hx
      rcases List.mem_append.1 hx with hx | hx
      · exact .inl (List.mem_of_mem_take hx)
      · rcases List.mem_cons.1 hx with rfl | hx
        · exact .inr rfl
        · exact .inl (List.mem_of_mem_drop hx)
    · rintro (hx | rfl)
      · rw [e] at hx
        rcases List.mem_append.1 hx with hx | hx
        · exact List.mem_append.2 (.inl hx)
        · exact List.mem_append.2 (.inr (List.mem_cons.2 (.inr hx)))
      · simp
/-- What l13Keys has at hand: rising texts in a row of its own, with the keys of the first events. -/
def KInv (l : List Ev) (i : Nat) (rs : List (List UInt8)) : Prop := rs.Pairwise (fun x y => x < y) ∧ (∀ x, x ∈ rs ↔ x ∈ keysE (l.take i)) ∧ rs.length ≤ i
theorem kinv_same {l : List Ev} {i : Nat} {rs : List (List UInt8)} (h : KInv l i rs) (hi : i < l.length) (hm : kb l[i].key ∈ rs) : KInv l (i + 1) rs := by
  refine ⟨h.1, fun x => ?_, by have := h.2.2; omega⟩
  rw [h.2.1, List.take_succ_eq_append_getElem hi]
  simp only [keysE, List.map_append, List.map_cons, List.map_nil, List.mem_append, List.mem_singleton]
  constructor
  · exact .inl
  · rintro (hx | rfl)
    · exact hx
    · exact (h.2.1 _).1 hm
theorem kinv_new {l : List Ev} {i k : Nat} {rs : List (List UInt8)} (h : KInv l i rs) (hi : i < l.length) (hk : k ≤ rs.length) (h1 : ∀ j (h : j < rs.length), j < k → rs[j] < kb l[i].key) (h2 : ∀ (h : k < rs.length), kb l[i].key < rs[k]) : KInv l (i + 1) (rs.take k ++ kb l[i].key :: rs.drop k) := by
  obtain ⟨g1, g2⟩ := ins_rise h.1 hk h1 h2
  refine ⟨g1, fun x => ?_, by simp; have := h.2.2; omega⟩
  rw [g2, h.2.1, List.take_succ_eq_append_getElem hi]
  simp only [keysE, List.map_append, List.map_cons, List.map_nil, List.mem_append, List.mem_singleton]

theorem own_grow0 {W : World} {g n c lo : Nat} {xs : List Value} (h : OwnG W 9 1 (.slice (some ⟨g, 0, none⟩) n c) n xs lo) : GRow lo W (some ⟨g, 0, none⟩) xs := by
  obtain ⟨p, c', e, _, hg⟩ := h.grow
  cases e
  exact hg
theorem box_row {W : World} {g : Nat} {v : Value} (h : Box W g [v]) : GRow 0 W (some ⟨g, 0, none⟩) [v] := .inr ⟨g, 0, rfl, Nat.zero_le _, fun j hj => by
  have hj' : j = 0 := by simpa using hj
  subst hj'
  simpa using (h.is 0 (by simp)).1⟩
theorem own_ins {W : World} {v : Option Addr} {rs : List (List UInt8)} {key : ByteArray} {k n c LB lo vc : Nat} (h : OwnG W 9 1 (.slice v (k + 1 + (n - k)) c) (k + 1 + (n - k)) ((([] ++ txt (rs.take k)) ++ [.string key]) ++ txt (rs.drop k)) LB) (hlo : lo ≤ LB) (hn : n = rs.length ∧ k ≤ n ∧ n ≤ vc ∧ n ≤ 1048576) :
    ∃ g2, v = some ⟨g2, 0, none⟩ ∧ OwnG W 9 1 (.slice (some ⟨g2, 0, none⟩) (rs.take k ++ kb key :: rs.drop k).length c) (rs.take k ++ kb key :: rs.drop k).length (txt (rs.take k ++ kb key :: rs.drop k)) lo ∧ (rs.take k ++ kb key :: rs.drop k).length = k + 1 + (n - k) := by
  have hl : (rs.take k ++ kb key :: rs.drop k).length = k + 1 + (n - k) := by simp; omega
  have ht : txt (rs.take k ++ kb key :: rs.drop k) = (([] ++ txt (rs.take k)) ++ [.string key]) ++ txt (rs.drop k) := by simp [txt, enc_kb]
  rw [hl, ht]
  have h2 := h.weak hlo
  rcases h.own.2 with ⟨_, h'⟩ | ⟨g, cap, cur, h', _⟩
  · omega
  · cases h'
    exact ⟨g, rfl, h2, rfl⟩

set_option maxRecDepth 20000 in
set_option maxHeartbeats 16000000 in
theorem keys_any (lo q : Nat) (po : Option Addr) (l : List Ev) (w : World) (hl : l.length ≤ 4096) (hr0 : GRow lo w po (flatE l)) :
    Calls Tryz.prog 22 #[.slice po l.length q] w fun e w' => ∃ g c, e = .returned (.slice (some ⟨g, 0, none⟩) (risen (keysE l)).length c) ∧ TR w.heap.size w' (some ⟨g, 0, none⟩) (risen (keysE l)) ∧ Below w.heap.size w w' := by
  have hr : Hid _ := hr0.e
  clear hr0
  go_enter Tryz.func22, Tryz.ntmps22
  go_upto_region 2 with fail
  refine wp_gen (fun W => OwnG W 9 1 (.slice (some ⟨w.heap.size, 0, none⟩) 0 0) 0 [] w.heap.size ∧ Below w.heap.size w W) ⟨OwnG.lit (Nat.le_refl _), bel_alloc _ _⟩ (fun W0 hI => ?_)
  have Y : Hid _ := hI
  clear hI
  go_wp2
  go_loopw [3, 4, 5] (fun s3 s4 _ wr => ∃ (i n go vc : Nat) (rs : List (List UInt8)), i ≤ l.length ∧ s3 = .slice (some ⟨go, 0, none⟩) n vc ∧ s4 = .int .i64 i ∧ n = rs.length ∧ OwnG wr 9 1 (.slice (some ⟨go, 0, none⟩) n vc) n (txt rs) w.heap.size ∧ KInv l i rs ∧ Below w.heap.size w wr) (fun _ s4 _ _ => l.length - (intOf s4).toNat)
  case atStart => exact ⟨0, 0, w.heap.size, 0, [], by omega, rfl, rfl, rfl, Y.out.1, ⟨.nil, fun x => by simp [keysE], Nat.le_refl _⟩, Y.out.2⟩
  case round =>
    clear Y
    obtain ⟨i, n, go, vc, rs, hi, rfl, rfl, hn, hO0, hK0, hB0⟩ := hrel
    have Y : Hid (OwnG wr 9 1 (.slice (some ⟨go, 0, none⟩) n vc) n (txt rs) w.heap.size ∧ Below w.heap.size w wr) := ⟨hO0, hB0⟩
    have HKI : Hid (KInv l i rs) := hK0
    have HNR : Hid (n = rs.length) := hn
    have hnv : n ≤ vc := by
      obtain ⟨_, _, e, h1, _⟩ := hO0.grow
      cases e
      exact h1
    have hni : n ≤ i := by rw [hn]; exact hK0.2.2
    clear hO0 hB0 hK0 hn
    by_cases hil : i < l.length
    · have hil' : (i : Int) < (l.length : Int) := by omega
      have i0 : (0 : Int) ≤ (i : Int) := by omega
      rcases hr.out with h' | ⟨b, off, rfl, _, h2⟩
      · rw [h'] at hil; simp at hil
      have hky : ∀ W, Below w.heap.size w W → W.cell? ⟨b, off + i * 8 + 2, none⟩ = some (.string l[i].key) := fun W hW => ((h2 i hil).next hW (cell_lt (x := ⟨b, off + i * 8, none⟩) (h2 i hil).1)).2.2.1
      have hsame : kb l[i].key ∈ rs → KInv l (i + 1) rs := kinv_same HKI.out hil
      have hnew : ∀ k, k ≤ rs.length → (∀ j (h : j < rs.length), j < k → rs[j] < kb l[i].key) → (∀ (h : k < rs.length), kb l[i].key < rs[k]) → KInv l (i + 1) (rs.take k ++ kb l[i].key :: rs.drop k) := fun k a b c => kinv_new HKI.out hil a b c
      clear h2 hr HKI
      generalize l[i].key = key at *
      have HKY : Hid (∀ W, Below w.heap.size w W → W.cell? ⟨b, off + i * 8 + 2, none⟩ = some (.string key)) := hky
      have HSM : Hid (kb key ∈ rs → KInv l (i + 1) rs) := hsame
      have HNW : Hid (∀ k, k ≤ rs.length → (∀ j (h : j < rs.length), j < k → rs[j] < kb key) → (∀ (h : k < rs.length), kb key < rs[k]) → KInv l (i + 1) (rs.take k ++ kb key :: rs.drop k)) := hnew
      clear hky hsame hnew
      go_wp2
      go_loopw [5] (fun s5 wr => ∃ k : Nat, k ≤ n ∧ s5 = .int .i64 k ∧ (∀ j (h : j < rs.length), j < k → rs[j] < kb key) ∧ OwnG wr 9 1 (.slice (some ⟨go, 0, none⟩) n vc) n (txt rs) w.heap.size ∧ Below w.heap.size w wr) (fun s5 _ => n - (intOf s5).toNat)
      case atStart => exact ⟨0, by omega, rfl, fun j h h' => by omega, Y.out.1, Y.out.2⟩
      case round =>
        clear Y
        obtain ⟨k, hk, rfl, hJ0, hO0, hB0⟩ := hrel
        have Y : Hid (OwnG wr 9 1 (.slice (some ⟨go, 0, none⟩) n vc) n (txt rs) w.heap.size ∧ Below w.heap.size w wr) := ⟨hO0, hB0⟩
        have HJ : Hid (∀ j (h : j < rs.length), j < k → rs[j] < kb key) := hJ0
        have HNK : Hid (n = rs.length ∧ k ≤ n ∧ n ≤ vc ∧ n ≤ 1048576) := ⟨HNR.out, hk, hnv, by omega⟩
        clear hO0 hB0 hJ0
        by_cases hkn : k < n
        · have hkn' : (k : Int) < (n : Int) := by omega
          have k0 : (0 : Int) ≤ (k : Int) := by omega
          have hkr : k < rs.length := by rw [← HNR.out]; exact hkn
          obtain ⟨u, hu⟩ : ∃ u : ByteArray, u = ⟨rs[k].toArray⟩ := ⟨_, rfl⟩
          have HU : Hid (∀ W, OwnG W 9 1 (.slice (some ⟨go, 0, none⟩) n vc) n (txt rs) w.heap.size → W.cell? ⟨go, k, none⟩ = some (.string u)) := fun W h => by rw [hu]; exact txt_at (own_grow0 h) hkr
          have HUK : Hid (∀ (h : k < rs.length), kb u = rs[k]) := fun h => by rw [hu]; simp [kb]
          have HKR : Hid (k < rs.length) := hkr
          clear hu hkr
          go_upto_region 6 with fail
          by_cases hlt : kb u < kb key
          · have HF : Hid (∀ j (h : j < rs.length), j < k + 1 → rs[j] < kb key) := fun j h hj => by
              by_cases e : j = k
              · subst e; rw [← HUK.out h]; exact hlt
              · exact HJ.out j h (by omega)
            have e1 := bless_y hlt
            clear hlt HJ HKR HUK
            refine wp_region_held_drew (S := (fun w' => w'.cell? ⟨b, off + i * 8 + 2, none⟩ = some (.string key) ∧ w'.cell? ⟨go, k, none⟩ = some (.string u))) (by kernel_rfl) ?_ (fun hHeld => ?_)
            · (try dsimp only)
              exact ⟨HKY.out _ (Y.out.2.trans ((bel_drew _).mono Y.out.2.size)), HU.out _ (Y.out.1.next (bel_drew _))⟩
            replace Y : Hid (OwnG wr.drew 9 1 (.slice (some ⟨go, 0, none⟩) n vc) n (txt rs) w.heap.size ∧ Below w.heap.size w wr.drew) := ⟨Y.out.1.next (bel_drew _), Y.out.2.trans ((bel_drew _).mono Y.out.2.size)⟩
            generalize wr.drew = V1 at *
            refine wTk 0 ?_
            refine wTk 1 ?_
            refine wTk 2 ?_
            refine wTk 3 (v := .bool true) ?_
            refine wTk 4 ?_
            refine wTk 5 ?_
            refine wTk 6 ?_
            refine wTk 7 ?_
            refine wTk 8 ?_
            refine wTk 9 ?_
            refine wTk 10 ?_
            refine wTk 11 ?_
            refine wTk 12 ?_
            refine wTk 13 ?_
            refine wTk 14 (v := .bool true) ?_
            refine wTk 15 ?_
            refine wpAnyH_done (by kernel_rfl) ?_ _
            clear hHeld
            go_wp2
            go_roundw
            case rel => exact ⟨k + 1, by omega, by go_num, HF.out, Y.out.1, Y.out.2⟩
            case measure => simp [intOf]; omega
          · have e1 := bless_n hlt
            have HLT : Hid (¬ kb u < kb key) := hlt
            clear hlt
            refine wp_region_held_drew (S := (fun w' => w'.cell? ⟨b, off + i * 8 + 2, none⟩ = some (.string key) ∧ w'.cell? ⟨go, k, none⟩ = some (.string u))) (by kernel_rfl) ?_ (fun hHeld => ?_)
            · (try dsimp only)
              exact ⟨HKY.out _ (Y.out.2.trans ((bel_drew _).mono Y.out.2.size)), HU.out _ (Y.out.1.next (bel_drew _))⟩
            replace Y : Hid (OwnG wr.drew 9 1 (.slice (some ⟨go, 0, none⟩) n vc) n (txt rs) w.heap.size ∧ Below w.heap.size w wr.drew) := ⟨Y.out.1.next (bel_drew _), Y.out.2.trans ((bel_drew _).mono Y.out.2.size)⟩
            generalize wr.drew = V1 at *
            refine wTk 0 ?_
            refine wTk 1 ?_
            refine wTk 2 ?_
            refine wTk 3 (v := .bool true) ?_
            refine wTk 4 ?_
            refine wTk 5 ?_
            refine wTk 6 ?_
            refine wTk 7 ?_
            refine wTk 8 ?_
            refine wTk 9 ?_
            refine wTk 10 ?_
            refine wTk 11 ?_
            refine wTk 12 ?_
            refine wTk 13 ?_
            refine wTk 14 (v := .bool false) ?_
            refine wTk 15 ?_
            refine wpAnyH_done (by kernel_rfl) ?_ _
            clear hHeld
            clear e1
            go_upto_region 8 with fail
            have hkn2 : ((k : Int) == (n : Int)) = false := beq_eq_false_iff_ne.2 (by omega)
            by_cases hue : u = key
            · have HKS : Hid (KInv l (i + 1) rs) := HSM.out (by rw [← hue, HUK.out HKR.out]; exact List.getElem_mem _)
              have e3 := te_yes hue
              clear hue HNW HSM HLT HJ HUK HKR
              refine wp_region_held_drew (S := (fun w' => w'.cell? ⟨b, off + i * 8 + 2, none⟩ = some (.string key) ∧ w'.cell? ⟨go, k, none⟩ = some (.string u))) (by kernel_rfl) ?_ (fun hHeld => ?_)
              · (try dsimp only)
                exact ⟨HKY.out _ (Y.out.2.trans ((bel_drew _).mono Y.out.2.size)), HU.out _ (Y.out.1.next (bel_drew _))⟩
              replace Y : Hid (OwnG V1.drew 9 1 (.slice (some ⟨go, 0, none⟩) n vc) n (txt rs) w.heap.size ∧ Below w.heap.size w V1.drew) := ⟨Y.out.1.next (bel_drew _), Y.out.2.trans ((bel_drew _).mono Y.out.2.size)⟩
              generalize V1.drew = V2 at *
              refine wTk 0 ?_
              refine wTk 1 ?_
              refine wTk 2 ?_
              refine wTk 3 (v := .bool false) ?_
              refine wTk 4 ?_
              refine wTk 5 ?_
              refine wTk 6 ?_
              refine wTk 7 ?_
              refine wTk 8 ?_
              refine wTk 9 ?_
              refine wTk 10 ?_
              refine wTk 11 ?_
              refine wTk 12 ?_
              refine wTk 13 ?_
              refine wTk 14 (v := .bool false) ?_
              refine wTk 15 ?_
              refine wpAnyH_done (by kernel_rfl) ?_ _
              clear hHeld
              clear e3 HU
              go_wp2
              go_roundw
              case rel => exact ⟨i + 1, n, go, vc, rs, by omega, rfl, by go_num, HNR.out, Y.out.1, HKS.out, Y.out.2⟩
              case measure => simp [intOf]; omega
            · have HKN : Hid (KInv l (i + 1) (rs.take k ++ kb key :: rs.drop k)) := HNW.out k (by have := HKR.out; omega) HJ.out (fun h => by
                rw [← HUK.out h]
                exact kb_tri u key HLT.out hue)
              have e3 := te_no hue
              clear hue HNW HSM HLT HJ HUK HKR
              refine wp_region_held_drew (S := (fun w' => w'.cell? ⟨b, off + i * 8 + 2, none⟩ = some (.string key) ∧ w'.cell? ⟨go, k, none⟩ = some (.string u))) (by kernel_rfl) ?_ (fun hHeld => ?_)
              · (try dsimp only)
                exact ⟨HKY.out _ (Y.out.2.trans ((bel_drew _).mono Y.out.2.size)), HU.out _ (Y.out.1.next (bel_drew _))⟩
              replace Y : Hid (OwnG V1.drew 9 1 (.slice (some ⟨go, 0, none⟩) n vc) n (txt rs) w.heap.size ∧ Below w.heap.size w V1.drew) := ⟨Y.out.1.next (bel_drew _), Y.out.2.trans ((bel_drew _).mono Y.out.2.size)⟩
              generalize V1.drew = V2 at *
              refine wTk 0 ?_
              refine wTk 1 ?_
              refine wTk 2 ?_
              refine wTk 3 (v := .bool false) ?_
              refine wTk 4 ?_
              refine wTk 5 ?_
              refine wTk 6 ?_
              refine wTk 7 ?_
              refine wTk 8 ?_
              refine wTk 9 ?_
              refine wTk 10 ?_
              refine wTk 11 ?_
              refine wTk 12 ?_
              refine wTk 13 ?_
              refine wTk 14 (v := .bool true) ?_
              refine wTk 15 ?_
              refine wpAnyH_done (by kernel_rfl) ?_ _
              clear hHeld
              clear e3 HU hkn2
              have hkn'' : (k : Int) ≤ (n : Int) := by omega
              have hkc : (k : Int) ≤ (vc : Int) := by omega
              go_upto_region 9 with fail
              have HLB : Hid (go < V2.heap.size ∧ w.heap.size ≤ V2.heap.size) := ⟨(Y.out.1.lt go rfl).2, Y.out.2.size⟩
              obtain ⟨LB, hLB⟩ : ∃ x, x = V2.heap.size := ⟨_, rfl⟩
              rw [← hLB] at HLB
              have HLV : Hid (LB ≤ V2.heap.size) := by show _ ≤ _; omega
              clear hLB
              refine wp_region_held_drew (S := (fun w' => w'.cell? ⟨b, off + i * 8 + 2, none⟩ = some (.string key))) (by kernel_rfl) ?_ (fun hHeld => ?_)
              · (try dsimp only)
                exact HKY.out _ (Y.out.2.trans ((bel_drew _).mono Y.out.2.size))
              replace Y : Hid (OwnG V2.drew 9 1 (.slice (some ⟨go, 0, none⟩) n vc) n (txt rs) w.heap.size ∧ Below w.heap.size w V2.drew) := ⟨Y.out.1.next (bel_drew _), Y.out.2.trans ((bel_drew _).mono Y.out.2.size)⟩
              replace HLV : Hid (LB ≤ V2.drew.heap.size) := Nat.le_trans HLV.out (bel_drew _).size
              generalize V2.drew = Z0 at *
              have HLZ : Hid (LB ≤ Z0.heap.size) := HLV.out
              clear HLV
              refine wTk 1 ?_
              refine wTk 2 ?_
              refine wTk 3 ?_
              refine wTk 5 ?_
              refine wTk 6 ?_
              refine wTk 7 ?_
              refine wTk 8 ?_
              refine wTk 9 ?_
              refine wTk 12 ?_
              refine wTk 13 ?_
              refine wTk 14 ?_
              refine wRd2 0 10 (fun K hK => ?_) (fun K hK => ?_)
              · go_simp
                (try simp only [])
                have hb := bel_alloc Z0 (.cells #[] 9)
                have V0 : Hid (OwnG (Z0.alloc (.cells #[] 9)) 9 1 (.slice (some ⟨Z0.heap.size, 0, none⟩) 0 0) 0 [] LB) := OwnG.lit HLZ.out
                replace HLZ : Hid (LB ≤ (Z0.alloc (.cells #[] 9)).heap.size) := Nat.le_trans HLZ.out hb.size
                replace Y : Hid (OwnG (Z0.alloc (.cells #[] 9)) 9 1 (.slice (some ⟨go, 0, none⟩) n vc) n (txt rs) w.heap.size ∧ Below w.heap.size w (Z0.alloc (.cells #[] 9))) := ⟨Y.out.1.next hb, Y.out.2.trans (hb.mono Y.out.2.size)⟩
                clear hb
                refine wHk hK (HKY.out _ Y.out.2) ?_
                clear hK K hHeld
                intro hHeld
                generalize Z0.alloc (.cells #[] 9) = Z1 at *
                generalize Z0.heap.size = g0 at *
                refine wRd2 4 10 (fun K hK => ?_) (fun K hK => ?_)
                · (try simp only [Act.put, List.getElem_toArray, List.getElem_cons_zero, List.getElem_cons_succ, List.setIfInBounds_toArray, List.set_cons_zero, List.set_cons_succ])
                  rw [if_pos (by rfl)]
                  refine wp_appG elS (.tmp 47) (.tmp 50) rfl (.slice (some ⟨g0, 0, none⟩) 0 0) 0 [] LB k rfl V0.out HLZ.out (some ⟨go, 0, none⟩) k vc (txt (rs.take k)) rfl (by rw [txt_len, List.length_take]; have := HNK.out; omega) (txt_one _) 0 ((grow_pre (own_grow0 Y.out.1)).weak (Nat.zero_le _)) (by omega) (by have := HNK.out; omega) ?_
                  intro v4 c4 Z2 hO hG hS
                  have V4 : Hid (OwnG Z2 9 1 (.slice v4 k c4) k ([] ++ txt (rs.take k)) LB) := hO
                  replace Y : Hid (OwnG Z2 9 1 (.slice (some ⟨go, 0, none⟩) n vc) n (txt rs) w.heap.size ∧ Below w.heap.size w Z2) := ⟨Y.out.1.apart (fun x hx e => by have h1 := V0.out.ge x e; simp [Value.ownBlock] at hx; have := HLB.out.1; omega) hG, Y.out.2.trans (hG.below Y.out.2.size (fun x e => by have h1 := V0.out.ge x e; have := HLB.out.2; omega))⟩
                  replace HLZ : Hid (LB ≤ Z2.heap.size) := Nat.le_trans HLZ.out hG.size
                  clear hO hG hS V0
                  refine wHk hK (HKY.out _ Y.out.2) ?_
                  clear hK K hHeld
                  intro hHeld
                  refine wRd 10 (fun K hK => ?_)
                  go_simp
                  (try simp only [])
                  have hb := bel_alloc Z2 (.cells #[.string key] 9)
                  have KB : Hid (Box (Z2.alloc (.cells #[.string key] 9)) Z2.heap.size [.string key]) := box_mk
                  replace V4 : Hid (OwnG (Z2.alloc (.cells #[.string key] 9)) 9 1 (.slice v4 k c4) k ([] ++ txt (rs.take k)) LB) := V4.out.next hb
                  replace HLZ : Hid (LB ≤ (Z2.alloc (.cells #[.string key] 9)).heap.size) := Nat.le_trans HLZ.out hb.size
                  replace Y : Hid (OwnG (Z2.alloc (.cells #[.string key] 9)) 9 1 (.slice (some ⟨go, 0, none⟩) n vc) n (txt rs) w.heap.size ∧ Below w.heap.size w (Z2.alloc (.cells #[.string key] 9))) := ⟨Y.out.1.next hb, Y.out.2.trans (hb.mono Y.out.2.size)⟩
                  clear hb
                  refine wHk hK (HKY.out _ Y.out.2) ?_
                  clear hK K hHeld
                  intro hHeld
                  generalize Z2.alloc (.cells #[.string key] 9) = Z3 at *
                  generalize Z2.heap.size = gk at *
                  refine wRd 11 (fun K hK => ?_)
                  (try simp only [Act.put, List.getElem_toArray, List.getElem_cons_zero, List.getElem_cons_succ, List.setIfInBounds_toArray, List.set_cons_zero, List.set_cons_succ])
                  rw [if_pos (by rfl)]
                  refine wp_appG elS (.tmp 51) (.tmp 57) rfl (.slice v4 k c4) k ([] ++ txt (rs.take k)) LB (k + 1) rfl V4.out HLZ.out (some ⟨gk, 0, none⟩) 1 1 [.string key] rfl rfl (fun u hu => by simp at hu; subst hu; rfl) 0 (box_row KB.out) (by have := HNK.out; omega) rfl ?_
                  intro v11 c11 Z4 hO hG hS
                  have V11 : Hid (OwnG Z4 9 1 (.slice v11 (k + 1) c11) (k + 1) (([] ++ txt (rs.take k)) ++ [.string key]) LB) := hO
                  replace Y : Hid (OwnG Z4 9 1 (.slice (some ⟨go, 0, none⟩) n vc) n (txt rs) w.heap.size ∧ Below w.heap.size w Z4) := ⟨Y.out.1.apart (fun x hx e => by have h1 := V4.out.ge x e; simp [Value.ownBlock] at hx; have := HLB.out.1; omega) hG, Y.out.2.trans (hG.below Y.out.2.size (fun x e => by have h1 := V4.out.ge x e; have := HLB.out.2; omega))⟩
                  replace HLZ : Hid (LB ≤ Z4.heap.size) := Nat.le_trans HLZ.out hG.size
                  clear hO hG hS V4 KB
                  refine wHk hK (HKY.out _ Y.out.2) ?_
                  clear hK K hHeld
                  intro hHeld
                  refine wRd 15 (fun K hK => ?_)
                  (try simp only [Act.put, List.getElem_toArray, List.getElem_cons_zero, List.getElem_cons_succ, List.setIfInBounds_toArray, List.set_cons_zero, List.set_cons_succ])
                  rw [if_pos (by rfl)]
                  refine wp_appG elS (.tmp 58) (.tmp 61) rfl (.slice v11 (k + 1) c11) (k + 1) (([] ++ txt (rs.take k)) ++ [.string key]) LB (k + 1 + (n - k)) rfl V11.out HLZ.out _ (n - k) (vc - k) (txt (rs.drop k)) rfl (by rw [txt_len, List.length_drop]; have := HNK.out; omega) (txt_one _) w.heap.size (grow_dropT (own_grow0 Y.out.1) (by have := HNK.out; omega) (by have := HNK.out; omega)) (by have := HNK.out; omega) rfl ?_
                  intro v15 c15 Z5 hO hG hS
                  have V15 : Hid (OwnG Z5 9 1 (.slice v15 (k + 1 + (n - k)) c15) (k + 1 + (n - k)) ((([] ++ txt (rs.take k)) ++ [.string key]) ++ txt (rs.drop k)) LB) := hO
                  replace Y : Hid (OwnG Z5 9 1 (.slice (some ⟨go, 0, none⟩) n vc) n (txt rs) w.heap.size ∧ Below w.heap.size w Z5) := ⟨Y.out.1.apart (fun x hx e => by have h1 := V11.out.ge x e; simp [Value.ownBlock] at hx; have := HLB.out.1; omega) hG, Y.out.2.trans (hG.below Y.out.2.size (fun x e => by have h1 := V11.out.ge x e; have := HLB.out.2; omega))⟩
                  replace HLZ : Hid (LB ≤ Z5.heap.size) := Nat.le_trans HLZ.out hG.size
                  clear hO hG hS V11
                  refine wHk hK (HKY.out _ Y.out.2) ?_
                  clear hK K hHeld
                  intro hHeld
                  refine wTk 16 ?_
                  refine wpAnyH_done (by kernel_rfl) ?_ _
                  clear hHeld
                  have HRES : Hid (∃ g2, v15 = some ⟨g2, 0, none⟩ ∧ OwnG Z5 9 1 (.slice (some ⟨g2, 0, none⟩) (rs.take k ++ kb key :: rs.drop k).length c15) (rs.take k ++ kb key :: rs.drop k).length (txt (rs.take k ++ kb key :: rs.drop k)) w.heap.size ∧ (rs.take k ++ kb key :: rs.drop k).length = k + 1 + (n - k)) := own_ins V15.out HLB.out.2 HNK.out
                  obtain ⟨g2, hg2, hO2, hl2⟩ := HRES.out
                  subst hg2
                  have HO2 : Hid (OwnG Z5 9 1 (.slice (some ⟨g2, 0, none⟩) (rs.take k ++ kb key :: rs.drop k).length c15) (rs.take k ++ kb key :: rs.drop k).length (txt (rs.take k ++ kb key :: rs.drop k)) w.heap.size) := hO2
                  have HL2 : Hid (k + 1 + (n - k) = (rs.take k ++ kb key :: rs.drop k).length) := hl2.symm
                  have HB2 : Hid (Below w.heap.size w Z5) := Y.out.2
                  clear hO2 hl2 HRES V15 Y HLB HLZ
                  go_wp2
                  go_roundw
                  case rel => exact ⟨i + 1, (rs.take k ++ kb key :: rs.drop k).length, g2, c15, rs.take k ++ kb key :: rs.drop k, by omega, by rw [HL2.out], by go_num, rfl, HO2.out, HKN.out, HB2.out⟩
                  case measure => simp [intOf]; omega
                · go_simp
                  (try simp only [])
                  have hb := bel_alloc Z1 (.cells #[.string key] 9)
                  have KB : Hid (Box (Z1.alloc (.cells #[.string key] 9)) Z1.heap.size [.string key]) := box_mk
                  have HN : Hid (g0 ≠ Z1.heap.size) := by have := (V0.out.lt g0 rfl).2; show _ ≠ _; omega
                  replace V0 : Hid (OwnG (Z1.alloc (.cells #[.string key] 9)) 9 1 (.slice (some ⟨g0, 0, none⟩) 0 0) 0 [] LB) := V0.out.next hb
                  replace HLZ : Hid (LB ≤ (Z1.alloc (.cells #[.string key] 9)).heap.size) := Nat.le_trans HLZ.out hb.size
                  replace Y : Hid (OwnG (Z1.alloc (.cells #[.string key] 9)) 9 1 (.slice (some ⟨go, 0, none⟩) n vc) n (txt rs) w.heap.size ∧ Below w.heap.size w (Z1.alloc (.cells #[.string key] 9))) := ⟨Y.out.1.next hb, Y.out.2.trans (hb.mono Y.out.2.size)⟩
                  clear hb
                  refine wHk hK (HKY.out _ Y.out.2) ?_
                  clear hK K hHeld
                  intro hHeld
                  generalize Z1.alloc (.cells #[.string key] 9) = Z6 at *
                  generalize Z1.heap.size = gk at *
                  refine wRd 4 (fun K hK => ?_)
                  (try simp only [Act.put, List.getElem_toArray, List.getElem_cons_zero, List.getElem_cons_succ, List.setIfInBounds_toArray, List.set_cons_zero, List.set_cons_succ])
                  rw [if_pos (by rfl)]
                  refine wp_appG elS (.tmp 47) (.tmp 50) rfl (.slice (some ⟨g0, 0, none⟩) 0 0) 0 [] LB k rfl V0.out HLZ.out (some ⟨go, 0, none⟩) k vc (txt (rs.take k)) rfl (by rw [txt_len, List.length_take]; have := HNK.out; omega) (txt_one _) 0 ((grow_pre (own_grow0 Y.out.1)).weak (Nat.zero_le _)) (by omega) (by have := HNK.out; omega) ?_
                  intro v4 c4 Z7 hO hG hS
                  have V4 : Hid (OwnG Z7 9 1 (.slice v4 k c4) k ([] ++ txt (rs.take k)) LB) := hO
                  replace KB : Hid (Box Z7 gk [.string key]) := KB.out.gro hG (fun e => by simp [Value.ownBlock] at e; exact HN.out e)
                  replace Y : Hid (OwnG Z7 9 1 (.slice (some ⟨go, 0, none⟩) n vc) n (txt rs) w.heap.size ∧ Below w.heap.size w Z7) := ⟨Y.out.1.apart (fun x hx e => by have h1 := V0.out.ge x e; simp [Value.ownBlock] at hx; have := HLB.out.1; omega) hG, Y.out.2.trans (hG.below Y.out.2.size (fun x e => by have h1 := V0.out.ge x e; have := HLB.out.2; omega))⟩
                  replace HLZ : Hid (LB ≤ Z7.heap.size) := Nat.le_trans HLZ.out hG.size
                  clear hO hG hS V0 HN
                  refine wHk hK (HKY.out _ Y.out.2) ?_
                  clear hK K hHeld
                  intro hHeld
                  refine wRd 11 (fun K hK => ?_)
                  (try simp only [Act.put, List.getElem_toArray, List.getElem_cons_zero, List.getElem_cons_succ, List.setIfInBounds_toArray, List.set_cons_zero, List.set_cons_succ])
                  rw [if_pos (by rfl)]
                  refine wp_appG elS (.tmp 51) (.tmp 57) rfl (.slice v4 k c4) k ([] ++ txt (rs.take k)) LB (k + 1) rfl V4.out HLZ.out (some ⟨gk, 0, none⟩) 1 1 [.string key] rfl rfl (fun u hu => by simp at hu; subst hu; rfl) 0 (box_row KB.out) (by have := HNK.out; omega) rfl ?_
                  intro v11 c11 Z8 hO hG hS
                  have V11 : Hid (OwnG Z8 9 1 (.slice v11 (k + 1) c11) (k + 1) (([] ++ txt (rs.take k)) ++ [.string key]) LB) := hO
                  replace Y : Hid (OwnG Z8 9 1 (.slice (some ⟨go, 0, none⟩) n vc) n (txt rs) w.heap.size ∧ Below w.heap.size w Z8) := ⟨Y.out.1.apart (fun x hx e => by have h1 := V4.out.ge x e; simp [Value.ownBlock] at hx; have := HLB.out.1; omega) hG, Y.out.2.trans (hG.below Y.out.2.size (fun x e => by have h1 := V4.out.ge x e; have := HLB.out.2; omega))⟩
                  replace HLZ : Hid (LB ≤ Z8.heap.size) := Nat.le_trans HLZ.out hG.size
                  clear hO hG hS V4 KB
                  refine wHk hK (HKY.out _ Y.out.2) ?_
                  clear hK K hHeld
                  intro hHeld
                  refine wRd 15 (fun K hK => ?_)
                  (try simp only [Act.put, List.getElem_toArray, List.getElem_cons_zero, List.getElem_cons_succ, List.setIfInBounds_toArray, List.set_cons_zero, List.set_cons_succ])
                  rw [if_pos (by rfl)]
                  refine wp_appG elS (.tmp 58) (.tmp 61) rfl (.slice v11 (k + 1) c11) (k + 1) (([] ++ txt (rs.take k)) ++ [.string key]) LB (k + 1 + (n - k)) rfl V11.out HLZ.out _ (n - k) (vc - k) (txt (rs.drop k)) rfl (by rw [txt_len, List.length_drop]; have := HNK.out; omega) (txt_one _) w.heap.size (grow_dropT (own_grow0 Y.out.1) (by have := HNK.out; omega) (by have := HNK.out; omega)) (by have := HNK.out; omega) rfl ?_
                  intro v15 c15 Z9 hO hG hS
                  have V15 : Hid (OwnG Z9 9 1 (.slice v15 (k + 1 + (n - k)) c15) (k + 1 + (n - k)) ((([] ++ txt (rs.take k)) ++ [.string key]) ++ txt (rs.drop k)) LB) := hO
                  replace Y : Hid (OwnG Z9 9 1 (.slice (some ⟨go, 0, none⟩) n vc) n (txt rs) w.heap.size ∧ Below w.heap.size w Z9) := ⟨Y.out.1.apart (fun x hx e => by have h1 := V11.out.ge x e; simp [Value.ownBlock] at hx; have := HLB.out.1; omega) hG, Y.out.2.trans (hG.below Y.out.2.size (fun x e => by have h1 := V11.out.ge x e; have := HLB.out.2; omega))⟩
                  replace HLZ : Hid (LB ≤ Z9.heap.size) := Nat.le_trans HLZ.out hG.size
                  clear hO hG hS V11
                  refine wHk hK (HKY.out _ Y.out.2) ?_
                  clear hK K hHeld
                  intro hHeld
                  refine wTk 16 ?_
                  refine wpAnyH_done (by kernel_rfl) ?_ _
                  clear hHeld
                  have HRES : Hid (∃ g2, v15 = some ⟨g2, 0, none⟩ ∧ OwnG Z9 9 1 (.slice (some ⟨g2, 0, none⟩) (rs.take k ++ kb key :: rs.drop k).length c15) (rs.take k ++ kb key :: rs.drop k).length (txt (rs.take k ++ kb key :: rs.drop k)) w.heap.size ∧ (rs.take k ++ kb key :: rs.drop k).length = k + 1 + (n - k)) := own_ins V15.out HLB.out.2 HNK.out
                  obtain ⟨g2, hg2, hO2, hl2⟩ := HRES.out
                  subst hg2
                  have HO2 : Hid (OwnG Z9 9 1 (.slice (some ⟨g2, 0, none⟩) (rs.take k ++ kb key :: rs.drop k).length c15) (rs.take k ++ kb key :: rs.drop k).length (txt (rs.take k ++ kb key :: rs.drop k)) w.heap.size) := hO2
                  have HL2 : Hid (k + 1 + (n - k) = (rs.take k ++ kb key :: rs.drop k).length) := hl2.symm
                  have HB2 : Hid (Below w.heap.size w Z9) := Y.out.2
                  clear hO2 hl2 HRES V15 Y HLB HLZ
                  go_wp2
                  go_roundw
                  case rel => exact ⟨i + 1, (rs.take k ++ kb key :: rs.drop k).length, g2, c15, rs.take k ++ kb key :: rs.drop k, by omega, by rw [HL2.out], by go_num, rfl, HO2.out, HKN.out, HB2.out⟩
                  case measure => simp [intOf]; omega
              · go_simp
                (try simp only [])
                have hb := bel_alloc Z0 (.cells #[.string key] 9)
                have KB : Hid (Box (Z0.alloc (.cells #[.string key] 9)) Z0.heap.size [.string key]) := box_mk
                replace HLZ : Hid (LB ≤ (Z0.alloc (.cells #[.string key] 9)).heap.size) := Nat.le_trans HLZ.out hb.size
                replace Y : Hid (OwnG (Z0.alloc (.cells #[.string key] 9)) 9 1 (.slice (some ⟨go, 0, none⟩) n vc) n (txt rs) w.heap.size ∧ Below w.heap.size w (Z0.alloc (.cells #[.string key] 9))) := ⟨Y.out.1.next hb, Y.out.2.trans (hb.mono Y.out.2.size)⟩
                clear hb
                refine wHk hK (HKY.out _ Y.out.2) ?_
                clear hK K hHeld
                intro hHeld
                generalize Z0.alloc (.cells #[.string key] 9) = Z10 at *
                generalize Z0.heap.size = gk at *
                refine wRd 0 (fun K hK => ?_)
                go_simp
                (try simp only [])
                have hb := bel_alloc Z10 (.cells #[] 9)
                have V0 : Hid (OwnG (Z10.alloc (.cells #[] 9)) 9 1 (.slice (some ⟨Z10.heap.size, 0, none⟩) 0 0) 0 [] LB) := OwnG.lit HLZ.out
                have HN : Hid (Z10.heap.size ≠ gk) := by have := KB.out.lt; show _ ≠ _; omega
                replace KB : Hid (Box (Z10.alloc (.cells #[] 9)) gk [.string key]) := KB.out.next hb
                replace HLZ : Hid (LB ≤ (Z10.alloc (.cells #[] 9)).heap.size) := Nat.le_trans HLZ.out hb.size
                replace Y : Hid (OwnG (Z10.alloc (.cells #[] 9)) 9 1 (.slice (some ⟨go, 0, none⟩) n vc) n (txt rs) w.heap.size ∧ Below w.heap.size w (Z10.alloc (.cells #[] 9))) := ⟨Y.out.1.next hb, Y.out.2.trans (hb.mono Y.out.2.size)⟩
                clear hb
                refine wHk hK (HKY.out _ Y.out.2) ?_
                clear hK K hHeld
                intro hHeld
                generalize Z10.alloc (.cells #[] 9) = Z11 at *
                generalize Z10.heap.size = g0 at *
                refine wRd 4 (fun K hK => ?_)
                (try simp only [Act.put, List.getElem_toArray, List.getElem_cons_zero, List.getElem_cons_succ, List.setIfInBounds_toArray, List.set_cons_zero, List.set_cons_succ])
                rw [if_pos (by rfl)]
                refine wp_appG elS (.tmp 47) (.tmp 50) rfl (.slice (some ⟨g0, 0, none⟩) 0 0) 0 [] LB k rfl V0.out HLZ.out (some ⟨go, 0, none⟩) k vc (txt (rs.take k)) rfl (by rw [txt_len, List.length_take]; have := HNK.out; omega) (txt_one _) 0 ((grow_pre (own_grow0 Y.out.1)).weak (Nat.zero_le _)) (by omega) (by have := HNK.out; omega) ?_
                intro v4 c4 Z12 hO hG hS
                have V4 : Hid (OwnG Z12 9 1 (.slice v4 k c4) k ([] ++ txt (rs.take k)) LB) := hO
                replace KB : Hid (Box Z12 gk [.string key]) := KB.out.gro hG (fun e => by simp [Value.ownBlock] at e; exact HN.out e)
                replace Y : Hid (OwnG Z12 9 1 (.slice (some ⟨go, 0, none⟩) n vc) n (txt rs) w.heap.size ∧ Below w.heap.size w Z12) := ⟨Y.out.1.apart (fun x hx e => by have h1 := V0.out.ge x e; simp [Value.ownBlock] at hx; have := HLB.out.1; omega) hG, Y.out.2.trans (hG.below Y.out.2.size (fun x e => by have h1 := V0.out.ge x e; have := HLB.out.2; omega))⟩
                replace HLZ : Hid (LB ≤ Z12.heap.size) := Nat.le_trans HLZ.out hG.size
                clear hO hG hS V0 HN
                refine wHk hK (HKY.out _ Y.out.2) ?_
                clear hK K hHeld
                intro hHeld
                refine wRd 11 (fun K hK => ?_)
                (try simp only [Act.put, List.getElem_toArray, List.getElem_cons_zero, List.getElem_cons_succ, List.setIfInBounds_toArray, List.set_cons_zero, List.set_cons_succ])
                rw [if_pos (by rfl)]
                refine wp_appG elS (.tmp 51) (.tmp 57) rfl (.slice v4 k c4) k ([] ++ txt (rs.take k)) LB (k + 1) rfl V4.out HLZ.out (some ⟨gk, 0, none⟩) 1 1 [.string key] rfl rfl (fun u hu => by simp at hu; subst hu; rfl) 0 (box_row KB.out) (by have := HNK.out; omega) rfl ?_
                intro v11 c11 Z13 hO hG hS
                have V11 : Hid (OwnG Z13 9 1 (.slice v11 (k + 1) c11) (k + 1) (([] ++ txt (rs.take k)) ++ [.string key]) LB) := hO
                replace Y : Hid (OwnG Z13 9 1 (.slice (some ⟨go, 0, none⟩) n vc) n (txt rs) w.heap.size ∧ Below w.heap.size w Z13) := ⟨Y.out.1.apart (fun x hx e => by have h1 := V4.out.ge x e; simp [Value.ownBlock] at hx; have := HLB.out.1; omega) hG, Y.out.2.trans (hG.below Y.out.2.size (fun x e => by have h1 := V4.out.ge x e; have := HLB.out.2; omega))⟩
                replace HLZ : Hid (LB ≤ Z13.heap.size) := Nat.le_trans HLZ.out hG.size
                clear hO hG hS V4 KB
                refine wHk hK (HKY.out _ Y.out.2) ?_
                clear hK K hHeld
                intro hHeld
                refine wRd 15 (fun K hK => ?_)
                (try simp only [Act.put, List.getElem_toArray, List.getElem_cons_zero, List.getElem_cons_succ, List.setIfInBounds_toArray, List.set_cons_zero, List.set_cons_succ])
                rw [if_pos (by rfl)]
                refine wp_appG elS (.tmp 58) (.tmp 61) rfl (.slice v11 (k + 1) c11) (k + 1) (([] ++ txt (rs.take k)) ++ [.string key]) LB (k + 1 + (n - k)) rfl V11.out HLZ.out _ (n - k) (vc - k) (txt (rs.drop k)) rfl (by rw [txt_len, List.length_drop]; have := HNK.out; omega) (txt_one _) w.heap.size (grow_dropT (own_grow0 Y.out.1) (by have := HNK.out; omega) (by have := HNK.out; omega)) (by have := HNK.out; omega) rfl ?_
                intro v15 c15 Z14 hO hG hS
                have V15 : Hid (OwnG Z14 9 1 (.slice v15 (k + 1 + (n - k)) c15) (k + 1 + (n - k)) ((([] ++ txt (rs.take k)) ++ [.string key]) ++ txt (rs.drop k)) LB) := hO
                replace Y : Hid (OwnG Z14 9 1 (.slice (some ⟨go, 0, none⟩) n vc) n (txt rs) w.heap.size ∧ Below w.heap.size w Z14) := ⟨Y.out.1.apart (fun x hx e => by have h1 := V11.out.ge x e; simp [Value.ownBlock] at hx; have := HLB.out.1; omega) hG, Y.out.2.trans (hG.below Y.out.2.size (fun x e => by have h1 := V11.out.ge x e; have := HLB.out.2; omega))⟩
                replace HLZ : Hid (LB ≤ Z14.heap.size) := Nat.le_trans HLZ.out hG.size
                clear hO hG hS V11
                refine wHk hK (HKY.out _ Y.out.2) ?_
                clear hK K hHeld
                intro hHeld
                refine wTk 16 ?_
                refine wpAnyH_done (by kernel_rfl) ?_ _
                clear hHeld
                have HRES : Hid (∃ g2, v15 = some ⟨g2, 0, none⟩ ∧ OwnG Z14 9 1 (.slice (some ⟨g2, 0, none⟩) (rs.take k ++ kb key :: rs.drop k).length c15) (rs.take k ++ kb key :: rs.drop k).length (txt (rs.take k ++ kb key :: rs.drop k)) w.heap.size ∧ (rs.take k ++ kb key :: rs.drop k).length = k + 1 + (n - k)) := own_ins V15.out HLB.out.2 HNK.out
                obtain ⟨g2, hg2, hO2, hl2⟩ := HRES.out
                subst hg2
                have HO2 : Hid (OwnG Z14 9 1 (.slice (some ⟨g2, 0, none⟩) (rs.take k ++ kb key :: rs.drop k).length c15) (rs.take k ++ kb key :: rs.drop k).length (txt (rs.take k ++ kb key :: rs.drop k)) w.heap.size) := hO2
                have HL2 : Hid (k + 1 + (n - k) = (rs.take k ++ kb key :: rs.drop k).length) := hl2.symm
                have HB2 : Hid (Below w.heap.size w Z14) := Y.out.2
                clear hO2 hl2 HRES V15 Y HLB HLZ
                go_wp2
                go_roundw
                case rel => exact ⟨i + 1, (rs.take k ++ kb key :: rs.drop k).length, g2, c15, rs.take k ++ kb key :: rs.drop k, by omega, by rw [HL2.out], by go_num, rfl, HO2.out, HKN.out, HB2.out⟩
                case measure => simp [intOf]; omega
        · have hkn' : ¬ (k : Int) < (n : Int) := by omega
          have hke : k = n := by omega
          have HKN : Hid (KInv l (i + 1) (rs.take k ++ kb key :: rs.drop k)) := HNW.out k (by rw [hke, HNR.out]; exact Nat.le_refl _) HJ.out (fun h => by have := HNR.out; omega)
          have hkn2 : ((k : Int) == (n : Int)) = true := beq_iff_eq.2 (by omega)
          clear hke HNW HSM HJ
          go_upto_region 6 with fail
          refine wp_region_held_drew (S := (fun w' => w'.cell? ⟨b, off + i * 8 + 2, none⟩ = some (.string key))) (by kernel_rfl) ?_ (fun hHeld => ?_)
          · (try dsimp only)
            exact HKY.out _ (Y.out.2.trans ((bel_drew _).mono Y.out.2.size))
          replace Y : Hid (OwnG wr.drew 9 1 (.slice (some ⟨go, 0, none⟩) n vc) n (txt rs) w.heap.size ∧ Below w.heap.size w wr.drew) := ⟨Y.out.1.next (bel_drew _), Y.out.2.trans ((bel_drew _).mono Y.out.2.size)⟩
          generalize wr.drew = V1 at *
          refine wTk 0 ?_
          refine wTk 1 ?_
          refine wTk 2 ?_
          refine wTk 3 (v := .bool false) ?_
          refine wTk 4 ?_
          refine wTn 5 ?_
          refine wTn 6 ?_
          refine wTn 7 ?_
          refine wTn 8 ?_
          refine wTn 9 ?_
          refine wTn 10 ?_
          refine wTn 11 ?_
          refine wTn 12 ?_
          refine wTn 13 ?_
          refine wTn 14 ?_
          refine wTk 15 ?_
          refine wpAnyH_done (by kernel_rfl) ?_ _
          clear hHeld
          go_upto_region 8 with fail
          refine wp_region_held_drew (S := (fun w' => w'.cell? ⟨b, off + i * 8 + 2, none⟩ = some (.string key))) (by kernel_rfl) ?_ (fun hHeld => ?_)
          · (try dsimp only)
            exact HKY.out _ (Y.out.2.trans ((bel_drew _).mono Y.out.2.size))
          replace Y : Hid (OwnG V1.drew 9 1 (.slice (some ⟨go, 0, none⟩) n vc) n (txt rs) w.heap.size ∧ Below w.heap.size w V1.drew) := ⟨Y.out.1.next (bel_drew _), Y.out.2.trans ((bel_drew _).mono Y.out.2.size)⟩
          generalize V1.drew = V2 at *
          refine wTk 0 ?_
          refine wTk 1 ?_
          refine wTk 2 ?_
          refine wTk 3 (v := .bool true) ?_
          refine wTk 4 ?_
          refine wTn 5 ?_
          refine wTn 6 ?_
          refine wTn 7 ?_
          refine wTn 8 ?_
          refine wTn 9 ?_
          refine wTn 10 ?_
          refine wTn 11 ?_
          refine wTn 12 ?_
          refine wTn 13 ?_
          refine wTn 14 ?_
          refine wTk 15 ?_
          refine wpAnyH_done (by kernel_rfl) ?_ _
          clear hHeld
          clear hkn2
          have hkn'' : (k : Int) ≤ (n : Int) := by omega
          have hkc : (k : Int) ≤ (vc : Int) := by omega
          go_upto_region 9 with fail
          have HLB : Hid (go < V2.heap.size ∧ w.heap.size ≤ V2.heap.size) := ⟨(Y.out.1.lt go rfl).2, Y.out.2.size⟩
          obtain ⟨LB, hLB⟩ : ∃ x, x = V2.heap.size := ⟨_, rfl⟩
          rw [← hLB] at HLB
          have HLV : Hid (LB ≤ V2.heap.size) := by show _ ≤ _; omega
          clear hLB
          refine wp_region_held_drew (S := (fun w' => w'.cell? ⟨b, off + i * 8 + 2, none⟩ = some (.string key))) (by kernel_rfl) ?_ (fun hHeld => ?_)
          · (try dsimp only)
            exact HKY.out _ (Y.out.2.trans ((bel_drew _).mono Y.out.2.size))
          replace Y : Hid (OwnG V2.drew 9 1 (.slice (some ⟨go, 0, none⟩) n vc) n (txt rs) w.heap.size ∧ Below w.heap.size w V2.drew) := ⟨Y.out.1.next (bel_drew _), Y.out.2.trans ((bel_drew _).mono Y.out.2.size)⟩
          replace HLV : Hid (LB ≤ V2.drew.heap.size) := Nat.le_trans HLV.out (bel_drew _).size
          generalize V2.drew = Z0 at *
          have HLZ : Hid (LB ≤ Z0.heap.size) := HLV.out
          clear HLV
          refine wTk 1 ?_
          refine wTk 2 ?_
          refine wTk 3 ?_
          refine wTk 5 ?_
          refine wTk 6 ?_
          refine wTk 7 ?_
          refine wTk 8 ?_
          refine wTk 9 ?_
          refine wTk 12 ?_
          refine wTk 13 ?_
          refine wTk 14 ?_
          refine wRd2 0 10 (fun K hK => ?_) (fun K hK => ?_)
          · go_simp
            (try simp only [])
            have hb := bel_alloc Z0 (.cells #[] 9)
            have V0 : Hid (OwnG (Z0.alloc (.cells #[] 9)) 9 1 (.slice (some ⟨Z0.heap.size, 0, none⟩) 0 0) 0 [] LB) := OwnG.lit HLZ.out
            replace HLZ : Hid (LB ≤ (Z0.alloc (.cells #[] 9)).heap.size) := Nat.le_trans HLZ.out hb.size
            replace Y : Hid (OwnG (Z0.alloc (.cells #[] 9)) 9 1 (.slice (some ⟨go, 0, none⟩) n vc) n (txt rs) w.heap.size ∧ Below w.heap.size w (Z0.alloc (.cells #[] 9))) := ⟨Y.out.1.next hb, Y.out.2.trans (hb.mono Y.out.2.size)⟩
            clear hb
            refine wHk hK (HKY.out _ Y.out.2) ?_
            clear hK K hHeld
            intro hHeld
            generalize Z0.alloc (.cells #[] 9) = Z1 at *
            generalize Z0.heap.size = g0 at *
            refine wRd2 4 10 (fun K hK => ?_) (fun K hK => ?_)
            · (try simp only [Act.put, List.getElem_toArray, List.getElem_cons_zero, List.getElem_cons_succ, List.setIfInBounds_toArray, List.set_cons_zero, List.set_cons_succ])
              rw [if_pos (by rfl)]
              refine wp_appG elS (.tmp 47) (.tmp 50) rfl (.slice (some ⟨g0, 0, none⟩) 0 0) 0 [] LB k rfl V0.out HLZ.out (some ⟨go, 0, none⟩) k vc (txt (rs.take k)) rfl (by rw [txt_len, List.length_take]; have := HNK.out; omega) (txt_one _) 0 ((grow_pre (own_grow0 Y.out.1)).weak (Nat.zero_le _)) (by omega) (by have := HNK.out; omega) ?_
              intro v4 c4 Z2 hO hG hS
              have V4 : Hid (OwnG Z2 9 1 (.slice v4 k c4) k ([] ++ txt (rs.take k)) LB) := hO
              replace Y : Hid (OwnG Z2 9 1 (.slice (some ⟨go, 0, none⟩) n vc) n (txt rs) w.heap.size ∧ Below w.heap.size w Z2) := ⟨Y.out.1.apart (fun x hx e => by have h1 := V0.out.ge x e; simp [Value.ownBlock] at hx; have := HLB.out.1; omega) hG, Y.out.2.trans (hG.below Y.out.2.size (fun x e => by have h1 := V0.out.ge x e; have := HLB.out.2; omega))⟩
              replace HLZ : Hid (LB ≤ Z2.heap.size) := Nat.le_trans HLZ.out hG.size
              clear hO hG hS V0
              refine wHk hK (HKY.out _ Y.out.2) ?_
              clear hK K hHeld
              intro hHeld
              refine wRd 10 (fun K hK => ?_)
              go_simp
              (try simp only [])
              have hb := bel_alloc Z2 (.cells #[.string key] 9)
              have KB : Hid (Box (Z2.alloc (.cells #[.string key] 9)) Z2.heap.size [.string key]) := box_mk
              replace V4 : Hid (OwnG (Z2.alloc (.cells #[.string key] 9)) 9 1 (.slice v4 k c4) k ([] ++ txt (rs.take k)) LB) := V4.out.next hb
              replace HLZ : Hid (LB ≤ (Z2.alloc (.cells #[.string key] 9)).heap.size) := Nat.le_trans HLZ.out hb.size
              replace Y : Hid (OwnG (Z2.alloc (.cells #[.string key] 9)) 9 1 (.slice (some ⟨go, 0, none⟩) n vc) n (txt rs) w.heap.size ∧ Below w.heap.size w (Z2.alloc (.cells #[.string key] 9))) := ⟨Y.out.1.next hb, Y.out.2.trans (hb.mono Y.out.2.size)⟩
              clear hb
              refine wHk hK (HKY.out _ Y.out.2) ?_
              clear hK K hHeld
              intro hHeld
              generalize Z2.alloc (.cells #[.string key] 9) = Z3 at *
              generalize Z2.heap.size = gk at *
              refine wRd 11 (fun K hK => ?_)
              (try simp only [Act.put, List.getElem_toArray, List.getElem_cons_zero, List.getElem_cons_succ, List.setIfInBounds_toArray, List.set_cons_zero, List.set_cons_succ])
              rw [if_pos (by rfl)]
              refine wp_appG elS (.tmp 51) (.tmp 57) rfl (.slice v4 k c4) k ([] ++ txt (rs.take k)) LB (k + 1) rfl V4.out HLZ.out (some ⟨gk, 0, none⟩) 1 1 [.string key] rfl rfl (fun u hu => by simp at hu; subst hu; rfl) 0 (box_row KB.out) (by have := HNK.out; omega) rfl ?_
              intro v11 c11 Z4 hO hG hS
              have V11 : Hid (OwnG Z4 9 1 (.slice v11 (k + 1) c11) (k + 1) (([] ++ txt (rs.take k)) ++ [.string key]) LB) := hO
              replace Y : Hid (OwnG Z4 9 1 (.slice (some ⟨go, 0, none⟩) n vc) n (txt rs) w.heap.size ∧ Below w.heap.size w Z4) := ⟨Y.out.1.apart (fun x hx e => by have h1 := V4.out.ge x e; simp [Value.ownBlock] at hx; have := HLB.out.1; omega) hG, Y.out.2.trans (hG.below Y.out.2.size (fun x e => by have h1 := V4.out.ge x e; have := HLB.out.2; omega))⟩
              replace HLZ : Hid (LB ≤ Z4.heap.size) := Nat.le_trans HLZ.out hG.size
              clear hO hG hS V4 KB
              refine wHk hK (HKY.out _ Y.out.2) ?_
              clear hK K hHeld
              intro hHeld
              refine wRd 15 (fun K hK => ?_)
              (try simp only [Act.put, List.getElem_toArray, List.getElem_cons_zero, List.getElem_cons_succ, List.setIfInBounds_toArray, List.set_cons_zero, List.set_cons_succ])
              rw [if_pos (by rfl)]
              refine wp_appG elS (.tmp 58) (.tmp 61) rfl (.slice v11 (k + 1) c11) (k + 1) (([] ++ txt (rs.take k)) ++ [.string key]) LB (k + 1 + (n - k)) rfl V11.out HLZ.out _ (n - k) (vc - k) (txt (rs.drop k)) rfl (by rw [txt_len, List.length_drop]; have := HNK.out; omega) (txt_one _) w.heap.size (grow_dropT (own_grow0 Y.out.1) (by have := HNK.out; omega) (by have := HNK.out; omega)) (by have := HNK.out; omega) rfl ?_
              intro v15 c15 Z5 hO hG hS
              have V15 : Hid (OwnG Z5 9 1 (.slice v15 (k + 1 + (n - k)) c15) (k + 1 + (n - k)) ((([] ++ txt (rs.take k)) ++ [.string key]) ++ txt (rs.drop k)) LB) := hO
              replace Y : Hid (OwnG Z5 9 1 (.slice (some ⟨go, 0, none⟩) n vc) n (txt rs) w.heap.size ∧ Below w.heap.size w Z5) := ⟨Y.out.1.apart (fun x hx e => by have h1 := V11.out.ge x e; simp [Value.ownBlock] at hx; have := HLB.out.1; omega) hG, Y.out.2.trans (hG.below Y.out.2.size (fun x e => by have h1 := V11.out.ge x e; have := HLB.out.2; omega))⟩
              replace HLZ : Hid (LB ≤ Z5.heap.size) := Nat.le_trans HLZ.out hG.size
              clear hO hG hS V11
              refine wHk hK (HKY.out _ Y.out.2) ?_
              clear hK K hHeld
              intro hHeld
              refine wTk 16 ?_
              refine wpAnyH_done (by kernel_rfl) ?_ _
              clear hHeld
              have HRES : Hid (∃ g2, v15 = some ⟨g2, 0, none⟩ ∧ OwnG Z5 9 1 (.slice (some ⟨g2, 0, none⟩) (rs.take k ++ kb key :: rs.drop k).length c15) (rs.take k ++ kb key :: rs.drop k).length (txt (rs.take k ++ kb key :: rs.drop k)) w.heap.size ∧ (rs.take k ++ kb key :: rs.drop k).length = k + 1 + (n - k)) := own_ins V15.out HLB.out.2 HNK.out
              obtain ⟨g2, hg2, hO2, hl2⟩ := HRES.out
              subst hg2
              have HO2 : Hid (OwnG Z5 9 1 (.slice (some ⟨g2, 0, none⟩) (rs.take k ++ kb key :: rs.drop k).length c15) (rs.take k ++ kb key :: rs.drop k).length (txt (rs.take k ++ kb key :: rs.drop k)) w.heap.size) := hO2
              have HL2 : Hid (k + 1 + (n - k) = (rs.take k ++ kb key :: rs.drop k).length) := hl2.symm
              have HB2 : Hid (Below w.heap.size w Z5) := Y.out.2
              clear hO2 hl2 HRES V15 Y HLB HLZ
              go_wp2
              go_roundw
              case rel => exact ⟨i + 1, (rs.take k ++ kb key :: rs.drop k).length, g2, c15, rs.take k ++ kb key :: rs.drop k, by omega, by rw [HL2.out], by go_num, rfl, HO2.out, HKN.out, HB2.out⟩
              case measure => simp [intOf]; omega
            · go_simp
              (try simp only [])
              have hb := bel_alloc Z1 (.cells #[.string key] 9)
              have KB : Hid (Box (Z1.alloc (.cells #[.string key] 9)) Z1.heap.size [.string key]) := box_mk
              have HN : Hid (g0 ≠ Z1.heap.size) := by have := (V0.out.lt g0 rfl).2; show _ ≠ _; omega
              replace V0 : Hid (OwnG (Z1.alloc (.cells #[.string key] 9)) 9 1 (.slice (some ⟨g0, 0, none⟩) 0 0) 0 [] LB) := V0.out.next hb
              replace HLZ : Hid (LB ≤ (Z1.alloc (.cells #[.string key] 9)).heap.size) := Nat.le_trans HLZ.out hb.size
              replace Y : Hid (OwnG (Z1.alloc (.cells #[.string key] 9)) 9 1 (.slice (some ⟨go, 0, none⟩) n vc) n (txt rs) w.heap.size ∧ Below w.heap.size w (Z1.alloc (.cells #[.string key] 9))) := ⟨Y.out.1.next hb, Y.out.2.trans (hb.mono Y.out.2.size)⟩
              clear hb
              refine wHk hK (HKY.out _ Y.out.2) ?_
              clear hK K hHeld
              intro hHeld
              generalize Z1.alloc (.cells #[.string key] 9) = Z6 at *
              generalize Z1.heap.size = gk at *
              refine wRd 4 (fun K hK => ?_)
              (try simp only [Act.put, List.getElem_toArray, List.getElem_cons_zero, List.getElem_cons_succ, List.setIfInBounds_toArray, List.set_cons_zero, List.set_cons_succ])
              rw [if_pos (by rfl)]
              refine wp_appG elS (.tmp 47) (.tmp 50) rfl (.slice (some ⟨g0, 0, none⟩) 0 0) 0 [] LB k rfl V0.out HLZ.out (some ⟨go, 0, none⟩) k vc (txt (rs.take k)) rfl (by rw [txt_len, List.length_take]; have := HNK.out; omega) (txt_one _) 0 ((grow_pre (own_grow0 Y.out.1)).weak (Nat.zero_le _)) (by omega) (by have := HNK.out; omega) ?_
              intro v4 c4 Z7 hO hG hS
              have V4 : Hid (OwnG Z7 9 1 (.slice v4 k c4) k ([] ++ txt (rs.take k)) LB) := hO
              replace KB : Hid (Box Z7 gk [.string key]) := KB.out.gro hG (fun e => by simp [Value.ownBlock] at e; exact HN.out e)
              replace Y : Hid (OwnG Z7 9 1 (.slice (some ⟨go, 0, none⟩) n vc) n (txt rs) w.heap.size ∧ Below w.heap.size w Z7) := ⟨Y.out.1.apart (fun x hx e => by have h1 := V0.out.ge x e; simp [Value.ownBlock] at hx; have := HLB.out.1; omega) hG, Y.out.2.trans (hG.below Y.out.2.size (fun x e => by have h1 := V0.out.ge x e; have := HLB.out.2; omega))⟩
              replace HLZ : Hid (LB ≤ Z7.heap.size) := Nat.le_trans HLZ.out hG.size
              clear hO hG hS V0 HN
              refine wHk hK (HKY.out _ Y.out.2) ?_
              clear hK K hHeld
              intro hHeld
              refine wRd 11 (fun K hK => ?_)
              (try simp only [Act.put, List.getElem_toArray, List.getElem_cons_zero, List.getElem_cons_succ, List.setIfInBounds_toArray, List.set_cons_zero, List.set_cons_succ])
              rw [if_pos (by rfl)]
              refine wp_appG elS (.tmp 51) (.tmp 57) rfl (.slice v4 k c4) k ([] ++ txt (rs.take k)) LB (k + 1) rfl V4.out HLZ.out (some ⟨gk, 0, none⟩) 1 1 [.string key] rfl rfl (fun u hu => by simp at hu; subst hu; rfl) 0 (box_row KB.out) (by have := HNK.out; omega) rfl ?_
              intro v11 c11 Z8 hO hG hS
              have V11 : Hid (OwnG Z8 9 1 (.slice v11 (k + 1) c11) (k + 1) (([] ++ txt (rs.take k)) ++ [.string key]) LB) := hO
              replace Y : Hid (OwnG Z8 9 1 (.slice (some ⟨go, 0, none⟩) n vc) n (txt rs) w.heap.size ∧ Below w.heap.size w Z8) := ⟨Y.out.1.apart (fun x hx e => by have h1 := V4.out.ge x e; simp [Value.ownBlock] at hx; have := HLB.out.1; omega) hG, Y.out.2.trans (hG.below Y.out.2.size (fun x e => by have h1 := V4.out.ge x e; have := HLB.out.2; omega))⟩
              replace HLZ : Hid (LB ≤ Z8.heap.size) := Nat.le_trans HLZ.out hG.size
              clear hO hG hS V4 KB
              refine wHk hK (HKY.out _ Y.out.2) ?_
              clear hK K hHeld
              intro hHeld
              refine wRd 15 (fun K hK => ?_)
              (try simp only [Act.put, List.getElem_toArray, List.getElem_cons_zero, List.getElem_cons_succ, List.setIfInBounds_toArray, List.set_cons_zero, List.set_cons_succ])
              rw [if_pos (by rfl)]
              refine wp_appG elS (.tmp 58) (.tmp 61) rfl (.slice v11 (k + 1) c11) (k + 1) (([] ++ txt (rs.take k)) ++ [.string key]) LB (k + 1 + (n - k)) rfl V11.out HLZ.out _ (n - k) (vc - k) (txt (rs.drop k)) rfl (by rw [txt_len, List.length_drop]; have := HNK.out; omega) (txt_one _) w.heap.size (grow_dropT (own_grow0 Y.out.1) (by have := HNK.out; omega) (by have := HNK.out; omega)) (by have := HNK.out; omega) rfl ?_
              intro v15 c15 Z9 hO hG hS
              have V15 : Hid (OwnG Z9 9 1 (.slice v15 (k + 1 + (n - k)) c15) (k + 1 + (n - k)) ((([] ++ txt (rs.take k)) ++ [.string key]) ++ txt (rs.drop k)) LB) := hO
              replace Y : Hid (OwnG Z9 9 1 (.slice (some ⟨go, 0, none⟩) n vc) n (txt rs) w.heap.size ∧ Below w.heap.size w Z9) := ⟨Y.out.1.apart (fun x hx e => by have h1 := V11.out.ge x e; simp [Value.ownBlock] at hx; have := HLB.out.1; omega) hG, Y.out.2.trans (hG.below Y.out.2.size (fun x e => by have h1 := V11.out.ge x e; have := HLB.out.2; omega))⟩
              replace HLZ : Hid (LB ≤ Z9.heap.size) := Nat.le_trans HLZ.out hG.size
              clear hO hG hS V11
              refine wHk hK (HKY.out _ Y.out.2) ?_
              clear hK K hHeld
              intro hHeld
              refine wTk 16 ?_
              refine wpAnyH_done (by kernel_rfl) ?_ _
              clear hHeld
              have HRES : Hid (∃ g2, v15 = some ⟨g2, 0, none⟩ ∧ OwnG Z9 9 1 (.slice (some ⟨g2, 0, none⟩) (rs.take k ++ kb key :: rs.drop k).length c15) (rs.take k ++ kb key :: rs.drop k).length (txt (rs.take k ++ kb key :: rs.drop k)) w.heap.size ∧ (rs.take k ++ kb key :: rs.drop k).length = k + 1 + (n - k)) := own_ins V15.out HLB.out.2 HNK.out
              obtain ⟨g2, hg2, hO2, hl2⟩ := HRES.out
              subst hg2
              have HO2 : Hid (OwnG Z9 9 1 (.slice (some ⟨g2, 0, none⟩) (rs.take k ++ kb key :: rs.drop k).length c15) (rs.take k ++ kb key :: rs.drop k).length (txt (rs.take k ++ kb key :: rs.drop k)) w.heap.size) := hO2
              have HL2 : Hid (k + 1 + (n - k) = (rs.take k ++ kb key :: rs.drop k).length) := hl2.symm
              have HB2 : Hid (Below w.heap.size w Z9) := Y.out.2
              clear hO2 hl2 HRES V15 Y HLB HLZ
              go_wp2
              go_roundw
              case rel => exact ⟨i + 1, (rs.take k ++ kb key :: rs.drop k).length, g2, c15, rs.take k ++ kb key :: rs.drop k, by omega, by rw [HL2.out], by go_num, rfl, HO2.out, HKN.out, HB2.out⟩
              case measure => simp [intOf]; omega
          · go_simp
            (try simp only [])
            have hb := bel_alloc Z0 (.cells #[.string key] 9)
            have KB : Hid (Box (Z0.alloc (.cells #[.string key] 9)) Z0.heap.size [.string key]) := box_mk
            replace HLZ : Hid (LB ≤ (Z0.alloc (.cells #[.string key] 9)).heap.size) := Nat.le_trans HLZ.out hb.size
            replace Y : Hid (OwnG (Z0.alloc (.cells #[.string key] 9)) 9 1 (.slice (some ⟨go, 0, none⟩) n vc) n (txt rs) w.heap.size ∧ Below w.heap.size w (Z0.alloc (.cells #[.string key] 9))) := ⟨Y.out.1.next hb, Y.out.2.trans (hb.mono Y.out.2.size)⟩
            clear hb
            refine wHk hK (HKY.out _ Y.out.2) ?_
            clear hK K hHeld
            intro hHeld
            generalize Z0.alloc (.cells #[.string key] 9) = Z10 at *
            generalize Z0.heap.size = gk at *
            refine wRd 0 (fun K hK => ?_)
            go_simp
            (try simp only [])
            have hb := bel_alloc Z10 (.cells #[] 9)
            have V0 : Hid (OwnG (Z10.alloc (.cells #[] 9)) 9 1 (.slice (some ⟨Z10.heap.size, 0, none⟩) 0 0) 0 [] LB) := OwnG.lit HLZ.out
            have HN : Hid (Z10.heap.size ≠ gk) := by have := KB.out.lt; show _ ≠ _; omega
            replace KB : Hid (Box (Z10.alloc (.cells #[] 9)) gk [.string key]) := KB.out.next hb
            replace HLZ : Hid (LB ≤ (Z10.alloc (.cells #[] 9)).heap.size) := Nat.le_trans HLZ.out hb.size
            replace Y : Hid (OwnG (Z10.alloc (.cells #[] 9)) 9 1 (.slice (some ⟨go, 0, none⟩) n vc) n (txt rs) w.heap.size ∧ Below w.heap.size w (Z10.alloc (.cells #[] 9))) := ⟨Y.out.1.next hb, Y.out.2.trans (hb.mono Y.out.2.size)⟩
            clear hb
            refine wHk hK (HKY.out _ Y.out.2) ?_
            clear hK K hHeld
            intro hHeld
            generalize Z10.alloc (.cells #[] 9) = Z11 at *
            generalize Z10.heap.size = g0 at *
            refine wRd 4 (fun K hK => ?_)
            (try simp only [Act.put, List.getElem_toArray, List.getElem_cons_zero, List.getElem_cons_succ, List.setIfInBounds_toArray, List.set_cons_zero, List.set_cons_succ])
            rw [if_pos (by rfl)]
            refine wp_appG elS (.tmp 47) (.tmp 50) rfl (.slice (some ⟨g0, 0, none⟩) 0 0) 0 [] LB k rfl V0.out HLZ.out (some ⟨go, 0, none⟩) k vc (txt (rs.take k)) rfl (by rw [txt_len, List.length_take]; have := HNK.out; omega) (txt_one _) 0 ((grow_pre (own_grow0 Y.out.1)).weak (Nat.zero_le _)) (by omega) (by have := HNK.out; omega) ?_
            intro v4 c4 Z12 hO hG hS
            have V4 : Hid (OwnG Z12 9 1 (.slice v4 k c4) k ([] ++ txt (rs.take k)) LB) := hO
            replace KB : Hid (Box Z12 gk [.string key]) := KB.out.gro hG (fun e => by simp [Value.ownBlock] at e; exact HN.out e)
            replace Y : Hid (OwnG Z12 9 1 (.slice (some ⟨go, 0, none⟩) n vc) n (txt rs) w.heap.size ∧ Below w.heap.size w Z12) := ⟨Y.out.1.apart (fun x hx e => by have h1 := V0.out.ge x e; simp [Value.ownBlock] at hx; have := HLB.out.1; omega) hG, Y.out.2.trans (hG.below Y.out.2.size (fun x e => by have h1 := V0.out.ge x e; have := HLB.out.2; omega))⟩
            replace HLZ : Hid (LB ≤ Z12.heap.size) := Nat.le_trans HLZ.out hG.size
            clear hO hG hS V0 HN
            refine wHk hK (HKY.out _ Y.out.2) ?_
            clear hK K hHeld
            intro hHeld
            refine wRd 11 (fun K hK => ?_)
            (try simp only [Act.put, List.getElem_toArray, List.getElem_cons_zero, List.getElem_cons_succ, List.setIfInBounds_toArray, List.set_cons_zero, List.set_cons_succ])
            rw [if_pos (by rfl)]
            refine wp_appG elS (.tmp 51) (.tmp 57) rfl (.slice v4 k c4) k ([] ++ txt (rs.take k)) LB (k + 1) rfl V4.out HLZ.out (some ⟨gk, 0, none⟩) 1 1 [.string key] rfl rfl (fun u hu => by simp at hu; subst hu; rfl) 0 (box_row KB.out) (by have := HNK.out; omega) rfl ?_
            intro v11 c11 Z13 hO hG hS
            have V11 : Hid (OwnG Z13 9 1 (.slice v11 (k + 1) c11) (k + 1) (([] ++ txt (rs.take k)) ++ [.string key]) LB) := hO
            replace Y : Hid (OwnG Z13 9 1 (.slice (some ⟨go, 0, none⟩) n vc) n (txt rs) w.heap.size ∧ Below w.heap.size w Z13) := ⟨Y.out.1.apart (fun x hx e => by have h1 := V4.out.ge x e; simp [Value.ownBlock] at hx; have := HLB.out.1; omega) hG, Y.out.2.trans (hG.below Y.out.2.size (fun x e => by have h1 := V4.out.ge x e; have := HLB.out.2; omega))⟩
            replace HLZ : Hid (LB ≤ Z13.heap.size) := Nat.le_trans HLZ.out hG.size
            clear hO hG hS V4 KB
            refine wHk hK (HKY.out _ Y.out.2) ?_
            clear hK K hHeld
            intro hHeld
            refine wRd 15 (fun K hK => ?_)
            (try simp only [Act.put, List.getElem_toArray, List.getElem_cons_zero, List.getElem_cons_succ, List.setIfInBounds_toArray, List.set_cons_zero, List.set_cons_succ])
            rw [if_pos (by rfl)]
            refine wp_appG elS (.tmp 58) (.tmp 61) rfl (.slice v11 (k + 1) c11) (k + 1) (([] ++ txt (rs.take k)) ++ [.string key]) LB (k + 1 + (n - k)) rfl V11.out HLZ.out _ (n - k) (vc - k) (txt (rs.drop k)) rfl (by rw [txt_len, List.length_drop]; have := HNK.out; omega) (txt_one _) w.heap.size (grow_dropT (own_grow0 Y.out.1) (by have := HNK.out; omega) (by have := HNK.out; omega)) (by have := HNK.out; omega) rfl ?_
            intro v15 c15 Z14 hO hG hS
            have V15 : Hid (OwnG Z14 9 1 (.slice v15 (k + 1 + (n - k)) c15) (k + 1 + (n - k)) ((([] ++ txt (rs.take k)) ++ [.string key]) ++ txt (rs.drop k)) LB) := hO
            replace Y : Hid (OwnG Z14 9 1 (.slice (some ⟨go, 0, none⟩) n vc) n (txt rs) w.heap.size ∧ Below w.heap.size w Z14) := ⟨Y.out.1.apart (fun x hx e => by have h1 := V11.out.ge x e; simp [Value.ownBlock] at hx; have := HLB.out.1; omega) hG, Y.out.2.trans (hG.below Y.out.2.size (fun x e => by have h1 := V11.out.ge x e; have := HLB.out.2; omega))⟩
            replace HLZ : Hid (LB ≤ Z14.heap.size) := Nat.le_trans HLZ.out hG.size
            clear hO hG hS V11
            refine wHk hK (HKY.out _ Y.out.2) ?_
            clear hK K hHeld
            intro hHeld
            refine wTk 16 ?_
            refine wpAnyH_done (by kernel_rfl) ?_ _
            clear hHeld
            have HRES : Hid (∃ g2, v15 = some ⟨g2, 0, none⟩ ∧ OwnG Z14 9 1 (.slice (some ⟨g2, 0, none⟩) (rs.take k ++ kb key :: rs.drop k).length c15) (rs.take k ++ kb key :: rs.drop k).length (txt (rs.take k ++ kb key :: rs.drop k)) w.heap.size ∧ (rs.take k ++ kb key :: rs.drop k).length = k + 1 + (n - k)) := own_ins V15.out HLB.out.2 HNK.out
            obtain ⟨g2, hg2, hO2, hl2⟩ := HRES.out
            subst hg2
            have HO2 : Hid (OwnG Z14 9 1 (.slice (some ⟨g2, 0, none⟩) (rs.take k ++ kb key :: rs.drop k).length c15) (rs.take k ++ kb key :: rs.drop k).length (txt (rs.take k ++ kb key :: rs.drop k)) w.heap.size) := hO2
            have HL2 : Hid (k + 1 + (n - k) = (rs.take k ++ kb key :: rs.drop k).length) := hl2.symm
            have HB2 : Hid (Below w.heap.size w Z14) := Y.out.2
            clear hO2 hl2 HRES V15 Y HLB HLZ
            go_wp2
            go_roundw
            case rel => exact ⟨i + 1, (rs.take k ++ kb key :: rs.drop k).length, g2, c15, rs.take k ++ kb key :: rs.drop k, by omega, by rw [HL2.out], by go_num, rfl, HO2.out, HKN.out, HB2.out⟩
            case measure => simp [intOf]; omega
    · have hil' : ¬ (i : Int) < (l.length : Int) := by omega
      have HRS : Hid (rs = risen (keysE l)) := by
        have h1 := HKI.out
        refine risen_is h1.1 (fun x => ?_)
        have h2 := h1.2.1 x
        rw [List.take_of_length_le (by omega)] at h2
        exact h2
      have HTR : Hid (TR w.heap.size wr (some ⟨go, 0, none⟩) (risen (keysE l)) ∧ Below w.heap.size w wr ∧ n = (risen (keysE l)).length) := by
        have h1 := Y.out.1
        have hn := HNR.out
        refine ⟨?_, Y.out.2, by rw [← HRS.out]; exact hn⟩
        rw [hn] at h1
        rw [← HRS.out]
        exact OwnG.tr h1
      clear HKI HRS Y HNR
      go_wp2
      go_ret
      exact ⟨go, ⟨vc, congrArg (fun x => Ending.returned (.slice (some ⟨go, 0, none⟩) x vc)) HTR.out.2.2⟩, HTR.out.1, HTR.out.2.1⟩
end Go.Proofs.YtkdbcmkmcjaenaaGreatDoor
