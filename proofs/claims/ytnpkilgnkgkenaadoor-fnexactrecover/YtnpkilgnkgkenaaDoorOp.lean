/- Lines are opened: the specification's side. -/
import Derived.Test.YtnpkilgnkgkenaaDoorRows
import Derived.WalkKit
import Derived.WalkSpells
import Derived.WalkLawsBesides
import Derived.Deep.QuietTactic
import Derived.BigQuiet
import Derived.Deep.RegionHeld3
import Derived.Test.YtnpkilgnkgkenaaDoorSe
import Derived.LoopN
import Derived.Lib.IndexMore
import Derived.Lib.IndexBytes
import Derived.Lib.SlicesS
namespace Go.Proofs.YtnpkilgnkgkenaaDoor
open Go.RowKit
set_option linter.unusedSimpArgs false
set_option linter.unusedVariables false

/-- What stands behind the first sign of a pair. -/
def aft : List UInt8 → Option (List UInt8)
  | [] => none
  | c :: r => if c = 58 then some r else aft r
theorem aft_cut : ∀ l : List UInt8, (Lib.cut l [58]).2 = match aft l with | some r => (r, true) | none => ([], false) := by
  intro l
  have key : (aft l = none ∧ Lib.index l [58] = -1) ∨ ∃ (i : Nat), Lib.index l [58] = i ∧ aft l = some (l.drop (i + 1)) := by
    rw [Lib.index_one]
    induction l with
    | nil => exact .inl ⟨rfl, rfl⟩
    | cons c r ih =>
      unfold aft Lib.indexByte
      by_cases h : c = 58
      · right
        refine ⟨0, ?_, ?_⟩
        · simp [h]
        · rw [if_pos h]; simp
      · rw [if_neg h]
        rcases ih with ⟨h1, h2⟩ | ⟨i, h1, h2⟩
        · left
          refine ⟨h1, ?_⟩
          simp [h, h2]
        · right
          refine ⟨i + 1, ?_, ?_⟩
          · simp [h, h1]
            try omega
          · rw [h2]; simp
  unfold Lib.cut
  rcases key with ⟨h1, h2⟩ | ⟨i, h1, h2⟩
  · rw [h1, h2, if_neg (by omega)]
  · rw [h1, h2, if_pos (by omega)]
    simp
/-- The text that a line seals, if it is a sealed line. -/
def opn (l : List UInt8) : Option (List UInt8) := (aft l).bind aft
def openO (s : ByteArray) : Option ByteArray := (opn s.data.toList).bind fun t => if sealS ⟨t.toArray⟩ = s then some ⟨t.toArray⟩ else none
theorem aft_len : ∀ {l r : List UInt8}, aft l = some r → r.length < l.length := by
  intro l
  induction l with
  | nil => intro r h; cases h
  | cons c l ih =>
    intro r h
    unfold aft at h
    by_cases hc : c = 58
    · rw [if_pos hc] at h; cases h; simp
    · rw [if_neg hc] at h; have := ih h; simp; omega
theorem drop_at (s : ByteArray) (i : Nat) (h : i < s.size) : s.data.toList.drop i = s[i] :: s.data.toList.drop (i + 1) := by
  have h' : i < s.data.toList.length := by simpa using h
  rw [List.drop_eq_getElem_cons h']
  rfl
theorem ex_drop (s : ByteArray) (i : Nat) (h : i ≤ s.size) : s.extract i s.size = ⟨(s.data.toList.drop i).toArray⟩ := by
  apply ByteArray.ext
  rw [ByteArray.data_extract]
  apply Array.ext'
  rw [Array.toList_extract]
  show (s.data.toList.drop i).take (s.size - i) = s.data.toList.drop i
  exact List.take_of_length_le (by rw [List.length_drop]; show s.data.size - i ≤ s.size - i; exact Nat.le_refl _)
theorem c58 (x : UInt8) : x = 58 ↔ x.toNat = 58 := ⟨fun h => by rw [h]; rfl, fun h => UInt8.toNat_inj.1 (by rw [h]; rfl)⟩
/-- What opening a line leaves. -/
def OpP (w : World) (s : ByteArray) (e : Ending) (w' : World) : Prop := ∃ t r, e = .returned (.tuple #[.string t, .bool r]) ∧ Below w.heap.size w w' ∧ (r = false → openO s = none) ∧ (r = true → openO s = some t)
theorem retB {s t : ByteArray} {a b : Bool} (h : s = t) (k : a = b) : Ending.returned (.tuple #[.string s, .bool a]) = .returned (.tuple #[.string t, .bool b]) := by rw [h, k]

set_option maxHeartbeats 4000000 in
theorem specOpen_any (s : ByteArray) (w : World) (hs : s.size < 1099511627776) :
    Calls Tryd.prog 25 #[.string s] w fun e w' => OpP w s e w' := by
  go_enter Tryd.func25, Tryd.ntmps25
  go_wp2
  go_loopw [4, 5] (fun s4 s5 wr => ∃ (i n : Nat), i ≤ s.size ∧ s5 = .int .i64 i ∧ s4 = .int .i64 n ∧ ((n = 0 ∧ opn s.data.toList = opn (s.data.toList.drop i)) ∨ (n = 1 ∧ opn s.data.toList = aft (s.data.toList.drop i))) ∧ Below w.heap.size w wr) (fun _ s5 _ => s.size - (intOf s5).toNat)
  case atStart => exact ⟨0, 0, by omega, rfl, rfl, .inl ⟨rfl, rfl⟩, Below.refl _ _⟩
  case round =>
    obtain ⟨i, n, hi, rfl, rfl, hn0, hB0⟩ := hrel
    have HB : Hid (Below w.heap.size w wr) := hB0
    clear hB0
    have kk : (0 : Int) ≤ (i : Int) := by omega
    by_cases hlt : i < s.size
    · have hlt' : (i : Int) < (s.size : Int) := by omega
      have hdr := drop_at s i hlt
      by_cases hc : s[i] = 58
      · have hcb : (((s[i]'hlt).toNat : Int) == 58) = true := by rw [beq_iff_eq]; have := (c58 _).1 hc; omega
        rcases hn0 with ⟨rfl, hn⟩ | ⟨rfl, hn⟩
        · have HN : Hid (opn s.data.toList = aft (s.data.toList.drop (i + 1))) := by
            show _ = _
            rw [hn, hdr]
            unfold opn
            rw [show aft (s[i] :: s.data.toList.drop (i + 1)) = some (s.data.toList.drop (i + 1)) by unfold aft; rw [if_pos hc]]
            rfl
          clear hn hdr hc
          go_wp2
          go_roundw
          case rel => exact ⟨i + 1, 1, by omega, by go_num, rfl, .inr ⟨rfl, HN.out⟩, HB.out⟩
          case measure => simp [intOf]; omega
        · have HN : Hid (opn s.data.toList = some (s.data.toList.drop (i + 1))) := by
            show _ = _
            rw [hn, hdr]
            unfold aft
            rw [if_pos hc]
          obtain ⟨t, ht⟩ : ∃ t, t = s.extract (i + 1) s.size := ⟨_, rfl⟩
          have HT : Hid (t = ⟨(s.data.toList.drop (i + 1)).toArray⟩) := by show _ = _; rw [ht, ex_drop s (i + 1) (by omega)]
          have hts : t.size < 1099511627776 := by rw [ht, ByteArray.size_extract]; omega
          have SE : Hid (∀ W : World, Calls Tryd.prog 23 #[.string (s.extract (i + 1) s.size)] W fun e w' => e = .returned (.string (sealS t)) ∧ Below W.heap.size W w') := fun W => by rw [← ht]; exact specSeal_any t W hts
          have HO : Hid (openO s = if sealS t = s then some t else none) := by
            show _ = _
            unfold openO
            rw [HN.out]
            show (if sealS ⟨(s.data.toList.drop (i + 1)).toArray⟩ = s then some (⟨(s.data.toList.drop (i + 1)).toArray⟩ : ByteArray) else none) = _
            rw [← HT.out]
          have HX : Hid (s.extract (i + 1) s.size = t) := ht.symm
          clear hn hdr hc ht HT
          have k0 : IntKind.i64.wrap ((i : Int) + 1) = (i : Int) + 1 := by rw [IntKind.wrap_i64]; omega
          have k1 : (0 : Int) ≤ (i : Int) + 1 := by omega
          have k2 : (i : Int) + 1 ≤ (s.size : Int) := by omega
          have k3 : ((i : Int) + 1).toNat = i + 1 := by omega
          generalize hq : sealS t = q at *
          go_wp2
          refine wp_region_held_drew (S := (fun w' => Below w.heap.size w w')) (by kernel_rfl) ?_ (fun hHeld => ?_)
          · (try dsimp only)
            exact (bel_next HB (bel_drew _)).out
          refine wpAnyH_take (i := 0) (v := ?_) rfl (by kernel_rfl) (by kernel_rfl) (by kernel_rfl) (fun _ _ _ h => h) (Or.inl ⟨by rfl, ?_⟩) (by assumption) ?_
          rotate_left
          · intro w' hSw
            (try dsimp only at hSw)
            go_simp
            all_goals (try with_reducible rfl)
          (try simp only [Act.put, List.getElem_toArray, List.getElem_cons_zero, List.getElem_cons_succ, List.setIfInBounds_toArray, List.set_cons_zero, List.set_cons_succ])
          refine wpAnyH_take (i := 1) (v := ?_) rfl (by kernel_rfl) (by kernel_rfl) (by kernel_rfl) (fun _ _ _ h => h) (Or.inl ⟨by rfl, ?_⟩) (by assumption) ?_
          rotate_left
          · intro w' hSw
            (try dsimp only at hSw)
            go_simp
            all_goals (try with_reducible rfl)
          (try simp only [Act.put, List.getElem_toArray, List.getElem_cons_zero, List.getElem_cons_succ, List.setIfInBounds_toArray, List.set_cons_zero, List.set_cons_succ])
          refine wpAnyH_take (i := 2) (v := ?_) rfl (by kernel_rfl) (by kernel_rfl) (by kernel_rfl) (fun _ _ _ h => h) (Or.inl ⟨by rfl, ?_⟩) (by assumption) ?_
          rotate_left
          · intro w' hSw
            (try dsimp only at hSw)
            go_simp
            all_goals (try with_reducible rfl)
          (try simp only [Act.put, List.getElem_toArray, List.getElem_cons_zero, List.getElem_cons_succ, List.setIfInBounds_toArray, List.set_cons_zero, List.set_cons_succ])
          refine wpAnyH_take (i := 3) (v := ?_) rfl (by kernel_rfl) (by kernel_rfl) (by kernel_rfl) (fun _ _ _ h => h) (Or.inl ⟨by rfl, ?_⟩) (by assumption) ?_
          rotate_left
          · intro w' hSw
            (try dsimp only at hSw)
            go_simp
            all_goals (try with_reducible rfl)
          (try simp only [Act.put, List.getElem_toArray, List.getElem_cons_zero, List.getElem_cons_succ, List.setIfInBounds_toArray, List.set_cons_zero, List.set_cons_succ])
          refine wpAnyH_take (i := 4) (v := ?_) rfl (by kernel_rfl) (by kernel_rfl) (by kernel_rfl) (fun _ _ _ h => h) (Or.inl ⟨by rfl, ?_⟩) (by assumption) ?_
          rotate_left
          · intro w' hSw
            (try dsimp only at hSw)
            go_simp
            all_goals (try with_reducible rfl)
          (try simp only [Act.put, List.getElem_toArray, List.getElem_cons_zero, List.getElem_cons_succ, List.setIfInBounds_toArray, List.set_cons_zero, List.set_cons_succ])
          refine wpAnyH_take (i := 5) (v := ?_) rfl (by kernel_rfl) (by kernel_rfl) (by kernel_rfl) (fun _ _ _ h => h) (Or.inl ⟨by rfl, ?_⟩) (by assumption) ?_
          rotate_left
          · intro w' hSw
            (try dsimp only at hSw)
            go_simp
            all_goals (try with_reducible rfl)
          (try simp only [Act.put, List.getElem_toArray, List.getElem_cons_zero, List.getElem_cons_succ, List.setIfInBounds_toArray, List.set_cons_zero, List.set_cons_succ])
          refine wpAnyH_take (i := 6) (v := ?_) rfl (by kernel_rfl) (by kernel_rfl) (by kernel_rfl) (fun _ _ _ h => h) (Or.inl ⟨by rfl, ?_⟩) (by assumption) ?_
          rotate_left
          · intro w' hSw
            (try dsimp only at hSw)
            go_simp
            all_goals (try with_reducible rfl)
          (try simp only [Act.put, List.getElem_toArray, List.getElem_cons_zero, List.getElem_cons_succ, List.setIfInBounds_toArray, List.set_cons_zero, List.set_cons_succ])
          refine wpAnyH_take (i := 7) (v := ?_) rfl (by kernel_rfl) (by kernel_rfl) (by kernel_rfl) (fun _ _ _ h => h) (Or.inl ⟨by rfl, ?_⟩) (by assumption) ?_
          rotate_left
          · intro w' hSw
            (try dsimp only at hSw)
            go_simp
            all_goals (try with_reducible rfl)
          (try simp only [Act.put, List.getElem_toArray, List.getElem_cons_zero, List.getElem_cons_succ, List.setIfInBounds_toArray, List.set_cons_zero, List.set_cons_succ])
          refine wpAnyH_take (i := 9) (v := ?_) rfl (by kernel_rfl) (by kernel_rfl) (by kernel_rfl) (fun _ _ _ h => h) (Or.inl ⟨by rfl, ?_⟩) (by assumption) ?_
          rotate_left
          · intro w' hSw
            (try dsimp only at hSw)
            go_simp
            all_goals (try with_reducible rfl)
          (try simp only [Act.put, List.getElem_toArray, List.getElem_cons_zero, List.getElem_cons_succ, List.setIfInBounds_toArray, List.set_cons_zero, List.set_cons_succ])
          refine wpAnyH_ready (rs := [8]) (by kernel_rfl) (by simp) ?_
          refine AllReadyH.cons rfl (fun K hK => ?_) AllReadyH.nil
          (try simp only [Act.put, List.getElem_toArray, List.getElem_cons_zero, List.getElem_cons_succ, List.setIfInBounds_toArray, List.set_cons_zero, List.set_cons_succ])
          go_simp
          (go_at_call 23; refine Calls.mono (SE.out _) ?_; rintro e w2 ⟨rfl, hb⟩)
          (try simp only [])
          refine hK.out _ _ ?_ (fun hHeld' => ?_)
          · (try dsimp only)
            exact (bel_next (w := w) hHeld hb).out
          clear hK K
          clear hHeld
          have hHeld := hHeld'
          clear hHeld'
          clear hb
          (try simp only [Act.put, List.getElem_toArray, List.getElem_cons_zero, List.getElem_cons_succ, List.setIfInBounds_toArray, List.set_cons_zero, List.set_cons_succ])
          refine wpAnyH_take (i := 10) (v := ?_) rfl (by kernel_rfl) (by kernel_rfl) (by kernel_rfl) (fun _ _ _ h => h) (Or.inl ⟨by rfl, ?_⟩) (by assumption) ?_
          rotate_left
          · intro w' hSw
            (try dsimp only at hSw)
            go_simp
            all_goals (try with_reducible rfl)
          (try simp only [Act.put, List.getElem_toArray, List.getElem_cons_zero, List.getElem_cons_succ, List.setIfInBounds_toArray, List.set_cons_zero, List.set_cons_succ])
          refine wpAnyH_take (i := 11) (v := ?_) rfl (by kernel_rfl) (by kernel_rfl) (by kernel_rfl) (fun _ _ _ h => h) (Or.inl ⟨by rfl, ?_⟩) (by assumption) ?_
          rotate_left
          · intro w' hSw
            (try dsimp only at hSw)
            go_simp
            all_goals (try with_reducible rfl)
          (try simp only [Act.put, List.getElem_toArray, List.getElem_cons_zero, List.getElem_cons_succ, List.setIfInBounds_toArray, List.set_cons_zero, List.set_cons_succ])
          refine wpAnyH_take (i := 12) (v := ?_) rfl (by kernel_rfl) (by kernel_rfl) (by kernel_rfl) (fun _ _ _ h => h) (Or.inl ⟨by rfl, ?_⟩) (by assumption) ?_
          rotate_left
          · intro w' hSw
            (try dsimp only at hSw)
            go_simp
            all_goals (try with_reducible rfl)
          (try simp only [Act.put, List.getElem_toArray, List.getElem_cons_zero, List.getElem_cons_succ, List.setIfInBounds_toArray, List.set_cons_zero, List.set_cons_succ])
          refine wpAnyH_done (by kernel_rfl) ?_ _
          have HB9 : Hid (Below w.heap.size w _) := hHeld
          clear hHeld
          go_wp2
          go_ret2
          refine ⟨t, (q.toList == s.toList), ?_, HB9.out, ?_, ?_⟩
          · exact retB HX.out rfl
          · intro h
            rw [HO.out, if_neg (fun e => by have := (Lib.bytes_beq_iff q s).2 e; rw [h] at this; cases this)]
          · intro h
            rw [HO.out, if_pos ((Lib.bytes_beq_iff q s).1 h)]
      · have hcb : (((s[i]'hlt).toNat : Int) == 58) = false := beq_eq_false_iff_ne.2 (fun e => hc ((c58 _).2 (by omega)))
        rcases hn0 with ⟨rfl, hn⟩ | ⟨rfl, hn⟩
        · have HN : Hid (opn s.data.toList = opn (s.data.toList.drop (i + 1))) := by
            show _ = _
            rw [hn, hdr]
            unfold opn
            rw [show aft (s[i] :: s.data.toList.drop (i + 1)) = aft (s.data.toList.drop (i + 1)) by conv => lhs; unfold aft; rw [if_neg hc]]
          clear hn hdr hc
          go_wp2
          go_roundw
          case rel => exact ⟨i + 1, 0, by omega, by go_num, rfl, .inl ⟨rfl, HN.out⟩, HB.out⟩
          case measure => simp [intOf]; omega
        · have HN : Hid (opn s.data.toList = aft (s.data.toList.drop (i + 1))) := by
            show _ = _
            rw [hn, hdr]
            conv => lhs; unfold aft; rw [if_neg hc]
          clear hn hdr hc
          go_wp2
          go_roundw
          case rel => exact ⟨i + 1, 1, by omega, by go_num, rfl, .inr ⟨rfl, HN.out⟩, HB.out⟩
          case measure => simp [intOf]; omega
    · have hlt' : ¬ (i : Int) < (s.size : Int) := by omega
      have HO : Hid (openO s = none) := by
        show _ = _
        have hd : s.data.toList.drop i = [] := List.drop_of_length_le (by rw [Array.length_toList]; show s.size ≤ i; omega)
        have ho : opn s.data.toList = none := by
          rcases hn0 with ⟨_, hn⟩ | ⟨_, hn⟩
          · rw [hn, hd]; rfl
          · rw [hn, hd]; rfl
        unfold openO
        rw [ho]
        rfl
      clear hn0
      go_wp2
      go_ret2
      refine ⟨⟨#[]⟩, false, ?_, HB.out, ?_, ?_⟩
      · rfl
      · exact fun _ => HO.out
      · intro h; cases h
end Go.Proofs.YtnpkilgnkgkenaaDoor
