/- What a view of one part tells. -/
import Derived.Test.YtomcpdbaenohdaaRows
import Derived.WalkKit
import Derived.WalkSpells
import Derived.WalkLawsBesides
import Derived.Deep.QuietTactic
import Derived.BigQuiet
import Derived.Deep.RegionHeld3
import Derived.Test.YtomcpdbaenohdaaTc
import Derived.Test.YtomcpdbaenohdaaVo
import Derived.Test.YtomcpdbaenohdaaIter
import Derived.LoopN
namespace Go.Proofs.Ytomcpdbaenohdaa
open Go.RowKit
set_option linter.unusedSimpArgs false
set_option linter.unusedVariables false

/-- Texts, as they lie in memory. -/
def strs (ks : List ByteArray) : List Value := ks.map (fun s => .string s)
theorem own_zero {W : World} {base e size n : Nat} {v : Value} {xs : List Value} (h : W.ownsRow base e size v n xs) : W.ownsRow 0 e size v n xs ∧ ∀ k, v.ownBlock = some k → base ≤ k := by
  refine ⟨⟨h.1, ?_⟩, fun k hk => ?_⟩
  · rcases h.2 with h' | ⟨g, cap, cur, h1, h2, r⟩
    · exact .inl h'
    · exact .inr ⟨g, cap, cur, h1, Nat.zero_le _, r⟩
  · rcases h.2 with ⟨h', _⟩ | ⟨g, cap, cur, h1, h2, r⟩
    · rw [h'] at hk; cases hk
    · rw [h1] at hk; cases hk; exact h2
def KeysP (n : Nat) (vs : List Value) (W0 : World) (e : Ending) (w' : World) : Prop := ∃ p c, e = .returned (.slice p n c) ∧ GRow W0.heap.size w' p vs ∧ Below W0.heap.size W0 w'
theorem keysP_of {W w' : World} {e n : Nat} {v : Value} {xs : List Value} {r : Ending} (hr : r = .returned v) (h : w'.ownsRow W.heap.size e 1 v n xs) (hb : Below W.heap.size W w') : KeysP n xs W r w' := by
  obtain ⟨h0, hge⟩ := own_zero h
  obtain ⟨p, c, rfl, _, hG⟩ := own_grow (lo := W.heap.size) h0 hge
  exact ⟨p, c, hr, hG, hb⟩
theorem keys_out (vb n : Nat) (pt : Int) (M : Int → Option Value) (W : World) (h : MapI W Try.prog 3 vb n M) (hM : ∀ s, (M s).isSome = true ↔ s ∈ [pt]) :
    Calls Try.prog 44 #[.map (some vb)] W (fun e w' => e = .returned (.func (.func 53) #[] #[.pointer (some ⟨W.heap.size, 0, none⟩)]) ∧ w' = (W.alloc (.cells #[.map (some vb)] 48))) ∧ Calls Try.prog 43 #[.func (.func 53) #[] #[.pointer (some ⟨W.heap.size, 0, none⟩)]] (W.alloc (.cells #[.map (some vb)] 48)) (KeysP 1 [.int .i64 pt] (W.alloc (.cells #[.map (some vb)] 48))) := by
  obtain ⟨D, hown, hsz, hs⟩ := h.sorted Try.underlying3 hM (by simp)
  refine ⟨callsIn_wide.1 (Try.maps_Keys_44 (some vb) W), ?_⟩
  refine (callsIn_wide.1 (Try.slices_Sorted_keys_43_44 vb n D rawE W hown (by rw [hsz]; unfold maxLen; simp) (by rw [hsz]; simp))).mono ?_
  rintro e w' ⟨v, ss, rfl, hp, ho, _, hb⟩
  have h1 := hs ss hp
  have h2 : ss.length = 1 := by
    have := congrArg List.length h1
    rw [List.length_mergeSort] at this
    exact this
  rw [h1, h2] at ho
  exact keysP_of rfl ho hb
theorem keys_inn (b n : Nat) (ks : List ByteArray) (M : ByteArray → Option Value) (W : World) (hl : ks.length ≤ 100000) (h : MapF W Try.prog 9 b n M) (hM : ∀ s, (M s).isSome = true ↔ s ∈ ks) (hlt : (ks.map (fun s => s.data.toList)).Pairwise (fun a b => a < b)) :
    Calls Try.prog 46 #[.map (some b)] W (fun e w' => e = .returned (.func (.func 56) #[] #[.pointer (some ⟨W.heap.size, 0, none⟩)]) ∧ w' = (W.alloc (.cells #[.map (some b)] 50))) ∧ Calls Try.prog 45 #[.func (.func 56) #[] #[.pointer (some ⟨W.heap.size, 0, none⟩)]] (W.alloc (.cells #[.map (some b)] 50)) (KeysP ks.length (strs ks) (W.alloc (.cells #[.map (some b)] 50))) := by
  obtain ⟨D, hown, hsz, hs⟩ := h.sorted Try.underlying9 hM hlt
  refine ⟨callsIn_wide.1 (Try.maps_Keys_46 (some b) W), ?_⟩
  refine (callsIn_wide.1 (Try.slices_Sorted_keys_45_46 b n D rawE W hown (by rw [hsz]; unfold maxLen; omega) (by rw [hsz]; omega))).mono ?_
  rintro e w' ⟨v, ss, rfl, hp, ho, _, hb⟩
  have h1 := hs ss hp
  have h2 : ss.length = ks.length := by
    have := congrArg List.length h1
    rw [List.length_mergeSort, List.length_map] at this
    exact this
  rw [h1, h2] at ho
  have hv : (ks.map (fun s => s.data.toList)).map encStr = strs ks := by
    simp only [strs, List.map_map]
    refine List.map_congr_left (fun m _ => ?_)
    simp [encStr]
  rw [hv] at ho
  exact keysP_of rfl ho hb
theorem keys_nil (W : World) :
    Calls Try.prog 46 #[.map none] W (fun e w' => e = .returned (.func (.func 56) #[] #[.pointer (some ⟨W.heap.size, 0, none⟩)]) ∧ w' = (W.alloc (.cells #[.map none] 50))) ∧ Calls Try.prog 45 #[.func (.func 56) #[] #[.pointer (some ⟨W.heap.size, 0, none⟩)]] (W.alloc (.cells #[.map none] 50)) (KeysP 0 (strs []) (W.alloc (.cells #[.map none] 50))) := by
  refine ⟨callsIn_wide.1 (Try.maps_Keys_46 none W), ?_⟩
  refine (callsIn_wide.1 (Try.slices_Sorted_keys_nil_45_46 W)).mono ?_
  rintro e w' ⟨v, ss, rfl, rfl, ho, _, hb⟩
  rw [List.mergeSort_nil] at ho
  exact keysP_of rfl ho hb
/-- What a map of rows answers at each key. -/
def InnP (ib : Option Nat) (L : List Rm) (w : World) : Prop := (ib = none ∧ L = []) ∨ ∃ b n M, ib = some b ∧ MapF w Try.prog 9 b n M ∧ (∀ s, (M s).isSome = true ↔ s ∈ L.map (·.r.key)) ∧ ∀ x ∈ L, M x.r.key = some (rowV x)
theorem InnP.next {ib : Option Nat} {L : List Rm} {w w' : World} (h : InnP ib L w) (hb : Below w.heap.size w w') : InnP ib L w' := by
  rcases h with h | ⟨b, n, M, h1, h2, h3, h4⟩
  · exact .inl h
  · exact .inr ⟨b, n, M, h1, h2.next hb, h3, h4⟩
theorem InnP.keys {ib : Option Nat} {L : List Rm} {W : World} (h : InnP ib L W) (hl : L.length ≤ 400) (hlt : ((L.map (·.r.key)).map (fun s => s.data.toList)).Pairwise (fun a b => a < b)) :
    Calls Try.prog 46 #[.map ib] W (fun e w' => e = .returned (.func (.func 56) #[] #[.pointer (some ⟨W.heap.size, 0, none⟩)]) ∧ w' = (W.alloc (.cells #[.map ib] 50))) ∧ Calls Try.prog 45 #[.func (.func 56) #[] #[.pointer (some ⟨W.heap.size, 0, none⟩)]] (W.alloc (.cells #[.map ib] 50)) (KeysP L.length (strs (L.map (·.r.key))) (W.alloc (.cells #[.map ib] 50))) := by
  rcases h with ⟨rfl, rfl⟩ | ⟨b, n, M, rfl, h2, h3, h4⟩
  · exact keys_nil W
  · have := keys_inn b n (L.map (·.r.key)) M W (by simp; omega) h2 h3 hlt
    rw [List.length_map] at this
    exact this
theorem InnP.look {ib : Option Nat} {L : List Rm} {W : World} (h : InnP ib L W) {x : Rm} (hx : x ∈ L) (hk : x.r.key.size ≤ maxLen) : (Instr.lookup 50 (.map ib) (.string x.r.key) false).run Try.prog W = .ok (.agg #[.int .i64 x.r.part, .string x.r.key, .slice x.p x.r.vs.length x.q]) W := by
  rcases h with ⟨rfl, rfl⟩ | ⟨b, n, M, rfl, h2, h3, h4⟩
  · simp at hx
  · have := h2.look (t := 50) Try.underlying9 Try.underlying50 (zeroRow _) false x.r.key hk
    rw [h4 x hx] at this
    exact this
structure TdI (lo : Nat) (w W : World) (L : List Rm) (j : Nat) (po : Option Addr) (pc : Nat) (ns : List Rm) : Prop where
  t : TI lo W po pc ns
  r : ns.map Rm.r = (L.take j).map Rm.r
  n : ns.length = j
  b : Below w.heap.size w W
theorem TdI.next {lo : Nat} {w W W' : World} {L : List Rm} {j : Nat} {po : Option Addr} {pc : Nat} {ns : List Rm} (h : TdI lo w W L j po pc ns) (hb : Below W.heap.size W W') : TdI lo w W' L j po pc ns := ⟨h.t.next hb, h.r, h.n, h.b.trans (hb.mono h.b.size)⟩
def TdP (L : List Rm) (w : World) (e : Ending) (w' : World) : Prop := ∃ po pc ns, e = .returned (.tuple #[.slice po L.length pc, .int .i64 0]) ∧ ns.map Rm.r = L.map Rm.r ∧ TI w.heap.size w' po pc ns ∧ Below w.heap.size w w'
theorem TI.weak {lo lo' : Nat} {W : World} {po : Option Addr} {pc : Nat} {ns : List Rm} (h : TI lo W po pc ns) (hl : lo' ≤ lo) : TI lo' W po pc ns := ⟨h.own.weak hl, fun m hm => ⟨(h.sub m hm).1.weak hl, (h.sub m hm).2⟩, h.apart⟩
def TdJ (lo : Nat) (w : World) (L : List Rm) (j : Nat) (s : Value) (W : World) : Prop := ∃ po pc ns, s = .slice po j pc ∧ TdI lo w W L j po pc ns
set_option maxRecDepth 100000 in
set_option maxHeartbeats 4000000 in
theorem told_any (lo vb : Nat) (pt : Int) (ib : Option Nat) (L : List Rm) (w : World) (hO : MapI w Try.prog 3 vb 1 (msetI (fun _ => none) pt (.map ib))) (hw : (Lit.int .i64 pt).wf = true) (hI : InnP ib L w) (hl : L.length ≤ 400) (hlt : ((L.map (·.r.key)).map (fun s => s.data.toList)).Pairwise (fun a b => a < b))
    (hx : ∀ x ∈ L, GRow lo w x.p (ints x.r.vs) ∧ 0 < x.r.vs.length ∧ x.r.vs.length ≤ 1048576 ∧ x.r.key.size ≤ maxLen) :
    Calls Try.prog 28 #[.map (some vb)] w (TdP L w) := by
  have HI : Hid (∀ W, Below w.heap.size w W → InnP ib L W) := fun W hW => hI.next hW
  have HX : Hid (∀ x ∈ L, GRow lo w x.p (ints x.r.vs) ∧ 0 < x.r.vs.length ∧ x.r.vs.length ≤ 1048576 ∧ x.r.key.size ≤ maxLen) := hx
  have KO : Hid _ := keys_out vb 1 pt _ w hO (fun s => by
    unfold msetI
    by_cases e : s = pt
    · simp [e]
    · simp [e])
  have KI : Hid (∀ W, Below w.heap.size w W → Calls Try.prog 46 #[.map ib] W (fun e w' => e = .returned (.func (.func 56) #[] #[.pointer (some ⟨W.heap.size, 0, none⟩)]) ∧ w' = (W.alloc (.cells #[.map ib] 50))) ∧ Calls Try.prog 45 #[.func (.func 56) #[] #[.pointer (some ⟨W.heap.size, 0, none⟩)]] (W.alloc (.cells #[.map ib] 50)) (KeysP L.length (strs (L.map (·.r.key))) (W.alloc (.cells #[.map ib] 50)))) := fun W hW => (hI.next hW).keys hl hlt
  have LO : Hid (∀ W, Below w.heap.size w W → (Instr.lookup 48 (.map (some vb)) (.int .i64 pt) false).run Try.prog W = .ok (.map ib) W) := fun W hW => by
    have := (hO.next hW).look (t := 48) Try.underlying3 Try.underlying48 (zeroMap _) false pt hw
    rw [show msetI (fun _ => none) pt (.map ib) pt = some (.map ib) from if_pos rfl] at this
    exact this
  clear hO hI hx hlt hw
  go_enter Try.func28, Try.ntmps28
  go_wp2_with fail
  refine Calls.mono KO.out.1 ?_
  rintro e w2 ⟨rfl, rfl⟩
  go_wp2_with fail
  refine Calls.mono KO.out.2 ?_
  rintro e w3 ⟨p1, c1, rfl, hG, hb⟩
  have G3 : Hid (GRow 0 w3 p1 [.int .i64 pt]) := hG.weak (Nat.zero_le _)
  have B3 : Hid (Below w.heap.size w w3) := (bel_alloc _ _).trans (hb.mono (by simp))
  clear hG hb KO
  go_wp2
  go_loopw [4, 14] (fun s4 s14 wr => (s14 = .int .i64 0 ∧ s4 = .slice none 0 0 ∧ wr = w3) ∨ (s14 = .int .i64 1 ∧ TdJ w.heap.size w L L.length s4 wr)) (fun _ s14 _ => 1 - (Go.RowKit.intOf s14).toNat)
  case atStart => exact .inl ⟨rfl, rfl, rfl⟩
  case round =>
    rcases hrel with ⟨rfl, rfl, rfl⟩ | ⟨rfl, hJ⟩
    · rcases G3.out with h' | ⟨b, off, rfl, _, h2⟩
      · simp at h'
      have x0 : wr.cell? ⟨b, off, none⟩ = some (.int .i64 pt) := by simpa using h2 0 (by simp)
      clear h2
      have lk := LO.out _ B3.out
      go_upto_region 6 with fail
      clear x0 lk
      go_wp2_with fail
      refine Calls.mono (KI.out _ B3.out).1 ?_
      rintro e w4 ⟨rfl, rfl⟩
      go_wp2_with fail
      refine Calls.mono (KI.out _ B3.out).2 ?_
      rintro e w5 ⟨p2, c2, rfl, hG, hb⟩
      have B5 : Hid (Below w.heap.size w w5) := (B3.out.trans ((bel_alloc _ _).mono B3.out.size)).trans (hb.mono (by have := B3.out.size; simp; omega))
      have G5 : Hid (GRow 0 w5 p2 (strs (L.map (·.r.key)))) := hG.weak (Nat.zero_le _)
      clear hG hb KI G3 LO
      go_wp2
      go_loopw [4, 25] (fun s4 s25 wr => ∃ j : Nat, j ≤ L.length ∧ s25 = .int .i64 j ∧ TdJ w5.heap.size w L j s4 wr ∧ Below w5.heap.size w5 wr) (fun _ s25 _ => L.length - (Go.RowKit.intOf s25).toNat)
      case atStart => exact ⟨0, by omega, rfl, ⟨none, 0, [], rfl, TI.nil _ _, rfl, rfl, B5.out⟩, Below.refl _ _⟩
      case round =>
        obtain ⟨j, hj, rfl, hJ, hB0⟩ := hrel
        obtain ⟨po, pc, ns, rfl, hT0⟩ := hJ
        have HT : Hid (TdI w5.heap.size w wr L j po pc ns) := hT0
        have HB : Hid (Below w5.heap.size w5 wr) := hB0
        clear hT0 hB0
        have j0 : (0 : Int) ≤ (j : Int) := by omega
        by_cases hjl : j < L.length
        · have hjl' : (j : Int) < (L.length : Int) := by omega
          have hml := List.getElem_mem hjl
          rcases G5.out with h' | ⟨b2, off2, rfl, _, h2⟩
          · have := congrArg List.length h'
            simp [strs] at this
            rw [this] at hjl
            simp at hjl
          have x0 : wr.cell? ⟨b2, off2 + j, none⟩ = some (.string L[j].r.key) := by
            have h3 := h2 j (by simpa [strs] using hjl)
            have h4 := cell_next HB.out h3 (cell_lt (x := ⟨b2, off2 + j, none⟩) h3)
            simpa [strs] using h4
          have lk := (HI.out _ HT.out.b).look hml (HX.out _ hml).2.2.2
          have CR : Hid (Calls Try.prog 47 #[.agg #[.int .i64 L[j].r.part, .string L[j].r.key, .slice L[j].p L[j].r.vs.length L[j].q]] wr fun e w' => ∃ y : Rm, y.r = L[j].r ∧ e = .returned (.agg #[.int .i64 y.r.part, .string y.r.key, .slice y.p y.r.vs.length y.q]) ∧ Sub wr.heap.size w' y ∧ Below wr.heap.size wr w') := copyRow_any lo L[j] wr (HX.out _ hml).2.2.1 (HX.out _ hml).2.1 ((HX.out _ hml).1.next HT.out.b)
          have HS : Hid (∀ (y : Rm) W po' pc', y.r = L[j].r → TI w5.heap.size W po' pc' (ns ++ [y]) → Below w.heap.size w W → TdI w5.heap.size w W L (j + 1) po' pc' (ns ++ [y])) := fun y W po' pc' h1 h2 h3 => ⟨h2, by rw [List.map_append, HT.out.r, List.take_succ_eq_append_getElem hjl, List.map_append, List.map_cons, List.map_nil, List.map_cons, List.map_nil, h1], by simp [HT.out.n], h3⟩
          have HN : Hid (ns.length = j) := HT.out.n
          clear h2 hml
          generalize L[j] = x at *
          go_wp2_with fail
          refine CR.out.mono ?_
          rintro e W1 ⟨y, hy, rfl, hSub, hb⟩
          have O1 : Hid (OwnG W1 38 3 (.slice po j pc) j (flatR ns) w5.heap.size) := by
            have := HT.out.t.own.next hb
            rw [HN.out] at this
            exact this
          have HY : Hid (y.r = x.r ∧ Sub wr.heap.size W1 y ∧ Below wr.heap.size wr W1) := ⟨hy, hSub, hb⟩
          clear hy hSub hb x0 lk CR
          obtain ⟨W2, hW2⟩ : ∃ W2, W2 = W1.alloc (.cells #[.int .i64 y.r.part, .string y.r.key, .slice y.p y.r.vs.length y.q] 38) := ⟨_, rfl⟩
          have LT : Hid (GRow 0 W2 (some ⟨W1.heap.size, 0, none⟩) (flatR [y]) ∧ Below W1.heap.size W1 W2) := ⟨hW2 ▸ row_lit, hW2 ▸ bel_alloc _ _⟩
          have O2 : Hid (OwnG W2 38 3 (.slice po j pc) j (flatR ns) w5.heap.size ∧ w5.heap.size ≤ W2.heap.size) := ⟨O1.out.next LT.out.2, by have := HB.out.size; have := HY.out.2.2.size; have := LT.out.2.size; omega⟩
          clear O1
          go_wp2_with (first | (at_builtin; rw [← hW2]; refine wpList_appG elR rfl _ _ rfl (.slice po j pc) j (flatR ns) w5.heap.size (j + 1) rfl O2.out.1 O2.out.2 (some ⟨W1.heap.size, 0, none⟩) 1 1 (flatR [y]) rfl (by simp [flatR]) (flatR_one _) 0 LT.out.1 (by omega) rfl ?_) | go_in)
          intro vo vc W3 hO hG _
          rw [← hW2] at hG
          have HB3 : Hid (Below w5.heap.size w5 W3) := ((HB.out.trans (HY.out.2.2.mono HB.out.size)).trans (LT.out.2.mono (Nat.le_trans HB.out.size HY.out.2.2.size))).trans (hG.below O2.out.2 (fun k hk => O2.out.1.ge k hk))
          have HD : Hid (TdJ w5.heap.size w L (j + 1) (.slice vo (j + 1) vc) W3) := by
            have hn := HN.out
            subst hn
            have t2 := (HT.out.t.next HY.out.2.2).next LT.out.2
            have hs2 : Sub wr.heap.size W2 y := HY.out.2.1.next LT.out.2
            have t3 := t2.add hs2 HB.out.size (fun m hm => (HT.out.t.sub m hm).1.up) (fun k hk => (HT.out.t.own.lt k hk).2) hO hG
            exact ⟨vo, vc, ns ++ [y], rfl, HS.out y W3 vo vc HY.out.1 t3 (B5.out.trans (HB3.out.mono B5.out.size))⟩
          clear hO hG O2 LT HY HT HB HS HN hW2
          go_wp2
          go_roundw
          case rel => exact ⟨j + 1, by omega, by go_num, HD.out, HB3.out⟩
          case measure => simp [Go.RowKit.intOf]; omega
        · have hjl' : ¬ (j : Int) < (L.length : Int) := by omega
          have hje : j = L.length := by omega
          subst hje
          have HJ : Hid (TdJ w.heap.size w L L.length (.slice po L.length pc) wr) := ⟨po, pc, ns, rfl, HT.out.t.weak B5.out.size, HT.out.r, HT.out.n, HT.out.b⟩
          clear HT HB G5
          go_wp2
          go_roundw
          case rel => exact .inr ⟨by go_num, HJ.out⟩
          case measure => simp [Go.RowKit.intOf]
    · obtain ⟨po, pc, ns, rfl, hT0⟩ := hJ
      have HT : Hid (TdI w.heap.size w wr L L.length po pc ns) := hT0
      clear hT0 KI HI HX LO G3
      have hl' : ¬ (400 : Int) < (L.length : Int) := by omega
      go_wp2
      go_ret2
      refine ⟨po, pc, ns, rfl, ?_, HT.out.t, HT.out.b⟩
      have := HT.out.r
      rw [List.take_length] at this
      exact this
end Go.Proofs.Ytomcpdbaenohdaa
