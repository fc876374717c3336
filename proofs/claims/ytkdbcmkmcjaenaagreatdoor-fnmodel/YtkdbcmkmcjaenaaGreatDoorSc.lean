/- A sibling is put at its place. -/
import Derived.Test.YtkdbcmkmcjaenaaGreatDoorRows
import Derived.WalkKit
import Derived.WalkSpells
import Derived.WalkLawsBesides
import Derived.Deep.QuietTactic
import Derived.BigQuiet
import Derived.Deep.RegionHeld3
import Derived.Test.YtkdbcmkmcjaenaaGreatDoorSb
import Derived.LoopN
import Derived.OwnWalk
namespace Go.Proofs.YtkdbcmkmcjaenaaGreatDoor
open Go.RowKit
set_option linter.unusedSimpArgs false
set_option linter.unusedVariables false

theorem box_rows {W : World} {g : Nat} {vs : List Value} (h : Box W g vs) : GRow 0 W (some ⟨g, 0, none⟩) vs := .inr ⟨g, 0, rfl, Nat.zero_le _, fun j hj => by
  have := (h.is j hj).1
  rw [Nat.zero_add]
  exact this⟩
theorem growS_pre {lo : Nat} {W : World} {p : Option Addr} {rs : List Sb} {k : Nat} (h : GRow lo W p (flatS rs)) : GRow lo W p (flatS (rs.take k)) := by
  rw [flatS_take]
  rcases h with h | ⟨b, off, h1, h2, h3⟩
  · exact .inl (by rw [h]; simp)
  · refine .inr ⟨b, off, h1, h2, fun j hj => ?_⟩
    have hj2 : j < (flatS rs).length := by simp at hj; omega
    rw [h3 j hj2]
    simp
theorem growS_drop {lo : Nat} {W : World} {g c k : Nat} {rs : List Sb} (h : GRow lo W (some ⟨g, 0, none⟩) (flatS rs)) (hk : k ≤ rs.length) (hc : rs.length ≤ c) : GRow lo W (if c = k then some ⟨g, 0, none⟩ else some ⟨g, k * 4, none⟩) (flatS (rs.drop k)) := by
  by_cases e : c = k
  · rw [if_pos e]
    refine .inl ?_
    rw [List.drop_eq_nil_of_le (by omega)]
    rfl
  · rw [if_neg e, flatS_drop]
    rcases h with h | ⟨b, off, h1, h2, h3⟩
    · exact .inl (by rw [h]; simp)
    · cases h1
      refine .inr ⟨g, k * 4, rfl, h2, fun j hj => ?_⟩
      have hj2 : k * 4 + j < (flatS rs).length := by simp at hj; omega
      have := h3 (k * 4 + j) hj2
      rw [Nat.zero_add] at this
      rw [this]
      simp
/-- A sibling is put at its place. -/
def Tput (rs : List Sb) (x : Sb) (w : World) (e : Ending) (w' : World) : Prop := ∃ g c ss, e = .returned (.slice (some ⟨g, 0, none⟩) ss.length c) ∧ OwnG w' 46 4 (.slice (some ⟨g, 0, none⟩) ss.length c) ss.length (flatS ss) w.heap.size ∧ ss.Pairwise sl ∧ (∀ s, s ∈ ss ↔ (s ∈ rs ∨ s = x)) ∧ Below w.heap.size w w' ∧ ss.length = rs.length + 1
theorem ownS_ins {w W : World} {v : Option Addr} {rs : List Sb} {x : Sb} {k n c LB : Nat} (h : OwnG W 46 4 (.slice v (k + 1 + (n - k)) c) (k + 1 + (n - k)) ((([] ++ flatS (rs.take k)) ++ [.int .i64 x.p, .int .i64 x.n, .int .i64 x.v, .bool x.dead]) ++ flatS (rs.drop k)) LB) (hlo : w.heap.size ≤ LB) (hn : n = rs.length ∧ k ≤ n) (hb : Below w.heap.size w W)
    (hr : rs.Pairwise sl) (h1 : ∀ j (h : j < rs.length), j < k → sl rs[j] x) (h2 : ∀ (h : k < rs.length), sl x rs[k]) : Tput rs x w (.returned (.slice v (k + 1 + (n - k)) c)) W := by
  obtain ⟨g1, g2⟩ := ins_R sl_tr (key := x) hr (by omega) h1 h2
  have hl : (rs.take k ++ x :: rs.drop k).length = k + 1 + (n - k) := by simp; omega
  have ht : flatS (rs.take k ++ x :: rs.drop k) = (([] ++ flatS (rs.take k)) ++ [.int .i64 x.p, .int .i64 x.n, .int .i64 x.v, .bool x.dead]) ++ flatS (rs.drop k) := by simp [flatS_app, flatS, sc]
  have h3 := h.weak hlo
  rcases h.own.2 with ⟨_, h'⟩ | ⟨g, cap, cur, h', _⟩
  · omega
  · cases h'
    refine ⟨g, _, rs.take k ++ x :: rs.drop k, by rw [hl], ?_, g1, g2, hb, by omega⟩
    rw [hl, ht]
    exact h3

set_option maxRecDepth 20000 in
set_option maxHeartbeats 16000000 in
theorem put_any (lo n vc go : Nat) (rs : List Sb) (x : Sb) (w : World) (hn : n = rs.length) (hn2 : rs.length ≤ 4096) (hvc : n ≤ vc) (hri : rs.Pairwise sl) (hne : ∀ s ∈ rs, ¬ (s.p = x.p ∧ s.n = x.n)) (hr0 : GRow lo w (some ⟨go, 0, none⟩) (flatS rs)) :
    Calls Tryz.prog 62 #[.slice (some ⟨go, 0, none⟩) n vc, .agg #[.int .i64 x.p, .int .i64 x.n, .int .i64 x.v, .bool x.dead]] w (Tput rs x w) := by
  have RO : Hid (∀ W, Below w.heap.size w W → GRow lo W (some ⟨go, 0, none⟩) (flatS rs)) := fun W h => hr0.next h
  have HRI : Hid (rs.Pairwise sl) := hri
  have HNE : Hid (∀ s ∈ rs, ¬ (s.p = x.p ∧ s.n = x.n)) := hne
  have HNR : Hid (n = rs.length ∧ n ≤ vc ∧ n ≤ 4096) := ⟨hn, hvc, by omega⟩
  clear hr0 hri hne hn hvc hn2
  go_enter Tryz.func62, Tryz.ntmps62
  go_upto_region 1 with fail
  refine wp_gen (fun W => Box W w.heap.size [.int .i64 x.p, .int .i64 x.n, .int .i64 x.v, .bool x.dead] ∧ Below w.heap.size w W) ⟨box_mk, bel_alloc _ _⟩ (fun W0 hI => ?_)
  obtain ⟨gb, hgb⟩ : ∃ g, g = w.heap.size := ⟨_, rfl⟩
  have Y : Hid (Box W0 gb [.int .i64 x.p, .int .i64 x.n, .int .i64 x.v, .bool x.dead] ∧ Below w.heap.size w W0) := by rw [hgb]; exact hI
  rw [← hgb]
  clear hI hgb
  go_wp2
  go_loopw [5] (fun s5 wr => ∃ k : Nat, k ≤ n ∧ s5 = .int .i64 k ∧ (∀ j (h : j < rs.length), j < k → sl rs[j] x) ∧ Box wr gb [.int .i64 x.p, .int .i64 x.n, .int .i64 x.v, .bool x.dead] ∧ Below w.heap.size w wr) (fun s5 _ => n - (intOf s5).toNat)
  case atStart => exact ⟨0, by omega, rfl, fun j h h' => by omega, Y.out.1, Y.out.2⟩
  case round =>
    clear Y
    obtain ⟨k, hk, rfl, hJ0, hB0, hB1⟩ := hrel
    have Y : Hid (Box wr gb [.int .i64 x.p, .int .i64 x.n, .int .i64 x.v, .bool x.dead] ∧ Below w.heap.size w wr) := ⟨hB0, hB1⟩
    have HJ : Hid (∀ j (h : j < rs.length), j < k → sl rs[j] x) := hJ0
    have HNK : Hid (n = rs.length ∧ k ≤ n ∧ n ≤ vc ∧ n ≤ 4096) := ⟨HNR.out.1, hk, HNR.out.2.1, HNR.out.2.2⟩
    clear hB0 hB1 hJ0
    have k0 : (0 : Int) ≤ (k : Int) := by omega
    have hn4 : n ≤ 4096 := HNR.out.2.2
    by_cases hkn : k < n
    · have hkn' : (k : Int) < (n : Int) := by omega
      have hkr : k < rs.length := by rw [← HNR.out.1]; exact hkn
      obtain ⟨u, hu⟩ : ∃ u : Sb, u = rs[k] := ⟨_, rfl⟩
      have HU : Hid (∀ W, Below w.heap.size w W → W.cell? ⟨go, k * 4, none⟩ = some (.int .i64 u.p) ∧ W.cell? ⟨go, k * 4 + 1, none⟩ = some (.int .i64 u.n)) := fun W h => by
        rcases RO.out W h with h' | ⟨b, off, h1, _, h3⟩
        · have := congrArg List.length h'
          rw [flatS_len, List.length_nil] at this
          omega
        · cases h1
          have := grow_sat (lo := 0) h3 hkr
          rw [← hu, Nat.zero_add] at this
          exact ⟨this.1, this.2.1⟩
      have HUK : Hid (∀ (h : k < rs.length), u = rs[k]) := fun h => hu
      have HKR : Hid (k < rs.length) := hkr
      clear hu hkr
      go_upto_region 2 with fail
      refine wp_region_held_drew (S := (fun w' => (w'.cell? ⟨gb, 0, none⟩ = some (.int .i64 x.p) ∧ w'.cell? ⟨gb, 1, none⟩ = some (.int .i64 x.n) ∧ w'.cell? ⟨gb, 2, none⟩ = some (.int .i64 x.v) ∧ w'.cell? ⟨gb, 3, none⟩ = some (.bool x.dead)) ∧ w'.cell? ⟨go, k * 4, none⟩ = some (.int .i64 u.p) ∧ w'.cell? ⟨go, k * 4 + 1, none⟩ = some (.int .i64 u.n))) (by kernel_rfl) ?_ (fun hHeld => ?_)
      · (try dsimp only)
        exact ⟨(Y.out.1.next (bel_drew _)).c4, HU.out _ (Y.out.2.trans ((bel_drew _).mono Y.out.2.size))⟩
      replace Y : Hid (Box wr.drew gb [.int .i64 x.p, .int .i64 x.n, .int .i64 x.v, .bool x.dead] ∧ Below w.heap.size w wr.drew) := ⟨Y.out.1.next (bel_drew _), Y.out.2.trans ((bel_drew _).mono Y.out.2.size)⟩
      generalize wr.drew = V1 at *
      refine wTk 0 ?_
      refine wTk 1 ?_
      refine wTk 2 ?_
      refine wTk 3 (v := .bool true) ?_
      refine wTk 4 ?_
      refine wTk 5 ?_
      refine wTk 6 ?_
      refine wTk 7 ?_
      refine wTk 8 ?_
      refine wTk 9 ?_
      refine wTk 10 ?_
      refine wTk 11 ?_
      refine wRd 12 (fun K hK => ?_)
      go_simp
      go_at_call 95
      refine (dots_any u.p u.n x.p x.n _).mono ?_
      rintro e V2 ⟨rfl, hb⟩
      (try simp only [])
      replace Y : Hid (Box V2 gb [.int .i64 x.p, .int .i64 x.n, .int .i64 x.v, .bool x.dead] ∧ Below w.heap.size w V2) := ⟨Y.out.1.next hb, Y.out.2.trans (hb.mono Y.out.2.size)⟩
      refine wHk hK ⟨Y.out.1.c4, HU.out _ Y.out.2⟩ ?_
      clear hb hK K hHeld
      intro hHeld
      have HDC : Hid (dcmp u.p u.n x.p x.n < 0 ↔ dlt u.p u.n x.p x.n) := dcmp_lt _ _ _ _
      generalize dcmp u.p u.n x.p x.n = dc at *
      by_cases hlt : dlt u.p u.n x.p x.n
      · have hd : dc < 0 := HDC.out.2 hlt
        have HF : Hid (∀ j (h : j < rs.length), j < k + 1 → sl rs[j] x) := fun j h hj => by
          by_cases e : j = k
          · subst e; rw [← HUK.out h]; exact hlt
          · exact HJ.out j h (by omega)
        clear hlt HDC HJ HU HUK HKR
        refine wTk 13 ?_
        refine wTk 14 ?_
        refine wpAnyH_done (by kernel_rfl) ?_ _
        clear hHeld
        go_wp2
        go_roundw
        case rel => exact ⟨k + 1, by omega, by go_num, HF.out, Y.out.1, Y.out.2⟩
        case measure => simp [intOf]; omega
      · have hd : ¬ dc < 0 := fun h => hlt (HDC.out.1 h)
        have HX : Hid (∀ (h : k < rs.length), sl x rs[k]) := fun h => by
          have e := HUK.out h
          have h1 := HNE.out _ (List.getElem_mem h)
          rw [← e] at h1 ⊢
          unfold sl dlt at *
          omega
        clear hlt HDC HUK HKR
        refine wTk 13 ?_
        refine wTk 14 ?_
        refine wpAnyH_done (by kernel_rfl) ?_ _
        clear hHeld
        clear hd HU
        have hkn'' : (k : Int) ≤ (n : Int) := by omega
        have hkc : (k : Int) ≤ (vc : Int) := by have := HNK.out; omega
        go_upto_region 4 with fail
        have HLB : Hid (gb < V2.heap.size ∧ w.heap.size ≤ V2.heap.size) := ⟨Y.out.1.lt, Y.out.2.size⟩
        obtain ⟨LB, hLB⟩ : ∃ x, x = V2.heap.size := ⟨_, rfl⟩
        rw [← hLB] at HLB
        have HLV : Hid (LB ≤ V2.heap.size) := by show _ ≤ _; omega
        clear hLB
        refine wp_region_held_drew (S := (fun w' => (w'.cell? ⟨gb, 0, none⟩ = some (.int .i64 x.p) ∧ w'.cell? ⟨gb, 1, none⟩ = some (.int .i64 x.n) ∧ w'.cell? ⟨gb, 2, none⟩ = some (.int .i64 x.v) ∧ w'.cell? ⟨gb, 3, none⟩ = some (.bool x.dead)))) (by kernel_rfl) ?_ (fun hHeld => ?_)
        · (try dsimp only)
          exact (Y.out.1.next (bel_drew _)).c4
        replace Y : Hid (Box V2.drew gb [.int .i64 x.p, .int .i64 x.n, .int .i64 x.v, .bool x.dead] ∧ Below w.heap.size w V2.drew) := ⟨Y.out.1.next (bel_drew _), Y.out.2.trans ((bel_drew _).mono Y.out.2.size)⟩
        replace HLV : Hid (LB ≤ V2.drew.heap.size) := Nat.le_trans HLV.out (bel_drew _).size
        generalize V2.drew = Z0 at *
        have HLZ : Hid (LB ≤ Z0.heap.size) := HLV.out
        clear HLV
        refine wTk 1 ?_
        refine wTk 2 ?_
        refine wTk 3 ?_
        refine wTk 5 ?_
        refine wTk 8 ?_
        refine wTk 9 ?_
        refine wTk 10 ?_
        refine wRd2 0 6 (fun K hK => ?_) (fun K hK => ?_)
        · go_simp
          (try simp only [])
          have hb := bel_alloc Z0 (.cells #[] 46)
          have V0 : Hid (OwnG (Z0.alloc (.cells #[] 46)) 46 4 (.slice (some ⟨Z0.heap.size, 0, none⟩) 0 0) 0 [] LB) := OwnG.lit HLZ.out
          replace HLZ : Hid (LB ≤ (Z0.alloc (.cells #[] 46)).heap.size) := Nat.le_trans HLZ.out hb.size
          replace Y : Hid (Box (Z0.alloc (.cells #[] 46)) gb [.int .i64 x.p, .int .i64 x.n, .int .i64 x.v, .bool x.dead] ∧ Below w.heap.size w (Z0.alloc (.cells #[] 46))) := ⟨Y.out.1.next hb, Y.out.2.trans (hb.mono Y.out.2.size)⟩
          clear hb
          refine wHk hK Y.out.1.c4 ?_
          clear hK K hHeld
          intro hHeld
          generalize Z0.alloc (.cells #[] 46) = Z1 at *
          generalize Z0.heap.size = g0 at *
          refine wRd2 4 6 (fun K hK => ?_) (fun K hK => ?_)
          · (try simp only [Act.put, List.getElem_toArray, List.getElem_cons_zero, List.getElem_cons_succ, List.setIfInBounds_toArray, List.set_cons_zero, List.set_cons_succ])
            rw [if_pos (by rfl)]
            refine wp_appG elSb (.tmp 23) (.tmp 26) rfl (.slice (some ⟨g0, 0, none⟩) 0 0) 0 [] LB k rfl V0.out HLZ.out (some ⟨go, 0, none⟩) k vc (flatS (rs.take k)) rfl (by rw [flatS_len, List.length_take]; have := HNK.out; omega) (flatS_one _) lo (growS_pre (RO.out _ Y.out.2)) (by have := HNK.out; omega) (by have := HNK.out; omega) ?_
            intro v4 c4 Z2 hO hG hS
            have V4 : Hid (OwnG Z2 46 4 (.slice v4 k c4) k ([] ++ flatS (rs.take k)) LB) := hO
            replace Y : Hid (Box Z2 gb [.int .i64 x.p, .int .i64 x.n, .int .i64 x.v, .bool x.dead] ∧ Below w.heap.size w Z2) := ⟨Y.out.1.gro hG (fun e => by have h1 := V0.out.ge gb e; have := HLB.out.1; omega), Y.out.2.trans (hG.below Y.out.2.size (fun x e => by have h1 := V0.out.ge x e; have := HLB.out.2; omega))⟩
            replace HLZ : Hid (LB ≤ Z2.heap.size) := Nat.le_trans HLZ.out hG.size
            clear hO hG hS V0
            refine wHk hK Y.out.1.c4 ?_
            clear hK K hHeld
            intro hHeld
            refine wRd 6 (fun K hK => ?_)
            go_simp
            (try simp only [])
            have hb := bel_alloc Z2 (.cells #[.int .i64 x.p, .int .i64 x.n, .int .i64 x.v, .bool x.dead] 46)
            have KB : Hid (Box (Z2.alloc (.cells #[.int .i64 x.p, .int .i64 x.n, .int .i64 x.v, .bool x.dead] 46)) Z2.heap.size [.int .i64 x.p, .int .i64 x.n, .int .i64 x.v, .bool x.dead]) := box_mk
            replace V4 : Hid (OwnG (Z2.alloc (.cells #[.int .i64 x.p, .int .i64 x.n, .int .i64 x.v, .bool x.dead] 46)) 46 4 (.slice v4 k c4) k ([] ++ flatS (rs.take k)) LB) := V4.out.next hb
            replace HLZ : Hid (LB ≤ (Z2.alloc (.cells #[.int .i64 x.p, .int .i64 x.n, .int .i64 x.v, .bool x.dead] 46)).heap.size) := Nat.le_trans HLZ.out hb.size
            replace Y : Hid (Box (Z2.alloc (.cells #[.int .i64 x.p, .int .i64 x.n, .int .i64 x.v, .bool x.dead] 46)) gb [.int .i64 x.p, .int .i64 x.n, .int .i64 x.v, .bool x.dead] ∧ Below w.heap.size w (Z2.alloc (.cells #[.int .i64 x.p, .int .i64 x.n, .int .i64 x.v, .bool x.dead] 46))) := ⟨Y.out.1.next hb, Y.out.2.trans (hb.mono Y.out.2.size)⟩
            clear hb
            refine wHk hK Y.out.1.c4 ?_
            clear hK K hHeld
            intro hHeld
            generalize Z2.alloc (.cells #[.int .i64 x.p, .int .i64 x.n, .int .i64 x.v, .bool x.dead] 46) = Z3 at *
            generalize Z2.heap.size = gk at *
            refine wRd 7 (fun K hK => ?_)
            (try simp only [Act.put, List.getElem_toArray, List.getElem_cons_zero, List.getElem_cons_succ, List.setIfInBounds_toArray, List.set_cons_zero, List.set_cons_succ])
            rw [if_pos (by rfl)]
            refine wp_appG elSb (.tmp 27) (.tmp 29) rfl (.slice v4 k c4) k ([] ++ flatS (rs.take k)) LB (k + 1) rfl V4.out HLZ.out (some ⟨gk, 0, none⟩) 1 1 [.int .i64 x.p, .int .i64 x.n, .int .i64 x.v, .bool x.dead] rfl rfl (flatS_one [x]) 0 (box_rows KB.out) (by have := HNK.out; omega) rfl ?_
            intro v11 c11 Z4 hO hG hS
            have V11 : Hid (OwnG Z4 46 4 (.slice v11 (k + 1) c11) (k + 1) (([] ++ flatS (rs.take k)) ++ [.int .i64 x.p, .int .i64 x.n, .int .i64 x.v, .bool x.dead]) LB) := hO
            replace Y : Hid (Box Z4 gb [.int .i64 x.p, .int .i64 x.n, .int .i64 x.v, .bool x.dead] ∧ Below w.heap.size w Z4) := ⟨Y.out.1.gro hG (fun e => by have h1 := V4.out.ge gb e; have := HLB.out.1; omega), Y.out.2.trans (hG.below Y.out.2.size (fun x e => by have h1 := V4.out.ge x e; have := HLB.out.2; omega))⟩
            replace HLZ : Hid (LB ≤ Z4.heap.size) := Nat.le_trans HLZ.out hG.size
            clear hO hG hS V4 KB
            refine wHk hK Y.out.1.c4 ?_
            clear hK K hHeld
            intro hHeld
            refine wRd 11 (fun K hK => ?_)
            (try simp only [Act.put, List.getElem_toArray, List.getElem_cons_zero, List.getElem_cons_succ, List.setIfInBounds_toArray, List.set_cons_zero, List.set_cons_succ])
            rw [if_pos (by rfl)]
            refine wp_appG elSb (.tmp 30) (.tmp 33) rfl (.slice v11 (k + 1) c11) (k + 1) (([] ++ flatS (rs.take k)) ++ [.int .i64 x.p, .int .i64 x.n, .int .i64 x.v, .bool x.dead]) LB (k + 1 + (n - k)) rfl V11.out HLZ.out _ (n - k) (vc - k) (flatS (rs.drop k)) rfl (by rw [flatS_len, List.length_drop]; have := HNK.out; omega) (flatS_one _) lo (growS_drop (RO.out _ Y.out.2) (by have := HNK.out; omega) (by have := HNK.out; omega)) (by have := HNK.out; omega) rfl ?_
            intro v15 c15 Z5 hO hG hS
            have V15 : Hid (OwnG Z5 46 4 (.slice v15 (k + 1 + (n - k)) c15) (k + 1 + (n - k)) ((([] ++ flatS (rs.take k)) ++ [.int .i64 x.p, .int .i64 x.n, .int .i64 x.v, .bool x.dead]) ++ flatS (rs.drop k)) LB) := hO
            replace Y : Hid (Box Z5 gb [.int .i64 x.p, .int .i64 x.n, .int .i64 x.v, .bool x.dead] ∧ Below w.heap.size w Z5) := ⟨Y.out.1.gro hG (fun e => by have h1 := V11.out.ge gb e; have := HLB.out.1; omega), Y.out.2.trans (hG.below Y.out.2.size (fun x e => by have h1 := V11.out.ge x e; have := HLB.out.2; omega))⟩
            replace HLZ : Hid (LB ≤ Z5.heap.size) := Nat.le_trans HLZ.out hG.size
            clear hO hG hS V11
            refine wHk hK Y.out.1.c4 ?_
            clear hK K hHeld
            intro hHeld
            refine wTk 12 ?_
            refine wpAnyH_done (by kernel_rfl) ?_ _
            clear hHeld
            have HRES : Hid (Tput rs x w (.returned (.slice v15 (k + 1 + (n - k)) c15)) Z5) := ownS_ins V15.out HLB.out.2 ⟨HNK.out.1, HNK.out.2.1⟩ Y.out.2 HRI.out HJ.out HX.out
            clear V15 Y HLB HLZ RO
            go_wp2
            all_goals (go_ret; exact HRES.out)
          · go_simp
            (try simp only [])
            have hb := bel_alloc Z1 (.cells #[.int .i64 x.p, .int .i64 x.n, .int .i64 x.v, .bool x.dead] 46)
            have KB : Hid (Box (Z1.alloc (.cells #[.int .i64 x.p, .int .i64 x.n, .int .i64 x.v, .bool x.dead] 46)) Z1.heap.size [.int .i64 x.p, .int .i64 x.n, .int .i64 x.v, .bool x.dead]) := box_mk
            have HN : Hid (g0 ≠ Z1.heap.size) := by have := (V0.out.lt g0 rfl).2; show _ ≠ _; omega
            replace V0 : Hid (OwnG (Z1.alloc (.cells #[.int .i64 x.p, .int .i64 x.n, .int .i64 x.v, .bool x.dead] 46)) 46 4 (.slice (some ⟨g0, 0, none⟩) 0 0) 0 [] LB) := V0.out.next hb
            replace HLZ : Hid (LB ≤ (Z1.alloc (.cells #[.int .i64 x.p, .int .i64 x.n, .int .i64 x.v, .bool x.dead] 46)).heap.size) := Nat.le_trans HLZ.out hb.size
            replace Y : Hid (Box (Z1.alloc (.cells #[.int .i64 x.p, .int .i64 x.n, .int .i64 x.v, .bool x.dead] 46)) gb [.int .i64 x.p, .int .i64 x.n, .int .i64 x.v, .bool x.dead] ∧ Below w.heap.size w (Z1.alloc (.cells #[.int .i64 x.p, .int .i64 x.n, .int .i64 x.v, .bool x.dead] 46))) := ⟨Y.out.1.next hb, Y.out.2.trans (hb.mono Y.out.2.size)⟩
            clear hb
            refine wHk hK Y.out.1.c4 ?_
            clear hK K hHeld
            intro hHeld
            generalize Z1.alloc (.cells #[.int .i64 x.p, .int .i64 x.n, .int .i64 x.v, .bool x.dead] 46) = Z6 at *
            generalize Z1.heap.size = gk at *
            refine wRd 4 (fun K hK => ?_)
            (try simp only [Act.put, List.getElem_toArray, List.getElem_cons_zero, List.getElem_cons_succ, List.setIfInBounds_toArray, List.set_cons_zero, List.set_cons_succ])
            rw [if_pos (by rfl)]
            refine wp_appG elSb (.tmp 23) (.tmp 26) rfl (.slice (some ⟨g0, 0, none⟩) 0 0) 0 [] LB k rfl V0.out HLZ.out (some ⟨go, 0, none⟩) k vc (flatS (rs.take k)) rfl (by rw [flatS_len, List.length_take]; have := HNK.out; omega) (flatS_one _) lo (growS_pre (RO.out _ Y.out.2)) (by have := HNK.out; omega) (by have := HNK.out; omega) ?_
            intro v4 c4 Z7 hO hG hS
            have V4 : Hid (OwnG Z7 46 4 (.slice v4 k c4) k ([] ++ flatS (rs.take k)) LB) := hO
            replace KB : Hid (Box Z7 gk [.int .i64 x.p, .int .i64 x.n, .int .i64 x.v, .bool x.dead]) := KB.out.gro hG (fun e => by simp [Value.ownBlock] at e; exact HN.out e)
            replace Y : Hid (Box Z7 gb [.int .i64 x.p, .int .i64 x.n, .int .i64 x.v, .bool x.dead] ∧ Below w.heap.size w Z7) := ⟨Y.out.1.gro hG (fun e => by have h1 := V0.out.ge gb e; have := HLB.out.1; omega), Y.out.2.trans (hG.below Y.out.2.size (fun x e => by have h1 := V0.out.ge x e; have := HLB.out.2; omega))⟩
            replace HLZ : Hid (LB ≤ Z7.heap.size) := Nat.le_trans HLZ.out hG.size
            clear hO hG hS V0 HN
            refine wHk hK Y.out.1.c4 ?_
            clear hK K hHeld
            intro hHeld
            refine wRd 7 (fun K hK => ?_)
            (try simp only [Act.put, List.getElem_toArray, List.getElem_cons_zero, List.getElem_cons_succ, List.setIfInBounds_toArray, List.set_cons_zero, List.set_cons_succ])
            rw [if_pos (by rfl)]
            refine wp_appG elSb (.tmp 27) (.tmp 29) rfl (.slice v4 k c4) k ([] ++ flatS (rs.take k)) LB (k + 1) rfl V4.out HLZ.out (some ⟨gk, 0, none⟩) 1 1 [.int .i64 x.p, .int .i64 x.n, .int .i64 x.v, .bool x.dead] rfl rfl (flatS_one [x]) 0 (box_rows KB.out) (by have := HNK.out; omega) rfl ?_
            intro v11 c11 Z8 hO hG hS
            have V11 : Hid (OwnG Z8 46 4 (.slice v11 (k + 1) c11) (k + 1) (([] ++ flatS (rs.take k)) ++ [.int .i64 x.p, .int .i64 x.n, .int .i64 x.v, .bool x.dead]) LB) := hO
            replace Y : Hid (Box Z8 gb [.int .i64 x.p, .int .i64 x.n, .int .i64 x.v, .bool x.dead] ∧ Below w.heap.size w Z8) := ⟨Y.out.1.gro hG (fun e => by have h1 := V4.out.ge gb e; have := HLB.out.1; omega), Y.out.2.trans (hG.below Y.out.2.size (fun x e => by have h1 := V4.out.ge x e; have := HLB.out.2; omega))⟩
            replace HLZ : Hid (LB ≤ Z8.heap.size) := Nat.le_trans HLZ.out hG.size
            clear hO hG hS V4 KB
            refine wHk hK Y.out.1.c4 ?_
            clear hK K hHeld
            intro hHeld
            refine wRd 11 (fun K hK => ?_)
            (try simp only [Act.put, List.getElem_toArray, List.getElem_cons_zero, List.getElem_cons_succ, List.setIfInBounds_toArray, List.set_cons_zero, List.set_cons_succ])
            rw [if_pos (by rfl)]
            refine wp_appG elSb (.tmp 30) (.tmp 33) rfl (.slice v11 (k + 1) c11) (k + 1) (([] ++ flatS (rs.take k)) ++ [.int .i64 x.p, .int .i64 x.n, .int .i64 x.v, .bool x.dead]) LB (k + 1 + (n - k)) rfl V11.out HLZ.out _ (n - k) (vc - k) (flatS (rs.drop k)) rfl (by rw [flatS_len, List.length_drop]; have := HNK.out; omega) (flatS_one _) lo (growS_drop (RO.out _ Y.out.2) (by have := HNK.out; omega) (by have := HNK.out; omega)) (by have := HNK.out; omega) rfl ?_
            intro v15 c15 Z9 hO hG hS
            have V15 : Hid (OwnG Z9 46 4 (.slice v15 (k + 1 + (n - k)) c15) (k + 1 + (n - k)) ((([] ++ flatS (rs.take k)) ++ [.int .i64 x.p, .int .i64 x.n, .int .i64 x.v, .bool x.dead]) ++ flatS (rs.drop k)) LB) := hO
            replace Y : Hid (Box Z9 gb [.int .i64 x.p, .int .i64 x.n, .int .i64 x.v, .bool x.dead] ∧ Below w.heap.size w Z9) := ⟨Y.out.1.gro hG (fun e => by have h1 := V11.out.ge gb e; have := HLB.out.1; omega), Y.out.2.trans (hG.below Y.out.2.size (fun x e => by have h1 := V11.out.ge x e; have := HLB.out.2; omega))⟩
            replace HLZ : Hid (LB ≤ Z9.heap.size) := Nat.le_trans HLZ.out hG.size
            clear hO hG hS V11
            refine wHk hK Y.out.1.c4 ?_
            clear hK K hHeld
            intro hHeld
            refine wTk 12 ?_
            refine wpAnyH_done (by kernel_rfl) ?_ _
            clear hHeld
            have HRES : Hid (Tput rs x w (.returned (.slice v15 (k + 1 + (n - k)) c15)) Z9) := ownS_ins V15.out HLB.out.2 ⟨HNK.out.1, HNK.out.2.1⟩ Y.out.2 HRI.out HJ.out HX.out
            clear V15 Y HLB HLZ RO
            go_wp2
            all_goals (go_ret; exact HRES.out)
        · go_simp
          (try simp only [])
          have hb := bel_alloc Z0 (.cells #[.int .i64 x.p, .int .i64 x.n, .int .i64 x.v, .bool x.dead] 46)
          have KB : Hid (Box (Z0.alloc (.cells #[.int .i64 x.p, .int .i64 x.n, .int .i64 x.v, .bool x.dead] 46)) Z0.heap.size [.int .i64 x.p, .int .i64 x.n, .int .i64 x.v, .bool x.dead]) := box_mk
          replace HLZ : Hid (LB ≤ (Z0.alloc (.cells #[.int .i64 x.p, .int .i64 x.n, .int .i64 x.v, .bool x.dead] 46)).heap.size) := Nat.le_trans HLZ.out hb.size
          replace Y : Hid (Box (Z0.alloc (.cells #[.int .i64 x.p, .int .i64 x.n, .int .i64 x.v, .bool x.dead] 46)) gb [.int .i64 x.p, .int .i64 x.n, .int .i64 x.v, .bool x.dead] ∧ Below w.heap.size w (Z0.alloc (.cells #[.int .i64 x.p, .int .i64 x.n, .int .i64 x.v, .bool x.dead] 46))) := ⟨Y.out.1.next hb, Y.out.2.trans (hb.mono Y.out.2.size)⟩
          clear hb
          refine wHk hK Y.out.1.c4 ?_
          clear hK K hHeld
          intro hHeld
          generalize Z0.alloc (.cells #[.int .i64 x.p, .int .i64 x.n, .int .i64 x.v, .bool x.dead] 46) = Z10 at *
          generalize Z0.heap.size = gk at *
          refine wRd 0 (fun K hK => ?_)
          go_simp
          (try simp only [])
          have hb := bel_alloc Z10 (.cells #[] 46)
          have V0 : Hid (OwnG (Z10.alloc (.cells #[] 46)) 46 4 (.slice (some ⟨Z10.heap.size, 0, none⟩) 0 0) 0 [] LB) := OwnG.lit HLZ.out
          have HN : Hid (Z10.heap.size ≠ gk) := by have := KB.out.lt; show _ ≠ _; omega
          replace KB : Hid (Box (Z10.alloc (.cells #[] 46)) gk [.int .i64 x.p, .int .i64 x.n, .int .i64 x.v, .bool x.dead]) := KB.out.next hb
          replace HLZ : Hid (LB ≤ (Z10.alloc (.cells #[] 46)).heap.size) := Nat.le_trans HLZ.out hb.size
          replace Y : Hid (Box (Z10.alloc (.cells #[] 46)) gb [.int .i64 x.p, .int .i64 x.n, .int .i64 x.v, .bool x.dead] ∧ Below w.heap.size w (Z10.alloc (.cells #[] 46))) := ⟨Y.out.1.next hb, Y.out.2.trans (hb.mono Y.out.2.size)⟩
          clear hb
          refine wHk hK Y.out.1.c4 ?_
          clear hK K hHeld
          intro hHeld
          generalize Z10.alloc (.cells #[] 46) = Z11 at *
          generalize Z10.heap.size = g0 at *
          refine wRd 4 (fun K hK => ?_)
          (try simp only [Act.put, List.getElem_toArray, List.getElem_cons_zero, List.getElem_cons_succ, List.setIfInBounds_toArray, List.set_cons_zero, List.set_cons_succ])
          rw [if_pos (by rfl)]
          refine wp_appG elSb (.tmp 23) (.tmp 26) rfl (.slice (some ⟨g0, 0, none⟩) 0 0) 0 [] LB k rfl V0.out HLZ.out (some ⟨go, 0, none⟩) k vc (flatS (rs.take k)) rfl (by rw [flatS_len, List.length_take]; have := HNK.out; omega) (flatS_one _) lo (growS_pre (RO.out _ Y.out.2)) (by have := HNK.out; omega) (by have := HNK.out; omega) ?_
          intro v4 c4 Z12 hO hG hS
          have V4 : Hid (OwnG Z12 46 4 (.slice v4 k c4) k ([] ++ flatS (rs.take k)) LB) := hO
          replace KB : Hid (Box Z12 gk [.int .i64 x.p, .int .i64 x.n, .int .i64 x.v, .bool x.dead]) := KB.out.gro hG (fun e => by simp [Value.ownBlock] at e; exact HN.out e)
          replace Y : Hid (Box Z12 gb [.int .i64 x.p, .int .i64 x.n, .int .i64 x.v, .bool x.dead] ∧ Below w.heap.size w Z12) := ⟨Y.out.1.gro hG (fun e => by have h1 := V0.out.ge gb e; have := HLB.out.1; omega), Y.out.2.trans (hG.below Y.out.2.size (fun x e => by have h1 := V0.out.ge x e; have := HLB.out.2; omega))⟩
          replace HLZ : Hid (LB ≤ Z12.heap.size) := Nat.le_trans HLZ.out hG.size
          clear hO hG hS V0 HN
          refine wHk hK Y.out.1.c4 ?_
          clear hK K hHeld
          intro hHeld
          refine wRd 7 (fun K hK => ?_)
          (try simp only [Act.put, List.getElem_toArray, List.getElem_cons_zero, List.getElem_cons_succ, List.setIfInBounds_toArray, List.set_cons_zero, List.set_cons_succ])
          rw [if_pos (by rfl)]
          refine wp_appG elSb (.tmp 27) (.tmp 29) rfl (.slice v4 k c4) k ([] ++ flatS (rs.take k)) LB (k + 1) rfl V4.out HLZ.out (some ⟨gk, 0, none⟩) 1 1 [.int .i64 x.p, .int .i64 x.n, .int .i64 x.v, .bool x.dead] rfl rfl (flatS_one [x]) 0 (box_rows KB.out) (by have := HNK.out; omega) rfl ?_
          intro v11 c11 Z13 hO hG hS
          have V11 : Hid (OwnG Z13 46 4 (.slice v11 (k + 1) c11) (k + 1) (([] ++ flatS (rs.take k)) ++ [.int .i64 x.p, .int .i64 x.n, .int .i64 x.v, .bool x.dead]) LB) := hO
          replace Y : Hid (Box Z13 gb [.int .i64 x.p, .int .i64 x.n, .int .i64 x.v, .bool x.dead] ∧ Below w.heap.size w Z13) := ⟨Y.out.1.gro hG (fun e => by have h1 := V4.out.ge gb e; have := HLB.out.1; omega), Y.out.2.trans (hG.below Y.out.2.size (fun x e => by have h1 := V4.out.ge x e; have := HLB.out.2; omega))⟩
          replace HLZ : Hid (LB ≤ Z13.heap.size) := Nat.le_trans HLZ.out hG.size
          clear hO hG hS V4 KB
          refine wHk hK Y.out.1.c4 ?_
          clear hK K hHeld
          intro hHeld
          refine wRd 11 (fun K hK => ?_)
          (try simp only [Act.put, List.getElem_toArray, List.getElem_cons_zero, List.getElem_cons_succ, List.setIfInBounds_toArray, List.set_cons_zero, List.set_cons_succ])
          rw [if_pos (by rfl)]
          refine wp_appG elSb (.tmp 30) (.tmp 33) rfl (.slice v11 (k + 1) c11) (k + 1) (([] ++ flatS (rs.take k)) ++ [.int .i64 x.p, .int .i64 x.n, .int .i64 x.v, .bool x.dead]) LB (k + 1 + (n - k)) rfl V11.out HLZ.out _ (n - k) (vc - k) (flatS (rs.drop k)) rfl (by rw [flatS_len, List.length_drop]; have := HNK.out; omega) (flatS_one _) lo (growS_drop (RO.out _ Y.out.2) (by have := HNK.out; omega) (by have := HNK.out; omega)) (by have := HNK.out; omega) rfl ?_
          intro v15 c15 Z14 hO hG hS
          have V15 : Hid (OwnG Z14 46 4 (.slice v15 (k + 1 + (n - k)) c15) (k + 1 + (n - k)) ((([] ++ flatS (rs.take k)) ++ [.int .i64 x.p, .int .i64 x.n, .int .i64 x.v, .bool x.dead]) ++ flatS (rs.drop k)) LB) := hO
          replace Y : Hid (Box Z14 gb [.int .i64 x.p, .int .i64 x.n, .int .i64 x.v, .bool x.dead] ∧ Below w.heap.size w Z14) := ⟨Y.out.1.gro hG (fun e => by have h1 := V11.out.ge gb e; have := HLB.out.1; omega), Y.out.2.trans (hG.below Y.out.2.size (fun x e => by have h1 := V11.out.ge x e; have := HLB.out.2; omega))⟩
          replace HLZ : Hid (LB ≤ Z14.heap.size) := Nat.le_trans HLZ.out hG.size
          clear hO hG hS V11
          refine wHk hK Y.out.1.c4 ?_
          clear hK K hHeld
          intro hHeld
          refine wTk 12 ?_
          refine wpAnyH_done (by kernel_rfl) ?_ _
          clear hHeld
          have HRES : Hid (Tput rs x w (.returned (.slice v15 (k + 1 + (n - k)) c15)) Z14) := ownS_ins V15.out HLB.out.2 ⟨HNK.out.1, HNK.out.2.1⟩ Y.out.2 HRI.out HJ.out HX.out
          clear V15 Y HLB HLZ RO
          go_wp2
          all_goals (go_ret; exact HRES.out)
    · have hkn' : ¬ (k : Int) < (n : Int) := by omega
      have HX : Hid (∀ (h : k < rs.length), sl x rs[k]) := fun h => by have := HNR.out.1; omega
      go_upto_region 2 with fail
      refine wp_region_held_drew (S := (fun w' => (w'.cell? ⟨gb, 0, none⟩ = some (.int .i64 x.p) ∧ w'.cell? ⟨gb, 1, none⟩ = some (.int .i64 x.n) ∧ w'.cell? ⟨gb, 2, none⟩ = some (.int .i64 x.v) ∧ w'.cell? ⟨gb, 3, none⟩ = some (.bool x.dead)))) (by kernel_rfl) ?_ (fun hHeld => ?_)
      · (try dsimp only)
        exact (Y.out.1.next (bel_drew _)).c4
      replace Y : Hid (Box wr.drew gb [.int .i64 x.p, .int .i64 x.n, .int .i64 x.v, .bool x.dead] ∧ Below w.heap.size w wr.drew) := ⟨Y.out.1.next (bel_drew _), Y.out.2.trans ((bel_drew _).mono Y.out.2.size)⟩
      generalize wr.drew = V1 at *
      refine wTk 0 ?_
      refine wTk 1 ?_
      refine wTk 2 ?_
      refine wTk 3 (v := .bool false) ?_
      refine wTk 4 ?_
      refine wTn 5 ?_
      refine wTn 6 ?_
      refine wTn 7 ?_
      refine wTn 8 ?_
      refine wTn 9 ?_
      refine wTn 10 ?_
      refine wTn 11 ?_
      refine wTn 12 ?_
      refine wTn 13 ?_
      refine wTk 14 ?_
      refine wpAnyH_done (by kernel_rfl) ?_ _
      clear hHeld
      have hkn'' : (k : Int) ≤ (n : Int) := by omega
      have hkc : (k : Int) ≤ (vc : Int) := by have := HNK.out; omega
      go_upto_region 4 with fail
      have HLB : Hid (gb < V1.heap.size ∧ w.heap.size ≤ V1.heap.size) := ⟨Y.out.1.lt, Y.out.2.size⟩
      obtain ⟨LB, hLB⟩ : ∃ x, x = V1.heap.size := ⟨_, rfl⟩
      rw [← hLB] at HLB
      have HLV : Hid (LB ≤ V1.heap.size) := by show _ ≤ _; omega
      clear hLB
      refine wp_region_held_drew (S := (fun w' => (w'.cell? ⟨gb, 0, none⟩ = some (.int .i64 x.p) ∧ w'.cell? ⟨gb, 1, none⟩ = some (.int .i64 x.n) ∧ w'.cell? ⟨gb, 2, none⟩ = some (.int .i64 x.v) ∧ w'.cell? ⟨gb, 3, none⟩ = some (.bool x.dead)))) (by kernel_rfl) ?_ (fun hHeld => ?_)
      · (try dsimp only)
        exact (Y.out.1.next (bel_drew _)).c4
      replace Y : Hid (Box V1.drew gb [.int .i64 x.p, .int .i64 x.n, .int .i64 x.v, .bool x.dead] ∧ Below w.heap.size w V1.drew) := ⟨Y.out.1.next (bel_drew _), Y.out.2.trans ((bel_drew _).mono Y.out.2.size)⟩
      replace HLV : Hid (LB ≤ V1.drew.heap.size) := Nat.le_trans HLV.out (bel_drew _).size
      generalize V1.drew = Z0 at *
      have HLZ : Hid (LB ≤ Z0.heap.size) := HLV.out
      clear HLV
      refine wTk 1 ?_
      refine wTk 2 ?_
      refine wTk 3 ?_
      refine wTk 5 ?_
      refine wTk 8 ?_
      refine wTk 9 ?_
      refine wTk 10 ?_
      refine wRd2 0 6 (fun K hK => ?_) (fun K hK => ?_)
      · go_simp
        (try simp only [])
        have hb := bel_alloc Z0 (.cells #[] 46)
        have V0 : Hid (OwnG (Z0.alloc (.cells #[] 46)) 46 4 (.slice (some ⟨Z0.heap.size, 0, none⟩) 0 0) 0 [] LB) := OwnG.lit HLZ.out
        replace HLZ : Hid (LB ≤ (Z0.alloc (.cells #[] 46)).heap.size) := Nat.le_trans HLZ.out hb.size
        replace Y : Hid (Box (Z0.alloc (.cells #[] 46)) gb [.int .i64 x.p, .int .i64 x.n, .int .i64 x.v, .bool x.dead] ∧ Below w.heap.size w (Z0.alloc (.cells #[] 46))) := ⟨Y.out.1.next hb, Y.out.2.trans (hb.mono Y.out.2.size)⟩
        clear hb
        refine wHk hK Y.out.1.c4 ?_
        clear hK K hHeld
        intro hHeld
        generalize Z0.alloc (.cells #[] 46) = Z1 at *
        generalize Z0.heap.size = g0 at *
        refine wRd2 4 6 (fun K hK => ?_) (fun K hK => ?_)
        · (try simp only [Act.put, List.getElem_toArray, List.getElem_cons_zero, List.getElem_cons_succ, List.setIfInBounds_toArray, List.set_cons_zero, List.set_cons_succ])
          rw [if_pos (by rfl)]
          refine wp_appG elSb (.tmp 23) (.tmp 26) rfl (.slice (some ⟨g0, 0, none⟩) 0 0) 0 [] LB k rfl V0.out HLZ.out (some ⟨go, 0, none⟩) k vc (flatS (rs.take k)) rfl (by rw [flatS_len, List.length_take]; have := HNK.out; omega) (flatS_one _) lo (growS_pre (RO.out _ Y.out.2)) (by have := HNK.out; omega) (by have := HNK.out; omega) ?_
          intro v4 c4 Z2 hO hG hS
          have V4 : Hid (OwnG Z2 46 4 (.slice v4 k c4) k ([] ++ flatS (rs.take k)) LB) := hO
          replace Y : Hid (Box Z2 gb [.int .i64 x.p, .int .i64 x.n, .int .i64 x.v, .bool x.dead] ∧ Below w.heap.size w Z2) := ⟨Y.out.1.gro hG (fun e => by have h1 := V0.out.ge gb e; have := HLB.out.1; omega), Y.out.2.trans (hG.below Y.out.2.size (fun x e => by have h1 := V0.out.ge x e; have := HLB.out.2; omega))⟩
          replace HLZ : Hid (LB ≤ Z2.heap.size) := Nat.le_trans HLZ.out hG.size
          clear hO hG hS V0
          refine wHk hK Y.out.1.c4 ?_
          clear hK K hHeld
          intro hHeld
          refine wRd 6 (fun K hK => ?_)
          go_simp
          (try simp only [])
          have hb := bel_alloc Z2 (.cells #[.int .i64 x.p, .int .i64 x.n, .int .i64 x.v, .bool x.dead] 46)
          have KB : Hid (Box (Z2.alloc (.cells #[.int .i64 x.p, .int .i64 x.n, .int .i64 x.v, .bool x.dead] 46)) Z2.heap.size [.int .i64 x.p, .int .i64 x.n, .int .i64 x.v, .bool x.dead]) := box_mk
          replace V4 : Hid (OwnG (Z2.alloc (.cells #[.int .i64 x.p, .int .i64 x.n, .int .i64 x.v, .bool x.dead] 46)) 46 4 (.slice v4 k c4) k ([] ++ flatS (rs.take k)) LB) := V4.out.next hb
          replace HLZ : Hid (LB ≤ (Z2.alloc (.cells #[.int .i64 x.p, .int .i64 x.n, .int .i64 x.v, .bool x.dead] 46)).heap.size) := Nat.le_trans HLZ.out hb.size
          replace Y : Hid (Box (Z2.alloc (.cells #[.int .i64 x.p, .int .i64 x.n, .int .i64 x.v, .bool x.dead] 46)) gb [.int .i64 x.p, .int .i64 x.n, .int .i64 x.v, .bool x.dead] ∧ Below w.heap.size w (Z2.alloc (.cells #[.int .i64 x.p, .int .i64 x.n, .int .i64 x.v, .bool x.dead] 46))) := ⟨Y.out.1.next hb, Y.out.2.trans (hb.mono Y.out.2.size)⟩
          clear hb
          refine wHk hK Y.out.1.c4 ?_
          clear hK K hHeld
          intro hHeld
          generalize Z2.alloc (.cells #[.int .i64 x.p, .int .i64 x.n, .int .i64 x.v, .bool x.dead] 46) = Z3 at *
          generalize Z2.heap.size = gk at *
          refine wRd 7 (fun K hK => ?_)
          (try simp only [Act.put, List.getElem_toArray, List.getElem_cons_zero, List.getElem_cons_succ, List.setIfInBounds_toArray, List.set_cons_zero, List.set_cons_succ])
          rw [if_pos (by rfl)]
          refine wp_appG elSb (.tmp 27) (.tmp 29) rfl (.slice v4 k c4) k ([] ++ flatS (rs.take k)) LB (k + 1) rfl V4.out HLZ.out (some ⟨gk, 0, none⟩) 1 1 [.int .i64 x.p, .int .i64 x.n, .int .i64 x.v, .bool x.dead] rfl rfl (flatS_one [x]) 0 (box_rows KB.out) (by have := HNK.out; omega) rfl ?_
          intro v11 c11 Z4 hO hG hS
          have V11 : Hid (OwnG Z4 46 4 (.slice v11 (k + 1) c11) (k + 1) (([] ++ flatS (rs.take k)) ++ [.int .i64 x.p, .int .i64 x.n, .int .i64 x.v, .bool x.dead]) LB) := hO
          replace Y : Hid (Box Z4 gb [.int .i64 x.p, .int .i64 x.n, .int .i64 x.v, .bool x.dead] ∧ Below w.heap.size w Z4) := ⟨Y.out.1.gro hG (fun e => by have h1 := V4.out.ge gb e; have := HLB.out.1; omega), Y.out.2.trans (hG.below Y.out.2.size (fun x e => by have h1 := V4.out.ge x e; have := HLB.out.2; omega))⟩
          replace HLZ : Hid (LB ≤ Z4.heap.size) := Nat.le_trans HLZ.out hG.size
          clear hO hG hS V4 KB
          refine wHk hK Y.out.1.c4 ?_
          clear hK K hHeld
          intro hHeld
          refine wRd 11 (fun K hK => ?_)
          (try simp only [Act.put, List.getElem_toArray, List.getElem_cons_zero, List.getElem_cons_succ, List.setIfInBounds_toArray, List.set_cons_zero, List.set_cons_succ])
          rw [if_pos (by rfl)]
          refine wp_appG elSb (.tmp 30) (.tmp 33) rfl (.slice v11 (k + 1) c11) (k + 1) (([] ++ flatS (rs.take k)) ++ [.int .i64 x.p, .int .i64 x.n, .int .i64 x.v, .bool x.dead]) LB (k + 1 + (n - k)) rfl V11.out HLZ.out _ (n - k) (vc - k) (flatS (rs.drop k)) rfl (by rw [flatS_len, List.length_drop]; have := HNK.out; omega) (flatS_one _) lo (growS_drop (RO.out _ Y.out.2) (by have := HNK.out; omega) (by have := HNK.out; omega)) (by have := HNK.out; omega) rfl ?_
          intro v15 c15 Z5 hO hG hS
          have V15 : Hid (OwnG Z5 46 4 (.slice v15 (k + 1 + (n - k)) c15) (k + 1 + (n - k)) ((([] ++ flatS (rs.take k)) ++ [.int .i64 x.p, .int .i64 x.n, .int .i64 x.v, .bool x.dead]) ++ flatS (rs.drop k)) LB) := hO
          replace Y : Hid (Box Z5 gb [.int .i64 x.p, .int .i64 x.n, .int .i64 x.v, .bool x.dead] ∧ Below w.heap.size w Z5) := ⟨Y.out.1.gro hG (fun e => by have h1 := V11.out.ge gb e; have := HLB.out.1; omega), Y.out.2.trans (hG.below Y.out.2.size (fun x e => by have h1 := V11.out.ge x e; have := HLB.out.2; omega))⟩
          replace HLZ : Hid (LB ≤ Z5.heap.size) := Nat.le_trans HLZ.out hG.size
          clear hO hG hS V11
          refine wHk hK Y.out.1.c4 ?_
          clear hK K hHeld
          intro hHeld
          refine wTk 12 ?_
          refine wpAnyH_done (by kernel_rfl) ?_ _
          clear hHeld
          have HRES : Hid (Tput rs x w (.returned (.slice v15 (k + 1 + (n - k)) c15)) Z5) := ownS_ins V15.out HLB.out.2 ⟨HNK.out.1, HNK.out.2.1⟩ Y.out.2 HRI.out HJ.out HX.out
          clear V15 Y HLB HLZ RO
          go_wp2
          all_goals (go_ret; exact HRES.out)
        · go_simp
          (try simp only [])
          have hb := bel_alloc Z1 (.cells #[.int .i64 x.p, .int .i64 x.n, .int .i64 x.v, .bool x.dead] 46)
          have KB : Hid (Box (Z1.alloc (.cells #[.int .i64 x.p, .int .i64 x.n, .int .i64 x.v, .bool x.dead] 46)) Z1.heap.size [.int .i64 x.p, .int .i64 x.n, .int .i64 x.v, .bool x.dead]) := box_mk
          have HN : Hid (g0 ≠ Z1.heap.size) := by have := (V0.out.lt g0 rfl).2; show _ ≠ _; omega
          replace V0 : Hid (OwnG (Z1.alloc (.cells #[.int .i64 x.p, .int .i64 x.n, .int .i64 x.v, .bool x.dead] 46)) 46 4 (.slice (some ⟨g0, 0, none⟩) 0 0) 0 [] LB) := V0.out.next hb
          replace HLZ : Hid (LB ≤ (Z1.alloc (.cells #[.int .i64 x.p, .int .i64 x.n, .int .i64 x.v, .bool x.dead] 46)).heap.size) := Nat.le_trans HLZ.out hb.size
          replace Y : Hid (Box (Z1.alloc (.cells #[.int .i64 x.p, .int .i64 x.n, .int .i64 x.v, .bool x.dead] 46)) gb [.int .i64 x.p, .int .i64 x.n, .int .i64 x.v, .bool x.dead] ∧ Below w.heap.size w (Z1.alloc (.cells #[.int .i64 x.p, .int .i64 x.n, .int .i64 x.v, .bool x.dead] 46))) := ⟨Y.out.1.next hb, Y.out.2.trans (hb.mono Y.out.2.size)⟩
          clear hb
          refine wHk hK Y.out.1.c4 ?_
          clear hK K hHeld
          intro hHeld
          generalize Z1.alloc (.cells #[.int .i64 x.p, .int .i64 x.n, .int .i64 x.v, .bool x.dead] 46) = Z6 at *
          generalize Z1.heap.size = gk at *
          refine wRd 4 (fun K hK => ?_)
          (try simp only [Act.put, List.getElem_toArray, List.getElem_cons_zero, List.getElem_cons_succ, List.setIfInBounds_toArray, List.set_cons_zero, List.set_cons_succ])
          rw [if_pos (by rfl)]
          refine wp_appG elSb (.tmp 23) (.tmp 26) rfl (.slice (some ⟨g0, 0, none⟩) 0 0) 0 [] LB k rfl V0.out HLZ.out (some ⟨go, 0, none⟩) k vc (flatS (rs.take k)) rfl (by rw [flatS_len, List.length_take]; have := HNK.out; omega) (flatS_one _) lo (growS_pre (RO.out _ Y.out.2)) (by have := HNK.out; omega) (by have := HNK.out; omega) ?_
          intro v4 c4 Z7 hO hG hS
          have V4 : Hid (OwnG Z7 46 4 (.slice v4 k c4) k ([] ++ flatS (rs.take k)) LB) := hO
          replace KB : Hid (Box Z7 gk [.int .i64 x.p, .int .i64 x.n, .int .i64 x.v, .bool x.dead]) := KB.out.gro hG (fun e => by simp [Value.ownBlock] at e; exact HN.out e)
          replace Y : Hid (Box Z7 gb [.int .i64 x.p, .int .i64 x.n, .int .i64 x.v, .bool x.dead] ∧ Below w.heap.size w Z7) := ⟨Y.out.1.gro hG (fun e => by have h1 := V0.out.ge gb e; have := HLB.out.1; omega), Y.out.2.trans (hG.below Y.out.2.size (fun x e => by have h1 := V0.out.ge x e; have := HLB.out.2; omega))⟩
          replace HLZ : Hid (LB ≤ Z7.heap.size) := Nat.le_trans HLZ.out hG.size
          clear hO hG hS V0 HN
          refine wHk hK Y.out.1.c4 ?_
          clear hK K hHeld
          intro hHeld
          refine wRd 7 (fun K hK => ?_)
          (try simp only [Act.put, List.getElem_toArray, List.getElem_cons_zero, List.getElem_cons_succ, List.setIfInBounds_toArray, List.set_cons_zero, List.set_cons_succ])
          rw [if_pos (by rfl)]
          refine wp_appG elSb (.tmp 27) (.tmp 29) rfl (.slice v4 k c4) k ([] ++ flatS (rs.take k)) LB (k + 1) rfl V4.out HLZ.out (some ⟨gk, 0, none⟩) 1 1 [.int .i64 x.p, .int .i64 x.n, .int .i64 x.v, .bool x.dead] rfl rfl (flatS_one [x]) 0 (box_rows KB.out) (by have := HNK.out; omega) rfl ?_
          intro v11 c11 Z8 hO hG hS
          have V11 : Hid (OwnG Z8 46 4 (.slice v11 (k + 1) c11) (k + 1) (([] ++ flatS (rs.take k)) ++ [.int .i64 x.p, .int .i64 x.n, .int .i64 x.v, .bool x.dead]) LB) := hO
          replace Y : Hid (Box Z8 gb [.int .i64 x.p, .int .i64 x.n, .int .i64 x.v, .bool x.dead] ∧ Below w.heap.size w Z8) := ⟨Y.out.1.gro hG (fun e => by have h1 := V4.out.ge gb e; have := HLB.out.1; omega), Y.out.2.trans (hG.below Y.out.2.size (fun x e => by have h1 := V4.out.ge x e; have := HLB.out.2; omega))⟩
          replace HLZ : Hid (LB ≤ Z8.heap.size) := Nat.le_trans HLZ.out hG.size
          clear hO hG hS V4 KB
          refine wHk hK Y.out.1.c4 ?_
          clear hK K hHeld
          intro hHeld
          refine wRd 11 (fun K hK => ?_)
          (try simp only [Act.put, List.getElem_toArray, List.getElem_cons_zero, List.getElem_cons_succ, List.setIfInBounds_toArray, List.set_cons_zero, List.set_cons_succ])
          rw [if_pos (by rfl)]
          refine wp_appG elSb (.tmp 30) (.tmp 33) rfl (.slice v11 (k + 1) c11) (k + 1) (([] ++ flatS (rs.take k)) ++ [.int .i64 x.p, .int .i64 x.n, .int .i64 x.v, .bool x.dead]) LB (k + 1 + (n - k)) rfl V11.out HLZ.out _ (n - k) (vc - k) (flatS (rs.drop k)) rfl (by rw [flatS_len, List.length_drop]; have := HNK.out; omega) (flatS_one _) lo (growS_drop (RO.out _ Y.out.2) (by have := HNK.out; omega) (by have := HNK.out; omega)) (by have := HNK.out; omega) rfl ?_
          intro v15 c15 Z9 hO hG hS
          have V15 : Hid (OwnG Z9 46 4 (.slice v15 (k + 1 + (n - k)) c15) (k + 1 + (n - k)) ((([] ++ flatS (rs.take k)) ++ [.int .i64 x.p, .int .i64 x.n, .int .i64 x.v, .bool x.dead]) ++ flatS (rs.drop k)) LB) := hO
          replace Y : Hid (Box Z9 gb [.int .i64 x.p, .int .i64 x.n, .int .i64 x.v, .bool x.dead] ∧ Below w.heap.size w Z9) := ⟨Y.out.1.gro hG (fun e => by have h1 := V11.out.ge gb e; have := HLB.out.1; omega), Y.out.2.trans (hG.below Y.out.2.size (fun x e => by have h1 := V11.out.ge x e; have := HLB.out.2; omega))⟩
          replace HLZ : Hid (LB ≤ Z9.heap.size) := Nat.le_trans HLZ.out hG.size
          clear hO hG hS V11
          refine wHk hK Y.out.1.c4 ?_
          clear hK K hHeld
          intro hHeld
          refine wTk 12 ?_
          refine wpAnyH_done (by kernel_rfl) ?_ _
          clear hHeld
          have HRES : Hid (Tput rs x w (.returned (.slice v15 (k + 1 + (n - k)) c15)) Z9) := ownS_ins V15.out HLB.out.2 ⟨HNK.out.1, HNK.out.2.1⟩ Y.out.2 HRI.out HJ.out HX.out
          clear V15 Y HLB HLZ RO
          go_wp2
          all_goals (go_ret; exact HRES.out)
      · go_simp
        (try simp only [])
        have hb := bel_alloc Z0 (.cells #[.int .i64 x.p, .int .i64 x.n, .int .i64 x.v, .bool x.dead] 46)
        have KB : Hid (Box (Z0.alloc (.cells #[.int .i64 x.p, .int .i64 x.n, .int .i64 x.v, .bool x.dead] 46)) Z0.heap.size [.int .i64 x.p, .int .i64 x.n, .int .i64 x.v, .bool x.dead]) := box_mk
        replace HLZ : Hid (LB ≤ (Z0.alloc (.cells #[.int .i64 x.p, .int .i64 x.n, .int .i64 x.v, .bool x.dead] 46)).heap.size) := Nat.le_trans HLZ.out hb.size
        replace Y : Hid (Box (Z0.alloc (.cells #[.int .i64 x.p, .int .i64 x.n, .int .i64 x.v, .bool x.dead] 46)) gb [.int .i64 x.p, .int .i64 x.n, .int .i64 x.v, .bool x.dead] ∧ Below w.heap.size w (Z0.alloc (.cells #[.int .i64 x.p, .int .i64 x.n, .int .i64 x.v, .bool x.dead] 46))) := ⟨Y.out.1.next hb, Y.out.2.trans (hb.mono Y.out.2.size)⟩
        clear hb
        refine wHk hK Y.out.1.c4 ?_
        clear hK K hHeld
        intro hHeld
        generalize Z0.alloc (.cells #[.int .i64 x.p, .int .i64 x.n, .int .i64 x.v, .bool x.dead] 46) = Z10 at *
        generalize Z0.heap.size = gk at *
        refine wRd 0 (fun K hK => ?_)
        go_simp
        (try simp only [])
        have hb := bel_alloc Z10 (.cells #[] 46)
        have V0 : Hid (OwnG (Z10.alloc (.cells #[] 46)) 46 4 (.slice (some ⟨Z10.heap.size, 0, none⟩) 0 0) 0 [] LB) := OwnG.lit HLZ.out
        have HN : Hid (Z10.heap.size ≠ gk) := by have := KB.out.lt; show _ ≠ _; omega
        replace KB : Hid (Box (Z10.alloc (.cells #[] 46)) gk [.int .i64 x.p, .int .i64 x.n, .int .i64 x.v, .bool x.dead]) := KB.out.next hb
        replace HLZ : Hid (LB ≤ (Z10.alloc (.cells #[] 46)).heap.size) := Nat.le_trans HLZ.out hb.size
        replace Y : Hid (Box (Z10.alloc (.cells #[] 46)) gb [.int .i64 x.p, .int .i64 x.n, .int .i64 x.v, .bool x.dead] ∧ Below w.heap.size w (Z10.alloc (.cells #[] 46))) := ⟨Y.out.1.next hb, Y.out.2.trans (hb.mono Y.out.2.size)⟩
        clear hb
        refine wHk hK Y.out.1.c4 ?_
        clear hK K hHeld
        intro hHeld
        generalize Z10.alloc (.cells #[] 46) = Z11 at *
        generalize Z10.heap.size = g0 at *
        refine wRd 4 (fun K hK => ?_)
        (try simp only [Act.put, List.getElem_toArray, List.getElem_cons_zero, List.getElem_cons_succ, List.setIfInBounds_toArray, List.set_cons_zero, List.set_cons_succ])
        rw [if_pos (by rfl)]
        refine wp_appG elSb (.tmp 23) (.tmp 26) rfl (.slice (some ⟨g0, 0, none⟩) 0 0) 0 [] LB k rfl V0.out HLZ.out (some ⟨go, 0, none⟩) k vc (flatS (rs.take k)) rfl (by rw [flatS_len, List.length_take]; have := HNK.out; omega) (flatS_one _) lo (growS_pre (RO.out _ Y.out.2)) (by have := HNK.out; omega) (by have := HNK.out; omega) ?_
        intro v4 c4 Z12 hO hG hS
        have V4 : Hid (OwnG Z12 46 4 (.slice v4 k c4) k ([] ++ flatS (rs.take k)) LB) := hO
        replace KB : Hid (Box Z12 gk [.int .i64 x.p, .int .i64 x.n, .int .i64 x.v, .bool x.dead]) := KB.out.gro hG (fun e => by simp [Value.ownBlock] at e; exact HN.out e)
        replace Y : Hid (Box Z12 gb [.int .i64 x.p, .int .i64 x.n, .int .i64 x.v, .bool x.dead] ∧ Below w.heap.size w Z12) := ⟨Y.out.1.gro hG (fun e => by have h1 := V0.out.ge gb e; have := HLB.out.1; omega), Y.out.2.trans (hG.below Y.out.2.size (fun x e => by have h1 := V0.out.ge x e; have := HLB.out.2; omega))⟩
        replace HLZ : Hid (LB ≤ Z12.heap.size) := Nat.le_trans HLZ.out hG.size
        clear hO hG hS V0 HN
        refine wHk hK Y.out.1.c4 ?_
        clear hK K hHeld
        intro hHeld
        refine wRd 7 (fun K hK => ?_)
        (try simp only [Act.put, List.getElem_toArray, List.getElem_cons_zero, List.getElem_cons_succ, List.setIfInBounds_toArray, List.set_cons_zero, List.set_cons_succ])
        rw [if_pos (by rfl)]
        refine wp_appG elSb (.tmp 27) (.tmp 29) rfl (.slice v4 k c4) k ([] ++ flatS (rs.take k)) LB (k + 1) rfl V4.out HLZ.out (some ⟨gk, 0, none⟩) 1 1 [.int .i64 x.p, .int .i64 x.n, .int .i64 x.v, .bool x.dead] rfl rfl (flatS_one [x]) 0 (box_rows KB.out) (by have := HNK.out; omega) rfl ?_
        intro v11 c11 Z13 hO hG hS
        have V11 : Hid (OwnG Z13 46 4 (.slice v11 (k + 1) c11) (k + 1) (([] ++ flatS (rs.take k)) ++ [.int .i64 x.p, .int .i64 x.n, .int .i64 x.v, .bool x.dead]) LB) := hO
        replace Y : Hid (Box Z13 gb [.int .i64 x.p, .int .i64 x.n, .int .i64 x.v, .bool x.dead] ∧ Below w.heap.size w Z13) := ⟨Y.out.1.gro hG (fun e => by have h1 := V4.out.ge gb e; have := HLB.out.1; omega), Y.out.2.trans (hG.below Y.out.2.size (fun x e => by have h1 := V4.out.ge x e; have := HLB.out.2; omega))⟩
        replace HLZ : Hid (LB ≤ Z13.heap.size) := Nat.le_trans HLZ.out hG.size
        clear hO hG hS V4 KB
        refine wHk hK Y.out.1.c4 ?_
        clear hK K hHeld
        intro hHeld
        refine wRd 11 (fun K hK => ?_)
        (try simp only [Act.put, List.getElem_toArray, List.getElem_cons_zero, List.getElem_cons_succ, List.setIfInBounds_toArray, List.set_cons_zero, List.set_cons_succ])
        rw [if_pos (by rfl)]
        refine wp_appG elSb (.tmp 30) (.tmp 33) rfl (.slice v11 (k + 1) c11) (k + 1) (([] ++ flatS (rs.take k)) ++ [.int .i64 x.p, .int .i64 x.n, .int .i64 x.v, .bool x.dead]) LB (k + 1 + (n - k)) rfl V11.out HLZ.out _ (n - k) (vc - k) (flatS (rs.drop k)) rfl (by rw [flatS_len, List.length_drop]; have := HNK.out; omega) (flatS_one _) lo (growS_drop (RO.out _ Y.out.2) (by have := HNK.out; omega) (by have := HNK.out; omega)) (by have := HNK.out; omega) rfl ?_
        intro v15 c15 Z14 hO hG hS
        have V15 : Hid (OwnG Z14 46 4 (.slice v15 (k + 1 + (n - k)) c15) (k + 1 + (n - k)) ((([] ++ flatS (rs.take k)) ++ [.int .i64 x.p, .int .i64 x.n, .int .i64 x.v, .bool x.dead]) ++ flatS (rs.drop k)) LB) := hO
        replace Y : Hid (Box Z14 gb [.int .i64 x.p, .int .i64 x.n, .int .i64 x.v, .bool x.dead] ∧ Below w.heap.size w Z14) := ⟨Y.out.1.gro hG (fun e => by have h1 := V11.out.ge gb e; have := HLB.out.1; omega), Y.out.2.trans (hG.below Y.out.2.size (fun x e => by have h1 := V11.out.ge x e; have := HLB.out.2; omega))⟩
        replace HLZ : Hid (LB ≤ Z14.heap.size) := Nat.le_trans HLZ.out hG.size
        clear hO hG hS V11
        refine wHk hK Y.out.1.c4 ?_
        clear hK K hHeld
        intro hHeld
        refine wTk 12 ?_
        refine wpAnyH_done (by kernel_rfl) ?_ _
        clear hHeld
        have HRES : Hid (Tput rs x w (.returned (.slice v15 (k + 1 + (n - k)) c15)) Z14) := ownS_ins V15.out HLB.out.2 ⟨HNK.out.1, HNK.out.2.1⟩ Y.out.2 HRI.out HJ.out HX.out
        clear V15 Y HLB HLZ RO
        go_wp2
        all_goals (go_ret; exact HRES.out)
end Go.Proofs.YtkdbcmkmcjaenaaGreatDoor
