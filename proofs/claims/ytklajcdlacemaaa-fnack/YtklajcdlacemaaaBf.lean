/- What the calls of the law FnAck answer. -/
import Derived.Test.YtklajcdlacemaaaRows
import Derived.WalkKit
import Derived.WalkSpells
import Derived.WalkLawsBesides
import Derived.Deep.QuietTactic
import Derived.BigQuiet
import Derived.Deep.RegionHeld3
import Derived.Test.YtklajcdlacemaaaGz
import Derived.Test.YtklajcdlacemaaaZk
import Derived.LoopN
import Derived.Deep.Cut
namespace Go.Proofs.Ytklajcdlacemaaa
open Go.RowKit
set_option linter.unusedSimpArgs false
set_option linter.unusedVariables false
section
variable {P : Program} {md : Region.Mode} {ops : Array Oper} {Q : Exit → Act → World → Prop} {S : World → Prop} {oi : Oper} {v : Value} {fuel : Nat} {listed : Array Bool} {a : Act} {w : World} {G : Prop}
theorem wTq (i : Nat) (h : G) (hi : ops[i]? = some oi := by rfl) (hs : Region.noSelect ops = true := by decide +kernel) (hf : Region.free md ops listed i = true := by decide +kernel) (hr : (Region.ready md ops listed).contains i = true := by decide +kernel)
    (hQ : ∀ c a w, Q (.panic c) (a.put oi.dst v) w → Q (.panic c) a w := by exact fun _ _ _ h => h)
    (hy : YieldsIf P ops S oi v a := by
      refine Or.inl ⟨by kernel_rfl, ?_⟩
      intro w' hSw
      (try dsimp only at hSw)
      go_simp
      all_goals (try with_reducible rfl))
    (hS : S w := by assumption)
    (e : wpAnyH P md ops Q S fuel (listed.setIfInBounds i true) (a.put oi.dst v) w = G := by
      (try dsimp only [Act.put, List.getElem_toArray, List.getElem_cons_zero, List.getElem_cons_succ, List.setIfInBounds_toArray, List.set_cons_zero, List.set_cons_succ])
      (try rfl)) : wpAnyH P md ops Q S (fuel + 1) listed a w := wpAnyH_take hi hs hf hr hQ hy hS (e ▸ h)
theorem wRq (i : Nat) {H : (Act → World → Prop) → Prop}
    (h : ∀ K' : Act → World → Prop, Shut (∀ a w, S w → (S w → wpAnyH P md ops Q S fuel (listed.setIfInBounds i true) a w) → K' a w) → H K')
    (ho : ops[i]? = some oi := by rfl) (hr : Region.ready md ops listed = [i] := by decide +kernel) (hw : Region.wanted oi (yielded ops a.tmps) = true := by kernel_rfl)
    (e : ∀ K', Oper.wp P oi a w K' Q = H K' := by
      intro K
      (try dsimp only [Act.put, List.getElem_toArray, List.getElem_cons_zero, List.getElem_cons_succ, List.setIfInBounds_toArray, List.set_cons_zero, List.set_cons_succ])
      (try rfl)) : wpAnyH P md ops Q S (fuel + 1) listed a w := wpAnyH_ready hr (by simp) (.cons ho (fun K hK => by rw [if_pos hw, e K]; exact h K hK) .nil)
end

theorem ack_facts0 (e o a b c r : Int) (l : List Dt) (hI : GI 8 a b c l) (he : 1 ≤ e ∧ e ≤ 3) (ho : 0 ≤ o ∧ o < 3) (hr : 0 ≤ r ∧ r < 3) : ∃ l1 l2 : List Dt, l1.length = l.length + 1 ∧ l2.length = l.length + 2 ∧ (∀ W lo p q, GRow lo W p (flatD l) → Calls Try.prog 10 #[.agg #[.int .i64 e, .int .i64 o, .int .i64 a, .int .i64 b, .int .i64 c, .slice p l.length q], .int .i64 e, .agg #[.int .i64 0, .int .i64 (a + 1)]] W (AP W true 0 e o (a + 1) b c l1)) ∧ (∀ W lo p q, GRow lo W p (flatD l1) → Calls Try.prog 10 #[.agg #[.int .i64 e, .int .i64 o, .int .i64 (a + 1), .int .i64 b, .int .i64 c, .slice p l1.length q], .int .i64 e, .agg #[.int .i64 0, .int .i64 (a + 1)]] W (AP W false 0 e o (a + 1) b c l1)) ∧ (∀ W lo p q, GRow lo W p (flatD l) → Calls Try.prog 10 #[.agg #[.int .i64 e, .int .i64 o, .int .i64 a, .int .i64 b, .int .i64 c, .slice p l.length q], .int .i64 e, .agg #[.int .i64 0, .int .i64 (a + 2)]] W (AP W false 17 e o a b c l)) ∧ (∀ W lo p q, GRow lo W p (flatD l1) → Calls Try.prog 11 #[.agg #[.int .i64 e, .int .i64 o, .int .i64 (a + 1), .int .i64 b, .int .i64 c, .slice p l1.length q], .int .i64 r] W (fun r' w' => ∃ po co, r' = .returned (.tuple #[.agg #[.int .i64 (e + 1), .int .i64 r, .int .i64 (a + 1), .int .i64 b, .int .i64 c, .slice po l1.length co], .int .i64 0]) ∧ MR W.heap.size w' po l1 ∧ Below W.heap.size W w')) ∧ (∀ W lo p q, GRow lo W p (flatD l1) → Calls Try.prog 10 #[.agg #[.int .i64 (e + 1), .int .i64 r, .int .i64 (a + 1), .int .i64 b, .int .i64 c, .slice p l1.length q], .int .i64 e, .agg #[.int .i64 0, .int .i64 (a + 1 + 1)]] W (AP W false 12 (e + 1) r (a + 1) b c l1)) ∧ (∀ W lo p q, GRow lo W p (flatD l1) → Calls Try.prog 10 #[.agg #[.int .i64 (e + 1), .int .i64 r, .int .i64 (a + 1), .int .i64 b, .int .i64 c, .slice p l1.length q], .int .i64 (e + 1), .agg #[.int .i64 0, .int .i64 (a + 1 + 1)]] W (AP W true 0 (e + 1) r (a + 1 + 1) b c l2)) ∧ (∀ W lo p q, GRow lo W p (flatD l) → Calls Try.prog 12 #[.agg #[.int .i64 e, .int .i64 o, .int .i64 a, .int .i64 b, .int .i64 c, .slice p l.length q], .int .i64 e, .agg #[.int .i64 0, .int .i64 (a + 1)]] W (AP W true 0 e o (a + 1) b c l1)) ∧ (∀ W lo p q, GRow lo W p (flatD l2) → Calls Try.prog 14 #[.agg #[.int .i64 (e + 1), .int .i64 r, .int .i64 (a + 1 + 1), .int .i64 b, .int .i64 c, .slice p l2.length q]] W (fun r' w' => r' = .returned (.bool true) ∧ Below W.heap.size W w')) := by
  have h1 := hI.step0 (by omega)
  have h2 := h1.step0 (by omega)
  have b0 := hI.a0
  have bl := hI.len
  have g0 : gokB e o a b c l = true := hI.gok (by omega) (by omega) ho
  have g1 : gokB e o (a + 1) b c (l ++ [⟨0, a + 1⟩]) = true := h1.gok (by omega) (by omega) ho
  have g2 : gokB (e + 1) r (a + 1) b c (l ++ [⟨0, a + 1⟩]) = true := h1.gok (by omega) (by omega) hr
  have g3 : gokB (e + 1) r (a + 1 + 1) b c (l ++ [⟨0, a + 1⟩] ++ [⟨0, a + 1 + 1⟩]) = true := h2.gok (by omega) (by omega) hr
  have d1 : dotB 0 (a + 1) = true := decide_eq_true (by omega)
  have d2 : dotB 0 (a + 2) = true := decide_eq_true (by omega)
  have d3 : dotB 0 (a + 1 + 1) = true := decide_eq_true (by omega)
  have e1 : (l ++ [(⟨0, a + 1⟩ : Dt)]).length = l.length + 1 := by simp
  have e2 : (l ++ [(⟨0, a + 1⟩ : Dt)] ++ [(⟨0, a + 1 + 1⟩ : Dt)]).length = l.length + 2 := by simp
  refine ⟨l ++ [⟨0, a + 1⟩], l ++ [⟨0, a + 1⟩] ++ [⟨0, a + 1 + 1⟩], e1, e2, ?_, ?_, ?_, ?_, ?_, ?_, ?_, ?_⟩
  · exact fun W lo p q h => implA_ok0 lo q p l e o a b c W (by omega) h g0 d1 (by omega) (by omega)
  · exact fun W lo p q h => implA_known lo q p _ e o (a + 1) b c 0 (a + 1) W (by omega) h g1 d1 (by simp [comp])
  · exact fun W lo p q h => implA_order0 lo q p l e o a b c (a + 2) W (by omega) h g0 d2 (by omega) (by omega) (by omega)
  · exact fun W lo p q h => implT_ok lo q p _ e o (a + 1) b c r W (by omega) h g1 (decide_eq_true hr) (by omega)
  · exact fun W lo p q h => implA_fence lo q p _ (e + 1) r (a + 1) b c e 0 (a + 1 + 1) W (by omega) h g2 d3 (by omega)
  · exact fun W lo p q h => implA_ok0 lo q p _ (e + 1) r (a + 1) b c W (by omega) h g2 d3 (by omega) (by omega)
  · exact fun W lo p q h => specA_of lo q p l e o a b c e 0 (a + 1) W (by omega) h g0 d1 true 0 (a + 1) b c _ (by omega) (fun W' h' => lp_ok0 lo q p l e o a b c W' (by omega) (by omega) h')
  · intro W lo p q h
    have := implG_any lo q p _ (e + 1) r (a + 1 + 1) b c W (by omega) h
    rw [g3] at this
    exact this

theorem ack_facts1 (e o a b c r : Int) (l : List Dt) (hI : GI 8 a b c l) (he : 1 ≤ e ∧ e ≤ 3) (ho : 0 ≤ o ∧ o < 3) (hr : 0 ≤ r ∧ r < 3) : ∃ l1 l2 : List Dt, l1.length = l.length + 1 ∧ l2.length = l.length + 2 ∧ (∀ W lo p q, GRow lo W p (flatD l) → Calls Try.prog 10 #[.agg #[.int .i64 e, .int .i64 o, .int .i64 a, .int .i64 b, .int .i64 c, .slice p l.length q], .int .i64 e, .agg #[.int .i64 1, .int .i64 (b + 1)]] W (AP W true 0 e o a (b + 1) c l1)) ∧ (∀ W lo p q, GRow lo W p (flatD l1) → Calls Try.prog 10 #[.agg #[.int .i64 e, .int .i64 o, .int .i64 a, .int .i64 (b + 1), .int .i64 c, .slice p l1.length q], .int .i64 e, .agg #[.int .i64 1, .int .i64 (b + 1)]] W (AP W false 0 e o a (b + 1) c l1)) ∧ (∀ W lo p q, GRow lo W p (flatD l) → Calls Try.prog 10 #[.agg #[.int .i64 e, .int .i64 o, .int .i64 a, .int .i64 b, .int .i64 c, .slice p l.length q], .int .i64 e, .agg #[.int .i64 1, .int .i64 (b + 2)]] W (AP W false 17 e o a b c l)) ∧ (∀ W lo p q, GRow lo W p (flatD l1) → Calls Try.prog 11 #[.agg #[.int .i64 e, .int .i64 o, .int .i64 a, .int .i64 (b + 1), .int .i64 c, .slice p l1.length q], .int .i64 r] W (fun r' w' => ∃ po co, r' = .returned (.tuple #[.agg #[.int .i64 (e + 1), .int .i64 r, .int .i64 a, .int .i64 (b + 1), .int .i64 c, .slice po l1.length co], .int .i64 0]) ∧ MR W.heap.size w' po l1 ∧ Below W.heap.size W w')) ∧ (∀ W lo p q, GRow lo W p (flatD l1) → Calls Try.prog 10 #[.agg #[.int .i64 (e + 1), .int .i64 r, .int .i64 a, .int .i64 (b + 1), .int .i64 c, .slice p l1.length q], .int .i64 e, .agg #[.int .i64 1, .int .i64 (b + 1 + 1)]] W (AP W false 12 (e + 1) r a (b + 1) c l1)) ∧ (∀ W lo p q, GRow lo W p (flatD l1) → Calls Try.prog 10 #[.agg #[.int .i64 (e + 1), .int .i64 r, .int .i64 a, .int .i64 (b + 1), .int .i64 c, .slice p l1.length q], .int .i64 (e + 1), .agg #[.int .i64 1, .int .i64 (b + 1 + 1)]] W (AP W true 0 (e + 1) r a (b + 1 + 1) c l2)) ∧ (∀ W lo p q, GRow lo W p (flatD l) → Calls Try.prog 12 #[.agg #[.int .i64 e, .int .i64 o, .int .i64 a, .int .i64 b, .int .i64 c, .slice p l.length q], .int .i64 e, .agg #[.int .i64 1, .int .i64 (b + 1)]] W (AP W true 0 e o a (b + 1) c l1)) ∧ (∀ W lo p q, GRow lo W p (flatD l2) → Calls Try.prog 14 #[.agg #[.int .i64 (e + 1), .int .i64 r, .int .i64 a, .int .i64 (b + 1 + 1), .int .i64 c, .slice p l2.length q]] W (fun r' w' => r' = .returned (.bool true) ∧ Below W.heap.size W w')) := by
  have h1 := hI.step1 (by omega)
  have h2 := h1.step1 (by omega)
  have b0 := hI.b0
  have bl := hI.len
  have g0 : gokB e o a b c l = true := hI.gok (by omega) (by omega) ho
  have g1 : gokB e o a (b + 1) c (l ++ [⟨1, b + 1⟩]) = true := h1.gok (by omega) (by omega) ho
  have g2 : gokB (e + 1) r a (b + 1) c (l ++ [⟨1, b + 1⟩]) = true := h1.gok (by omega) (by omega) hr
  have g3 : gokB (e + 1) r a (b + 1 + 1) c (l ++ [⟨1, b + 1⟩] ++ [⟨1, b + 1 + 1⟩]) = true := h2.gok (by omega) (by omega) hr
  have d1 : dotB 1 (b + 1) = true := decide_eq_true (by omega)
  have d2 : dotB 1 (b + 2) = true := decide_eq_true (by omega)
  have d3 : dotB 1 (b + 1 + 1) = true := decide_eq_true (by omega)
  have e1 : (l ++ [(⟨1, b + 1⟩ : Dt)]).length = l.length + 1 := by simp
  have e2 : (l ++ [(⟨1, b + 1⟩ : Dt)] ++ [(⟨1, b + 1 + 1⟩ : Dt)]).length = l.length + 2 := by simp
  refine ⟨l ++ [⟨1, b + 1⟩], l ++ [⟨1, b + 1⟩] ++ [⟨1, b + 1 + 1⟩], e1, e2, ?_, ?_, ?_, ?_, ?_, ?_, ?_, ?_⟩
  · exact fun W lo p q h => implA_ok1 lo q p l e o a b c W (by omega) h g0 d1 (by omega) (by omega)
  · exact fun W lo p q h => implA_known lo q p _ e o a (b + 1) c 1 (b + 1) W (by omega) h g1 d1 (by simp [comp])
  · exact fun W lo p q h => implA_order1 lo q p l e o a b c (b + 2) W (by omega) h g0 d2 (by omega) (by omega) (by omega)
  · exact fun W lo p q h => implT_ok lo q p _ e o a (b + 1) c r W (by omega) h g1 (decide_eq_true hr) (by omega)
  · exact fun W lo p q h => implA_fence lo q p _ (e + 1) r a (b + 1) c e 1 (b + 1 + 1) W (by omega) h g2 d3 (by omega)
  · exact fun W lo p q h => implA_ok1 lo q p _ (e + 1) r a (b + 1) c W (by omega) h g2 d3 (by omega) (by omega)
  · exact fun W lo p q h => specA_of lo q p l e o a b c e 1 (b + 1) W (by omega) h g0 d1 true 0 a (b + 1) c _ (by omega) (fun W' h' => lp_ok1 lo q p l e o a b c W' (by omega) (by omega) h')
  · intro W lo p q h
    have := implG_any lo q p _ (e + 1) r a (b + 1 + 1) c W (by omega) h
    rw [g3] at this
    exact this

theorem ack_facts2 (e o a b c r : Int) (l : List Dt) (hI : GI 8 a b c l) (he : 1 ≤ e ∧ e ≤ 3) (ho : 0 ≤ o ∧ o < 3) (hr : 0 ≤ r ∧ r < 3) : ∃ l1 l2 : List Dt, l1.length = l.length + 1 ∧ l2.length = l.length + 2 ∧ (∀ W lo p q, GRow lo W p (flatD l) → Calls Try.prog 10 #[.agg #[.int .i64 e, .int .i64 o, .int .i64 a, .int .i64 b, .int .i64 c, .slice p l.length q], .int .i64 e, .agg #[.int .i64 2, .int .i64 (c + 1)]] W (AP W true 0 e o a b (c + 1) l1)) ∧ (∀ W lo p q, GRow lo W p (flatD l1) → Calls Try.prog 10 #[.agg #[.int .i64 e, .int .i64 o, .int .i64 a, .int .i64 b, .int .i64 (c + 1), .slice p l1.length q], .int .i64 e, .agg #[.int .i64 2, .int .i64 (c + 1)]] W (AP W false 0 e o a b (c + 1) l1)) ∧ (∀ W lo p q, GRow lo W p (flatD l) → Calls Try.prog 10 #[.agg #[.int .i64 e, .int .i64 o, .int .i64 a, .int .i64 b, .int .i64 c, .slice p l.length q], .int .i64 e, .agg #[.int .i64 2, .int .i64 (c + 2)]] W (AP W false 17 e o a b c l)) ∧ (∀ W lo p q, GRow lo W p (flatD l1) → Calls Try.prog 11 #[.agg #[.int .i64 e, .int .i64 o, .int .i64 a, .int .i64 b, .int .i64 (c + 1), .slice p l1.length q], .int .i64 r] W (fun r' w' => ∃ po co, r' = .returned (.tuple #[.agg #[.int .i64 (e + 1), .int .i64 r, .int .i64 a, .int .i64 b, .int .i64 (c + 1), .slice po l1.length co], .int .i64 0]) ∧ MR W.heap.size w' po l1 ∧ Below W.heap.size W w')) ∧ (∀ W lo p q, GRow lo W p (flatD l1) → Calls Try.prog 10 #[.agg #[.int .i64 (e + 1), .int .i64 r, .int .i64 a, .int .i64 b, .int .i64 (c + 1), .slice p l1.length q], .int .i64 e, .agg #[.int .i64 2, .int .i64 (c + 1 + 1)]] W (AP W false 12 (e + 1) r a b (c + 1) l1)) ∧ (∀ W lo p q, GRow lo W p (flatD l1) → Calls Try.prog 10 #[.agg #[.int .i64 (e + 1), .int .i64 r, .int .i64 a, .int .i64 b, .int .i64 (c + 1), .slice p l1.length q], .int .i64 (e + 1), .agg #[.int .i64 2, .int .i64 (c + 1 + 1)]] W (AP W true 0 (e + 1) r a b (c + 1 + 1) l2)) ∧ (∀ W lo p q, GRow lo W p (flatD l) → Calls Try.prog 12 #[.agg #[.int .i64 e, .int .i64 o, .int .i64 a, .int .i64 b, .int .i64 c, .slice p l.length q], .int .i64 e, .agg #[.int .i64 2, .int .i64 (c + 1)]] W (AP W true 0 e o a b (c + 1) l1)) ∧ (∀ W lo p q, GRow lo W p (flatD l2) → Calls Try.prog 14 #[.agg #[.int .i64 (e + 1), .int .i64 r, .int .i64 a, .int .i64 b, .int .i64 (c + 1 + 1), .slice p l2.length q]] W (fun r' w' => r' = .returned (.bool true) ∧ Below W.heap.size W w')) := by
  have h1 := hI.step2 (by omega)
  have h2 := h1.step2 (by omega)
  have b0 := hI.c0
  have bl := hI.len
  have g0 : gokB e o a b c l = true := hI.gok (by omega) (by omega) ho
  have g1 : gokB e o a b (c + 1) (l ++ [⟨2, c + 1⟩]) = true := h1.gok (by omega) (by omega) ho
  have g2 : gokB (e + 1) r a b (c + 1) (l ++ [⟨2, c + 1⟩]) = true := h1.gok (by omega) (by omega) hr
  have g3 : gokB (e + 1) r a b (c + 1 + 1) (l ++ [⟨2, c + 1⟩] ++ [⟨2, c + 1 + 1⟩]) = true := h2.gok (by omega) (by omega) hr
  have d1 : dotB 2 (c + 1) = true := decide_eq_true (by omega)
  have d2 : dotB 2 (c + 2) = true := decide_eq_true (by omega)
  have d3 : dotB 2 (c + 1 + 1) = true := decide_eq_true (by omega)
  have e1 : (l ++ [(⟨2, c + 1⟩ : Dt)]).length = l.length + 1 := by simp
  have e2 : (l ++ [(⟨2, c + 1⟩ : Dt)] ++ [(⟨2, c + 1 + 1⟩ : Dt)]).length = l.length + 2 := by simp
  refine ⟨l ++ [⟨2, c + 1⟩], l ++ [⟨2, c + 1⟩] ++ [⟨2, c + 1 + 1⟩], e1, e2, ?_, ?_, ?_, ?_, ?_, ?_, ?_, ?_⟩
  · exact fun W lo p q h => implA_ok2 lo q p l e o a b c W (by omega) h g0 d1 (by omega) (by omega)
  · exact fun W lo p q h => implA_known lo q p _ e o a b (c + 1) 2 (c + 1) W (by omega) h g1 d1 (by simp [comp])
  · exact fun W lo p q h => implA_order2 lo q p l e o a b c (c + 2) W (by omega) h g0 d2 (by omega) (by omega) (by omega)
  · exact fun W lo p q h => implT_ok lo q p _ e o a b (c + 1) r W (by omega) h g1 (decide_eq_true hr) (by omega)
  · exact fun W lo p q h => implA_fence lo q p _ (e + 1) r a b (c + 1) e 2 (c + 1 + 1) W (by omega) h g2 d3 (by omega)
  · exact fun W lo p q h => implA_ok2 lo q p _ (e + 1) r a b (c + 1) W (by omega) h g2 d3 (by omega) (by omega)
  · exact fun W lo p q h => specA_of lo q p l e o a b c e 2 (c + 1) W (by omega) h g0 d1 true 0 a b (c + 1) _ (by omega) (fun W' h' => lp_ok2 lo q p l e o a b c W' (by omega) (by omega) h')
  · intro W lo p q h
    have := implG_any lo q p _ (e + 1) r a b (c + 1 + 1) W (by omega) h
    rw [g3] at this
    exact this
end Go.Proofs.Ytklajcdlacemaaa
