/- What of a list of events was overwritten, as the specification asks it. -/
import Derived.Test.YtkdbcmkmcjaenaaGreatDoorRows
import Derived.WalkKit
import Derived.WalkSpells
import Derived.WalkLawsBesides
import Derived.Deep.QuietTactic
import Derived.BigQuiet
import Derived.Deep.RegionHeld3
import Derived.Test.YtkdbcmkmcjaenaaGreatDoorPf
import Derived.LoopN
import Derived.OwnWalk
import Derived.Laws.StructEq
namespace Go.Proofs.YtkdbcmkmcjaenaaGreatDoor
open Go.RowKit
set_option linter.unusedSimpArgs false
set_option linter.unusedVariables false

theorem comp_upd {x y z p n q : Int} (hp : 0 ≤ p ∧ p < 3) (hq : 0 ≤ q ∧ q < 3) : comp (upd p n 0 x) (upd p n 1 y) (upd p n 2 z) q = if q = p then n else comp x y z q := by
  have h1 : p = 0 ∨ p = 1 ∨ p = 2 := by omega
  have h2 : q = 0 ∨ q = 1 ∨ q = 2 := by omega
  rcases h1 with rfl | rfl | rfl <;> rcases h2 with rfl | rfl | rfl <;> simp [comp, upd]
theorem ev_dot {e : Ev} (h : evP e) : 0 ≤ e.p ∧ e.p < 3 ∧ 1 ≤ e.n ∧ e.n ≤ 9999 := of_decide_eq_true h.1
theorem eokL_all : ∀ {l : List Ev} {x y z : Int}, eokL x y z l → (∀ e ∈ l, evP e ∧ comp x y z e.p < e.n) ∧ apart l
  | [], _, _, _, _ => ⟨fun e h => by simp at h, .nil⟩
  | e0 :: l, x, y, z, ⟨⟨h1, h2⟩, h3⟩ => by
    obtain ⟨i1, i2⟩ := eokL_all h3
    have d0 := ev_dot h1
    have g : ∀ e ∈ l, comp x y z e.p < e.n ∧ ¬ (e0.p = e.p ∧ e0.n = e.n) := fun e he => by
      have := (i1 e he).2
      have d := ev_dot (i1 e he).1
      rw [comp_upd ⟨d0.1, d0.2.1⟩ ⟨d.1, d.2.1⟩] at this
      have h4 := h2.1
      split at this
      · rename_i hq
        rw [hq]
        exact ⟨by omega, fun hc => by omega⟩
      · rename_i hq
        exact ⟨this, fun hc => hq hc.1.symm⟩
    refine ⟨fun e he => ?_, List.pairwise_cons.2 ⟨fun e he => (g e he).2, i2⟩⟩
    rcases List.mem_cons.1 he with rfl | he
    · exact ⟨h1, by have := h2.1; omega⟩
    · exact ⟨(i1 e he).1, (g e he).1⟩
theorem eok_ev {l : List Ev} (h : eok l) : ∀ e ∈ l, evP e := fun e he => ((eokL_all h.2).1 e he).1
theorem eok_apart {l : List Ev} (h : eok l) : apart l := (eokL_all h.2).2
theorem eok_wf {l : List Ev} (h : eok l) : ∀ e ∈ l, wfI e.p ∧ wfI e.n := fun e he => by
  have := ev_dot (eok_ev h e he)
  exact ⟨wfI_of (by omega), wfI_of (by omega)⟩
theorem apart_one : ∀ {l : List Ev}, apart l → ∀ {e f : Ev}, e ∈ l → f ∈ l → e.p = f.p → e.n = f.n → e = f
  | [], _, _, _, he, _, _, _ => by simp at he
  | a :: l, h, e, f, he, hf, h1, h2 => by
    obtain ⟨ha, hl⟩ := List.pairwise_cons.1 h
    rcases List.mem_cons.1 he with e1 | e1 <;> rcases List.mem_cons.1 hf with e2 | e2
    · rw [e1, e2]
    · exact (ha f e2 ⟨by rw [← e1]; exact h1, by rw [← e1]; exact h2⟩).elim
    · exact (ha e e1 ⟨by rw [← e2]; exact h1.symm, by rw [← e2]; exact h2.symm⟩).elim
    · exact apart_one hl e1 e2 h1 h2
/-- What is told of an event: whether it was overwritten, and a code. -/
def ovP (l : List Ev) (p n : Int) (r : Bool) (c : Int) : Prop :=
  (4096 < l.length ∧ r = false ∧ c = 2) ∨ (l.length ≤ 4096 ∧ ¬ (eok l ∧ dotB p n = true) ∧ r = false ∧ c = 1) ∨ (l.length ≤ 4096 ∧ (eok l ∧ dotB p n = true) ∧ (∀ e ∈ l, ¬ (e.p = p ∧ e.n = n)) ∧ r = false ∧ c = 5) ∨
    (l.length ≤ 4096 ∧ (eok l ∧ dotB p n = true) ∧ ∃ e ∈ l, (e.p = p ∧ e.n = n) ∧ (r = true ↔ ∃ f ∈ l, f.key = e.key ∧ knowE f p n) ∧ c = 0)
theorem ovP_one {l : List Ev} {p n : Int} {r r' : Bool} {c c' : Int} (h : ovP l p n r c) (h' : ovP l p n r' c') : r = r' ∧ c = c' := by
  rcases h with ⟨h1, rfl, rfl⟩ | ⟨h1, h2, rfl, rfl⟩ | ⟨h1, h2, h3, rfl, rfl⟩ | ⟨h1, h2, e, he, hd, hr, rfl⟩ <;> rcases h' with ⟨k1, rfl, rfl⟩ | ⟨k1, k2, rfl, rfl⟩ | ⟨k1, k2, k3, rfl, rfl⟩ | ⟨k1, k2, f, hf, kd, kr, rfl⟩
  all_goals first
    | exact ⟨rfl, rfl⟩
    | omega
    | exact (h2 k2).elim
    | exact (k2 h2).elim
    | exact (h3 f hf kd).elim
    | exact (k3 e he hd).elim
    | skip
  have : e = f := apart_one (eok_apart h2.1) he hf (hd.1.trans kd.1.symm) (hd.2.trans kd.2.symm)
  subst this
  exact ⟨Bool.eq_iff_iff.2 (hr.trans kr.symm), rfl⟩
def Tov (l : List Ev) (p n : Int) (w : World) (e : Ending) (w' : World) : Prop := ∃ r c, e = .returned (.tuple #[.bool r, .int .i64 c]) ∧ ovP l p n r c ∧ Below w.heap.size w w'
theorem eqd (p n q m : Int) (w : World) : Sem.run Tryz.prog (Op.equalIn 10000 40 (.agg #[.int .i64 p, .int .i64 n]) (.agg #[.int .i64 q, .int .i64 m])) w = .ok (p == q && n == m) w := by
  have h40 := Tryz.underlying40
  have h3 := Tryz.underlying3
  have hs' : Tryz.prog.stoodInHeld 40 = false := by kernel_rfl
  rw [run_equalIn_struct w 9999 40 _ _ (by kernel_rfl) hs']
  simp [go_sem, h40, h3, hs']
  cases h1 : (p == q) <;> cases h2 : (n == m) <;> simp_all [go_sem]

set_option maxRecDepth 20000 in
set_option maxHeartbeats 8000000 in
theorem over_any (lo q i : Nat) (p : Option Addr) (l : List Ev) (w : World) (hl : (l.length : Int) ≤ 1048576) (y : Ev) (hi : i < l.length) (hy : y = l[i]) (hp : 0 ≤ y.p ∧ y.p < 3) (hr0 : GRow lo w p (flatE l)) :
    Calls Tryz.prog 61 #[.slice p l.length q, .int .i64 i] w (Told (∃ f ∈ l, f.key = y.key ∧ knowE f y.p y.n) w) := by
  have hr : Hid _ := hr0.e
  clear hr0
  have hi' : (i : Int) < (l.length : Int) := by omega
  have i0 : (0 : Int) ≤ (i : Int) := by omega
  have HP : Hid (0 ≤ y.p ∧ y.p < 3) := hp
  have HY0 : Hid (∀ w b o, (∀ j (h : j < l.length), EAt w b (o + j * 8) l[j]) → EAt w b (o + i * 8) y) := fun w b o h => by rw [hy]; exact h i hi
  clear hy hp hi
  go_enter Tryz.func61, Tryz.ntmps61
  go_wp2
  go_loopw [5] (fun s5 wr => ∃ k : Nat, k ≤ l.length ∧ s5 = .int .i64 k ∧ (∀ j (h : j < l.length), j < k → ¬ (l[j].key = y.key ∧ knowE l[j] y.p y.n)) ∧ Below w.heap.size w wr) (fun s5 _ => l.length - (intOf s5).toNat)
  case atStart => exact ⟨0, by omega, rfl, fun j h h' => by omega, Below.refl _ _⟩
  case round =>
    obtain ⟨k, hk, rfl, hF0, hB0⟩ := hrel
    have HF1 : Hid (∀ j (h : j < l.length), j < k → ¬ (l[j].key = y.key ∧ knowE l[j] y.p y.n)) := hF0
    have HB : Hid (Below w.heap.size w wr) := hB0
    clear hF0 hB0
    by_cases hkl : k < l.length
    · have hkl' : (k : Int) < (l.length : Int) := by omega
      have k0 : (0 : Int) ≤ (k : Int) := by omega
      rcases hr.out with h' | ⟨b, off, rfl, _, h2⟩
      · rw [h'] at hkl; simp at hkl
      have e1 := (h2 k hkl).next HB.out (cell_lt (x := ⟨b, off + k * 8, none⟩) (h2 k hkl).1)
      have e20 := HY0.out w b off h2
      have e2 := e20.next HB.out (cell_lt (x := ⟨b, off + i * 8, none⟩) e20.1)
      have e4 : b < wr.heap.size := Nat.lt_of_lt_of_le (cell_lt (x := ⟨b, off + k * 8, none⟩) (h2 k hkl).1) HB.out.size
      have HMX0 : l[k] ∈ l := List.getElem_mem hkl
      have HF2 : ¬ (l[k].key = y.key ∧ knowE l[k] y.p y.n) → ∀ j (h : j < l.length), j < k + 1 → ¬ (l[j].key = y.key ∧ knowE l[j] y.p y.n) := fun h j hj hjk => by
        by_cases e : j = k
        · subst e; exact h
        · exact HF1.out j hj (by omega)
      clear h2 hr e20
      generalize l[k] = x at *
      have XX : Hid (EAt wr b (off + k * 8) x ∧ EAt wr b (off + i * 8) y ∧ b < wr.heap.size ∧ Below w.heap.size w wr) := ⟨e1, e2, e4, HB.out⟩
      have HMX : Hid (x ∈ l) := HMX0
      have HF0 : Hid (¬ (x.key = y.key ∧ knowE x y.p y.n) → ∀ j (h : j < l.length), j < k + 1 → ¬ (l[j].key = y.key ∧ knowE l[j] y.p y.n)) := HF2
      clear e1 e2 e4 HMX0 HF2 HF1 HB
      go_upto_region 4 with fail
      by_cases hke : x.key = y.key
      case neg =>
        have HF : Hid (∀ j (h : j < l.length), j < k + 1 → ¬ (l[j].key = y.key ∧ knowE l[j] y.p y.n)) := HF0.out (fun h => hke h.1)
        have e3 := te_no hke
        clear HF0 hke
        refine wp_region_held_drew (S := (fun w' => (w'.cell? ⟨b, off + k * 8, none⟩ = some (.int .i64 x.p) ∧ w'.cell? ⟨b, off + k * 8 + 1, none⟩ = some (.int .i64 x.n) ∧ w'.cell? ⟨b, off + k * 8 + 2, none⟩ = some (.string x.key) ∧ w'.cell? ⟨b, off + k * 8 + 3, none⟩ = some (.int .i64 x.v) ∧ w'.cell? ⟨b, off + k * 8 + 4, none⟩ = some (.bool x.dead) ∧ w'.cell? ⟨b, off + k * 8 + 5, none⟩ = some (.int .i64 x.a) ∧ w'.cell? ⟨b, off + k * 8 + 6, none⟩ = some (.int .i64 x.b) ∧ w'.cell? ⟨b, off + k * 8 + 7, none⟩ = some (.int .i64 x.c)) ∧ w'.cell? ⟨b, off + i * 8, none⟩ = some (.int .i64 y.p) ∧ w'.cell? ⟨b, off + i * 8 + 1, none⟩ = some (.int .i64 y.n) ∧ w'.cell? ⟨b, off + i * 8 + 2, none⟩ = some (.string y.key) ∧ w'.cell? ⟨b, off + i * 8 + 3, none⟩ = some (.int .i64 y.v) ∧ w'.cell? ⟨b, off + i * 8 + 4, none⟩ = some (.bool y.dead) ∧ w'.cell? ⟨b, off + i * 8 + 5, none⟩ = some (.int .i64 y.a) ∧ w'.cell? ⟨b, off + i * 8 + 6, none⟩ = some (.int .i64 y.b) ∧ w'.cell? ⟨b, off + i * 8 + 7, none⟩ = some (.int .i64 y.c))) (by kernel_rfl) ?_ (fun hHeld => ?_)
        · (try dsimp only)
          exact ⟨XX.out.1.next (bel_drew _) XX.out.2.2.1, XX.out.2.1.next (bel_drew _) XX.out.2.2.1⟩
        replace XX : Hid (EAt wr.drew b (off + k * 8) x ∧ EAt wr.drew b (off + i * 8) y ∧ b < wr.drew.heap.size ∧ Below w.heap.size w wr.drew) := ⟨XX.out.1.next (bel_drew _) XX.out.2.2.1, XX.out.2.1.next (bel_drew _) XX.out.2.2.1, Nat.lt_of_lt_of_le XX.out.2.2.1 (bel_drew _).size, XX.out.2.2.2.drew⟩
        generalize wr.drew = V1 at *
        refine wTk 0 ?_
        refine wTk 1 ?_
        refine wTk 2 ?_
        refine wTk 3 ?_
        refine wTk 4 ?_
        refine wTk 5 ?_
        refine wTk 6 ?_
        refine wTk 7 ?_
        refine wTk 8 ?_
        refine wTk 9 ?_
        refine wTk 10 (v := .bool false) ?_
        refine wTk 11 ?_
        refine wTn 12 ?_
        refine wTn 13 ?_
        refine wTn 14 ?_
        refine wTn 15 ?_
        refine wTn 16 ?_
        refine wTn 17 ?_
        refine wTn 18 ?_
        refine wTn 19 ?_
        refine wTn 20 ?_
        refine wTn 21 ?_
        refine wTn 22 ?_
        refine wTk 23 ?_
        refine wpAnyH_done (by kernel_rfl) ?_ _
        clear hHeld
        go_wp2
        go_roundw
        case rel => exact ⟨k + 1, by omega, by go_num, HF.out, XX.out.2.2.2⟩
        case measure => simp [intOf]; omega
      have HKE : Hid (x.key = y.key) := hke
      have e3 := te_yes hke
      clear hke
      refine wp_region_held_drew (S := (fun w' => (w'.cell? ⟨b, off + k * 8, none⟩ = some (.int .i64 x.p) ∧ w'.cell? ⟨b, off + k * 8 + 1, none⟩ = some (.int .i64 x.n) ∧ w'.cell? ⟨b, off + k * 8 + 2, none⟩ = some (.string x.key) ∧ w'.cell? ⟨b, off + k * 8 + 3, none⟩ = some (.int .i64 x.v) ∧ w'.cell? ⟨b, off + k * 8 + 4, none⟩ = some (.bool x.dead) ∧ w'.cell? ⟨b, off + k * 8 + 5, none⟩ = some (.int .i64 x.a) ∧ w'.cell? ⟨b, off + k * 8 + 6, none⟩ = some (.int .i64 x.b) ∧ w'.cell? ⟨b, off + k * 8 + 7, none⟩ = some (.int .i64 x.c)) ∧ w'.cell? ⟨b, off + i * 8, none⟩ = some (.int .i64 y.p) ∧ w'.cell? ⟨b, off + i * 8 + 1, none⟩ = some (.int .i64 y.n) ∧ w'.cell? ⟨b, off + i * 8 + 2, none⟩ = some (.string y.key) ∧ w'.cell? ⟨b, off + i * 8 + 3, none⟩ = some (.int .i64 y.v) ∧ w'.cell? ⟨b, off + i * 8 + 4, none⟩ = some (.bool y.dead) ∧ w'.cell? ⟨b, off + i * 8 + 5, none⟩ = some (.int .i64 y.a) ∧ w'.cell? ⟨b, off + i * 8 + 6, none⟩ = some (.int .i64 y.b) ∧ w'.cell? ⟨b, off + i * 8 + 7, none⟩ = some (.int .i64 y.c))) (by kernel_rfl) ?_ (fun hHeld => ?_)
      · (try dsimp only)
        exact ⟨XX.out.1.next (bel_drew _) XX.out.2.2.1, XX.out.2.1.next (bel_drew _) XX.out.2.2.1⟩
      replace XX : Hid (EAt wr.drew b (off + k * 8) x ∧ EAt wr.drew b (off + i * 8) y ∧ b < wr.drew.heap.size ∧ Below w.heap.size w wr.drew) := ⟨XX.out.1.next (bel_drew _) XX.out.2.2.1, XX.out.2.1.next (bel_drew _) XX.out.2.2.1, Nat.lt_of_lt_of_le XX.out.2.2.1 (bel_drew _).size, XX.out.2.2.2.drew⟩
      generalize wr.drew = V1 at *
      refine wTk 0 ?_
      refine wTk 1 ?_
      refine wTk 2 ?_
      refine wTk 3 ?_
      refine wTk 4 ?_
      refine wTk 5 ?_
      refine wTk 6 ?_
      refine wTk 7 ?_
      refine wTk 8 ?_
      refine wTk 9 ?_
      refine wTk 10 (v := .bool true) ?_
      refine wTk 11 ?_
      refine wTk 12 ?_
      refine wTk 13 ?_
      refine wTk 14 ?_
      refine wTk 15 ?_
      refine wTk 16 ?_
      refine wTk 17 ?_
      refine wTk 18 ?_
      refine wTk 19 ?_
      refine wTk 20 ?_
      refine wTk 21 ?_
      refine wRd 22 (fun K hK => ?_)
      go_simp
      go_at_call 94
      refine (has_any x.a x.b x.c y.p y.n _ HP.out.1 HP.out.2).mono ?_
      rintro e V2 ⟨rfl, hb⟩
      (try simp only [])
      replace XX : Hid (EAt V2 b (off + k * 8) x ∧ EAt V2 b (off + i * 8) y ∧ b < V2.heap.size ∧ Below w.heap.size w V2) := ⟨XX.out.1.next hb XX.out.2.2.1, XX.out.2.1.next hb XX.out.2.2.1, Nat.lt_of_lt_of_le XX.out.2.2.1 hb.size, XX.out.2.2.2.trans (hb.mono XX.out.2.2.2.size)⟩
      refine wHk hK ⟨XX.out.1, XX.out.2.1⟩ ?_
      clear hK K hHeld hb
      intro hHeld
      by_cases hkn : y.n ≤ comp x.a x.b x.c y.p
      · have HY : Hid (∃ f ∈ l, f.key = y.key ∧ knowE f y.p y.n) := ⟨x, HMX.out, HKE.out, hkn⟩
        rw [decide_eq_true hkn]
        clear hkn HF0
        refine wTk 23 ?_
        refine wpAnyH_done (by kernel_rfl) ?_ _
        clear hHeld
        go_wp2
        go_ret
        exact ⟨true, rfl, by simp [HY.out], XX.out.2.2.2⟩
      · have HF : Hid (∀ j (h : j < l.length), j < k + 1 → ¬ (l[j].key = y.key ∧ knowE l[j] y.p y.n)) := HF0.out (fun h => hkn h.2)
        rw [decide_eq_false hkn]
        clear hkn HF0
        refine wTk 23 ?_
        refine wpAnyH_done (by kernel_rfl) ?_ _
        clear hHeld
        go_wp2
        go_roundw
        case rel => exact ⟨k + 1, by omega, by go_num, HF.out, XX.out.2.2.2⟩
        case measure => simp [intOf]; omega
    · have hkl' : ¬ (k : Int) < (l.length : Int) := by omega
      have HN : Hid (¬ ∃ f ∈ l, f.key = y.key ∧ knowE f y.p y.n) := fun ⟨f, hf, hc⟩ => by
        obtain ⟨j, hj, rfl⟩ := List.getElem_of_mem hf
        exact HF1.out j hj (by omega) hc
      clear HF1
      go_wp2
      go_ret
      exact ⟨false, rfl, by simp [HN.out], HB.out⟩
end Go.Proofs.YtkdbcmkmcjaenaaGreatDoor
