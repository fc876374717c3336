/- Rows that are right, on the program's side. -/
import Derived.Test.YtomcpdbaenohdaaRows
import Derived.WalkKit
import Derived.WalkSpells
import Derived.WalkLawsBesides
import Derived.Deep.QuietTactic
import Derived.BigQuiet
import Derived.Deep.RegionHeld3
import Derived.Test.YtomcpdbaenohdaaRo
import Derived.LoopN
import Derived.OwnWalk
import Derived.Laws.StructEq
namespace Go.Proofs.Ytomcpdbaenohdaa
open Go.RowKit
set_option linter.unusedSimpArgs false
set_option linter.unusedVariables false

/-- The first k rows are right. -/
def rowsTo (ms : List Rm) (k : Nat) : Prop := ∀ i (h : i < ms.length), i < k → rowP ms[i].r ∧ ∀ j (hj : j < ms.length), j + 1 = i → lessP ms[j].r ms[i].r
/-- Rows are right. -/
def rowsP (ms : List Rm) : Prop := ms.length ≤ 400 ∧ rowsTo ms ms.length
theorem rowsTo_zero (ms : List Rm) : rowsTo ms 0 := fun i _ h => by omega
theorem rowsTo_succ {ms : List Rm} {k : Nat} (h : rowsTo ms k) (hk : k < ms.length) (h1 : rowP ms[k].r) (h3 : ∀ j (hj : j < ms.length), j + 1 = k → lessP ms[j].r ms[k].r) : rowsTo ms (k + 1) := by
  intro i hi hik
  by_cases e : i = k
  · subst e; exact ⟨h1, h3⟩
  · exact h i hi (by omega)
theorem rowsP_no1 {ms : List Rm} {k : Nat} (hk : k < ms.length) (h : ¬ rowP ms[k].r) : ¬ rowsP ms := fun q => h (q.2 k hk hk).1
theorem rowsP_no2 {ms : List Rm} {k j : Nat} (hk : k < ms.length) (hj : j < ms.length) (e : j + 1 = k) (h : ¬ lessP ms[j].r ms[k].r) : ¬ rowsP ms := fun q => h ((q.2 k hk hk).2 j hj e)
theorem rowsP_yes {ms : List Rm} {k : Nat} (h : ms.length ≤ 400) (hk : ms.length ≤ k) (hv : rowsTo ms k) : rowsP ms := ⟨h, fun i hi _ => hv i hi (by omega)⟩
theorem rowsP_same {ms ns : List Rm} (h : ns.map Rm.r = ms.map Rm.r) : rowsP ns ↔ rowsP ms := by
  have : ∀ {ms ns : List Rm}, ns.map Rm.r = ms.map Rm.r → rowsP ns → rowsP ms := fun {ms ns} h q => by
    have hl := len_r h
    refine ⟨by have := q.1; omega, fun i hi _ => ?_⟩
    have hi' : i < ns.length := by omega
    have q2 := q.2 i hi' hi'
    rw [map_r h hi hi']
    refine ⟨q2.1, fun j hj e => ?_⟩
    have hj' : j < ns.length := by omega
    rw [map_r h hj hj']
    exact q2.2 j hj' e
  exact ⟨this h, this h.symm⟩

set_option maxRecDepth 20000 in
set_option maxHeartbeats 4000000 in
theorem implRows (lo q : Nat) (p : Option Addr) (ms : List Rm) (w : World) (hm : (ms.length : Int) ≤ 1048576) (hx : ∀ x ∈ ms, (x.r.vs.length : Int) ≤ 1048576) (hks : ∀ x ∈ ms, x.r.key.size < 1099511627776) (hr0 : RR lo w p ms) :
    Calls Try.prog 9 #[.slice p ms.length q] w (Told (rowsP ms) w) := by
  have hr : Hid _ := hr0.row.r
  have hu : Hid (∀ m ∈ ms, GRow lo w m.p (ints m.r.vs)) := hr0.sub
  clear hr0
  by_cases h1 : 400 < (ms.length : Int)
  case pos =>
    have HN : Hid (¬ rowsP ms) := fun h => by have := h.1; omega
    clear hr hu
    go_enter Try.func9, Try.ntmps9
    go_wp2
    go_ret
    exact ⟨false, rfl, by simp [HN.out], Below.refl _ _⟩
  go_enter Try.func9, Try.ntmps9
  go_wp2
  go_loopw [3, 4, 10] (fun _ _ s10 wr => ∃ k : Nat, k ≤ ms.length ∧ s10 = .int .i64 k ∧ rowsTo ms k ∧ Below w.heap.size w wr) (fun _ _ s10 _ => ms.length - (intOf s10).toNat)
  case atStart => exact ⟨0, by omega, rfl, rowsTo_zero _, Below.refl _ _⟩
  case round =>
    obtain ⟨k, hk, rfl, hV0, hB0⟩ := hrel
    have HV : Hid (rowsTo ms k) := hV0
    have HB : Hid (Below w.heap.size w wr) := hB0
    clear hV0 hB0
    by_cases hkl : k < ms.length
    · have hkl' : (k : Int) < (ms.length : Int) := by omega
      have k0 : (0 : Int) ≤ (k : Int) := by omega
      rcases hr.out with h' | ⟨b, off, rfl, _, h2⟩
      · rw [h'] at hkl; simp at hkl
      have hc := (h2 k hkl).next HB.out (cell_lt (x := ⟨b, off + k * 3, none⟩) (h2 k hkl).1)
      obtain ⟨c0, c1, c2⟩ := hc
      have HZ : Hid (∀ j (h : j < ms.length) W, Below w.heap.size w W → RAt W b (off + j * 3) ms[j] ∧ b < W.heap.size) := fun j h W hW => ⟨(h2 j h).next hW (cell_lt (x := ⟨b, off + j * 3, none⟩) (h2 j h).1), Nat.lt_of_lt_of_le (cell_lt (x := ⟨b, off + j * 3, none⟩) (h2 j h).1) hW.size⟩
      have HR : Hid (∀ W, Below w.heap.size w W → Calls Try.prog 22 #[.agg #[.int .i64 ms[k].r.part, .string ms[k].r.key, .slice ms[k].p ms[k].r.vs.length ms[k].q]] W (Told (rowP ms[k].r) W)) := fun W hW => rowOK_any lo ms[k] W (hx _ (List.getElem_mem _)) (hks _ (List.getElem_mem _)) ((hu.out _ (List.getElem_mem _)).next hW)
      have HS : Hid (rowP ms[k].r → (∀ j (hj : j < ms.length), j + 1 = k → lessP ms[j].r ms[k].r) → rowsTo ms (k + 1)) := rowsTo_succ HV.out hkl
      have HN1 : Hid (¬ rowP ms[k].r → ¬ rowsP ms) := rowsP_no1 hkl
      have HN2 : Hid (∀ j (hj : j < ms.length), j + 1 = k → ¬ lessP ms[j].r ms[k].r → ¬ rowsP ms) := fun j hj e h => rowsP_no2 hkl hj e h
      clear h2 HV
      generalize ms[k] = x at *
      go_upto_region 6 with fail
      refine wp_gen (fun W => Box W wr.heap.size [.int .i64 x.r.part, .string x.r.key, .slice x.p x.r.vs.length x.q] ∧ Below wr.heap.size wr W) ⟨box_mk, bel_alloc _ _⟩ (fun W1 hI => ?_)
      have Y : Hid (Box W1 wr.heap.size [.int .i64 x.r.part, .string x.r.key, .slice x.p x.r.vs.length x.q] ∧ Below w.heap.size w W1) := ⟨hI.1, HB.out.trans (hI.2.mono HB.out.size)⟩
      clear hI c0 c1 c2 HB
      by_cases hP : rowP x.r
      case neg =>
        have HN : Hid (¬ rowsP ms) := HN1.out hP
        have HN0 : Hid (¬ rowP x.r) := hP
        clear HZ HS HN1 HN2 hP
        refine wp_region_held_drew (S := (fun w' => (w'.cell? ⟨wr.heap.size, 0, none⟩ = some (.int .i64 x.r.part) ∧ w'.cell? ⟨wr.heap.size, 1, none⟩ = some (.string x.r.key) ∧ w'.cell? ⟨wr.heap.size, 2, none⟩ = some (.slice x.p x.r.vs.length x.q)))) (by kernel_rfl) ?_ (fun hHeld => ?_)
        · (try dsimp only)
          exact (Y.out.1.next (bel_drew _)).c3
        replace Y : Hid (Box W1.drew wr.heap.size [.int .i64 x.r.part, .string x.r.key, .slice x.p x.r.vs.length x.q] ∧ Below w.heap.size w W1.drew) := ⟨Y.out.1.next (bel_drew _), Y.out.2.drew⟩
        generalize W1.drew = V1 at *
        refine wTk 0 ?_
        refine wRd 1 (fun K hK => ?_)
        go_simp
        go_at_call 22
        refine (HR.out V1 Y.out.2).mono ?_
        rintro e V2 ⟨rr, rfl, hq, hb⟩
        (try simp only [])
        obtain rfl : rr = false := by
          cases rr; rfl; exact (HN0.out (hq.1 rfl)).elim
        replace Y : Hid (Box V2 wr.heap.size [.int .i64 x.r.part, .string x.r.key, .slice x.p x.r.vs.length x.q] ∧ Below w.heap.size w V2) := ⟨Y.out.1.next hb, Y.out.2.trans (hb.mono Y.out.2.size)⟩
        refine wHk hK Y.out.1.c3 ?_
        clear hK K hHeld hq hb
        intro hHeld
        refine wTk 2 ?_
        refine wTk 3 ?_
        refine wTn 4 ?_
        refine wTn 5 ?_
        refine wTn 6 ?_
        refine wTn 7 ?_
        refine wTn 8 ?_
        refine wTn 9 ?_
        refine wTn 10 ?_
        refine wTn 11 ?_
        refine wTn 12 ?_
        refine wTn 13 ?_
        refine wTn 14 ?_
        refine wTn 15 ?_
        refine wTk 16 ?_
        refine wpAnyH_done (by kernel_rfl) ?_ _
        clear hHeld HR
        go_wp2
        go_ret
        exact ⟨false, rfl, by simp [HN.out], Y.out.2⟩
      have HX : Hid (rowP x.r) := hP
      clear hP HN1
      rcases Nat.eq_zero_or_pos k with hz | hz
      · have HT : Hid (rowsTo ms (k + 1)) := HS.out HX.out (fun j hj e => by omega)
        subst hz
        clear HZ HS HN2
        refine wp_region_held_drew (S := (fun w' => (w'.cell? ⟨wr.heap.size, 0, none⟩ = some (.int .i64 x.r.part) ∧ w'.cell? ⟨wr.heap.size, 1, none⟩ = some (.string x.r.key) ∧ w'.cell? ⟨wr.heap.size, 2, none⟩ = some (.slice x.p x.r.vs.length x.q)))) (by kernel_rfl) ?_ (fun hHeld => ?_)
        · (try dsimp only)
          exact (Y.out.1.next (bel_drew _)).c3
        replace Y : Hid (Box W1.drew wr.heap.size [.int .i64 x.r.part, .string x.r.key, .slice x.p x.r.vs.length x.q] ∧ Below w.heap.size w W1.drew) := ⟨Y.out.1.next (bel_drew _), Y.out.2.drew⟩
        generalize W1.drew = V1 at *
        refine wTk 0 ?_
        refine wRd 1 (fun K hK => ?_)
        go_simp
        go_at_call 22
        refine (HR.out V1 Y.out.2).mono ?_
        rintro e V2 ⟨rr, rfl, hq, hb⟩
        (try simp only [])
        obtain rfl : rr = true := by
          exact hq.2 HX.out
        replace Y : Hid (Box V2 wr.heap.size [.int .i64 x.r.part, .string x.r.key, .slice x.p x.r.vs.length x.q] ∧ Below w.heap.size w V2) := ⟨Y.out.1.next hb, Y.out.2.trans (hb.mono Y.out.2.size)⟩
        refine wHk hK Y.out.1.c3 ?_
        clear hK K hHeld hq hb
        intro hHeld
        refine wTk 2 ?_
        refine wTk 3 ?_
        refine wTk 4 ?_
        refine wTk 5 ?_
        refine wTk 6 ?_
        refine wTn 7 ?_
        refine wTn 8 ?_
        refine wTn 9 ?_
        refine wTn 10 ?_
        refine wTn 11 ?_
        refine wTn 12 ?_
        refine wTn 13 ?_
        refine wTn 14 ?_
        refine wTk 15 ?_
        refine wTk 16 ?_
        refine wpAnyH_done (by kernel_rfl) ?_ _
        clear hHeld HR
        go_wp2
        go_roundw
        case rel => exact ⟨1, by omega, by go_num, HT.out, Y.out.2⟩
        case measure => simp [intOf]; omega
      · obtain ⟨j, hj⟩ : ∃ j, k = j + 1 := ⟨k - 1, by omega⟩
        have hjl : j < ms.length := by omega
        have hd : (k : Int) - 1 = (j : Int) := by omega
        have hw : IntKind.i64.wrap (j : Int) = (j : Int) := by rw [IntKind.wrap_i64]; omega
        have hjl' : (j : Int) < (ms.length : Int) := by omega
        have j0 : (0 : Int) ≤ (j : Int) := by omega
        have hdk : decide (0 < k) = true := decide_eq_true hz
        have HT : Hid (lessP ms[j].r x.r → rowsTo ms (k + 1)) := fun h => HS.out HX.out (fun i hi e => by
          have : i = j := by omega
          subst this
          exact h)
        have HF : Hid (¬ lessP ms[j].r x.r → ¬ rowsP ms) := HN2.out j hjl hj.symm
        have hz3 := HZ.out j hjl W1 Y.out.2
        clear HS HN2 HZ hj
        generalize ms[j] = z at *
        replace Y : Hid (Box W1 wr.heap.size [.int .i64 x.r.part, .string x.r.key, .slice x.p x.r.vs.length x.q] ∧ Below w.heap.size w W1 ∧ RAt W1 b (off + j * 3) z ∧ b < W1.heap.size) := ⟨Y.out.1, Y.out.2, hz3.1, hz3.2⟩
        clear hz3
        refine wp_region_held_drew (S := (fun w' => (w'.cell? ⟨wr.heap.size, 0, none⟩ = some (.int .i64 x.r.part) ∧ w'.cell? ⟨wr.heap.size, 1, none⟩ = some (.string x.r.key) ∧ w'.cell? ⟨wr.heap.size, 2, none⟩ = some (.slice x.p x.r.vs.length x.q)) ∧ (w'.cell? ⟨b, off + j * 3, none⟩ = some (.int .i64 z.r.part) ∧ w'.cell? ⟨b, off + j * 3 + 1, none⟩ = some (.string z.r.key) ∧ w'.cell? ⟨b, off + j * 3 + 2, none⟩ = some (.slice z.p z.r.vs.length z.q)))) (by kernel_rfl) ?_ (fun hHeld => ?_)
        · (try dsimp only)
          exact ⟨(Y.out.1.next (bel_drew _)).c3, Y.out.2.2.1.next (bel_drew _) Y.out.2.2.2⟩
        replace Y : Hid (Box W1.drew wr.heap.size [.int .i64 x.r.part, .string x.r.key, .slice x.p x.r.vs.length x.q] ∧ Below w.heap.size w W1.drew ∧ RAt W1.drew b (off + j * 3) z ∧ b < W1.drew.heap.size) := ⟨Y.out.1.next (bel_drew _), Y.out.2.1.trans ((bel_drew _).mono Y.out.2.1.size), Y.out.2.2.1.next (bel_drew _) Y.out.2.2.2, Nat.lt_of_lt_of_le Y.out.2.2.2 (bel_drew _).size⟩
        generalize W1.drew = V1 at *
        refine wTk 0 ?_
        refine wRd 1 (fun K hK => ?_)
        go_simp
        go_at_call 22
        refine (HR.out V1 Y.out.2.1).mono ?_
        rintro e V2 ⟨rr, rfl, hq, hb⟩
        (try simp only [])
        obtain rfl : rr = true := hq.2 HX.out
        replace Y : Hid (Box V2 wr.heap.size [.int .i64 x.r.part, .string x.r.key, .slice x.p x.r.vs.length x.q] ∧ Below w.heap.size w V2 ∧ RAt V2 b (off + j * 3) z ∧ b < V2.heap.size) := ⟨Y.out.1.next hb, Y.out.2.1.trans (hb.mono Y.out.2.1.size), Y.out.2.2.1.next hb Y.out.2.2.2, Nat.lt_of_lt_of_le Y.out.2.2.2 hb.size⟩
        refine wHk hK ⟨Y.out.1.c3, Y.out.2.2.1⟩ ?_
        clear hK K hHeld hq hb
        intro hHeld
        refine wTk 2 ?_
        refine wTk 3 ?_
        refine wTk 4 ?_
        refine wTk 5 ?_
        refine wTk 6 ?_
        refine wTk 7 ?_
        refine wTk 8 ?_
        refine wTk 9 ?_
        refine wTk 10 ?_
        refine wTk 11 ?_
        refine wTk 12 ?_
        refine wRd 13 (fun K hK => ?_)
        go_simp
        go_at_call 23
        refine (cmpRows_any z x _).mono ?_
        rintro e V3 ⟨rfl, hb⟩
        (try simp only [])
        replace Y : Hid (Box V3 wr.heap.size [.int .i64 x.r.part, .string x.r.key, .slice x.p x.r.vs.length x.q] ∧ Below w.heap.size w V3 ∧ RAt V3 b (off + j * 3) z ∧ b < V3.heap.size) := ⟨Y.out.1.next hb, Y.out.2.1.trans (hb.mono Y.out.2.1.size), Y.out.2.2.1.next hb Y.out.2.2.2, Nat.lt_of_lt_of_le Y.out.2.2.2 hb.size⟩
        refine wHk hK ⟨Y.out.1.c3, Y.out.2.2.1⟩ ?_
        clear hK K hHeld hb
        intro hHeld
        have HL : Hid (cmpR z.r x.r < 0 ↔ lessP z.r x.r) := cmpR_less _ _
        generalize cmpR z.r x.r = cc at *
        by_cases hc : 0 ≤ cc
        · have HN : Hid (¬ rowsP ms) := HF.out (fun h => by have := HL.out.2 h; omega)
          clear HL HT HF
          refine wTk 14 ?_
          refine wTk 15 ?_
          refine wTk 16 ?_
          refine wpAnyH_done (by kernel_rfl) ?_ _
          clear hHeld HR
          go_wp2
          go_ret
          exact ⟨false, rfl, by simp [HN.out], Y.out.2.1⟩
        · have HV : Hid (rowsTo ms (k + 1)) := HT.out (HL.out.1 (by omega))
          clear HL HT HF
          refine wTk 14 ?_
          refine wTk 15 ?_
          refine wTk 16 ?_
          refine wpAnyH_done (by kernel_rfl) ?_ _
          clear hHeld HR
          go_wp2
          go_roundw
          case rel => exact ⟨k + 1, by omega, by go_num, HV.out, Y.out.2.1⟩
          case measure => simp [intOf]; omega
    · have hkl' : ¬ (k : Int) < (ms.length : Int) := by omega
      have HN : Hid (rowsP ms) := rowsP_yes (by omega) (by omega) HV.out
      clear HV
      go_wp2
      go_ret
      exact ⟨true, rfl, by simp [HN.out], HB.out⟩
end Go.Proofs.Ytomcpdbaenohdaa
