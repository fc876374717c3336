/- Marks: what is written into rows of a view. -/
import Derived.Test.YtomcpdbaenohdaaRows
import Derived.WalkKit
import Derived.WalkSpells
import Derived.WalkLawsBesides
import Derived.Deep.QuietTactic
import Derived.BigQuiet
import Derived.Deep.RegionHeld3
import Derived.Test.YtomcpdbaenohdaaRb
import Derived.LoopN
import Derived.Lib.ConvBytes
namespace Go.Proofs.Ytomcpdbaenohdaa
open Go.RowKit
set_option linter.unusedSimpArgs false
set_option linter.unusedVariables false
/-- The digits of k, none of 0. -/
def mtP (k : Nat) : List UInt8 := if h : k = 0 then [] else mtP (k / 10) ++ [UInt8.ofNat (48 + k % 10)]
termination_by k
decreasing_by omega
/-- The k-th mark. -/
def mt (k : Nat) : ByteArray := ⟨#[109]⟩ ++ ⟨(mtP k).toArray⟩
theorem conv_one (W : World) (b : Nat) (c : UInt8) (h : W.cell? ⟨b, 0, none⟩ = some (.int .u8 (c.toNat : Int))) : Sem.run Try.prog (convert 72 9 (.slice (some ⟨b, 0, none⟩) 1 1)) W = .ok (.string ⟨#[c]⟩) W := by
  have := run_convert_bytes_back (P := Try.prog) W 72 9 5 ⟨b, 0, none⟩ 1 [c] Try.underlying72 Try.underlying5 Try.underlying9 (fun j hj => by
    have hj0 : j = 0 := by simpa using hj
    subst hj0
    exact h)
  exact this
theorem u8_small (n : Nat) (h : n < 256) : (UInt8.ofNat n).toNat = n := by simp; omega
theorem mt_step (j : Nat) (out : ByteArray) (c : UInt8) (hj : 0 < j) (hc : c = UInt8.ofNat (48 + j % 10)) : mtP j ++ out.data.toList = mtP (j / 10) ++ ((⟨#[c]⟩ : ByteArray) ++ out).data.toList := by
  rw [mtP, dif_neg (by omega), hc]
  simp
set_option maxHeartbeats 2000000 in
theorem markText_any (k : Nat) (h1 : 1 ≤ k) (hk : k ≤ 1000000000) (w : World) :
    Calls Try.prog 29 #[.int .i64 k] w fun e w' => e = .returned (.string (mt k)) ∧ Below w.heap.size w w' := by
  have h0 : ¬ (k : Int) ≤ 0 := by omega
  go_enter Try.func29, Try.ntmps29
  go_wp2
  go_loopw [0, 3] (fun s0 s3 wr => ∃ (j : Nat) (out : ByteArray), j ≤ k ∧ s0 = .int .i64 j ∧ s3 = .string out ∧ out.size + j ≤ k ∧ mtP k = mtP j ++ out.data.toList ∧ Below w.heap.size w wr) (fun s0 _ _ => (intOf s0).toNat)
  case atStart => exact ⟨k, ⟨#[]⟩, by omega, rfl, rfl, (show 0 + k ≤ k by omega), by simp, Below.refl _ _⟩
  case round =>
    obtain ⟨j, out, hj, rfl, rfl, hs, hE0, hB0⟩ := hrel
    have hE : Hid (mtP k = mtP j ++ out.data.toList) := hE0
    have hB : Hid (Below w.heap.size w wr) := hB0
    clear hE0 hB0
    by_cases hp : 0 < j
    · have hp' : (0 : Int) < (j : Int) := by omega
      have hp2 : (0 : Int) ≤ (j : Int) := by omega
      have q1 : IntKind.i64.wrap ((j : Int) / 10) = (j : Int) / 10 := by rw [IntKind.wrap_i64]; omega
      have q2 : ((j : Int)).tmod 10 = (j : Int) % 10 := Int.tmod_eq_emod_of_nonneg hp2
      have q3 : IntKind.i64.wrap (48 + (j : Int) % 10) = 48 + (j : Int) % 10 := by rw [IntKind.wrap_i64]; omega
      have q4 : IntKind.u8.wrap (48 + (j : Int) % 10) = 48 + (j : Int) % 10 := by unfold IntKind.wrap; simp [IntKind.bits, IntKind.signed]; omega
      have q5 : ((j : Int)).tdiv 10 = (j : Int) / 10 := Int.tdiv_eq_ediv_of_nonneg hp2
      obtain ⟨c, hc⟩ : ∃ c : UInt8, c = UInt8.ofNat (48 + j % 10) := ⟨_, rfl⟩
      have hcn : (c.toNat : Int) = 48 + (j : Int) % 10 := by rw [hc, u8_small _ (by omega)]; omega
      have hcv := conv_one (wr.alloc (.cells #[.int .u8 (48 + (j : Int) % 10)] 5)) wr.heap.size c (by rw [hcn]; go_simp)
      have HS : Hid (mtP k = mtP (j / 10) ++ ((⟨#[c]⟩ : ByteArray) ++ out).data.toList) := by show _ = _; rw [hE.out, mt_step j out c hp hc]
      have HZ : Hid (((⟨#[c]⟩ : ByteArray) ++ out).size + j / 10 ≤ k) := by
        show _ ≤ _
        rw [ByteArray.size_append, show (⟨#[c]⟩ : ByteArray).size = 1 from rfl]
        omega
      have hov : ¬ 9223372036854775807 < 1 + out.size := by omega
      have hov' : ¬ 9223372036854775807 < out.size + 1 := by omega
      have B1 : Hid (∀ o, Below w.heap.size w (wr.alloc o)) := fun o => (bel_next hB (bel_alloc _ _)).out
      clear hc hcn
      go_wp2
      go_roundw
      case rel => exact ⟨j / 10, ⟨#[c]⟩ ++ out, by omega, by first | rfl | go_num | simp, by first | rfl | simp, HZ.out, HS.out, B1.out _⟩
      case measure => simp [intOf]; omega
    · have hp' : ¬ (0 : Int) < (j : Int) := by omega
      have hov : ¬ 9223372036854775807 < 1 + out.size := by omega
      have hov' : ¬ 9223372036854775807 < out.size + 1 := by omega
      have HR : Hid (mt k = ⟨#[109]⟩ ++ out) := by
        show _ = _
        have e : mtP j = [] := by rw [mtP, dif_pos (by omega)]
        unfold mt
        rw [hE.out, e]
        simp
      go_wp2
      go_ret
      exact ⟨by rw [HR.out]; rfl, hB.out⟩

set_option maxHeartbeats 2000000 in
theorem markIs_any (g n q k : Nat) (w : World) (hn : n ≤ 1048576) (hk : k ≤ 100000000) (hT0 : There w g n) :
    Calls Try.prog 30 #[.slice (some ⟨g, 0, none⟩) n q, .int .i64 k] w fun e w' => e = .returned (.int .i64 ((k : Int) + n)) ∧ w.grownBy w' (some g) ∧ There w' g n ∧ ∀ i, i < n → w'.cell? ⟨g, i, none⟩ = some (.int .i64 ((k : Int) + i)) := by
  have hT : Hid (There w g n) := hT0
  clear hT0
  go_enter Try.func30, Try.ntmps30
  go_wp2
  go_loopw [1, 5] (fun s1 s5 wr => ∃ j : Nat, j ≤ n ∧ s5 = .int .i64 j ∧ s1 = .int .i64 ((k : Int) + j) ∧ w.grownBy wr (some g) ∧ There wr g n ∧ ∀ i, i < j → wr.cell? ⟨g, i, none⟩ = some (.int .i64 ((k : Int) + i))) (fun _ s5 _ => n - (intOf s5).toNat)
  case atStart => exact ⟨0, by omega, rfl, by simp, gb_refl _ _, hT.out, fun i hi => by omega⟩
  case round =>
    obtain ⟨j, hj, rfl, rfl, hG0, hT0, hM0⟩ := hrel
    have hG : Hid (w.grownBy wr (some g)) := hG0
    have hT1 : Hid (There wr g n) := hT0
    have hM : Hid (∀ i, i < j → wr.cell? ⟨g, i, none⟩ = some (.int .i64 ((k : Int) + i))) := hM0
    clear hG0 hT0 hT hM0
    by_cases hjn : j < n
    · have hjn' : (j : Int) < (n : Int) := by omega
      have j0 : (0 : Int) ≤ (j : Int) := by omega
      obtain ⟨v0, y0⟩ := Option.isSome_iff_exists.1 (hT1.out j hjn).1
      have z0 := (hT1.out j hjn).2
      go_wp2
      go_roundw
      case rel =>
        refine ⟨j + 1, by omega, by go_num, by go_num, gb_trans hG.out (gb_set _ _ _ _), hT1.out.set, fun i hi => ?_⟩
        by_cases e : i = j
        · subst e; exact cell_same y0
        · exact cell_oth (hM.out i (by omega)) e
      case measure => simp [intOf]; omega
    · have hjn' : ¬ (j : Int) < (n : Int) := by omega
      have e : j = n := by omega
      subst e
      go_wp2
      go_ret
      exact ⟨rfl, hG.out, hT1.out, hM.out⟩
set_option maxHeartbeats 2000000 in
theorem heldIs_any (g n q k : Nat) (w : World) (hn : n ≤ 1048576) (hk : k ≤ 100000000) (hM0 : ∀ i, i < n → w.cell? ⟨g, i, none⟩ = some (.int .i64 ((k : Int) + i))) :
    Calls Try.prog 31 #[.slice (some ⟨g, 0, none⟩) n q, .int .i64 k] w fun e w' => e = .returned (.int .i64 ((k : Int) + n)) ∧ w' = w := by
  have hM : Hid (∀ i, i < n → w.cell? ⟨g, i, none⟩ = some (.int .i64 ((k : Int) + i))) := hM0
  clear hM0
  go_enter Try.func31, Try.ntmps31
  go_wp2
  go_loopw [1, 5] (fun s1 s5 wr => ∃ j : Nat, j ≤ n ∧ s5 = .int .i64 j ∧ s1 = .int .i64 ((k : Int) + j) ∧ wr = w) (fun _ s5 _ => n - (intOf s5).toNat)
  case atStart => exact ⟨0, by omega, rfl, by simp, rfl⟩
  case round =>
    obtain ⟨j, hj, rfl, rfl, rfl⟩ := hrel
    by_cases hjn : j < n
    · have hjn' : (j : Int) < (n : Int) := by omega
      have j0 : (0 : Int) ≤ (j : Int) := by omega
      have y0 := hM.out j hjn
      go_wp2
      go_roundw
      case rel => first | exact ⟨j + 1, by omega, by go_num, by go_num, trivial⟩ | exact ⟨j + 1, by omega, by go_num, by go_num, rfl⟩ | ((repeat apply Exists.intro); exact ⟨⟨j + 1, by omega, by go_num, by go_num, rfl⟩, rfl⟩)
      case measure => simp [intOf]; omega
    · have hjn' : ¬ (j : Int) < (n : Int) := by omega
      have e : j = n := by omega
      subst e
      go_wp2
      go_ret
      exact ⟨rfl, rfl⟩
/-- A row's marks from k on. -/
def mk1 (r : Rw) (k : Nat) : Rw := ⟨k, mt (k + 1), (List.range r.vs.length).map (fun i : Nat => ((k + 2 : Nat) : Int) + (i : Int))⟩
def mkM (m : Rm) (k : Nat) : Rm := ⟨mk1 m.r k, m.p, m.q⟩
def cntL : List Rm → Nat
  | [] => 0
  | m :: l => m.r.vs.length + 2 + cntL l
def mkL : List Rm → Nat → List Rm
  | [], _ => []
  | m :: l, k => mkM m k :: mkL l (k + (m.r.vs.length + 2))
theorem mk1_len (r : Rw) (k : Nat) : (mk1 r k).vs.length = r.vs.length := by simp [mk1]
theorem mkL_len : ∀ (l : List Rm) (k : Nat), (mkL l k).length = l.length
  | [], _ => rfl
  | m :: l, k => by simp [mkL, mkL_len l]
theorem cntL_app : ∀ (a b : List Rm), cntL (a ++ b) = cntL a + cntL b
  | [], b => by simp [cntL]
  | m :: a, b => by simp [cntL, cntL_app a b]; omega
theorem mkL_app : ∀ (a b : List Rm) (k : Nat), mkL (a ++ b) k = mkL a k ++ mkL b (k + cntL a)
  | [], b, k => by simp [mkL, cntL]
  | m :: a, b, k => by
    simp only [List.cons_append, mkL, cntL, mkL_app a b, List.cons_append]
    rw [Nat.add_assoc k]
theorem cntL_take {l : List Rm} {j : Nat} (h : j < l.length) : cntL (l.take (j + 1)) = cntL (l.take j) + (l[j].r.vs.length + 2) := by
  rw [List.take_succ_eq_append_getElem h, cntL_app]
  simp [cntL]
theorem mkL_take {l : List Rm} {j : Nat} (h : j < l.length) (k : Nat) : mkL (l.take (j + 1)) k = mkL (l.take j) k ++ [mkM l[j] (k + cntL (l.take j))] := by
  rw [List.take_succ_eq_append_getElem h, mkL_app]
  simp [mkL]
theorem cntL_le {l : List Rm} (j : Nat) : cntL (l.take j) ≤ cntL l := by
  have := cntL_app (l.take j) (l.drop j)
  rw [List.take_append_drop] at this
  omega
theorem cntL_at {l : List Rm} {j : Nat} (h : j < l.length) : cntL (l.take j) + (l[j].r.vs.length + 2) ≤ cntL l := by
  rw [← cntL_take h]; exact cntL_le _
theorem mkL_at {l : List Rm} {j : Nat} (h : j < l.length) (k : Nat) (h' : j < (mkL l k).length) : (mkL l k)[j] = mkM l[j] (k + cntL (l.take j)) := by
  have e : mkL l k = mkL (l.take (j + 1)) k ++ mkL (l.drop (j + 1)) (k + cntL (l.take (j + 1))) := by rw [← mkL_app, List.take_append_drop]
  have e2 : (mkL l k)[j]? = some (mkM l[j] (k + cntL (l.take j))) := by
    rw [e, mkL_take h]
    have hl : (mkL (l.take j) k).length = j := by rw [mkL_len, List.length_take]; omega
    rw [List.append_assoc, List.getElem?_append_right (by omega), hl]
    simp
  rw [List.getElem?_eq_getElem h'] at e2
  exact Option.some.inj e2
theorem Sub.kp {E : Nat → Prop} {lo : Nat} {W W' : World} {m : Rm} (h : Sub lo W m) (k : Kp E W W') (hn : ¬ E (blk m.p)) : Sub lo W' m :=
  ⟨h.at', h.lo, Nat.lt_of_lt_of_le h.up k.size, fun j hj => ⟨by rw [World.cell?_of_block (w := W) (k.block _ h.up hn)]; exact (h.wr j hj).1, by rw [World.frozen?_of_block (w := W) (k.block _ h.up hn)]; exact (h.wr j hj).2⟩, fun i hi => by rw [World.cell?_of_block (w := W) (k.block _ h.up hn)]; exact h.is i hi⟩
/-- One row is turned: its cells and its numbers, no other. -/
theorem RW.turn {lo : Nat} {W W' : World} {g n j : Nat} {l : List Rm} {y : Rm} (h : RW lo W g n l) (hj : j < l.length) (hp : y.p = l[j].p) (hk : Kp (fun b => b = g ∨ b = blk l[j].p) W W') (hT : There W' g (n * 3)) (ha : RAt W' g (j * 3) y) (ho : ∀ i (hi : i < l.length), i ≠ j → RAt W' g (i * 3) l[i])
    (hs : Sub lo W' y) : RW lo W' g n (l.set j y) := by
  refine ⟨h.ge, Nat.lt_of_lt_of_le h.up hk.size, hT, by simpa using h.le, fun i hi => ?_, fun m hm => ?_, fun a b ha' hb' hab => ?_⟩
  · by_cases e : j = i
    · subst e; simpa using ha
    · rw [List.getElem_set_ne e]; exact ho i (by simpa using hi) (fun e' => e e'.symm)
  · obtain ⟨i, hi, rfl⟩ := List.getElem_of_mem hm
    by_cases e : j = i
    · subst e
      simp only [List.getElem_set_self]
      exact ⟨hs, by rw [hp]; exact (h.sub _ (List.getElem_mem hj)).2⟩
    · rw [List.getElem_set_ne e]
      have hi' : i < l.length := by simpa using hi
      have hb := h.sub _ (List.getElem_mem hi')
      refine ⟨hb.1.kp hk (fun q => ?_), hb.2⟩
      rcases q with q | q
      · exact hb.2 q
      · rcases Nat.lt_or_gt_of_ne e with q' | q'
        · have := h.apart j i hj hi' q'; omega
        · have := h.apart i j hi' hj q'; omega
  · have e : ∀ i (hi : i < (l.set j y).length), blk ((l.set j y)[i]).p = blk (l[i]'(by simpa using hi)).p := fun i hi => by
      by_cases e : j = i
      · subst e; simp [hp]
      · rw [List.getElem_set_ne e]
    rw [e a ha', e b hb']
    exact h.apart a b _ _ hab
theorem RAt.one {W : World} {g k o : Nat} {u : Value} {x : Rm} (h : RAt W g o x) (hne : o + 2 < k ∨ k < o) : RAt (W.setCell ⟨g, k, none⟩ u) g o x :=
  ⟨by rw [cell_off (by omega)]; exact h.1, by rw [cell_off (by omega)]; exact h.2.1, by rw [cell_off (by omega)]; exact h.2.2⟩
theorem RAt.kp {E : Nat → Prop} {W W' : World} {g o : Nat} {x : Rm} (h : RAt W g o x) (k : Kp E W W') (hn : ¬ E g) : RAt W' g o x := by
  have hg := cell_lt (x := ⟨g, o, none⟩) h.1
  exact ⟨by rw [World.cell?_of_block (w := W) (k.block g hg hn)]; exact h.1, by rw [World.cell?_of_block (w := W) (k.block g hg hn)]; exact h.2.1, by rw [World.cell?_of_block (w := W) (k.block g hg hn)]; exact h.2.2⟩
theorem There.kp {E : Nat → Prop} {W W' : World} {g n : Nat} (h : There W g n) (hg : g < W.heap.size) (k : Kp E W W') (hn : ¬ E g) : There W' g n := fun j hj =>
  ⟨by rw [World.cell?_of_block (w := W) (k.block g hg hn)]; exact (h j hj).1, by rw [World.frozen?_of_block (w := W) (k.block g hg hn)]; exact (h j hj).2⟩
/-- The j-th row is marked: its two cells by stores with calls between them, its numbers by a call. -/
theorem RW.mark {lo : Nat} {w w1 w2 : World} {g n j k : Nat} {l : List Rm} (h : RW lo w g n l) (hj : j < l.length) (hb : Below (w.setCell ⟨g, j * 3, none⟩ (.int .i64 (k : Nat))).heap.size (w.setCell ⟨g, j * 3, none⟩ (.int .i64 (k : Nat))) w1)
    (hg : (w1.setCell ⟨g, j * 3 + 1, none⟩ (.string (mt (k + 1)))).grownBy w2 (some (blk l[j].p))) (hT : There w2 (blk l[j].p) l[j].r.vs.length) (hv : ∀ i, i < l[j].r.vs.length → w2.cell? ⟨blk l[j].p, i, none⟩ = some (.int .i64 (((k + 2 : Nat) : Int) + i))) :
    RW lo w2 g n (l.set j (mkM l[j] k)) ∧ Kp (fun b => b = g ∨ b = blk l[j].p) w w2 := by
  have hng := (h.sub _ (List.getElem_mem hj)).2
  have hup := (h.sub _ (List.getElem_mem hj)).1.up
  have h3 : j * 3 + 2 < n * 3 := by have := h.le; omega
  have k1 : Kp (· = g) w (w.setCell ⟨g, j * 3, none⟩ (.int .i64 (k : Nat))) := Kp.set
  have k2 : Kp (· = g) w w1 := k1.trans (Kp.of_below (E := fun _ => False) hb) (fun _ _ h => h) (fun _ _ h => h.elim)
  have k3 : Kp (· = g) w (w1.setCell ⟨g, j * 3 + 1, none⟩ (.string (mt (k + 1)))) := k2.trans Kp.set (fun _ _ h => h) (fun _ _ h => h)
  have k4 : Kp (fun b => b = g ∨ b = blk l[j].p) w w2 := k3.trans (Kp.of_grown hg) (fun _ _ h => .inl h) (fun _ _ h => .inr h)
  have hg1 : g < (w.setCell ⟨g, j * 3, none⟩ (.int .i64 (k : Nat))).heap.size := Nat.lt_of_lt_of_le h.up k1.size
  have hg3 : g < (w1.setCell ⟨g, j * 3 + 1, none⟩ (.string (mt (k + 1)))).heap.size := Nat.lt_of_lt_of_le h.up k3.size
  have kg := Kp.of_grown hg
  have hne : ¬ g = blk l[j].p := fun e => hng e.symm
  have t2 : There w2 g (n * 3) := There.kp ((h.wr.set.next hb hg1).set) hg3 kg hne
  refine ⟨h.turn hj rfl k4 t2 ?_ (fun i hi hij => ?_) ?_, k4⟩
  · have c0 : (w.setCell ⟨g, j * 3, none⟩ (.int .i64 (k : Nat))).cell? ⟨g, j * 3, none⟩ = some (.int .i64 (k : Nat)) := cell_here (h.wr _ (by omega)).1
    have c0' := cell_oth (u := .string (mt (k + 1))) (o' := j * 3 + 1) (cell_next hb c0 hg1) (by omega)
    have c2 : (w.setCell ⟨g, j * 3, none⟩ (.int .i64 (k : Nat))).cell? ⟨g, j * 3 + 2, none⟩ = some (.slice l[j].p l[j].r.vs.length l[j].q) := cell_oth (h.is j hj).2.2 (by omega)
    have c2' := cell_oth (u := .string (mt (k + 1))) (o' := j * 3 + 1) (cell_next hb c2 hg1) (by omega)
    have c1' : (w1.setCell ⟨g, j * 3 + 1, none⟩ (.string (mt (k + 1)))).cell? ⟨g, j * 3 + 1, none⟩ = some (.string (mt (k + 1))) := cell_here ((h.wr.set.next hb hg1) _ (by omega)).1
    have e : ∀ o, w2.cell? ⟨g, o, none⟩ = (w1.setCell ⟨g, j * 3 + 1, none⟩ (.string (mt (k + 1)))).cell? ⟨g, o, none⟩ := fun o => World.cell?_of_block (kg.block g hg3 hne)
    refine ⟨?_, ?_, ?_⟩
    · rw [e]; exact c0'
    · rw [e]; exact c1'
    · rw [e]
      show _ = some (Value.slice l[j].p (mk1 l[j].r k).vs.length l[j].q)
      rw [mk1_len]; exact c2'
  · exact (((((h.is i hi).one (by omega)).next hb hg1).one (by omega)).kp kg hne)
  · have hs := (h.sub _ (List.getElem_mem hj)).1
    refine ⟨hs.at', hs.lo, Nat.lt_of_lt_of_le hs.up k4.size, ?_, fun i hi => ?_⟩
    · show There w2 (blk l[j].p) (mk1 l[j].r k).vs.length
      rw [mk1_len]; exact hT
    · have hi' : i < l[j].r.vs.length := by have : i < (mk1 l[j].r k).vs.length := hi; rwa [mk1_len] at this
      show w2.cell? ⟨blk l[j].p, i, none⟩ = some (.int .i64 (mk1 l[j].r k).vs[i])
      rw [hv i hi']
      simp [mk1]
end Go.Proofs.Ytomcpdbaenohdaa
