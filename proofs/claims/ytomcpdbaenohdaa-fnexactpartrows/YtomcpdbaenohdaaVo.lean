/- A view of rows. -/
import Derived.Test.YtomcpdbaenohdaaRows
import Derived.WalkKit
import Derived.WalkSpells
import Derived.WalkLawsBesides
import Derived.Deep.QuietTactic
import Derived.BigQuiet
import Derived.Deep.RegionHeld3
import Derived.Test.YtomcpdbaenohdaaVa
import Derived.LoopN
namespace Go.Proofs.Ytomcpdbaenohdaa
open Go.RowKit
set_option linter.unusedSimpArgs false
set_option linter.unusedVariables false

/-- Some row has the part. -/
def inB (l : List Rm) (pt : Int) : Bool := l.any (fun m => decide (m.r.part = pt))
/-- The last row of a part and key. -/
def vat (l : List Rm) (pt : Int) (s : ByteArray) : Option Rm := l.reverse.find? (fun m => decide (m.r.part = pt) && decide (m.r.key = s))
theorem inB_snoc (l : List Rm) (x : Rm) (pt : Int) : inB (l ++ [x]) pt = (inB l pt || decide (x.r.part = pt)) := by simp [inB]
theorem vat_snoc (l : List Rm) (x : Rm) (pt : Int) (s : ByteArray) : vat (l ++ [x]) pt s = if x.r.part = pt ∧ x.r.key = s then some x else vat l pt s := by
  unfold vat
  rw [List.reverse_append, List.reverse_singleton, List.singleton_append, List.find?_cons]
  by_cases h1 : x.r.part = pt <;> by_cases h2 : x.r.key = s <;> simp [h1, h2]
theorem vat_none {l : List Rm} {pt : Int} (h : inB l pt = false) (s : ByteArray) : vat l pt s = none := by
  unfold vat
  rw [List.find?_eq_none]
  intro m hm
  have h1 := List.any_eq_false.1 h m (List.mem_reverse.1 hm)
  simp only [decide_eq_true_eq] at h1
  simp [h1]
/-- A view of rows: maps by parts, in them by keys, each in a block of its own. -/
structure VI (lo : Nat) (W : World) (vb : Nat) (ib : Int → Nat) (l : List Rm) : Prop where
  ge : lo ≤ vb
  out : MapI W Try.prog 3 vb l.length (fun pt => if inB l pt then some (.map (some (ib pt))) else none)
  inn : ∀ pt, inB l pt = true → lo ≤ ib pt ∧ ib pt ≠ vb ∧ MapF W Try.prog 9 (ib pt) l.length (fun s => (vat l pt s).map rowV)
  inj : ∀ a b, inB l a = true → inB l b = true → a ≠ b → ib a ≠ ib b
theorem VI.next {lo : Nat} {W W' : World} {vb : Nat} {ib : Int → Nat} {l : List Rm} (h : VI lo W vb ib l) (hb : Below W.heap.size W W') : VI lo W' vb ib l := ⟨h.ge, h.out.next hb, fun pt hp => ⟨(h.inn pt hp).1, (h.inn pt hp).2.1, (h.inn pt hp).2.2.next hb⟩, h.inj⟩
theorem VI.nil {lo : Nat} {W : World} (h : lo ≤ W.heap.size) : VI lo (W.alloc (.map #[] 0)) W.heap.size (fun _ => 0) [] := ⟨h, mapI_made W Try.prog 3, fun pt hp => by simp [inB] at hp, fun a b ha => by simp [inB] at ha⟩
theorem add_any (lo vb : Nat) (ib : Int → Nat) (l : List Rm) (x : Rm) (w : World) (hV : VI lo w vb ib l) (hl : l.length < 100000) (hw : (Lit.int .i64 x.r.part).wf = true) (hk : x.r.key.size ≤ maxLen) (hlo : lo ≤ w.heap.size) :
    Calls Try.prog 42 #[.map (some vb), .agg #[.int .i64 x.r.part, .string x.r.key, .slice x.p x.r.vs.length x.q]] w fun e w' => (∃ ib', VI lo w' vb ib' (l ++ [x])) ∧ Below lo w w' ∧ e = .returned (.tuple #[]) := by
  have hlen : (l ++ [x]).length = l.length + 1 := by simp
  cases hi : inB l x.r.part with
  | false =>
    refine (add_new vb l.length _ x w hV.out hl hw hk (by simp [hi])).mono ?_
    rintro e w' ⟨b, hb, hM, hF, hK, rfl⟩
    refine ⟨⟨fun p => if p = x.r.part then b else ib p, hV.ge, ?_, fun pt hp => ?_, fun p q hp hq hne => ?_⟩, hK.below hlo (fun c hc e => by have := hV.ge; omega), rfl⟩
    · rw [hlen]
      refine hM.same (fun s => ?_)
      unfold msetI
      rw [inB_snoc]
      by_cases e : s = x.r.part
      · subst e; simp
      · have e' : ¬ x.r.part = s := fun h => e h.symm
        simp [e, e']
    · rw [inB_snoc] at hp
      by_cases e : pt = x.r.part
      · subst e
        simp only [if_pos]
        refine ⟨Nat.le_trans hlo hb, fun e => by have := hV.out.lt; omega, ?_⟩
        rw [hlen]
        refine (hF.more (by omega)).same (fun s => ?_)
        rw [vat_snoc, vat_none hi]
        unfold mset
        by_cases e : s = x.r.key
        · subst e; simp
        · have e' : ¬ x.r.key = s := fun h => e h.symm
          simp [e, e']
      · have e' : ¬ x.r.part = pt := fun h => e h.symm
        have hp' : inB l pt = true := by simpa [e'] using hp
        simp only [if_neg e]
        obtain ⟨h1, h2, h3⟩ := hV.inn pt hp'
        refine ⟨h1, h2, ?_⟩
        rw [hlen]
        refine ((h3.kp hK (fun e => h2 e)).more (by omega)).same (fun s => ?_)
        rw [vat_snoc]
        simp [e']
    · rw [inB_snoc] at hp hq
      by_cases e1 : p = x.r.part
      · by_cases e2 : q = x.r.part
        · exact absurd (e1.trans e2.symm) hne
        · have e2' : ¬ x.r.part = q := fun h => e2 h.symm
          have hq' : inB l q = true := by simpa [e2'] using hq
          have := (hV.inn q hq').2.2.lt
          simp only [if_pos e1, if_neg e2]
          omega
      · have e1' : ¬ x.r.part = p := fun h => e1 h.symm
        have hp' : inB l p = true := by simpa [e1'] using hp
        have hl1 := (hV.inn p hp').2.2.lt
        by_cases e2 : q = x.r.part
        · simp only [if_neg e1, if_pos e2]
          omega
        · have e2' : ¬ x.r.part = q := fun h => e2 h.symm
          have hq' : inB l q = true := by simpa [e2'] using hq
          simp only [if_neg e1, if_neg e2]
          exact hV.inj p q hp' hq' hne
  | true =>
    obtain ⟨h1, h2, h3⟩ := hV.inn _ hi
    refine (add_old vb l.length (ib x.r.part) l.length _ _ x w hV.out h3 hl hw hk (by simp [hi]) h2).mono ?_
    rintro e w' ⟨hM, hF, hK, rfl⟩
    have hin : ∀ pt, inB (l ++ [x]) pt = inB l pt := fun pt => by
      rw [inB_snoc]
      by_cases e : x.r.part = pt
      · subst e; simp [hi]
      · simp [e]
    refine ⟨⟨ib, hV.ge, ?_, fun pt hp => ?_, fun p q hp hq hne => hV.inj p q (hin p ▸ hp) (hin q ▸ hq) hne⟩, hK.below hlo (fun c hc e => by omega), rfl⟩
    · rw [hlen]
      refine (hM.more (by omega)).same (fun s => ?_)
      rw [hin]
    · rw [hin] at hp
      obtain ⟨q1, q2, q3⟩ := hV.inn pt hp
      refine ⟨q1, q2, ?_⟩
      rw [hlen]
      by_cases e : pt = x.r.part
      · subst e
        refine hF.same (fun s => ?_)
        rw [vat_snoc]
        unfold mset
        by_cases e : s = x.r.key
        · subst e; simp
        · have e' : ¬ x.r.key = s := fun h => e h.symm
          simp [e, e']
      · have e' : ¬ x.r.part = pt := fun h => e h.symm
        refine ((q3.kp hK (fun h => hV.inj pt x.r.part hp hi e h)).more (by omega)).same (fun s => ?_)
        rw [vat_snoc]
        simp [e']
def VoP (w : World) (ms : List Rm) (e : Ending) (w' : World) : Prop := ∃ vb ib, VI w.heap.size w' vb ib ms ∧ Below w.heap.size w w' ∧ e = .returned (.map (some vb))
set_option maxRecDepth 20000 in
set_option maxHeartbeats 4000000 in
theorem viewOf_any (lo q : Nat) (p : Option Addr) (ms : List Rm) (w : World) (hm : ms.length ≤ 400) (hw : ∀ x ∈ ms, (Lit.int .i64 x.r.part).wf = true ∧ x.r.key.size ≤ maxLen) (hr0 : RR lo w p ms) :
    Calls Try.prog 27 #[.slice p ms.length q] w (VoP w ms) := by
  have hr : Hid _ := hr0.row.r
  have HW : Hid (∀ x ∈ ms, (Lit.int .i64 x.r.part).wf = true ∧ x.r.key.size ≤ maxLen) := hw
  have RM := fun (W : World) => run_makeMap (P := Try.prog) 48 W
  clear hr0 hw
  have V0 : Hid (VI w.heap.size (w.alloc (.map #[] 0)) w.heap.size (fun _ => 0) []) := VI.nil (Nat.le_refl _)
  go_enter Try.func27, Try.ntmps27
  go_wp2
  clear RM
  go_loopw [9] (fun s9 wr => ∃ k : Nat, k ≤ ms.length ∧ s9 = .int .i64 k ∧ (∃ ib, VI w.heap.size wr w.heap.size ib (ms.take k)) ∧ Below w.heap.size w wr) (fun s9 _ => ms.length - (Go.RowKit.intOf s9).toNat)
  case atStart => exact ⟨0, by omega, rfl, ⟨_, V0.out⟩, bel_alloc _ _⟩
  case round =>
    obtain ⟨k, hk, rfl, hV0, hB0⟩ := hrel
    obtain ⟨ib, hV0⟩ := hV0
    have HV : Hid (VI w.heap.size wr w.heap.size ib (ms.take k)) := hV0
    have HB : Hid (Below w.heap.size w wr) := hB0
    clear hV0 hB0 V0
    by_cases hkl : k < ms.length
    · have hkl' : (k : Int) < (ms.length : Int) := by omega
      have k0 : (0 : Int) ≤ (k : Int) := by omega
      rcases hr.out with h' | ⟨b, off, rfl, _, h2⟩
      · rw [h'] at hkl; simp at hkl
      obtain ⟨c0, c1, c2⟩ := (h2 k hkl).next HB.out (cell_lt (x := ⟨b, off + k * 3, none⟩) (h2 k hkl).1)
      have HC : Hid (∀ W, Below wr.heap.size wr W → Calls Try.prog 42 #[.map (some w.heap.size), .agg #[.int .i64 ms[k].r.part, .string ms[k].r.key, .slice ms[k].p ms[k].r.vs.length ms[k].q]] W fun e w' => (∃ ib', VI w.heap.size w' w.heap.size ib' (ms.take (k + 1))) ∧ Below w.heap.size W w' ∧ e = .returned (.tuple #[])) := fun W hW => by
        rw [List.take_succ_eq_append_getElem hkl]
        exact add_any w.heap.size w.heap.size ib (ms.take k) ms[k] W (HV.out.next hW) (by rw [List.length_take]; omega) (HW.out _ (List.getElem_mem _)).1 (HW.out _ (List.getElem_mem _)).2 (by have := HB.out.size; have := hW.size; omega)
      clear h2
      generalize ms[k] = x at *
      go_upto_region 5 with fail
      refine wp_gen (fun W => Box W wr.heap.size [.int .i64 x.r.part, .string x.r.key, .slice x.p x.r.vs.length x.q] ∧ Below wr.heap.size wr W) ?_ (fun W1 hI => ?_)
      · refine ⟨?_, ?_⟩
        · first | exact box_mk | skip
        · first | exact bel_alloc _ _ | skip
      have Y : Hid (Box W1 wr.heap.size [.int .i64 x.r.part, .string x.r.key, .slice x.p x.r.vs.length x.q] ∧ Below wr.heap.size wr W1) := hI
      clear hI c0 c1 c2
      obtain ⟨a0, a1, a2⟩ := Y.out.1.c3
      go_wp2_with fail
      refine (HC.out W1 Y.out.2).mono ?_
      rintro e W2 ⟨hV, hb, rfl⟩
      have HV2 : Hid (∃ ib', VI w.heap.size W2 w.heap.size ib' (ms.take (k + 1))) := hV
      have HB2 : Hid (Below w.heap.size w W2) := (HB.out.trans (Y.out.2.mono HB.out.size)).trans hb
      clear hV hb a0 a1 a2 Y HC HV HB
      go_wp2
      go_roundw
      case rel => exact ⟨k + 1, by omega, by go_num, HV2.out, HB2.out⟩
      case measure => simp [Go.RowKit.intOf]; omega
    · have hkl' : ¬ (k : Int) < (ms.length : Int) := by omega
      have e : k = ms.length := by omega
      subst e
      go_wp2
      go_ret
      refine ⟨w.heap.size, ib, ?_, HB.out, rfl⟩
      have := HV.out
      rw [List.take_length] at this
      exact this
end Go.Proofs.Ytomcpdbaenohdaa
