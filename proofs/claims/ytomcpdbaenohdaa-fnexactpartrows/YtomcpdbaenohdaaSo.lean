/- Rows made anew, on the specification's side. -/
import Derived.Test.YtomcpdbaenohdaaRows
import Derived.WalkKit
import Derived.WalkSpells
import Derived.WalkLawsBesides
import Derived.Deep.QuietTactic
import Derived.BigQuiet
import Derived.Deep.RegionHeld3
import Derived.Test.YtomcpdbaenohdaaTd
import Derived.Test.YtomcpdbaenohdaaZk
import Derived.Test.YtomcpdbaenohdaaPi
import Derived.Test.YtomcpdbaenohdaaRp
import Derived.LoopN
namespace Go.Proofs.Ytomcpdbaenohdaa
open Go.RowKit
set_option linter.unusedSimpArgs false
set_option linter.unusedVariables false

def OwP (ms : List Rm) (w : World) (e : Ending) (w' : World) : Prop := ∃ po pc ns, e = .returned (.slice po ns.length pc) ∧ ns.map Rm.r = ms.map Rm.r ∧ TI w.heap.size w' po pc ns ∧ Below w.heap.size w w'
set_option maxRecDepth 100000 in
set_option maxHeartbeats 4000000 in
theorem own12_any (lo q : Nat) (p : Option Addr) (ms : List Rm) (w : World) (hm : ms.length ≤ 400) (hx0 : ∀ x ∈ ms, 0 < x.r.vs.length ∧ x.r.vs.length ≤ 1048576) (hr0 : RR lo w p ms) :
    Calls Try.prog 25 #[.slice p ms.length q] w (OwP ms w) := by
  have hr : Hid _ := hr0.row.r
  have hsub : Hid (∀ m ∈ ms, GRow lo w m.p (ints m.r.vs)) := hr0.sub
  have HX : Hid (∀ x ∈ ms, 0 < x.r.vs.length ∧ x.r.vs.length ≤ 1048576) := hx0
  clear hr0 hx0
  have T0 : Hid (TdI w.heap.size w (w.alloc (.cells #[] 38)) ms 0 (some ⟨w.heap.size, 0, none⟩) 0 []) := ⟨⟨OwnG.lit (Nat.le_refl _), fun m h => by simp at h, fun i j h => by simp at h⟩, rfl, rfl, bel_alloc _ _⟩
  go_enter Try.func25, Try.ntmps25
  go_wp2
  go_loopw [3, 4] (fun s3 s4 wr => ∃ j : Nat, j ≤ ms.length ∧ s4 = .int .i64 j ∧ TdJ w.heap.size w ms j s3 wr) (fun _ s4 _ => ms.length - (Go.RowKit.intOf s4).toNat)
  case atStart => exact ⟨0, by omega, rfl, _, _, _, rfl, T0.out⟩
  case round =>
    clear T0
    obtain ⟨j, hj, rfl, po, pc, ns, rfl, hT0⟩ := hrel
    have HT : Hid (TdI w.heap.size w wr ms j po pc ns) := hT0
    clear hT0
    have j0 : (0 : Int) ≤ (j : Int) := by omega
    by_cases hjl : j < ms.length
    · have hjl' : (j : Int) < (ms.length : Int) := by omega
      rcases hr.out with h' | ⟨b, off, rfl, _, h2⟩
      · rw [h'] at hjl; simp at hjl
      have AT : Hid (RAt wr b (off + j * 3) ms[j] ∧ b < wr.heap.size) := ⟨(h2 j hjl).next HT.out.b (cell_lt (x := ⟨b, off + j * 3, none⟩) (h2 j hjl).1), Nat.lt_of_lt_of_le (cell_lt (x := ⟨b, off + j * 3, none⟩) (h2 j hjl).1) HT.out.b.size⟩
      have BW : Hid (b < w.heap.size) := cell_lt (x := ⟨b, off + j * 3, none⟩) (h2 j hjl).1
      have GR : Hid (GRow lo wr ms[j].p (ints ms[j].r.vs)) := (hsub.out _ (List.getElem_mem _)).next HT.out.b
      have hv := HX.out _ (List.getElem_mem hjl)
      have HS : Hid (∀ (y : Rm) W po' pc', y.r = ms[j].r → TI w.heap.size W po' pc' (ns ++ [y]) → Below w.heap.size w W → TdI w.heap.size w W ms (j + 1) po' pc' (ns ++ [y])) := fun y W po' pc' h1 h2 h3 => ⟨h2, by rw [List.map_append, HT.out.r, List.take_succ_eq_append_getElem hjl, List.map_append, List.map_cons, List.map_nil, List.map_cons, List.map_nil, h1], by simp [HT.out.n], h3⟩
      have HN : Hid (ns.length = j) := HT.out.n
      clear h2
      generalize ms[j] = x at *
      go_upto_region 5 with fail
      refine wp_region_held_drew (S := (fun w' => w'.cell? ⟨b, off + j * 3, none⟩ = some (.int .i64 x.r.part) ∧ w'.cell? ⟨b, off + j * 3 + 1, none⟩ = some (.string x.r.key) ∧ w'.cell? ⟨b, off + j * 3 + 2, none⟩ = some (.slice x.p x.r.vs.length x.q))) (by kernel_rfl) ?_ (fun hHeld => ?_)
      · (try dsimp only)
        exact AT.out.1.next (bel_drew _) AT.out.2
      replace HT : Hid (TdI w.heap.size w wr.drew ms j po pc ns) := HT.out.next (bel_drew _)
      replace GR : Hid (GRow lo wr.drew x.p (ints x.r.vs)) := GR.out.next (bel_drew _)
      have BL : Hid (b < wr.drew.heap.size) := AT.out.2
      replace AT : Hid (RAt wr.drew b (off + j * 3) x) := AT.out.1.next (bel_drew _) AT.out.2
      generalize wr.drew = wd at *
      refine wTk 0 ?_
      refine wTk 1 ?_
      refine wTk 2 ?_
      refine wTk 3 ?_
      refine wTk 4 ?_
      refine wTk 5 ?_
      refine wTk 6 ?_
      refine wTk 7 ?_
      refine wTk 8 ?_
      refine wTk 9 ?_
      refine wTk 10 ?_
      refine wTk 12 ?_
      refine wTk 13 ?_
      refine wTk 14 ?_
      refine wTk 15 ?_
      refine wTk 16 ?_
      refine wRd 11 (fun K hK => ?_)
      go_simp
      (try simp only [])
      have B2 : Below wd.heap.size wd (wd.alloc (.cells #[] 3)) := bel_alloc _ _
      have O2 : Hid (OwnG (wd.alloc (.cells #[] 3)) 3 1 (.slice (some ⟨wd.heap.size, 0, none⟩) 0 0) 0 [] wd.heap.size ∧ GRow lo (wd.alloc (.cells #[] 3)) x.p (ints x.r.vs) ∧ Below wd.heap.size wd (wd.alloc (.cells #[] 3))) := ⟨OwnG.lit (Nat.le_refl _), GR.out.next B2, B2⟩
      refine wHk hK (AT.out.next B2 BL.out) ?_
      clear hK K hHeld B2
      intro hHeld
      generalize wd.alloc (.cells #[] 3) = W2 at *
      refine wRd 17 (fun K hK => ?_)
      rw [if_pos (by rfl)]
      refine wp_appG elI (.tmp 23) (.tmp 28) rfl (.slice (some ⟨wd.heap.size, 0, none⟩) 0 0) 0 [] wd.heap.size x.r.vs.length rfl O2.out.1 O2.out.2.2.size x.p x.r.vs.length x.q (ints x.r.vs) rfl (by simp [ints]) (ints_one _) lo O2.out.2.1 (by omega) (by omega) ?_
      intro vo vc W3 hO hG _
      have B3 : Below wd.heap.size wd W3 := O2.out.2.2.trans (hG.below O2.out.2.2.size (fun k hk => O2.out.1.ge k hk))
      have Y3 : Hid (Sub wd.heap.size W3 ⟨x.r, vo, vc⟩ ∧ Below wd.heap.size wd W3) := ⟨sub_of (by simpa using hO) hv.1, B3⟩
      clear O2
      refine wHk hK (AT.out.next B3 BL.out) ?_
      clear hK K hHeld B3 hO hG
      intro hHeld
      refine wTk 18 ?_
      refine wRd 19 (fun K hK => ?_)
      go_simp
      (try simp only [])
      obtain ⟨y, hy⟩ : ∃ y : Rm, y = ⟨x.r, vo, vc⟩ := ⟨_, rfl⟩
      have B4 : Below W3.heap.size W3 (W3.alloc (.cells #[.int .i64 x.r.part, .string x.r.key, .slice vo x.r.vs.length vc] 38)) := bel_alloc _ _
      have L4 : Hid (GRow 0 (W3.alloc (.cells #[.int .i64 x.r.part, .string x.r.key, .slice vo x.r.vs.length vc] 38)) (some ⟨W3.heap.size, 0, none⟩) (flatR [⟨x.r, vo, vc⟩])) := row_lit (y := ⟨x.r, vo, vc⟩)
      have B5 : Hid (Below wd.heap.size wd (W3.alloc (.cells #[.int .i64 x.r.part, .string x.r.key, .slice vo x.r.vs.length vc] 38))) := Y3.out.2.trans (B4.mono Y3.out.2.size)
      have S5 : Hid (Sub wd.heap.size (W3.alloc (.cells #[.int .i64 x.r.part, .string x.r.key, .slice vo x.r.vs.length vc] 38)) ⟨x.r, vo, vc⟩) := Y3.out.1.next B4
      refine wHk hK (AT.out.next B5.out BL.out) ?_
      clear hK K hHeld B4 Y3
      intro hHeld
      generalize (W3.alloc (.cells #[.int .i64 x.r.part, .string x.r.key, .slice vo x.r.vs.length vc] 38)) = W5 at *
      have O5 : Hid (OwnG W5 38 3 (.slice po j pc) j (flatR ns) w.heap.size ∧ w.heap.size ≤ W5.heap.size) := by
        have := HT.out.t.own.next B5.out
        rw [HN.out] at this
        exact ⟨this, Nat.le_trans HT.out.b.size B5.out.size⟩
      refine wRd 20 (fun K hK => ?_)
      rw [if_pos (by rfl)]
      refine wp_appG elR (.tmp 12) (.tmp 31) rfl (.slice po j pc) j (flatR ns) w.heap.size (j + 1) rfl O5.out.1 O5.out.2 (some ⟨W3.heap.size, 0, none⟩) 1 1 (flatR [⟨x.r, vo, vc⟩]) rfl (by simp [flatR]) (flatR_one _) 0 L4.out (by omega) rfl ?_
      intro uo uc W6 hO hG _
      have HD : Hid (TdJ w.heap.size w ms (j + 1) (.slice uo (j + 1) uc) W6 ∧ Below w.heap.size W5 W6) := by
        have hn := HN.out
        subst hn
        have t3 := (HT.out.t.next B5.out).add S5.out HT.out.b.size (fun m hm => (HT.out.t.sub m hm).1.up) (fun k hk => (HT.out.t.own.lt k hk).2) hO hG
        have hb6 := hG.below O5.out.2 (fun k hk => O5.out.1.ge k hk)
        exact ⟨⟨uo, uc, _, rfl, HS.out ⟨x.r, vo, vc⟩ W6 uo uc rfl t3 ((HT.out.b.trans (B5.out.mono HT.out.b.size)).trans hb6)⟩, hb6⟩
      have KC : Hid (RAt W6 b (off + j * 3) x) := (AT.out.next B5.out BL.out).kp (Kp.of_gro hG) (fun e => by have h1 := O5.out.1.ge b e; have h2 := BW.out; omega)
      refine wHk hK KC.out ?_
      clear hK K hHeld hO hG
      intro hHeld
      refine wTk 21 ?_
      refine wpAnyH_done (by kernel_rfl) ?_ _
      clear hHeld
      go_wp2
      go_roundw
      case rel => exact ⟨j + 1, by omega, by go_num, HD.out.1⟩
      case measure => simp [Go.RowKit.intOf]; omega
    · have hjl' : ¬ (j : Int) < (ms.length : Int) := by omega
      have e : j = ms.length := by omega
      subst e
      go_wp2
      go_ret
      refine ⟨po, pc, ns, by rw [HT.out.n]; rfl, ?_, HT.out.t, HT.out.b⟩
      have := HT.out.r
      rw [List.take_length] at this
      exact this

theorem specIn (pt : Int) (b : Bool) (hb : b = true ↔ (0 ≤ pt ∧ pt ≤ 3)) (w : World) : Calls Try.prog 18 #[.int .i64 pt, .int .i64 0, .int .i64 3] w fun e w' => e = .returned (.bool b) ∧ w' = w := by
  cases b with
  | true => exact in_yes pt 0 3 w (hb.1 rfl).1 (hb.1 rfl).2
  | false => exact in_no pt 0 3 w (fun h => by have := hb.2 h; cases this)
/-- What is picked: rows as they are, in a slice of its own. -/
structure PkI (w W : World) (ms : List Rm) (pt : Int) (j : Nat) (po : Option Addr) (pc : Nat) : Prop where
  own : OwnG W 38 3 (.slice po (ofP (ms.take j) pt).length pc) (ofP (ms.take j) pt).length (flatR (ofP (ms.take j) pt)) w.heap.size
  b : Below w.heap.size w W
def PkJ (w : World) (ms : List Rm) (pt : Int) (j : Nat) (s : Value) (W : World) : Prop := ∃ po pc, s = .slice po (ofP (ms.take j) pt).length pc ∧ PkI w W ms pt j po pc
theorem ofP_take {ms : List Rm} {pt : Int} {j : Nat} (h : j < ms.length) : ofP (ms.take (j + 1)) pt = ofP (ms.take j) pt ++ (if ms[j].r.part = pt then [ms[j]] else []) := by
  unfold ofP
  rw [List.take_succ_eq_append_getElem h, List.filter_append]
  congr 1
  by_cases e : ms[j].r.part = pt <;> simp [e]
set_option maxRecDepth 100000 in
set_option maxHeartbeats 4000000 in
theorem specPart (lo q : Nat) (p : Option Addr) (ms : List Rm) (pt : Int) (w : World) (hm : (ms.length : Int) ≤ 1048576) (hx : ∀ x ∈ ms, (x.r.vs.length : Int) ≤ 1048576) (hks : ∀ x ∈ ms, x.r.key.size < 1099511627776) (hr0 : RR lo w p ms) :
    Calls Try.prog 11 #[.slice p ms.length q, .int .i64 pt] w (PtP ms pt w) := by
  have TL : Hid (∀ W : World, Below w.heap.size w W → TI w.heap.size (W.alloc (.cells #[] 38)) (some ⟨W.heap.size, 0, none⟩) 0 [] ∧ Below w.heap.size w (W.alloc (.cells #[] 38))) := fun W hW => ⟨⟨OwnG.lit hW.size, fun m h => by simp at h, fun i j h => by simp at h⟩, hW.trans ((bel_alloc _ _).mono hW.size)⟩
  by_cases h1 : 4096 < (ms.length : Int)
  · go_enter Try.func11, Try.ntmps11
    go_wp2
    go_ret2
    exact ⟨2, [], _, 0, [], .inl ⟨by omega, rfl, rfl⟩, rfl, rfl, (TL.out w (Below.refl _ _)).1, (TL.out w (Below.refl _ _)).2⟩
  have RO := specRows lo q p ms w hm hx hks hr0
  have HR : Hid (RR lo w p ms) := hr0
  clear hr0
  have h1' : ms.length ≤ 4096 := by omega
  by_cases h2 : rowsP ms
  case neg =>
    have HN : Hid (¬ rowsP ms) := h2
    clear h2 hx hks
    go_enter Try.func11, Try.ntmps11
    go_wp2_with fail
    refine RO.mono ?_
    rintro e W1 ⟨r, rfl, hq, hb⟩
    obtain rfl : r = false := bool_no hq HN.out
    have HB : Hid (Below w.heap.size w W1) := hb
    clear hq hb
    go_wp2
    go_ret2
    exact ⟨1, [], _, 0, [], .inr (.inl ⟨h1', HN.out, rfl, rfl⟩), rfl, rfl, (TL.out W1 HB.out).1, (TL.out W1 HB.out).2⟩
  have HP : Hid (rowsP ms) := h2
  clear h2
  by_cases h3 : 0 ≤ pt ∧ pt ≤ 3
  case neg =>
    have H3 : Hid (¬ (0 ≤ pt ∧ pt ≤ 3)) := h3
    clear h3 hx hks
    go_enter Try.func11, Try.ntmps11
    go_wp2_with fail
    refine RO.mono ?_
    rintro e W1 ⟨r, rfl, hq, hb⟩
    obtain rfl : r = true := bool_yes hq HP.out
    have HB : Hid (Below w.heap.size w W1) := hb
    clear hq hb
    go_wp2_with fail
    refine (specIn pt false (by simp [H3.out]) _).mono ?_
    rintro e W2 ⟨rfl, rfl⟩
    go_wp2
    go_ret2
    exact ⟨4, [], _, 0, [], .inr (.inr (.inl ⟨h1', HP.out, H3.out, rfl, rfl⟩)), rfl, rfl, (TL.out _ HB.out).1, (TL.out _ HB.out).2⟩
  have H3 : Hid (0 ≤ pt ∧ pt ≤ 3) := h3
  have HX : Hid (∀ x ∈ ms, 0 < x.r.vs.length ∧ x.r.vs.length ≤ 1048576) := fun x hxm => by
    obtain ⟨i, hi, rfl⟩ := List.getElem_of_mem hxm
    obtain ⟨⟨h4, h5, h6, h7⟩, _⟩ := (HP.out.2 i hi hi).1
    exact ⟨by omega, by omega⟩
  have h400 : ms.length ≤ 400 := HP.out.1
  clear h3 hx hks
  have hr : Hid _ := HR.out.row.r
  go_enter Try.func11, Try.ntmps11
  go_wp2_with fail
  refine RO.mono ?_
  rintro e W1 ⟨r, rfl, hq, hb⟩
  obtain rfl : r = true := bool_yes hq HP.out
  have HB : Hid (Below w.heap.size w W1) := hb
  clear hq hb RO
  go_wp2_with fail
  refine (specIn pt true (by simp [H3.out]) _).mono ?_
  rintro e W2 ⟨rfl, hw2⟩
  subst hw2
  have P0 : Hid (PkI w (W2.alloc (.cells #[] 38)) ms pt 0 (some ⟨W2.heap.size, 0, none⟩) 0) := ⟨OwnG.lit HB.out.size, (TL.out _ HB.out).2⟩
  clear TL
  go_wp2
  go_loopw [6, 7] (fun s6 s7 wr => ∃ j : Nat, j ≤ ms.length ∧ s7 = .int .i64 j ∧ PkJ w ms pt j s6 wr) (fun _ s7 _ => ms.length - (Go.RowKit.intOf s7).toNat)
  case atStart => exact ⟨0, by omega, rfl, _, _, rfl, P0.out⟩
  case round =>
    clear P0 HB
    obtain ⟨j, hj, rfl, po, pc, rfl, hT0⟩ := hrel
    have HT : Hid (PkI w wr ms pt j po pc) := hT0
    clear hT0
    have j0 : (0 : Int) ≤ (j : Int) := by omega
    by_cases hjl : j < ms.length
    · have hjl' : (j : Int) < (ms.length : Int) := by omega
      rcases hr.out with h' | ⟨b, off, rfl, _, h2⟩
      · rw [h'] at hjl; simp at hjl
      obtain ⟨c0, c1, c2⟩ := (h2 j hjl).next HT.out.b (cell_lt (x := ⟨b, off + j * 3, none⟩) (h2 j hjl).1)
      have hlen : (ofP (ms.take j) pt).length ≤ 400 := Nat.le_trans (ofP_len _ _) (by rw [List.length_take]; omega)
      by_cases hpt : ms[j].r.part = pt
      · have HS : Hid (∀ W vo vc, OwnG W 38 3 (.slice vo ((ofP (ms.take j) pt).length + 1) vc) ((ofP (ms.take j) pt).length + 1) (flatR (ofP (ms.take j) pt) ++ flatR [ms[j]]) w.heap.size → Below w.heap.size w W → PkJ w ms pt (j + 1) (.slice vo ((ofP (ms.take j) pt).length + 1) vc) W) := fun W vo vc h3 h4 => by
          have e := ofP_take (pt := pt) hjl
          rw [if_pos hpt] at e
          have el : (ofP (ms.take (j + 1)) pt).length = (ofP (ms.take j) pt).length + 1 := by rw [e]; simp
          refine ⟨vo, vc, by rw [el], ?_, h4⟩
          rw [el, e, flatR_app]
          exact h3
        have hd : (ms[j].r.part == pt) = true := by simpa using hpt
        have hd2 : decide (ms[j].r.part = pt) = true := decide_eq_true hpt
        have OW : Hid (OwnG wr 38 3 (.slice po (ofP (ms.take j) pt).length pc) (ofP (ms.take j) pt).length (flatR (ofP (ms.take j) pt)) w.heap.size ∧ Below w.heap.size w wr) := ⟨HT.out.own, HT.out.b⟩
        clear h2 hpt HT
        generalize ms[j] = x at *
        generalize ofP (ms.take j) pt = l at *
        obtain ⟨W2, hW2⟩ : ∃ W2, W2 = wr.alloc (.cells #[.int .i64 x.r.part, .string x.r.key, .slice x.p x.r.vs.length x.q] 38) := ⟨_, rfl⟩
        have LT : Hid (GRow 0 W2 (some ⟨wr.heap.size, 0, none⟩) (flatR [x]) ∧ Below wr.heap.size wr W2) := ⟨hW2 ▸ row_lit, hW2 ▸ bel_alloc _ _⟩
        have O2 : Hid (OwnG W2 38 3 (.slice po l.length pc) l.length (flatR l) w.heap.size ∧ w.heap.size ≤ W2.heap.size) := ⟨OW.out.1.next LT.out.2, Nat.le_trans OW.out.2.size LT.out.2.size⟩
        go_wp2_with (first | (at_builtin; rw [← hW2]; refine wpList_appG elR rfl _ _ rfl (.slice po l.length pc) l.length (flatR l) w.heap.size (l.length + 1) rfl O2.out.1 O2.out.2 (some ⟨wr.heap.size, 0, none⟩) 1 1 (flatR [x]) rfl (by simp [flatR]) (flatR_one _) 0 LT.out.1 (by omega) rfl ?_) | go_in)
        intro vo vc W3 hO hG _
        rw [← hW2] at hG
        have HD : Hid (PkJ w ms pt (j + 1) (.slice vo (l.length + 1) vc) W3) := HS.out W3 vo vc hO ((OW.out.2.trans (LT.out.2.mono OW.out.2.size)).trans (hG.below O2.out.2 (fun k hk => O2.out.1.ge k hk)))
        clear hO hG O2 LT OW HS hW2 c0 c1 c2
        go_wp2
        go_roundw
        case rel => exact ⟨j + 1, by omega, by go_num, HD.out⟩
        case measure => simp [Go.RowKit.intOf]; omega
      · have hd : (ms[j].r.part == pt) = false := by simpa using hpt
        have hd2 : decide (ms[j].r.part = pt) = false := decide_eq_false hpt
        have HD : Hid (PkJ w ms pt (j + 1) (.slice po (ofP (ms.take j) pt).length pc) wr) := by
          have e := ofP_take (pt := pt) hjl
          rw [if_neg hpt, List.append_nil] at e
          refine ⟨po, pc, by rw [e], ?_, HT.out.b⟩
          rw [e]
          exact HT.out.own
        clear h2 hpt HT
        generalize ms[j] = x at *
        generalize (ofP (ms.take j) pt).length = l at *
        go_wp2
        go_roundw
        case rel => exact ⟨j + 1, by omega, by go_num, HD.out⟩
        case measure => simp [Go.RowKit.intOf]; omega
    · have hjl' : ¬ (j : Int) < (ms.length : Int) := by omega
      have e : j = ms.length := by omega
      subst e
      have OW : Hid (OwnG wr 38 3 (.slice po (ofP ms pt).length pc) (ofP ms pt).length (flatR (ofP ms pt)) w.heap.size ∧ Below w.heap.size w wr) := by
        have := HT.out.own
        rw [List.take_length] at this
        exact ⟨this, HT.out.b⟩
      have CA : Hid (Calls Try.prog 25 #[.slice po (ofP ms pt).length pc] wr (OwP (ofP ms pt) wr)) := by
        refine own12_any 0 pc po (ofP ms pt) wr (Nat.le_trans (ofP_len _ _) h400) (fun x hx => HX.out x (ofP_mem.1 hx).1) ⟨?_, fun m hm => ((HR.out.sub m (ofP_mem.1 hm).1).next OW.out.2).weak (Nat.zero_le _)⟩
        obtain ⟨p2, c2, e2, _, hG⟩ := OW.out.1.grow
        cases e2
        exact hG.weak (Nat.zero_le _)
      have hle : (ofP (ms.take ms.length) pt).length = (ofP ms pt).length := by rw [List.take_length]
      rw [hle]
      clear HT hle
      go_wp2_with fail
      refine CA.out.mono ?_
      rintro e W6 ⟨vo, vc, ns, rfl, hr6, hT, hb⟩
      have HD : Hid (ns.map Rm.r = (ms.map Rm.r).filter (fun r => decide (r.part = pt)) ∧ TI w.heap.size W6 vo vc ns ∧ Below w.heap.size w W6) := ⟨hr6.trans (ofP_r ms pt), hT.weak OW.out.2.size, OW.out.2.trans (hb.mono OW.out.2.size)⟩
      clear hr6 hT hb CA OW
      go_wp2
      go_ret2
      exact ⟨0, _, vo, vc, ns, .inr (.inr (.inr ⟨h1', HP.out, H3.out, rfl, rfl⟩)), rfl, HD.out.1, HD.out.2.1, HD.out.2.2⟩
end Go.Proofs.Ytomcpdbaenohdaa
