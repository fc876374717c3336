/- Acts: ActOK of both sides, and its law. -/
import Derived.Test.YtdepclilngaacaaDoorRows
import Derived.WalkKit
import Derived.WalkSpells
import Derived.WalkLawsBesides
import Derived.Deep.QuietTactic
import Derived.BigQuiet
import Derived.Deep.RegionHeld3
import Derived.Test.YtdepclilngaacaaDoorKy
import Derived.LoopN
import Derived.Deep.Cut
namespace Go.Proofs.YtdepclilngaacaaDoor
open Go.RowKit
set_option linter.unusedSimpArgs false
set_option linter.unusedVariables false

def Inn (x lo hi : Int) : Prop := lo ≤ x ∧ x ≤ hi
theorem inb_y (x lo hi : Int) (h : Hid (Inn x lo hi)) (w : World) : Calls Tryd.prog 16 #[.int .i64 x, .int .i64 lo, .int .i64 hi] w fun e w' => e = .returned (.bool true) ∧ w' = w := in_yes x lo hi w h.out.1 h.out.2
theorem inb_n (x lo hi : Int) (h : Hid (¬ Inn x lo hi)) (w : World) : Calls Tryd.prog 16 #[.int .i64 x, .int .i64 lo, .int .i64 hi] w fun e w' => e = .returned (.bool false) ∧ w' = w := in_no x lo hi w h.out

set_option maxHeartbeats 1000000 in
theorem nodeb_y (x : Int) (h : Hid (Inn x 0 2)) (w : World) : Calls Tryd.prog 31 #[.int .i64 x] w fun e w' => e = .returned (.bool true) ∧ w' = w := by
  go_enter Tryd.func31, Tryd.ntmps31
  go_wp2_with (go_at_call 16; refine (inb_y x 0 2 h _).mono ?_; rintro e w1 ⟨rfl, rfl⟩)
  go_ret
  exact ⟨rfl, rfl⟩
theorem spKey_y (s : ByteArray) (h : Hid (keyP s)) (hs : Hid (s.size < 1099511627776)) (w : World) : Calls Tryd.prog 32 #[.string s] w fun e w' => e = .returned (.bool true) ∧ w' = w := specKey_any s true (by simp [h.out]) w hs.out
theorem imKey_y (s : ByteArray) (h : Hid (keyP s)) (hs : Hid (s.size < 1099511627776)) (w : World) : Calls Tryd.prog 27 #[.string s] w fun e w' => e = .returned (.bool true) ∧ w' = w := implKey_any s true (by simp [h.out]) w hs.out

set_option maxHeartbeats 1000000 in
theorem nodeb_n (x : Int) (h : Hid (¬ Inn x 0 2)) (w : World) : Calls Tryd.prog 31 #[.int .i64 x] w fun e w' => e = .returned (.bool false) ∧ w' = w := by
  go_enter Tryd.func31, Tryd.ntmps31
  go_wp2_with (go_at_call 16; refine (inb_n x 0 2 h _).mono ?_; rintro e w1 ⟨rfl, rfl⟩)
  go_ret
  exact ⟨rfl, rfl⟩
theorem spKey_n (s : ByteArray) (h : Hid (¬ keyP s)) (hs : Hid (s.size < 1099511627776)) (w : World) : Calls Tryd.prog 32 #[.string s] w fun e w' => e = .returned (.bool false) ∧ w' = w := specKey_any s false (by simp [h.out]) w hs.out
theorem imKey_n (s : ByteArray) (h : Hid (¬ keyP s)) (hs : Hid (s.size < 1099511627776)) (w : World) : Calls Tryd.prog 27 #[.string s] w fun e w' => e = .returned (.bool false) ∧ w' = w := implKey_any s false (by simp [h.out]) w hs.out

set_option maxHeartbeats 1000000 in
theorem isNodeb_y (x : Int) (h : Hid (Inn x 0 2)) (w : World) : Calls Tryd.prog 25 #[.int .i64 x] w fun e w' => e = .returned (.bool true) ∧ w' = w := by
  have h1 : 0 ≤ x := h.out.1
  have h2 : x ≤ 2 := h.out.2
  have h3 : x < 2 + 1 := by omega
  clear h
  go_enter Tryd.func25, Tryd.ntmps25
  go_wp2
  go_ret
  exact ⟨ret_bool (by simp; try omega), rfl⟩

set_option maxHeartbeats 1000000 in
theorem isNodeb_n (x : Int) (h : Hid (¬ Inn x 0 2)) (w : World) : Calls Tryd.prog 25 #[.int .i64 x] w fun e w' => e = .returned (.bool false) ∧ w' = w := by
  rcases show ¬ 0 ≤ x ∨ (0 ≤ x ∧ ¬ x ≤ 2) by have := h.out; unfold Inn at this; omega with h1 | ⟨h1, h2⟩
  · clear h
    go_enter Tryd.func25, Tryd.ntmps25
    go_wp2
    go_ret
    exact ⟨ret_bool (by simp), rfl⟩
  · clear h
    go_enter Tryd.func25, Tryd.ntmps25
    go_wp2
    go_ret
    exact ⟨ret_bool (by simp; try omega), rfl⟩

set_option maxHeartbeats 1000000 in
theorem ofActb_y (x : Int) (h : Hid (Inn x 0 100)) (w : World) : Calls Tryd.prog 26 #[.int .i64 x] w fun e w' => e = .returned (.bool true) ∧ w' = w := by
  have h1 : 0 ≤ x := h.out.1
  have h2 : x ≤ 100 := h.out.2
  have h3 : x < 100 + 1 := by omega
  clear h
  go_enter Tryd.func26, Tryd.ntmps26
  go_wp2
  go_ret
  exact ⟨ret_bool (by simp; try omega), rfl⟩

set_option maxHeartbeats 1000000 in
theorem ofActb_n (x : Int) (h : Hid (¬ Inn x 0 100)) (w : World) : Calls Tryd.prog 26 #[.int .i64 x] w fun e w' => e = .returned (.bool false) ∧ w' = w := by
  rcases show ¬ 0 ≤ x ∨ (0 ≤ x ∧ ¬ x ≤ 100) by have := h.out; unfold Inn at this; omega with h1 | ⟨h1, h2⟩
  · clear h
    go_enter Tryd.func26, Tryd.ntmps26
    go_wp2
    go_ret
    exact ⟨ret_bool (by simp), rfl⟩
  · clear h
    go_enter Tryd.func26, Tryd.ntmps26
    go_wp2
    go_ret
    exact ⟨ret_bool (by simp; try omega), rfl⟩

set_option maxHeartbeats 1000000 in
theorem valueb_y (x : Int) (h : Hid (Inn x 0 999)) (w : World) : Calls Tryd.prog 28 #[.int .i64 x, .bool false] w fun e w' => e = .returned (.bool true) ∧ w' = w := by
  have h1 : 0 ≤ x := h.out.1
  have h2 : x ≤ 999 := h.out.2
  have h3 : x < 999 + 1 := by omega
  clear h
  go_enter Tryd.func28, Tryd.ntmps28
  go_wp2
  go_ret
  exact ⟨ret_bool (by simp; try omega), rfl⟩

set_option maxHeartbeats 1000000 in
theorem valueb_n (x : Int) (h : Hid (¬ Inn x 0 999)) (w : World) : Calls Tryd.prog 28 #[.int .i64 x, .bool false] w fun e w' => e = .returned (.bool false) ∧ w' = w := by
  rcases show ¬ 0 ≤ x ∨ (0 ≤ x ∧ ¬ x ≤ 999) by have := h.out; unfold Inn at this; omega with h1 | ⟨h1, h2⟩
  · clear h
    go_enter Tryd.func28, Tryd.ntmps28
    go_wp2
    go_ret
    exact ⟨ret_bool (by simp), rfl⟩
  · clear h
    go_enter Tryd.func28, Tryd.ntmps28
    go_wp2
    go_ret
    exact ⟨ret_bool (by simp; try omega), rfl⟩

def actP (k n m v p : Int) (key : ByteArray) : Prop := Inn k 1 14 ∧ Inn n 0 2 ∧ Inn m 0 100 ∧ (key.toList = [] ∨ keyP key) ∧ Inn v 0 999 ∧ Inn p 0 100

theorem inb (x lo hi : Int)  (w : World) : Calls Tryd.prog 16 #[.int .i64 x, .int .i64 lo, .int .i64 hi] w fun e w' => ∃ b, e = .returned (.bool b) ∧ Hid (b = true ↔ Inn x lo hi) ∧ w' = w := by
  by_cases h : Inn x lo hi
  · refine (inb_y x lo hi h w).mono ?_
    rintro e w' ⟨rfl, rfl⟩
    exact ⟨true, rfl, ⟨fun _ => h, fun _ => rfl⟩, rfl⟩
  · refine (inb_n x lo hi h w).mono ?_
    rintro e w' ⟨rfl, rfl⟩
    exact ⟨false, rfl, ⟨fun e => (by cases e), fun e => (h e).elim⟩, rfl⟩

theorem nodeb (x : Int)  (w : World) : Calls Tryd.prog 31 #[.int .i64 x] w fun e w' => ∃ b, e = .returned (.bool b) ∧ Hid (b = true ↔ Inn x 0 2) ∧ w' = w := by
  by_cases h : Inn x 0 2
  · refine (nodeb_y x h w).mono ?_
    rintro e w' ⟨rfl, rfl⟩
    exact ⟨true, rfl, ⟨fun _ => h, fun _ => rfl⟩, rfl⟩
  · refine (nodeb_n x h w).mono ?_
    rintro e w' ⟨rfl, rfl⟩
    exact ⟨false, rfl, ⟨fun e => (by cases e), fun e => (h e).elim⟩, rfl⟩

theorem isNodeb (x : Int)  (w : World) : Calls Tryd.prog 25 #[.int .i64 x] w fun e w' => ∃ b, e = .returned (.bool b) ∧ Hid (b = true ↔ Inn x 0 2) ∧ w' = w := by
  by_cases h : Inn x 0 2
  · refine (isNodeb_y x h w).mono ?_
    rintro e w' ⟨rfl, rfl⟩
    exact ⟨true, rfl, ⟨fun _ => h, fun _ => rfl⟩, rfl⟩
  · refine (isNodeb_n x h w).mono ?_
    rintro e w' ⟨rfl, rfl⟩
    exact ⟨false, rfl, ⟨fun e => (by cases e), fun e => (h e).elim⟩, rfl⟩

theorem ofActb (x : Int)  (w : World) : Calls Tryd.prog 26 #[.int .i64 x] w fun e w' => ∃ b, e = .returned (.bool b) ∧ Hid (b = true ↔ Inn x 0 100) ∧ w' = w := by
  by_cases h : Inn x 0 100
  · refine (ofActb_y x h w).mono ?_
    rintro e w' ⟨rfl, rfl⟩
    exact ⟨true, rfl, ⟨fun _ => h, fun _ => rfl⟩, rfl⟩
  · refine (ofActb_n x h w).mono ?_
    rintro e w' ⟨rfl, rfl⟩
    exact ⟨false, rfl, ⟨fun e => (by cases e), fun e => (h e).elim⟩, rfl⟩

theorem valueb (x : Int)  (w : World) : Calls Tryd.prog 28 #[.int .i64 x, .bool false] w fun e w' => ∃ b, e = .returned (.bool b) ∧ Hid (b = true ↔ Inn x 0 999) ∧ w' = w := by
  by_cases h : Inn x 0 999
  · refine (valueb_y x h w).mono ?_
    rintro e w' ⟨rfl, rfl⟩
    exact ⟨true, rfl, ⟨fun _ => h, fun _ => rfl⟩, rfl⟩
  · refine (valueb_n x h w).mono ?_
    rintro e w' ⟨rfl, rfl⟩
    exact ⟨false, rfl, ⟨fun e => (by cases e), fun e => (h e).elim⟩, rfl⟩

theorem spKey (s : ByteArray) (hs : Hid (s.size < 1099511627776)) (w : World) : Calls Tryd.prog 32 #[.string s] w fun e w' => ∃ b, e = .returned (.bool b) ∧ Hid (b = true ↔ keyP s) ∧ w' = w := by
  by_cases h : keyP s
  · refine (spKey_y s h hs w).mono ?_
    rintro e w' ⟨rfl, rfl⟩
    exact ⟨true, rfl, ⟨fun _ => h, fun _ => rfl⟩, rfl⟩
  · refine (spKey_n s h hs w).mono ?_
    rintro e w' ⟨rfl, rfl⟩
    exact ⟨false, rfl, ⟨fun e => (by cases e), fun e => (h e).elim⟩, rfl⟩

theorem imKey (s : ByteArray) (hs : Hid (s.size < 1099511627776)) (w : World) : Calls Tryd.prog 27 #[.string s] w fun e w' => ∃ b, e = .returned (.bool b) ∧ Hid (b = true ↔ keyP s) ∧ w' = w := by
  by_cases h : keyP s
  · refine (imKey_y s h hs w).mono ?_
    rintro e w' ⟨rfl, rfl⟩
    exact ⟨true, rfl, ⟨fun _ => h, fun _ => rfl⟩, rfl⟩
  · refine (imKey_n s h hs w).mono ?_
    rintro e w' ⟨rfl, rfl⟩
    exact ⟨false, rfl, ⟨fun e => (by cases e), fun e => (h e).elim⟩, rfl⟩

set_option maxHeartbeats 4000000 in
theorem specAct (k n m v p : Int) (key : ByteArray) (bl : Bool) (r : Bool) (hr : Hid (r = true ↔ actP k n m v p key)) (HS : Hid (key.size < 1099511627776)) (w : World) : Calls Tryd.prog 17 #[.agg #[.int .i64 k, .int .i64 n, .int .i64 m, .string key, .int .i64 v, .int .i64 p, .bool bl]] w fun e w' => e = .returned (.bool r) ∧ Below w.heap.size w w' := by
  have HB : Hid (Below w.heap.size w (w.alloc (.cells #[.int .i64 k, .int .i64 n, .int .i64 m, .string key, .int .i64 v, .int .i64 p, .bool bl] 23))) := bel_alloc _ _
  go_enter Tryd.func17, Tryd.ntmps17
  go_wp2_with fail
  refine (inb k 1 14 _).mono ?_
  rintro e w1 ⟨b, rfl, Hb, rfl⟩
  cases b
  · have HR : Hid (r = false) := bool_no hr (fun h => absurd (Hb.out.2 h.1) (by simp))
    clear Hb
    go_wp2
    go_ret
    exact ⟨ret_bool HR.out.symm, HB.out⟩
  · have Qk : Hid (Inn k 1 14) := Hb.out.1 rfl
    clear Hb
    go_wp2_with fail
    refine (nodeb n _).mono ?_
    rintro e w1 ⟨b, rfl, Hb, rfl⟩
    cases b
    · have HR : Hid (r = false) := bool_no hr (fun h => absurd (Hb.out.2 h.2.1) (by simp))
      clear Hb
      go_wp2
      go_ret
      exact ⟨ret_bool HR.out.symm, HB.out⟩
    · have Qn : Hid (Inn n 0 2) := Hb.out.1 rfl
      clear Hb
      go_wp2_with fail
      refine (inb m 0 100 _).mono ?_
      rintro e w1 ⟨b, rfl, Hb, rfl⟩
      cases b
      · have HR : Hid (r = false) := bool_no hr (fun h => absurd (Hb.out.2 h.2.2.1) (by simp))
        clear Hb
        go_wp2
        go_ret
        exact ⟨ret_bool HR.out.symm, HB.out⟩
      · have Qm : Hid (Inn m 0 100) := Hb.out.1 rfl
        clear Hb
        rcases (show key.toList = [] ∨ key.toList ≠ [] by by_cases h : key.toList = [] <;> simp [h]) with HE | HE
        · have he : (key.toList == []) = true := by simp [HE]
          have QK : Hid (key.toList = [] ∨ keyP key) := .inl HE
          go_wp2_with fail
          refine (inb v 0 999 _).mono ?_
          rintro e w1 ⟨b, rfl, Hb, rfl⟩
          cases b
          · have HR : Hid (r = false) := bool_no hr (fun h => absurd (Hb.out.2 h.2.2.2.2.1) (by simp))
            clear Hb
            go_wp2
            go_ret
            exact ⟨ret_bool HR.out.symm, HB.out⟩
          · have Qv : Hid (Inn v 0 999) := Hb.out.1 rfl
            clear Hb
            go_wp2_with fail
            refine (inb p 0 100 _).mono ?_
            rintro e w1 ⟨b, rfl, Hb, rfl⟩
            cases b
            · have HR : Hid (r = false) := bool_no hr (fun h => absurd (Hb.out.2 h.2.2.2.2.2) (by simp))
              clear Hb
              go_wp2
              go_ret
              exact ⟨ret_bool HR.out.symm, HB.out⟩
            · have Qp : Hid (Inn p 0 100) := Hb.out.1 rfl
              clear Hb
              have HR : Hid (r = true) := hr.out.2 ⟨Qk.out, Qn.out, Qm.out, QK.out, Qv.out, Qp.out⟩
              go_wp2
              go_ret
              exact ⟨ret_bool HR.out.symm, HB.out⟩
        · have he : (key.toList == []) = false := by simp [HE]
          have HN : Hid (key.toList ≠ []) := HE
          go_wp2_with fail
          refine (spKey key HS _).mono ?_
          rintro e w1 ⟨b, rfl, Hb, rfl⟩
          cases b
          · have HR : Hid (r = false) := bool_no hr (fun h => by rcases h.2.2.2.1 with h | h; exact HN.out h; exact absurd (Hb.out.2 h) (by simp))
            clear Hb
            go_wp2
            go_ret
            exact ⟨ret_bool HR.out.symm, HB.out⟩
          · have QK : Hid (key.toList = [] ∨ keyP key) := .inr (Hb.out.1 rfl)
            clear Hb
            go_wp2_with fail
            refine (inb v 0 999 _).mono ?_
            rintro e w1 ⟨b, rfl, Hb, rfl⟩
            cases b
            · have HR : Hid (r = false) := bool_no hr (fun h => absurd (Hb.out.2 h.2.2.2.2.1) (by simp))
              clear Hb
              go_wp2
              go_ret
              exact ⟨ret_bool HR.out.symm, HB.out⟩
            · have Qv : Hid (Inn v 0 999) := Hb.out.1 rfl
              clear Hb
              go_wp2_with fail
              refine (inb p 0 100 _).mono ?_
              rintro e w1 ⟨b, rfl, Hb, rfl⟩
              cases b
              · have HR : Hid (r = false) := bool_no hr (fun h => absurd (Hb.out.2 h.2.2.2.2.2) (by simp))
                clear Hb
                go_wp2
                go_ret
                exact ⟨ret_bool HR.out.symm, HB.out⟩
              · have Qp : Hid (Inn p 0 100) := Hb.out.1 rfl
                clear Hb
                have HR : Hid (r = true) := hr.out.2 ⟨Qk.out, Qn.out, Qm.out, QK.out, Qv.out, Qp.out⟩
                go_wp2
                go_ret
                exact ⟨ret_bool HR.out.symm, HB.out⟩

set_option maxHeartbeats 4000000 in
theorem implAct (k n m v p : Int) (key : ByteArray) (bl : Bool) (r : Bool) (hr : Hid (r = true ↔ actP k n m v p key)) (HS : Hid (key.size < 1099511627776)) (w : World) : Calls Tryd.prog 12 #[.agg #[.int .i64 k, .int .i64 n, .int .i64 m, .string key, .int .i64 v, .int .i64 p, .bool bl]] w fun e w' => e = .returned (.bool r) ∧ Below w.heap.size w w' := by
  have HB : Hid (Below w.heap.size w (w.alloc (.cells #[.int .i64 k, .int .i64 n, .int .i64 m, .string key, .int .i64 v, .int .i64 p, .bool bl] 23))) := bel_alloc _ _
  rcases show ¬ 1 ≤ k ∨ (1 ≤ k ∧ ¬ k ≤ 14) ∨ (1 ≤ k ∧ k ≤ 14) by omega with h1 | ⟨h1, h2⟩ | ⟨h1, h2⟩
  · have HR : Hid (r = false) := bool_no hr (fun h => h1 h.1.1)
    go_enter Tryd.func12, Tryd.ntmps12
    go_wp2
    go_ret
    exact ⟨ret_bool HR.out.symm, HB.out⟩
  · have HR : Hid (r = false) := bool_no hr (fun h => h2 h.1.2)
    go_enter Tryd.func12, Tryd.ntmps12
    go_wp2
    go_ret
    exact ⟨ret_bool HR.out.symm, HB.out⟩
  · have Qk : Hid (Inn k 1 14) := ⟨h1, h2⟩
    go_enter Tryd.func12, Tryd.ntmps12
    go_wp2_with fail
    refine (isNodeb n _).mono ?_
    rintro e w1 ⟨b, rfl, Hb, rfl⟩
    cases b
    · have HR : Hid (r = false) := bool_no hr (fun h => absurd (Hb.out.2 h.2.1) (by simp))
      clear Hb
      go_wp2
      go_ret
      exact ⟨ret_bool HR.out.symm, HB.out⟩
    · have Qn : Hid (Inn n 0 2) := Hb.out.1 rfl
      clear Hb
      go_wp2_with fail
      refine (ofActb m _).mono ?_
      rintro e w1 ⟨b, rfl, Hb, rfl⟩
      cases b
      · have HR : Hid (r = false) := bool_no hr (fun h => absurd (Hb.out.2 h.2.2.1) (by simp))
        clear Hb
        go_wp2
        go_ret
        exact ⟨ret_bool HR.out.symm, HB.out⟩
      · have Qm : Hid (Inn m 0 100) := Hb.out.1 rfl
        clear Hb
        go_wp2_with fail
        refine (ofActb p _).mono ?_
        rintro e w1 ⟨b, rfl, Hb, rfl⟩
        cases b
        · have HR : Hid (r = false) := bool_no hr (fun h => absurd (Hb.out.2 h.2.2.2.2.2) (by simp))
          clear Hb
          go_wp2
          go_ret
          exact ⟨ret_bool HR.out.symm, HB.out⟩
        · have Qp : Hid (Inn p 0 100) := Hb.out.1 rfl
          clear Hb
          rcases (show key.toList = [] ∨ key.toList ≠ [] by by_cases h : key.toList = [] <;> simp [h]) with HE | HE
          · have he : (key.toList == []) = true := by simp [HE]
            have QK : Hid (key.toList = [] ∨ keyP key) := .inl HE
            go_wp2_with fail
            refine (valueb v _).mono ?_
            rintro e w1 ⟨b, rfl, Hb, rfl⟩
            cases b
            · have HR : Hid (r = false) := bool_no hr (fun h => absurd (Hb.out.2 h.2.2.2.2.1) (by simp))
              clear Hb
              go_wp2
              go_ret
              exact ⟨ret_bool HR.out.symm, HB.out⟩
            · have Qv : Hid (Inn v 0 999) := Hb.out.1 rfl
              clear Hb
              have HR : Hid (r = true) := hr.out.2 ⟨Qk.out, Qn.out, Qm.out, QK.out, Qv.out, Qp.out⟩
              go_wp2
              go_ret
              exact ⟨ret_bool HR.out.symm, HB.out⟩
          · have he : (key.toList == []) = false := by simp [HE]
            have HN : Hid (key.toList ≠ []) := HE
            go_wp2_with fail
            refine (imKey key HS _).mono ?_
            rintro e w1 ⟨b, rfl, Hb, rfl⟩
            cases b
            · have HR : Hid (r = false) := bool_no hr (fun h => by rcases h.2.2.2.1 with h | h; exact HN.out h; exact absurd (Hb.out.2 h) (by simp))
              clear Hb
              go_wp2
              go_ret
              exact ⟨ret_bool HR.out.symm, HB.out⟩
            · have QK : Hid (key.toList = [] ∨ keyP key) := .inr (Hb.out.1 rfl)
              clear Hb
              go_wp2_with fail
              refine (valueb v _).mono ?_
              rintro e w1 ⟨b, rfl, Hb, rfl⟩
              cases b
              · have HR : Hid (r = false) := bool_no hr (fun h => absurd (Hb.out.2 h.2.2.2.2.1) (by simp))
                clear Hb
                go_wp2
                go_ret
                exact ⟨ret_bool HR.out.symm, HB.out⟩
              · have Qv : Hid (Inn v 0 999) := Hb.out.1 rfl
                clear Hb
                have HR : Hid (r = true) := hr.out.2 ⟨Qk.out, Qn.out, Qm.out, QK.out, Qv.out, Qp.out⟩
                go_wp2
                go_ret
                exact ⟨ret_bool HR.out.symm, HB.out⟩

end Go.Proofs.YtdepclilngaacaaDoor
