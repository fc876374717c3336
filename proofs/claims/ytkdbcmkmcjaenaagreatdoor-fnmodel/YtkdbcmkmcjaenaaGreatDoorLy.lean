/- The law FnModel: events of a code, two kinds of siblings, the law. -/
import Derived.Test.YtkdbcmkmcjaenaaGreatDoorRows
import Derived.WalkKit
import Derived.WalkSpells
import Derived.WalkLawsBesides
import Derived.Deep.QuietTactic
import Derived.BigQuiet
import Derived.Deep.RegionHeld3
import Derived.Test.YtkdbcmkmcjaenaaGreatDoorDw
import Derived.LoopN
import Derived.Test.YtkdbcmkmcjaenaaGreatDoorMw
import Derived.Test.YtkdbcmkmcjaenaaGreatDoorWa
import Derived.Test.YtkdbcmkmcjaenaaGreatDoorSo
import Derived.Test.YtkdbcmkmcjaenaaGreatDoorEu
import Derived.Test.YtkdbcmkmcjaenaaGreatDoorFs
import Derived.Test.YtkdbcmkmcjaenaaGreatDoorZk
import Derived.Test.YtkdbcmkmcjaenaaGreatDoorWc
import Derived.OwnWalk
import Derived.Deep.Cut
import Derived.Deep.CutRange
namespace Go.Proofs.YtkdbcmkmcjaenaaGreatDoor
open Go.RowKit
set_option linter.unusedSimpArgs false
set_option linter.unusedVariables false
/-- What drawing a law's events leaves. -/
def EvO (w : World) (e : Ending) (w' : World) : Prop := ∃ (p : Option Addr) (q : Nat) (es : List Ev), e = .returned (.slice p es.length q) ∧ eok es ∧ es.length ≤ 17 ∧ GRow w.heap.size w' p (flatE es) ∧ Below w.heap.size w w'
set_option maxHeartbeats 1000000 in
theorem eventsOf_any (len cap : Nat) (ao : Option Addr) (zs : List Int) (w : World) (hr0 : Gen.IsRow .u8 w ao len cap zs) (hl : (len : Int) ≤ 1048576) : Calls Tryz.prog 4 #[.slice ao len cap] w (EvO w) := by
  have hb0 : Below w.heap.size w (w.alloc (.cells #[.slice ao len cap, .int .i64 0, .int .i64 ((len : Int) % 1000)] 84)) := bel_alloc _ _
  have HE : Hid (Calls Tryz.prog 18 #[.pointer (some ⟨w.heap.size, 0, none⟩)] (w.alloc (.cells #[.slice ao len cap, .int .i64 0, .int .i64 ((len : Int) % 1000)] 84)) (EvP (w.alloc (.cells #[.slice ao len cap, .int .i64 0, .int .i64 ((len : Int) % 1000)] 84)) w.heap.size)) := by
    have hB : Box (w.alloc (.cells #[.slice ao len cap, .int .i64 0, .int .i64 ((len : Int) % 1000)] 84)) w.heap.size [.slice ao len cap, .int .i64 0, .int .i64 ((len : Int) % 1000)] := box_mk (vs := [.slice ao len cap, .int .i64 0, .int .i64 ((len : Int) % 1000)])
    exact events_any w.heap.size len cap ao zs _ _ ⟨hB.c3.1, hB.c3.2.1, hB.c3.2.2, hB.f3.2.1, hB.f3.2.2, by simp, by omega, by omega⟩ (row_below hr0 hb0) (fun x hx hc => by have := row_lt hr0 x hx hc; omega) hl
  clear hr0 hb0
  go_enter Tryz.func4, Tryz.ntmps4
  go_wp2_with fail
  refine (source_any len cap ao _ hl).mono ?_
  rintro e W1 ⟨rfl, rfl⟩
  go_wp2_with fail
  refine HE.out.mono ?_
  rintro e W2 ⟨p, q, es, rfl, he, h17, hr, hg⟩
  go_wp2
  go_ret
  refine ⟨p, q, es, rfl, he, h17, hr.weak (by simp), ?_⟩
  exact grown_below (B := w.heap.size) (gb_trans (gb_below (bel_alloc _ _)) hg) (Nat.le_refl _) (Nat.le_refl _)
def bk (s : W.Sib) : Sb := ⟨s.p, s.n, s.v, s.d⟩
def tw (s : Sb) : W.Sib := ⟨s.p, s.n, s.v, s.dead⟩
theorem bk_tw (s : Sb) : bk (tw s) = s := rfl
theorem tw_bk (s : W.Sib) : tw (bk s) = s := rfl
theorem bk_inj {s t : W.Sib} (h : bk s = bk t) : s = t := by rw [← tw_bk s, ← tw_bk t, h]
theorem bef_sl {s t : W.Sib} : W.Bef s t ↔ sl (bk s) (bk t) := Iff.rfl
theorem rise_sl {K : List W.Sib} : W.Rise K ↔ (K.map bk).Pairwise sl := by
  unfold W.Rise
  rw [List.pairwise_map]
  exact Iff.rfl
theorem map_tw (K : List W.Sib) : (K.map bk).map tw = K := by
  rw [List.map_map]
  have : (tw ∘ bk) = id := funext fun s => rfl
  rw [this, List.map_id]
theorem map_bk (J : List Sb) : (J.map tw).map bk = J := by
  rw [List.map_map]
  have : (bk ∘ tw) = id := funext fun s => rfl
  rw [this, List.map_id]
theorem mem_bk {K : List W.Sib} {s : Sb} : s ∈ K.map bk ↔ tw s ∈ K := by
  rw [List.mem_map]
  constructor
  · rintro ⟨t, ht, rfl⟩
    exact ht
  · intro h
    exact ⟨tw s, h, rfl⟩
theorem flat_eq : ∀ K : List W.Sib, W.flat K = flatS (K.map bk)
  | [] => rfl
  | s :: l => by
    have := flat_eq l
    simp only [List.map_cons]
    show _ = [.int .i64 s.p, .int .i64 s.n, .int .i64 s.v, .bool s.d] ++ flatS (l.map bk)
    rw [← this]
    rfl
theorem comp_w (a b c p : Int) : W.comp a b c p = comp a b c p := rfl
theorem vv_w (a b c : Int) : W.vvB a b c = vvB a b c := rfl
theorem dot_w (p n : Int) : W.dotB p n = dotB p n := rfl
theorem grow_sib {lo : Nat} {w : World} {p : Option Addr} {K : List W.Sib} (h : GRow lo w p (W.flat K)) : W.SibRow w p K := by
  rcases h with h | ⟨b, off, rfl, _, hc⟩
  · left
    cases K with
    | nil => rfl
    | cons s l => simp [W.flat] at h
  · refine .inr ⟨b, off, rfl, fun i hi => ?_⟩
    obtain ⟨h0, h1, h2, h3⟩ := W.flat_at K i hi
    have at_ : ∀ {j : Nat} {v : Value}, (W.flat K)[j]? = some v → w.cell? ⟨b, off + j, none⟩ = some v := fun {j v} hv => by
      have hj : j < (W.flat K).length := (List.getElem?_eq_some_iff.1 hv).1
      rw [hc j hj]
      rw [List.getElem?_eq_getElem hj] at hv
      exact hv
    exact ⟨at_ h0, by have := at_ h1; rwa [← Nat.add_assoc] at this, by have := at_ h2; rwa [← Nat.add_assoc] at this, by have := at_ h3; rwa [← Nat.add_assoc] at this⟩
theorem sr_sib {lo : Nat} {w : World} {p : Option Addr} {ss : List Sb} (h : SR lo w p ss) : W.SibRow w p (ss.map tw) := by
  refine grow_sib (lo := lo) ?_
  rw [flat_eq, map_bk]
  exact h.row
theorem sib_of {p n v : Int} {d : Bool} (h1 : dotB p n = true) (h2 : valP v d) : W.sibOK p n v d = true := by
  unfold W.sibOK
  rw [dot_w, h1]
  obtain ⟨⟨h3, h4⟩, h5⟩ := h2
  cases d
  · simp; omega
  · have := h5 rfl
    subst this
    rfl
theorem okp_of {K : List W.Sib} {a b c : Int} (hr : W.Rise K) (hl : K.length ≤ 17) (hv : vvB a b c = true) (hs : ∀ s ∈ K.map bk, dotB s.p s.n = true ∧ valP s.v s.dead ∧ s.n ≤ comp a b c s.p) : W.OkP K a b c := by
  refine ⟨by omega, by rw [vv_w]; exact hv, fun i hi => ?_⟩
  obtain ⟨h1, h2, h3⟩ := hs (bk K[i]) (List.mem_map.2 ⟨_, List.getElem_mem hi, rfl⟩)
  refine ⟨sib_of h1 h2, decide_eq_true (by rw [comp_w]; exact h3), fun h0 => W.dots_neg.2 ?_⟩
  have := List.pairwise_iff_getElem.1 hr (i - 1) i (by omega) hi (by omega)
  exact this
theorem wi_okp {l : List Ev} {i : Nat} {key : ByteArray} {K : List W.Sib} {p q r : Int} (he : eok l) (h : WI l i key (K.map bk) p q r) (hl : l.length ≤ 17) : W.OkP K p q r := by
  obtain ⟨h1, h2, h3⟩ := wi_ok he h hl
  rw [List.length_map] at h1
  exact okp_of (rise_sl.2 h.1.1) h1 h3 h2
theorem inv_okp {l : List Ev} {key : ByteArray} {ss : List Sb} {a b c : Int} (he : eok l) (h : OInv l l.length key ss a b c) (hl : l.length ≤ 17) : W.OkP (ss.map tw) a b c := by
  have hw : WI l l.length key ss a b c := by
    refine ⟨⟨h.1.1, fun s => ?_⟩, h.2⟩
    rw [h.1.2.1]
    simp only [List.take_length]
    constructor
    · rintro ⟨e, he, hek, hno, rfl⟩
      exact ⟨e, he, hek, fun ⟨f, hf, k1, k2⟩ => hno ⟨f, hf, by rw [k1, hek], k2⟩, rfl⟩
    · rintro ⟨e, he, hek, hno, rfl⟩
      exact ⟨e, he, hek, fun ⟨f, hf, k1, k2⟩ => hno ⟨f, hf, by rw [k1, hek], k2⟩, rfl⟩
  refine wi_okp (i := l.length) (key := key) (K := ss.map tw) he ?_ hl
  rw [map_bk]
  exact hw
/-- One write of an event into what the earlier ones made. -/
theorem wi_write {l : List Ev} {i : Nat} {key : ByteArray} {K : List W.Sib} {p q r : Int} (he : eok l) (h : WI l i key (K.map bk) p q r) (hi : i < l.length) (hk : l[i].key = key) (hl : l.length ≤ 17) :
    ∃ K' p' q' r', W.WRel K p q r l[i].a l[i].b l[i].c (tw (sOf l[i])) K' p' q' r' 0 ∧ WI l (i + 1) key (K'.map bk) p' q' r' ∧ K'.length ≤ 17 := by
  have hE := eok_ev he _ (List.getElem_mem hi)
  have hO := wi_okp he h hl
  have hs := wi_sup he h hi hk
  have hown := own_lt he hi
  have hok := wi_ok he h hl
  have hgood : W.WGood K p q r l[i].a l[i].b l[i].c (tw (sOf l[i])) := ⟨hO, by rw [vv_w]; exact hE.2.2.2, sib_of hE.1 hE.2.2.1⟩
  have hnk : ¬ W.WKnown p q r l[i].a l[i].b l[i].c (tw (sOf l[i])) := by
    rintro (h1 | h1)
    · have h2 : l[i].n ≤ comp p q r l[i].p := h1
      omega
    · have h2 : l[i].n ≤ comp l[i].a l[i].b l[i].c l[i].p := h1
      omega
  have hlen : K.length ≤ 17 := by have := hok.1; rwa [List.length_map] at this
  have hw : WI l (i + 1) key ((W.pt (tw (sOf l[i])) (W.fil l[i].a l[i].b l[i].c K)).map bk) (if l[i].p = 0 then l[i].n else max p l[i].a) (if l[i].p = 1 then l[i].n else max q l[i].b) (if l[i].p = 2 then l[i].n else max r l[i].c) := by
    refine wi_put he h hi hk (rise_sl.1 (W.rise_pt (W.Rise.filter (rise_sl.2 h.1.1) _) (fun s hsm hd => ?_))) (fun s => ?_)
    · have hm := (W.mem_fil.1 hsm).1
      have h3 := (hok.2.1 (bk s) (List.mem_map.2 ⟨s, hm, rfl⟩)).2.2
      have h4 : s.p = l[i].p ∧ s.n = l[i].n := hd
      have h5 : s.n ≤ comp p q r s.p := h3
      rw [h4.1, h4.2] at h5
      omega
    · rw [mem_bk, W.mem_pt, W.mem_fil, mem_bk]
      constructor
      · rintro (h1 | h1)
        · exact .inl (by have := congrArg bk h1; exact this)
        · exact .inr h1
      · rintro (rfl | h1)
        · exact .inl rfl
        · exact .inr h1
  refine ⟨_, _, _, _, ⟨fun hb => (hb hgood).elim, fun _ hb => (hnk hb).elim, fun _ _ hb => by omega, fun _ _ _ => ⟨rfl, rfl, rfl, rfl, rfl⟩⟩, hw, ?_⟩
  have := (wi_ok he hw hl).1
  rwa [List.length_map] at this
/-- What the law keeps of its lists. -/
structure LW (w W : World) (hi : Nat) (po : Option Addr) (es : List Ev) (kp : Option Addr) (rs : List (List UInt8)) : Prop where
  row : GRow w.heap.size W po (flatE es)
  keys : GRow w.heap.size W kp (txt rs)
  rb : ∀ x, po = some x → flatE es ≠ [] → x.block < hi
  kb : ∀ x, kp = some x → txt rs ≠ [] → x.block < hi
  bel : Below w.heap.size w W
  up : w.heap.size ≤ hi ∧ hi ≤ W.heap.size
theorem LW.next {w W W' : World} {hi : Nat} {po kp : Option Addr} {es : List Ev} {rs : List (List UInt8)} (h : LW w W hi po es kp rs) (hb : Below W.heap.size W W') : LW w W' hi po es kp rs :=
  ⟨h.row.next hb, h.keys.next hb, h.rb, h.kb, h.bel.trans (hb.mono h.bel.size), h.up.1, Nat.le_trans h.up.2 hb.size⟩
theorem LW.kp {w W W' : World} {hi g : Nat} {po kp : Option Addr} {es : List Ev} {rs : List (List UInt8)} (h : LW w W hi po es kp rs) (k : Kp (· = g) W W') (hg : hi ≤ g) : LW w W' hi po es kp rs :=
  ⟨h.row.kp k (fun x hx hn e => by have := h.rb x hx hn; omega), h.keys.kp k (fun x hx hn e => by have := h.kb x hx hn; omega), h.rb, h.kb, h.bel.trans (k.below h.bel.size (fun b hb e => by have := h.up.1; omega)), h.up.1, Nat.le_trans h.up.2 k.size⟩
theorem LW.key {w W : World} {hi : Nat} {po kp : Option Addr} {es : List Ev} {rs : List (List UInt8)} (h : LW w W hi po es kp rs) {k : Nat} (hk : k < rs.length) : ∃ b off, kp = some ⟨b, off, none⟩ := by
  rcases h.keys with h | ⟨b, off, h1, _⟩
  · have := congrArg List.length h
    simp [txt] at this
    rw [this] at hk
    simp at hk
  · exact ⟨b, off, h1⟩
theorem LW.keyAt {w W : World} {hi b off : Nat} {po : Option Addr} {es : List Ev} {rs : List (List UInt8)} (h : LW w W hi po es (some ⟨b, off, none⟩) rs) {k : Nat} (hk : k < rs.length) : W.cell? ⟨b, off + k, none⟩ = some (.string ⟨rs[k].toArray⟩) := by
  rcases h.keys with h | ⟨b', off', h1, _, h2⟩
  · have := congrArg List.length h
    simp [txt] at this
    rw [this] at hk
    simp at hk
  · cases h1
    have := h2 k (by simpa [txt] using hk)
    simpa [txt, encStr] using this
theorem LW.ev {w W : World} {hi : Nat} {po kp : Option Addr} {es : List Ev} {rs : List (List UInt8)} (h : LW w W hi po es kp rs) {i : Nat} (hi' : i < es.length) : ∃ b off, po = some ⟨b, off, none⟩ := by
  rcases h.row.e with h | ⟨b, off, h1, _⟩
  · rw [h] at hi'; simp at hi'
  · exact ⟨b, off, h1⟩
theorem LW.evAt {w W : World} {hi b off : Nat} {kp : Option Addr} {es : List Ev} {rs : List (List UInt8)} (h : LW w W hi (some ⟨b, off, none⟩) es kp rs) {i : Nat} (hi' : i < es.length) : EAt W b (off + i * 8) es[i] := by
  rcases h.row.e with h | ⟨b', off', h1, _, h2⟩
  · rw [h] at hi'; simp at hi'
  · cases h1
    exact h2 i hi'
theorem key_in {es : List Ev} {rs : List (List UInt8)} (he : eok es) (hr : rs = risen (keysE es)) {k : Nat} (hk : k < rs.length) : keyP ⟨rs[k].toArray⟩ ∧ (⟨rs[k].toArray⟩ : ByteArray).size ≤ 6 := by
  have h1 : rs[k] ∈ risen (keysE es) := hr ▸ List.getElem_mem hk
  rw [(risen_rise _).2] at h1
  unfold keysE at h1
  obtain ⟨e, hem, hee⟩ := List.mem_map.1 h1
  have h2 : (⟨rs[k].toArray⟩ : ByteArray) = e.key := by
    rw [← hee]
    exact ByteArray.ext (by simp [kb])
  rw [h2]
  have h3 := (eok_ev he e hem).2.1
  exact ⟨h3, h3.2.1⟩
theorem mo_ok {es : List Ev} {key : ByteArray} {ss : List Sb} {a b c cd : Int} (he : eok es) (hl : es.length ≤ 17) (hk : keyP key ∧ key.size ≤ 6) (h : moP es key ss a b c cd) : OInv es es.length key ss a b c ∧ cd = 0 := by
  rcases h with ⟨h, _⟩ | ⟨_, h, _⟩ | ⟨_, _, h, _⟩ | ⟨_, _, _, h1, h2⟩
  · omega
  · exact absurd he h
  · exact absurd hk.1 h
  · exact ⟨h1, h2⟩
/-- An object in a box of its own, its siblings in a block that is older. -/
structure OX (U : World) (g : Nat) (p : Option Addr) (q : Nat) (K : List W.Sib) (a b c : Int) : Prop where
  bx : Box U g [.slice p K.length q, .int .i64 a, .int .i64 b, .int .i64 c]
  row : GRow 0 U p (W.flat K)
  lt : ∀ x, p = some x → W.flat K ≠ [] → x.block < g
theorem OX.next {U U1 : World} {g : Nat} {p : Option Addr} {q : Nat} {K : List W.Sib} {a b c : Int} (h : OX U g p q K a b c) (hb : Below U.heap.size U U1) : OX U1 g p q K a b c := ⟨h.bx.next hb, h.row.next hb, h.lt⟩
theorem OX.kp {U U1 : World} {g g' : Nat} {p : Option Addr} {q : Nat} {K : List W.Sib} {a b c : Int} (h : OX U g p q K a b c) (k : Kp (· = g') U U1) (hg : g < g') : OX U1 g p q K a b c := ⟨h.bx.kp k (by omega), h.row.kp k (fun x hx hn e => by have := h.lt x hx hn; omega), h.lt⟩
theorem ox_mk {U : World} {lo : Nat} {p : Option Addr} {q : Nat} {ss : List Sb} {a b c : Int} {t : TypeId} (h : SR lo U p ss) : OX (U.alloc (.cells #[.slice p ss.length q, .int .i64 a, .int .i64 b, .int .i64 c] t)) U.heap.size p q (ss.map tw) a b c := by
  have hf : W.flat (ss.map tw) = flatS ss := by rw [flat_eq, map_bk]
  refine ⟨?_, ?_, fun x hx hn => ?_⟩
  · rw [List.length_map]
    exact box_mk (vs := [.slice p ss.length q, .int .i64 a, .int .i64 b, .int .i64 c])
  · rw [hf]
    exact (h.row.next (bel_alloc _ _)).weak (Nat.zero_le _)
  · rw [hf] at hn
    rcases h.row with h' | ⟨b', off, h1, _, h3⟩
    · exact absurd h' hn
    · have := GRow.lt (lo := 0) h3 hn
      rw [h1] at hx
      cases hx
      exact this
/-- An object in a box that may be written, its siblings elsewhere. -/
structure OY (U : World) (g : Nat) (p : Option Addr) (q : Nat) (K : List W.Sib) (a b c : Int) : Prop where
  bx : Box U g [.slice p K.length q, .int .i64 a, .int .i64 b, .int .i64 c]
  row : GRow 0 U p (W.flat K)
  ne : ∀ x, p = some x → W.flat K ≠ [] → x.block ≠ g
theorem OY.next {U U1 : World} {g : Nat} {p : Option Addr} {q : Nat} {K : List W.Sib} {a b c : Int} (h : OY U g p q K a b c) (hb : Below U.heap.size U U1) : OY U1 g p q K a b c := ⟨h.bx.next hb, h.row.next hb, h.ne⟩
theorem sib_at {U : World} {p : Option Addr} {K : List W.Sib} (h : GRow 0 U p (W.flat K)) {j : Nat} (hj : j < K.length) : ∃ b off, p = some ⟨b, off, none⟩ := by
  rcases grow_sib h with h | ⟨b, off, h1, _⟩
  · rw [h] at hj; simp at hj
  · exact ⟨b, off, h1⟩
theorem sib_cells {U : World} {b off : Nat} {K : List W.Sib} (h : GRow 0 U (some ⟨b, off, none⟩) (W.flat K)) {j : Nat} (hj : j < K.length) : W.SibAt U b (off + j * 4) K[j] := by
  rcases grow_sib h with h | ⟨b', off', h1, h2⟩
  · rw [h] at hj; simp at hj
  · cases h1
    exact h2 j hj
theorem take_dot {K : List W.Sib} {j : Nat} (hj : j < K.length) (p n : Int) : (∃ s ∈ K.take (j + 1), s.p = p ∧ s.n = n) ↔ (∃ s ∈ K.take j, s.p = p ∧ s.n = n) ∨ (K[j].p = p ∧ K[j].n = n) := by
  rw [List.take_succ_eq_append_getElem hj]
  constructor
  · rintro ⟨s, hs, h⟩
    rcases List.mem_append.1 hs with hs | hs
    · exact .inl ⟨s, hs, h⟩
    · rw [List.mem_singleton.1 hs] at h
      exact .inr h
  · rintro (⟨s, hs, h⟩ | h)
    · exact ⟨s, List.mem_append.2 (.inl hs), h⟩
    · exact ⟨_, List.mem_append.2 (.inr (List.mem_singleton.2 rfl)), h⟩
theorem not_of {t ov : Bool} {P : Prop} (h1 : t = true ↔ ¬ P) (h2 : ov = true ↔ P) : t = !ov := by
  cases ov
  · have : t = true := h1.2 (fun h => by have := h2.2 h; cases this)
    rw [this]; rfl
  · cases t
    · rfl
    · exact absurd (h2.1 rfl) (h1.1 rfl)
theorem same_self (K : List W.Sib) (a b c : Int) : W.Same K K a b c a b c := ⟨by simp, rfl, fun i h h2 => by simp [W.sibB]⟩
set_option maxRecDepth 100000 in
set_option maxHeartbeats 32000000 in
theorem law_model (len cap ln2 cp2 : Nat) (ao bo : Option Addr) (zs ys : List Int) (w : World) (hra : Gen.IsRow .u8 w ao len cap zs) (hrb : Gen.IsRow .u8 w bo ln2 cp2 ys) (tb : TB w) :
    Calls Tryz.prog 3 #[.slice ao len cap, .slice bo ln2 cp2] w fun e w' => e = .returned (.bool true) ∧ Below w.heap.size w w' := by
  have RC : Hid (Gen.IsRow .u8 w ao len cap zs) := hra
  have HTB : Hid (TB w) := tb
  clear hra hrb tb
  by_cases hl1 : 1048576 < (len : Int)
  · go_enter Tryz.func3, Tryz.ntmps3
    go_wp2
    go_ret
    exact ⟨rfl, Below.refl _ _⟩
  by_cases hl2 : 1048576 < (ln2 : Int)
  · go_enter Tryz.func3, Tryz.ntmps3
    go_wp2
    go_ret
    exact ⟨rfl, Below.refl _ _⟩
  go_enter Tryz.func3, Tryz.ntmps3
  go_wp2_with fail
  refine (eventsOf_any len cap ao zs _ RC.out (by omega)).mono ?_
  rintro e W1 ⟨po, qo, es, rfl, he0, h17, hrow0, hb1⟩
  clear hl1 hl2 RC
  have HE : Hid (eok es) := he0
  have H17 : Hid (es.length ≤ 17) := h17
  have HKS : Hid (∀ x ∈ es, x.key.size < 1099511627776) := fun x hx => by have := (eok_ev he0 x hx).2.1.2.1; omega
  have R1 : Hid (GRow w.heap.size W1 po (flatE es) ∧ Below w.heap.size w W1) := ⟨hrow0, hb1⟩
  clear he0 hrow0 hb1
  go_wp2_with fail
  refine Calls.mono (implKeys _ qo po es _ HKS.out R1.out.1) ?_
  rintro e W2 ⟨kp, qk, rs, c, rfl, hmk, htr, hb⟩
  have hmk' := hmk
  obtain ⟨rfl, hrs⟩ : c = 0 ∧ rs = risen (keysE es) := by
    rcases hmk with ⟨h, _⟩ | ⟨_, h, _⟩ | ⟨_, _, h1, h2⟩
    · omega
    · exact absurd HE.out h
    · exact ⟨h2, h1⟩
  have HRS : Hid (rs = risen (keysE es)) := hrs
  have HMK : Hid (mkP es rs 0) := hmk'
  have R2 : Hid (GRow w.heap.size W2 po (flatE es) ∧ Below w.heap.size w W2 ∧ TR W1.heap.size W2 kp rs) := ⟨R1.out.1.next hb, R1.out.2.trans (hb.mono R1.out.2.size), htr⟩
  have hs1 := R1.out.2.size
  clear hmk hmk' hrs htr hb R1
  go_wp2_with fail
  refine Calls.mono (specMk _ qo po es _ (by omega) HKS.out R2.out.1) ?_
  rintro e W3 ⟨kp2, qk2, rs2, c2, rfl, hmk, htr, hb⟩
  obtain ⟨rfl, rfl⟩ : rs2 = rs ∧ c2 = 0 := mkP_one hmk HMK.out
  have hlr : rs2.length ≤ 17 := by
    rw [HRS.out]
    have := risen_len (keysE es)
    have h2 : (keysE es).length = es.length := keysE_len es
    omega
  obtain ⟨hi, hhi⟩ : ∃ hi, hi = W3.heap.size := ⟨_, rfl⟩
  have X : Hid (LW w W3 hi po es kp rs2) := by
    have hb2 := R2.out.2.1.trans (hb.mono R2.out.2.1.size)
    have hr2 := R2.out.1.next hb
    have hk2 : GRow W1.heap.size W3 kp (txt rs2) := R2.out.2.2.row.next hb
    refine ⟨hr2, hk2.weak hs1, fun x hx hn => ?_, fun x hx hn => ?_, hb2, ?_⟩
    · rcases hr2 with h | ⟨b, off, h1, _, h3⟩
      · exact absurd h hn
      · have := GRow.lt (lo := 0) h3 hn
        rw [h1] at hx
        cases hx
        rw [hhi]
        exact this
    · rcases hk2 with h | ⟨b, off, h1, _, h3⟩
      · exact absurd h hn
      · have := GRow.lt (lo := 0) h3 hn
        rw [h1] at hx
        cases hx
        rw [hhi]
        exact this
    · rw [hhi]
      exact ⟨hb2.size, Nat.le_refl _⟩
  have K2 : Hid (GRow W2.heap.size W3 kp2 (txt rs2)) := htr.row
  clear hmk htr hb R2 hs1 HMK hhi
  have HLR : Hid (rs2.length ≤ 17) := hlr
  generalize rs2 = rs at *
  go_wp2_with fail
  refine Calls.mono (sameTexts_yes w.heap.size W2.heap.size qk qk2 rs.length kp kp2 rs _ rfl (by omega) X.out.keys K2.out) ?_
  rintro e W4 ⟨rfl, hb⟩
  replace X : Hid (LW w W4 hi po es kp rs) := X.out.next hb
  clear hb K2
  go_wp2_with fail
  refine Calls.mono (implEvents _ qo po es _ HKS.out X.out.row) ?_
  rintro e W5 ⟨rb, rfl, hrb, hb⟩
  obtain rfl : rb = true := hrb.2 HE.out
  replace X : Hid (LW w W5 hi po es kp rs) := X.out.next hb
  clear hb hrb
  go_wp2_with fail
  go_loopw [10, 11, 12, 13, 14, 15, 16, 17, 18, 19, 20, 21, 22, 23] (fun s10 _ _ _ _ _ _ _ _ _ _ _ _ _ wr => ∃ k : Nat, k ≤ rs.length ∧ s10 = .int .i64 k ∧ LW w wr hi po es kp rs) (fun s10 _ _ _ _ _ _ _ _ _ _ _ _ _ _ => rs.length - (intOf s10).toNat)
  case atStart => exact ⟨0, Nat.zero_le _, rfl, X.out⟩
  case round =>
    obtain ⟨k, hk, rfl, hX⟩ := hrel
    clear X
    have X : Hid (LW w wr hi po es kp rs) := hX
    clear hX
    have hlr := HLR.out
    by_cases hlt : k < rs.length
    · have hlt' : (k : Int) < (rs.length : Int) := by omega
      obtain ⟨kb, koff, rfl⟩ := X.out.key hlt
      have hkey := key_in HE.out HRS.out hlt
      have HKC : Hid (∀ W, LW w W hi po es (some ⟨kb, koff, none⟩) rs → W.cell? ⟨kb, koff + k, none⟩ = some (.string ⟨rs[k].toArray⟩)) := fun W h => h.keyAt hlt
      generalize (⟨rs[k].toArray⟩ : ByteArray) = key at *
      have HKY : Hid (keyP key ∧ key.size ≤ 6) := hkey
      have hk6 := hkey.2
      clear hkey
      have c0 := HKC.out _ X.out
      go_wp2_with fail
      refine Calls.mono (implMo (obj44 sortedK) w.heap.size qo po es key _ HKS.out (by omega) X.out.row) ?_
      rintro e V1 ⟨p1, q1, ss, a, b, c, cd, rfl, hmo, hsr, hb⟩
      obtain ⟨hoi, rfl⟩ := mo_ok HE.out H17.out HKY.out hmo
      have HO : Hid (OInv es es.length key ss a b c) := hoi
      have HM1 : Hid (moP es key ss a b c 0) := hmo
      replace X : Hid (LW w V1 hi po es (some ⟨kb, koff, none⟩) rs) := X.out.next hb
      have S1 : Hid (SR wr.heap.size V1 p1 ss) := hsr
      clear hoi hmo hsr hb c0
      go_upto_region 12 with fail
      refine wp_gen (fun W => LW w W hi po es (some ⟨kb, koff, none⟩) rs ∧ OX W V1.heap.size p1 q1 (ss.map tw) a b c) ⟨X.out.next (bel_alloc _ _), ox_mk S1.out⟩ (fun V2 hI => ?_)
      have G1 : Hid (hi ≤ V1.heap.size) := X.out.up.2
      replace X : Hid (LW w V2 hi po es (some ⟨kb, koff, none⟩) rs) := hI.1
      have O1 : Hid (OX V2 V1.heap.size p1 q1 (ss.map tw) a b c) := hI.2
      clear hI S1
      generalize V1.heap.size = g1 at *
      have c0 := HKC.out _ X.out
      go_wp2_with fail
      refine Calls.mono (specMo w.heap.size qo po es key _ (by have := H17.out; omega) HKS.out (by omega) X.out.row) ?_
      rintro e V3 ⟨p2, q2, ss2, a2, b2, c2, cd2, rfl, hmo, hsr, hb⟩
      obtain ⟨⟨rfl, rfl, rfl, rfl⟩, rfl⟩ := moP_one hmo HM1.out
      replace X : Hid (LW w V3 hi po es (some ⟨kb, koff, none⟩) rs) := X.out.next hb
      replace O1 : Hid (OX V3 g1 p1 q1 (ss2.map tw) a2 b2 c2) := O1.out.next hb
      have S2 : Hid (SR V2.heap.size V3 p2 ss2) := hsr
      clear hmo hsr hb c0 HM1
      generalize ss2 = ss at *
      generalize a2 = a at *
      generalize b2 = b at *
      generalize c2 = c at *
      go_upto_region 13 with fail
      refine wp_gen (fun W => LW w W hi po es (some ⟨kb, koff, none⟩) rs ∧ OX W g1 p1 q1 (ss.map tw) a b c ∧ OX W V3.heap.size p2 q2 (ss.map tw) a b c) ⟨X.out.next (bel_alloc _ _), O1.out.next (bel_alloc _ _), ox_mk S2.out⟩ (fun V4 hI => ?_)
      have G2 : Hid (g1 < V3.heap.size) := O1.out.bx.lt
      replace X : Hid (LW w V4 hi po es (some ⟨kb, koff, none⟩) rs) := hI.1
      replace O1 : Hid (OX V4 g1 p1 q1 (ss.map tw) a b c) := hI.2.1
      have O2 : Hid (OX V4 V3.heap.size p2 q2 (ss.map tw) a b c) := hI.2.2
      clear hI S2
      generalize V3.heap.size = g2 at *
      have HOK : Hid (W.OkP (ss.map tw) a b c) := inv_okp HE.out HO.out H17.out
      have HKO : Hid (∃ KO, KO = ss.map tw) := ⟨_, rfl⟩
      obtain ⟨KO, hKO⟩ := HKO.out
      rw [← hKO] at HOK O1 O2
      have HKO2 : Hid (KO = ss.map tw) := hKO
      have hln := HOK.out.1
      clear hKO HKO
      obtain ⟨y0, y1, y2, y3⟩ := O1.out.bx.c4
      obtain ⟨z0, z1, z2, z3⟩ := O2.out.bx.c4
      go_wp2_with fail
      refine Calls.mono (W.lsame_any q1 q2 p1 p2 KO KO a b c a b c true ⟨fun _ => same_self _ _ _ _, fun _ => rfl⟩ _ (by omega) (by omega) (grow_sib O1.out.row) (grow_sib O2.out.row)) ?_
      rintro e V5 ⟨rfl, hb⟩
      replace X : Hid (LW w V5 hi po es (some ⟨kb, koff, none⟩) rs) := X.out.next hb
      replace O1 : Hid (OX V5 g1 p1 q1 KO a b c) := O1.out.next hb
      clear hb y0 y1 y2 y3 z0 z1 z2 z3 O2
      obtain ⟨y0, y1, y2, y3⟩ := O1.out.bx.c4
      go_wp2_with fail
      refine Calls.mono (W.implOK_any q1 p1 KO a b c true ⟨fun _ => HOK.out, fun _ => rfl⟩ _ (by omega) (grow_sib O1.out.row)) ?_
      rintro e V6 ⟨rfl, hb⟩
      replace X : Hid (LW w V6 hi po es (some ⟨kb, koff, none⟩) rs) := X.out.next hb
      replace O1 : Hid (OX V6 g1 p1 q1 KO a b c) := O1.out.next hb
      clear hb y0 y1 y2 y3
      go_upto_region 16 with fail
      refine wp_gen (fun W => LW w W hi po es (some ⟨kb, koff, none⟩) rs ∧ OX W g1 p1 q1 KO a b c ∧ Box W V6.heap.size [.slice none 0 0, .int .i64 0, .int .i64 0, .int .i64 0]) ⟨X.out.next (bel_alloc _ _), O1.out.next (bel_alloc _ _), box_mk⟩ (fun V7 hI => ?_)
      have G3 : Hid (hi ≤ g1 ∧ g1 < V6.heap.size) := ⟨G1.out, O1.out.bx.lt⟩
      replace X : Hid (LW w V7 hi po es (some ⟨kb, koff, none⟩) rs) := hI.1
      replace O1 : Hid (OX V7 g1 p1 q1 KO a b c) := hI.2.1
      have B3 : Hid (Box V7 V6.heap.size [.slice none 0 0, .int .i64 0, .int .i64 0, .int .i64 0]) := hI.2.2
      clear hI G1 G2
      generalize V6.heap.size = g3 at *
      go_wp2
      go_loopw [16, 17, 18, 19, 20, 21, 22, 23] (fun s16 _ _ _ _ _ _ _ wr => ∃ (i : Nat) (K : List W.Sib) (p q r : Int) (po3 : Option Addr) (co3 : Nat), i ≤ es.length ∧ s16 = .int .i64 i ∧ WI es i key (K.map bk) p q r ∧ K.length ≤ 17 ∧ LW w wr hi po es (some ⟨kb, koff, none⟩) rs ∧ OX wr g1 p1 q1 KO a b c ∧ OY wr g3 po3 co3 K p q r) (fun s16 _ _ _ _ _ _ _ _ => es.length - (intOf s16).toNat)
      case atStart => exact ⟨0, [], 0, 0, 0, none, 0, Nat.zero_le _, rfl, wi_start _ _, by simp, X.out, O1.out, ⟨B3.out, .inl rfl, fun x hx => by cases hx⟩⟩
      case round =>
        obtain ⟨i, K, p, q, r, po3, co3, hi1, rfl, hw, hKl, hX, hO1, hY⟩ := hrel
        clear X O1 B3
        have HW : Hid (WI es i key (K.map bk) p q r) := hw
        have h17' := H17.out
        by_cases hlt2 : i < es.length
        · have hlt2' : (i : Int) < (es.length : Int) := by omega
          obtain ⟨eb, eoff, rfl⟩ := hX.ev hlt2
          have Y : Hid (LW w wr hi (some ⟨eb, eoff, none⟩) es (some ⟨kb, koff, none⟩) rs ∧ OX wr g1 p1 q1 KO a b c ∧ OY wr g3 po3 co3 K p q r) := ⟨hX, hO1, hY⟩
          obtain ⟨x, hx⟩ : ∃ x, x = es[i] := ⟨_, rfl⟩
          have he := hX.evAt hlt2
          rw [← hx] at he
          have HX : Hid (x = es[i]) := hx
          have HMEM : Hid (x ∈ es) := by rw [hx]; exact List.getElem_mem hlt2
          obtain ⟨e0, e1, e2, e3, e4, e5, e6, e7⟩ := he
          clear hX hO1 hY hw hx
          go_upto_region 20 with fail
          clear e0 e1 e2 e3 e4 e5 e6 e7
          refine wp_gen (fun W => LW w W hi (some ⟨eb, eoff, none⟩) es (some ⟨kb, koff, none⟩) rs ∧ OX W g1 p1 q1 KO a b c ∧ OY W g3 po3 co3 K p q r ∧ Box W wr.heap.size [.int .i64 x.p, .int .i64 x.n, .string x.key, .int .i64 x.v, .bool x.dead, .int .i64 x.a, .int .i64 x.b, .int .i64 x.c]) ⟨Y.out.1.next (bel_alloc _ _), Y.out.2.1.next (bel_alloc _ _), Y.out.2.2.next (bel_alloc _ _), box_mk⟩ (fun U0 hI => ?_)
          have GE : Hid (g3 < wr.heap.size) := Y.out.2.2.bx.lt
          generalize wr.heap.size = ge at *
          replace Y : Hid (LW w U0 hi (some ⟨eb, eoff, none⟩) es (some ⟨kb, koff, none⟩) rs ∧ OX U0 g1 p1 q1 KO a b c ∧ OY U0 g3 po3 co3 K p q r ∧ Box U0 ge [.int .i64 x.p, .int .i64 x.n, .string x.key, .int .i64 x.v, .bool x.dead, .int .i64 x.a, .int .i64 x.b, .int .i64 x.c]) := hI
          clear hI
          have c0 := HKC.out _ Y.out.1
          obtain ⟨f0, f1, f2, f3, f4, f5, f6, f7⟩ := Y.out.2.2.2.c8
          by_cases hk2 : x.key = key
          · have hkb : (x.key.toList == key.toList) = true := te_yes hk2
            have HKE : Hid (x.key = key) := hk2
            go_quiet (fail)
            replace Y : Hid (LW w (U0.drewN nq) hi (some ⟨eb, eoff, none⟩) es (some ⟨kb, koff, none⟩) rs ∧ OX (U0.drewN nq) g1 p1 q1 KO a b c ∧ OY (U0.drewN nq) g3 po3 co3 K p q r ∧ Box (U0.drewN nq) ge [.int .i64 x.p, .int .i64 x.n, .string x.key, .int .i64 x.v, .bool x.dead, .int .i64 x.a, .int .i64 x.b, .int .i64 x.c]) := ⟨Y.out.1.next (below_drewN (Below.refl _ _) nq), Y.out.2.1.next (below_drewN (Below.refl _ _) nq), Y.out.2.2.1.next (below_drewN (Below.refl _ _) nq), Y.out.2.2.2.next (below_drewN (Below.refl _ _) nq)⟩
            generalize U0.drewN nq = U1 at *
            clear f0 f1 f2 f3 f4 f5 f6 f7 c0 hkb
            obtain ⟨f0, f1, f2, f3, f4, f5, f6, f7⟩ := Y.out.2.2.2.c8
            go_wp2_with fail
            refine Calls.mono (implOver w.heap.size qo _ es x.p x.n _ HKS.out Y.out.1.row) ?_
            rintro e U2 ⟨ov, co, rfl, hov, hb⟩
            obtain ⟨rfl, hov2⟩ := over_of HE.out H17.out HMEM.out hov
            have HOV : Hid (ov = true ↔ ovr es x) := hov2
            replace Y : Hid (LW w U2 hi (some ⟨eb, eoff, none⟩) es (some ⟨kb, koff, none⟩) rs ∧ OX U2 g1 p1 q1 KO a b c ∧ OY U2 g3 po3 co3 K p q r ∧ Box U2 ge [.int .i64 x.p, .int .i64 x.n, .string x.key, .int .i64 x.v, .bool x.dead, .int .i64 x.a, .int .i64 x.b, .int .i64 x.c]) := ⟨Y.out.1.next hb, Y.out.2.1.next hb, Y.out.2.2.1.next hb, Y.out.2.2.2.next hb⟩
            clear hb hov hov2 f0 f1 f2 f3 f4 f5 f6 f7
            go_wp2
            go_loopw [20, 21] (fun s20 s21 wr => ∃ (j : Nat) (t : Bool), j ≤ KO.length ∧ s20 = .bool t ∧ s21 = .int .i64 j ∧ (t = true ↔ ∃ s ∈ KO.take j, s.p = x.p ∧ s.n = x.n) ∧ LW w wr hi (some ⟨eb, eoff, none⟩) es (some ⟨kb, koff, none⟩) rs ∧ OX wr g1 p1 q1 KO a b c ∧ OY wr g3 po3 co3 K p q r ∧ Box wr ge [.int .i64 x.p, .int .i64 x.n, .string x.key, .int .i64 x.v, .bool x.dead, .int .i64 x.a, .int .i64 x.b, .int .i64 x.c]) (fun _ s21 _ => KO.length - (intOf s21).toNat)
            case atStart => exact ⟨0, false, Nat.zero_le _, rfl, rfl, by simp, Y.out⟩
            case round =>
              obtain ⟨j, t, hj1, rfl, rfl, ht0, hY3⟩ := hrel
              clear Y
              have Y : Hid (LW w wr hi (some ⟨eb, eoff, none⟩) es (some ⟨kb, koff, none⟩) rs ∧ OX wr g1 p1 q1 KO a b c ∧ OY wr g3 po3 co3 K p q r ∧ Box wr ge [.int .i64 x.p, .int .i64 x.n, .string x.key, .int .i64 x.v, .bool x.dead, .int .i64 x.a, .int .i64 x.b, .int .i64 x.c]) := hY3
              have HT : Hid (t = true ↔ ∃ s ∈ KO.take j, s.p = x.p ∧ s.n = x.n) := ht0
              clear hY3 ht0
              obtain ⟨y0, y1, y2, y3⟩ := Y.out.2.1.bx.c4
              by_cases hlt3 : j < KO.length
              · have hlt3' : (j : Int) < (KO.length : Int) := by omega
                obtain ⟨sb, soff, rfl⟩ := sib_at Y.out.2.1.row hlt3
                obtain ⟨s0, s1, s2, s3⟩ := sib_cells Y.out.2.1.row hlt3
                obtain ⟨f0, f1, f2, f3, f4, f5, f6, f7⟩ := Y.out.2.2.2.c8
                have hTD := take_dot hlt3 x.p x.n
                have hKj : ∃ s : W.Sib, s = KO[j] := ⟨_, rfl⟩
                obtain ⟨sj, hsj⟩ := hKj
                rw [← hsj] at s0 s1 s2 s3 hTD
                have HTD : Hid _ := hTD
                clear hTD hsj
                have hq := eqd sj.p sj.n x.p x.n
                go_upto_region 26 with fail
                cases t
                · go_quiet (fail)
                  go_wp2_with fail
                  go_roundw
                  case rel => exact ⟨j + 1, (sj.p == x.p && sj.n == x.n), by omega, rfl, by go_num, by
                    rw [HTD.out]
                    have h1 : ¬ ∃ s ∈ KO.take j, s.p = x.p ∧ s.n = x.n := fun h => by have := HT.out.2 h; cases this
                    simp [h1], ⟨Y.out.1.next (below_drewN (Below.refl _ _) _), Y.out.2.1.next (below_drewN (Below.refl _ _) _), Y.out.2.2.1.next (below_drewN (Below.refl _ _) _), Y.out.2.2.2.next (below_drewN (Below.refl _ _) _)⟩⟩
                  case measure => simp [intOf]; omega
                · go_quiet (fail)
                  go_wp2_with fail
                  go_roundw
                  case rel => exact ⟨j + 1, true, by omega, rfl, by go_num, by
                    rw [HTD.out]
                    exact ⟨fun _ => .inl (HT.out.1 rfl), fun _ => rfl⟩, ⟨Y.out.1.next (below_drewN (Below.refl _ _) _), Y.out.2.1.next (below_drewN (Below.refl _ _) _), Y.out.2.2.1.next (below_drewN (Below.refl _ _) _), Y.out.2.2.2.next (below_drewN (Below.refl _ _) _)⟩⟩
                  case measure => simp [intOf]; omega
              · have hlt3' : ¬ (j : Int) < (KO.length : Int) := by omega
                obtain rfl : j = KO.length := by omega
                have hto : t = !ov := by
                  have h1 := HT.out
                  rw [List.take_length] at h1
                  have h2 := there_iff HE.out HO.out HMEM.out HKE.out
                  have h3 : (∃ s ∈ KO, s.p = x.p ∧ s.n = x.n) ↔ ∃ s ∈ ss, s.p = x.p ∧ s.n = x.n := by
                    rw [HKO2.out]
                    constructor
                    · rintro ⟨s, hs, h⟩
                      obtain ⟨s', hs', rfl⟩ := List.mem_map.1 hs
                      exact ⟨s', hs', h⟩
                    · rintro ⟨s, hs, h⟩
                      exact ⟨tw s, List.mem_map.2 ⟨s, hs, rfl⟩, h⟩
                  rw [h3, h2] at h1
                  exact not_of h1 HOV.out
                subst hto
                obtain ⟨K', p', q', r', hWR0, hWI0, hK17⟩ := wi_write HE.out HW.out hlt2 (by rw [← HX.out]; exact HKE.out) H17.out
                rw [← HX.out] at hWR0
                have HWR : Hid (W.WRel K p q r x.a x.b x.c (⟨x.p, x.n, x.v, x.dead⟩ : W.Sib) K' p' q' r' 0) := hWR0
                have HWI : Hid (WI es (i + 1) key (K'.map bk) p' q' r') := hWI0
                clear hWR0 hWI0
                obtain ⟨z0, z1, z2, z3⟩ := Y.out.2.2.1.bx.c4
                obtain ⟨f0, f1, f2, f3, f4, f5, f6, f7⟩ := Y.out.2.2.2.c8
                have G4 : Hid (g3 < (World.heap wr).size) := Y.out.2.2.1.bx.lt
                go_wp2_with fail
                refine Calls.mono (W.implWrite_any co3 po3 K p q r x.a x.b x.c x.p x.n x.v x.dead K' p' q' r' 0 HWR _ (by omega) (grow_sib Y.out.2.2.1.row)) ?_
                rintro e U5 ⟨v, rfl, hG, hOw⟩
                have hb : Below (World.heap wr).size wr U5 := ⟨hG.grown.os, hG.grown.tape, hG.grown.output, hG.grown.size, fun b hb => hG.grown.block b hb (by simp [Value.ownBlock])⟩
                obtain ⟨p4, c4, rfl, _, hR4⟩ := own_grow (lo := (World.heap wr).size) hOw (fun k hk => by
                  rcases hG.fresh k hk with h | h
                  · simp [Value.ownBlock] at h
                  · exact h)
                have R4 : Hid (GRow (World.heap wr).size U5 p4 (W.flat K')) := hR4
                replace Y : Hid (LW w U5 hi (some ⟨eb, eoff, none⟩) es (some ⟨kb, koff, none⟩) rs ∧ OX U5 g1 p1 q1 KO a b c ∧ OY U5 g3 po3 co3 K p q r ∧ Box U5 ge [.int .i64 x.p, .int .i64 x.n, .string x.key, .int .i64 x.v, .bool x.dead, .int .i64 x.a, .int .i64 x.b, .int .i64 x.c]) := ⟨Y.out.1.next hb, Y.out.2.1.next hb, Y.out.2.2.1.next hb, Y.out.2.2.2.next hb⟩
                clear hb hG hOw hR4 z0 z1 z2 z3 f0 f1 f2 f3 f4 f5 f6 f7 y0 y1 y2 y3
                generalize (World.heap wr).size = lo4 at *
                have HY6 : Hid (∀ t, (LW w (U5.alloc (.cells #[.slice p4 K'.length c4, .int .i64 p', .int .i64 q', .int .i64 r'] t)) hi (some ⟨eb, eoff, none⟩) es (some ⟨kb, koff, none⟩) rs ∧ OX (U5.alloc (.cells #[.slice p4 K'.length c4, .int .i64 p', .int .i64 q', .int .i64 r'] t)) g1 p1 q1 KO a b c ∧ OY (U5.alloc (.cells #[.slice p4 K'.length c4, .int .i64 p', .int .i64 q', .int .i64 r'] t)) g3 po3 co3 K p q r) ∧ Box (U5.alloc (.cells #[.slice p4 K'.length c4, .int .i64 p', .int .i64 q', .int .i64 r'] t)) U5.heap.size [.slice p4 K'.length c4, .int .i64 p', .int .i64 q', .int .i64 r'] ∧ GRow lo4 (U5.alloc (.cells #[.slice p4 K'.length c4, .int .i64 p', .int .i64 q', .int .i64 r'] t)) p4 (W.flat K')) := fun t => ⟨⟨Y.out.1.next (bel_alloc _ _), Y.out.2.1.next (bel_alloc _ _), Y.out.2.2.1.next (bel_alloc _ _)⟩, box_mk (vs := [.slice p4 K'.length c4, .int .i64 p', .int .i64 q', .int .i64 r']), R4.out.next (bel_alloc _ _)⟩
                go_upto_region 28 with fail
                refine wp_gen (fun V => (LW w V hi (some ⟨eb, eoff, none⟩) es (some ⟨kb, koff, none⟩) rs ∧ OX V g1 p1 q1 KO a b c ∧ OY V g3 po3 co3 K p q r) ∧ Box V U5.heap.size [.slice p4 K'.length c4, .int .i64 p', .int .i64 q', .int .i64 r'] ∧ GRow lo4 V p4 (W.flat K')) (HY6.out _) (fun U6 hI => ?_)
                clear HY6 Y R4
                have Y : Hid ((LW w U6 hi (some ⟨eb, eoff, none⟩) es (some ⟨kb, koff, none⟩) rs ∧ OX U6 g1 p1 q1 KO a b c ∧ OY U6 g3 po3 co3 K p q r) ∧ Box U6 U5.heap.size [.slice p4 K'.length c4, .int .i64 p', .int .i64 q', .int .i64 r'] ∧ GRow lo4 U6 p4 (W.flat K')) := hI
                clear hI
                generalize U5.heap.size = g4 at *
                obtain ⟨z0, z1, z2, z3⟩ := Y.out.2.1.c4
                obtain ⟨v0, v1, v2, v3⟩ := Y.out.1.2.2.bx.c4
                obtain ⟨f0, f1, f2, f3⟩ := Y.out.1.2.2.bx.f4
                have hne : (!ov == ov) = false := by cases ov <;> rfl
                go_upto_region 18 with fail
                have hN : LW w ((((U6.setCell ⟨g3, 0, none⟩ (.slice p4 K'.length c4)).setCell ⟨g3, 1, none⟩ (.int .i64 p')).setCell ⟨g3, 2, none⟩ (.int .i64 q')).setCell ⟨g3, 3, none⟩ (.int .i64 r')) hi (some ⟨eb, eoff, none⟩) es (some ⟨kb, koff, none⟩) rs ∧ OX ((((U6.setCell ⟨g3, 0, none⟩ (.slice p4 K'.length c4)).setCell ⟨g3, 1, none⟩ (.int .i64 p')).setCell ⟨g3, 2, none⟩ (.int .i64 q')).setCell ⟨g3, 3, none⟩ (.int .i64 r')) g1 p1 q1 KO a b c ∧ OY ((((U6.setCell ⟨g3, 0, none⟩ (.slice p4 K'.length c4)).setCell ⟨g3, 1, none⟩ (.int .i64 p')).setCell ⟨g3, 2, none⟩ (.int .i64 q')).setCell ⟨g3, 3, none⟩ (.int .i64 r')) g3 p4 c4 K' p' q' r' := by
                  have hk4 := (((Kp.rf U6 g3).st (i := 0) (u := .slice p4 K'.length c4)).st (i := 1) (u := .int .i64 p')).st (i := 2) (u := .int .i64 q')
                  have hk5 := hk4.st (i := 3) (u := .int .i64 r')
                  have g3' := G3.out
                  have g4' := G4.out
                  exact ⟨Y.out.1.1.kp hk5 (by omega), Y.out.1.2.1.kp hk5 g3'.2, Y.out.1.2.2.bx.s4, (Y.out.2.2.kp hk5 (fun x hx hn e => by
                    rcases Y.out.2.2 with h | ⟨b', off, h1, h2, _⟩
                    · exact hn h
                    · rw [h1] at hx; cases hx; simp at e; omega)).weak (Nat.zero_le _), fun x hx hn e => by
                    rcases Y.out.2.2 with h | ⟨b', off, h1, h2, _⟩
                    · exact hn h
                    · rw [h1] at hx; cases hx; simp at e; omega⟩
                clear z0 z1 z2 z3 v0 v1 v2 v3 f0 f1 f2 f3 hne
                refine wp_gen (fun W => LW w W hi (some ⟨eb, eoff, none⟩) es (some ⟨kb, koff, none⟩) rs ∧ OX W g1 p1 q1 KO a b c ∧ OY W g3 p4 c4 K' p' q' r') hN (fun U7 hI => ?_)
                clear hN Y
                have Y : Hid (LW w U7 hi (some ⟨eb, eoff, none⟩) es (some ⟨kb, koff, none⟩) rs ∧ OX U7 g1 p1 q1 KO a b c ∧ OY U7 g3 p4 c4 K' p' q' r') := hI
                clear hI
                go_wp2_with fail
                go_roundw
                case rel => exact ⟨i + 1, K', p', q', r', p4, c4, by omega, by go_num, HWI.out, hK17, Y.out.1, Y.out.2.1, Y.out.2.2⟩
                case measure => simp [intOf]; omega
          · have hkb : (x.key.toList == key.toList) = false := te_no hk2
            go_quiet (fail)
            go_wp2_with fail
            go_roundw
            case rel => exact ⟨i + 1, K, p, q, r, po3, co3, by omega, by go_num, wi_skip HW.out hlt2 (by rw [← HX.out]; exact hk2), hKl, Y.out.1.next (below_drewN (Below.refl _ _) _), Y.out.2.1.next (below_drewN (Below.refl _ _) _), Y.out.2.2.1.next (below_drewN (Below.refl _ _) _)⟩
            case measure => simp [intOf]; omega
        · have hlt2' : ¬ (i : Int) < (es.length : Int) := by omega
          obtain rfl : i = es.length := by omega
          have hend := oinv_one (wi_end HW.out) HO.out
          obtain ⟨hK1, rfl, rfl, rfl⟩ := hend
          have hK2 : K = KO := by
            rw [HKO2.out, ← hK1, map_tw]
          obtain rfl := hK2
          have X : Hid (LW w wr hi po es (some ⟨kb, koff, none⟩) rs) := hX
          obtain ⟨y0, y1, y2, y3⟩ := hO1.bx.c4
          obtain ⟨z0, z1, z2, z3⟩ := hY.bx.c4
          have R1 : Hid (GRow 0 wr p1 (W.flat K) ∧ GRow 0 wr po3 (W.flat K)) := ⟨hO1.row, hY.row⟩
          clear hO1 hY hX hw
          go_wp2_with fail
          refine Calls.mono (W.lsame_any q1 co3 p1 po3 K K p q r p q r true ⟨fun _ => same_self _ _ _ _, fun _ => rfl⟩ _ (by omega) (by omega) (grow_sib R1.out.1) (grow_sib R1.out.2)) ?_
          rintro e V8 ⟨rfl, hb⟩
          replace X : Hid (LW w V8 hi po es (some ⟨kb, koff, none⟩) rs) := X.out.next hb
          clear hb y0 y1 y2 y3 z0 z1 z2 z3 R1
          go_wp2_with fail
          go_roundw
          case rel => exact ⟨k + 1, by omega, by go_num, X.out⟩
          case measure => simp [intOf]; omega
    · have hlt' : ¬ (k : Int) < (rs.length : Int) := by omega
      go_wp2
      go_loopw [24, 25, 26, 27, 28] (fun s24 _ _ _ _ wr => ∃ i : Nat, i ≤ es.length ∧ s24 = .int .i64 i ∧ LW w wr hi po es kp rs) (fun s24 _ _ _ _ _ => es.length - (intOf s24).toNat)
      case atStart => exact ⟨0, Nat.zero_le _, rfl, X.out⟩
      case round =>
        obtain ⟨i, hi1, rfl, hX⟩ := hrel
        clear X
        have X : Hid (LW w wr hi po es kp rs) := hX
        clear hX
        have h17' := H17.out
        by_cases hlt2 : i < es.length
        · have hlt2' : (i : Int) < (es.length : Int) := by omega
          obtain ⟨eb, eoff, rfl⟩ := X.out.ev hlt2
          obtain ⟨x, hx⟩ : ∃ x, x = es[i] := ⟨_, rfl⟩
          have HAT : Hid (∀ V, LW w V hi (some ⟨eb, eoff, none⟩) es kp rs → EAt V eb (eoff + i * 8) x) := fun V h => by
            rw [hx]
            exact h.evAt hlt2
          have HMEM : Hid (x ∈ es) := by rw [hx]; exact List.getElem_mem hlt2
          have hev := eok_ev HE.out x HMEM.out
          obtain ⟨TA, TV, TX, hTI, hTS⟩ := tx_both x hev
          have HEV : Hid (evP x) := hev
          have HTX : Hid (TxI x TA TV TX ∧ TxS x TA TV TX) := ⟨hTI, hTS⟩
          clear hx hev hTI hTS
          obtain ⟨e0, e1, e2, e3, e4, e5, e6, e7⟩ := HAT.out _ X.out
          go_wp2_with fail
          refine Calls.mono (implText x TA TV TX _ (HKS.out x HMEM.out) (fun _ => HTX.out.1) (HTB.out.next X.out.bel)) ?_
          rintro e U1 ⟨rt, ct, rfl, hr, hb⟩
          obtain ⟨hrt, rfl⟩ : rt = etB TA x.key TV TX ∧ ct = 0 := by
            rcases hr with ⟨_, h1, h2⟩ | ⟨h, _⟩
            · exact ⟨h1, h2⟩
            · exact absurd HEV.out h
          have HRT : Hid (rt = etB TA x.key TV TX) := hrt
          replace X : Hid (LW w U1 hi (some ⟨eb, eoff, none⟩) es kp rs) := X.out.next hb
          clear hrt hr hb e0 e1 e2 e3 e4 e5 e6 e7
          obtain ⟨e0, e1, e2, e3, e4, e5, e6, e7⟩ := HAT.out _ X.out
          go_wp2_with fail
          refine Calls.mono (specET x TA TV TX _ (HKS.out x HMEM.out) (fun _ => HTX.out.2)) ?_
          rintro e U2 ⟨rt2, ct2, rfl, hr, hb⟩
          obtain ⟨hrt2, rfl⟩ : rt2 = rt ∧ ct2 = 0 := by
            rcases hr with ⟨_, h1, h2⟩ | ⟨h, _⟩
            · exact ⟨by rw [h1, HRT.out], h2⟩
            · exact absurd HEV.out h
          subst hrt2
          replace X : Hid (LW w U2 hi (some ⟨eb, eoff, none⟩) es kp rs) := X.out.next hb
          clear hr hb e0 e1 e2 e3 e4 e5 e6 e7
          have hte : (rt2.toList == rt2.toList) = true := te_yes rfl
          go_wp2_with fail
          go_roundw
          case rel => exact ⟨i + 1, by omega, by go_num, X.out⟩
          case measure => simp [intOf]; omega
        · have hlt2' : ¬ (i : Int) < (es.length : Int) := by omega
          go_wp2
          go_ret
          exact ⟨rfl, X.out.bel⟩
end Go.Proofs.YtkdbcmkmcjaenaaGreatDoor
