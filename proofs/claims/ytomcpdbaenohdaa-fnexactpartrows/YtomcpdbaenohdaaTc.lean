/- Rows that are copied, one by one. -/
import Derived.Test.YtomcpdbaenohdaaRows
import Derived.WalkKit
import Derived.WalkSpells
import Derived.WalkLawsBesides
import Derived.Deep.QuietTactic
import Derived.BigQuiet
import Derived.Deep.RegionHeld3
import Derived.Test.YtomcpdbaenohdaaMl
import Derived.LoopN
namespace Go.Proofs.Ytomcpdbaenohdaa
open Go.RowKit
set_option linter.unusedSimpArgs false
set_option linter.unusedVariables false

theorem elI : ElemT Try.prog 35 3 1 8 := by
  refine ⟨Try.underlying35, ⟨(Try.prog.info? 3).getD default, .int .i64 0, ?_, ?_, ?_, ?_, ?_⟩, by decide, by decide⟩ <;> kernel_rfl
theorem elR : ElemT Try.prog 25 38 3 48 := by
  refine ⟨Try.underlying25, ⟨(Try.prog.info? 38).getD default, .agg #[.int .i64 0, .string ⟨#[]⟩, .slice none 0 0], ?_, ?_, ?_, ?_, ?_⟩, by decide, by decide⟩ <;> kernel_rfl
theorem own_there {W : World} {base e n c sz : Nat} {g : Nat} {xs : List Value} (h : W.ownsRow base e sz (.slice (some ⟨g, 0, none⟩) n c) n xs) : There W g (n * sz) := by
  obtain ⟨h1, h2⟩ := h
  rcases h2 with ⟨h2, _⟩ | ⟨g', cap, cur, h2, h3, h4, h5, h6, h7, h8⟩
  · cases h2
  · cases h2
    have := Nat.mul_le_mul_right sz h5
    intro j hj
    refine ⟨?_, ?_⟩
    · simp [World.cell?, h4]; omega
    · simp [World.frozen?, h4]
theorem own_some {W : World} {e n c sz lo : Nat} {p : Option Addr} {xs : List Value} (h : OwnG W e sz (.slice p n c) n xs lo) (hn : 0 < n) : ∃ g, p = some ⟨g, 0, none⟩ ∧ lo ≤ g ∧ g < W.heap.size := by
  rcases h.own.2 with ⟨h2, h3⟩ | ⟨g', cap, cur, h2, _⟩
  · omega
  · cases h2
    exact ⟨g', rfl, (h.lt g' rfl).1, (h.lt g' rfl).2⟩
theorem clone_eq (p : Option Addr) (n c : Nat) (w : World) : Sem.run Try.prog (binOp BinOp.eql 35 (Value.slice p n c) (Value.slice none 0 0)) w = .ok (.bool p.isNone) w := by
  cases p <;> kernel_rfl
set_option maxHeartbeats 2000000 in
theorem clone_any (lo c : Nat) (p : Option Addr) (l : List Int) (w : World) (hl : l.length ≤ 1048576) (h0 : l ≠ []) (hr : GRow lo w p (ints l)) :
    Calls Try.prog 57 #[.slice p l.length c] w fun e w' => ∃ po co, e = .returned (.slice po l.length co) ∧ OwnG w' 3 1 (.slice po l.length co) l.length (ints l) w.heap.size ∧ Below w.heap.size w w' := by
  have E := clone_eq p l.length c
  have hp : p.isNone = false := by
    rcases hr with h | ⟨b, off, h1, _⟩
    · exact absurd (ints_nil h) h0
    · rw [h1]; rfl
  rw [hp] at E
  have HR : Hid (GRow lo (w.alloc (.cells #[] 3)) p (ints l)) := hr.next (bel_alloc _ _)
  have OL : Hid (OwnG (w.alloc (.cells #[] 3)) 3 1 (.slice (some ⟨w.heap.size, 0, none⟩) 0 0) 0 [] w.heap.size) := OwnG.lit (Nat.le_refl _)
  clear hr hp h0
  go_enter Try.func57, Try.ntmps57
  go_wp2_with (first | (at_builtin; refine wpList_appG elI rfl _ _ rfl (.slice (some ⟨w.heap.size, 0, none⟩) 0 0) 0 [] w.heap.size l.length rfl OL.out (by simp) p l.length c (ints l) rfl (by simp [ints]) (ints_one l) lo HR.out (by omega) (by omega) ?_) | go_in)
  intro po co W3 hO hG _
  have R : Hid (OwnG W3 3 1 (.slice po l.length co) l.length (ints l) w.heap.size ∧ Below w.heap.size w W3) := ⟨by simpa using hO, (bel_alloc _ _).trans (hG.below (by simp) (fun k hk => by simp [Value.ownBlock] at hk; omega))⟩
  clear hO hG
  go_wp2
  go_ret
  exact ⟨po, co, rfl, R.out.1, R.out.2⟩
/-- Numbers of a row's own are a Sub. -/
theorem sub_of {W : World} {r : Rw} {po : Option Addr} {co lo : Nat} (h : OwnG W 3 1 (.slice po r.vs.length co) r.vs.length (ints r.vs) lo) (h0 : 0 < r.vs.length) : Sub lo W ⟨r, po, co⟩ := by
  obtain ⟨g, rfl, h1, h2⟩ := own_some h h0
  refine ⟨rfl, h1, h2, ?_, fun i hi => ?_⟩
  · have := own_there h.own
    rw [Nat.mul_one] at this
    exact this
  · obtain ⟨p, c, e, _, hG⟩ := h.grow
    cases e
    rcases hG.i with h' | ⟨b, off, h3, _, h4⟩
    · rw [h'] at h0; simp at h0
    · cases h3
      have := h4 i hi
      rw [Nat.zero_add] at this
      exact this
set_option maxRecDepth 20000 in
set_option maxHeartbeats 4000000 in
theorem copyRow_any (lo : Nat) (x : Rm) (w : World) (hl : x.r.vs.length ≤ 1048576) (h0 : 0 < x.r.vs.length) (hr0 : GRow lo w x.p (ints x.r.vs)) :
    Calls Try.prog 47 #[.agg #[.int .i64 x.r.part, .string x.r.key, .slice x.p x.r.vs.length x.q]] w fun e w' => ∃ y : Rm, y.r = x.r ∧ e = .returned (.agg #[.int .i64 y.r.part, .string y.r.key, .slice y.p y.r.vs.length y.q]) ∧ Sub w.heap.size w' y ∧ Below w.heap.size w w' := by
  have hr : Hid (GRow lo w x.p (ints x.r.vs)) := hr0
  have hne : Hid (x.r.vs ≠ []) := fun e => by rw [e] at h0; simp at h0
  clear hr0
  go_enter Try.func47, Try.ntmps47
  go_upto_region 1 with fail
  refine wp_gen (fun W => Box W w.heap.size [.int .i64 x.r.part, .string x.r.key, .slice x.p x.r.vs.length x.q] ∧ Box W (w.heap.size + 1) [.int .i64 0, .string ⟨#[]⟩, .slice none 0 0] ∧ Below w.heap.size w W) ⟨box_mk.alloc, ?_, (bel_alloc _ _).trans ((bel_alloc _ _).mono (by simp))⟩ (fun W0 hI => ?_)
  · have := box_mk (W := w.alloc (.cells #[.int .i64 x.r.part, .string x.r.key, .slice x.p x.r.vs.length x.q] 38)) (t := 38) (vs := [.int .i64 0, .string ⟨#[]⟩, .slice none 0 0])
    simpa using this
  have Y : Hid _ := hI
  clear hI
  obtain ⟨a0, a1, a2⟩ := Y.out.1.c3
  go_wp2_with fail
  refine (clone_any lo x.q x.p x.r.vs _ hl hne.out (hr.out.next Y.out.2.2)).mono ?_
  rintro e1 W1 ⟨po, co, rfl, hO, hb⟩
  have Y1 : Hid (Box W1 w.heap.size [.int .i64 x.r.part, .string x.r.key, .slice x.p x.r.vs.length x.q] ∧ Box W1 (w.heap.size + 1) [.int .i64 0, .string ⟨#[]⟩, .slice none 0 0] ∧ Below w.heap.size w W1 ∧ Sub W0.heap.size W1 ⟨x.r, po, co⟩ ∧ w.heap.size + 1 < W0.heap.size) := ⟨Y.out.1.next hb, Y.out.2.1.next hb, Y.out.2.2.trans (hb.mono Y.out.2.2.size), sub_of hO h0, Y.out.2.1.lt⟩
  clear hO hb a0 a1 a2 Y
  generalize W0.heap.size = lv at *
  obtain ⟨a0, a1, a2⟩ := Y1.out.1.c3
  obtain ⟨f0, f1, f2⟩ := Y1.out.1.f3
  go_upto_region 2 with fail
  have Y2 : Hid (Box (W1.setCell ⟨w.heap.size, 2, none⟩ (.slice po x.r.vs.length co)) w.heap.size [.int .i64 x.r.part, .string x.r.key, .slice po x.r.vs.length co] ∧ Box (W1.setCell ⟨w.heap.size, 2, none⟩ (.slice po x.r.vs.length co)) (w.heap.size + 1) [.int .i64 0, .string ⟨#[]⟩, .slice none 0 0] ∧ Below w.heap.size w (W1.setCell ⟨w.heap.size, 2, none⟩ (.slice po x.r.vs.length co)) ∧ Sub lv (W1.setCell ⟨w.heap.size, 2, none⟩ (.slice po x.r.vs.length co)) ⟨x.r, po, co⟩ ∧ w.heap.size + 1 < lv) := by
    have hlt := Y1.out.2.2.2.2
    refine ⟨?_, Y1.out.2.1.oth (by omega), bel_in Y1.out.2.2.1 (by omega), Y1.out.2.2.2.1.oth (by have := Y1.out.2.2.2.1.lo; omega), hlt⟩
    have := Y1.out.1.set (i := 2) (u := .slice po x.r.vs.length co) (by simp)
    simpa using this
  clear a0 a1 a2 f0 f1 f2 Y1
  generalize (W1.setCell ⟨w.heap.size, 2, none⟩ (.slice po x.r.vs.length co)) = W2 at *
  obtain ⟨a0, a1, a2⟩ := Y2.out.1.c3
  obtain ⟨b0, b1, b2⟩ := Y2.out.2.1.c3
  obtain ⟨f0, f1, f2⟩ := Y2.out.2.1.f3
  go_wp2_with fail
  have Z := Y2.out.2.1.s3 (u0 := .int .i64 x.r.part) (u1 := .string x.r.key) (u2 := .slice po x.r.vs.length co)
  obtain ⟨z0, z1, z2⟩ := Z.c3
  clear a0 a1 a2 b0 b1 b2 f0 f1 f2 Z
  refine bodyPost_ret (v := .agg #[.int .i64 x.r.part, .string x.r.key, .slice po x.r.vs.length co]) (by simp [results, Try.results47, go_sem, z0, z1, z2]) rfl ⟨⟨x.r, po, co⟩, rfl, rfl, ?_, ?_⟩
  · have hlt := Y2.out.2.2.2.2
    have hq : blk po ≠ w.heap.size + 1 := by have := Y2.out.2.2.2.1.lo; intro e; have : lv ≤ blk po := this; omega
    exact (((Y2.out.2.2.2.1.oth hq).oth hq).oth hq).weak (by omega)
  · exact bel_in (bel_in (bel_in Y2.out.2.2.1 (by omega)) (by omega)) (by omega)
/-- Rows that a call has made one by one, in a slice of its own; each one's numbers in a block of their own. -/
structure TI (base : Nat) (W : World) (po : Option Addr) (pc : Nat) (ns : List Rm) : Prop where
  own : OwnG W 38 3 (.slice po ns.length pc) ns.length (flatR ns) base
  sub : ∀ m ∈ ns, Sub base W m ∧ (Value.slice po ns.length pc).ownBlock ≠ some (blk m.p)
  apart : ∀ i j (hi : i < ns.length) (hj : j < ns.length), i < j → blk ns[i].p < blk ns[j].p
theorem TI.nil (base : Nat) (W : World) : TI base W none 0 [] := ⟨OwnG.nil _ _ _ _, fun m hm => by simp at hm, fun i j hi => by simp at hi⟩
theorem TI.next {base : Nat} {W W' : World} {po : Option Addr} {pc : Nat} {ns : List Rm} (h : TI base W po pc ns) (hb : Below W.heap.size W W') : TI base W' po pc ns := ⟨h.own.next hb, fun m hm => ⟨(h.sub m hm).1.next hb, (h.sub m hm).2⟩, h.apart⟩
theorem TI.add {base l : Nat} {W W2 : World} {po vo : Option Addr} {pc vc : Nat} {ns : List Rm} {x : Rm} (h : TI base W po pc ns) (hx : Sub l W x) (hl : base ≤ l) (hs : ∀ m ∈ ns, blk m.p < l) (hw : (∀ k, (Value.slice po ns.length pc).ownBlock = some k → k < l))
    (hO : OwnG W2 38 3 (.slice vo (ns.length + 1) vc) (ns.length + 1) (flatR ns ++ flatR [x]) base) (hG : Gro W W2 (.slice po ns.length pc) (.slice vo (ns.length + 1) vc)) : TI base W2 vo vc (ns ++ [x]) := by
  have hlen : (ns ++ [x]).length = ns.length + 1 := by simp
  have hnew : ∀ m : Rm, blk m.p < W.heap.size → (Value.slice po ns.length pc).ownBlock ≠ some (blk m.p) → (Value.slice vo (ns.length + 1) vc).ownBlock ≠ some (blk m.p) := fun m h1 h2 e => by
    rcases hG.fresh _ e with q | q
    · exact h2 q
    · omega
  refine ⟨?_, fun m hm => ?_, fun i j hi hj hij => ?_⟩
  · rw [hlen, flatR_app]; exact hO
  · rw [hlen]
    rcases List.mem_append.1 hm with hm | hm
    · obtain ⟨h1, h2⟩ := h.sub m hm
      exact ⟨h1.kp (Kp.of_gro hG) h2, hnew m h1.up h2⟩
    · obtain rfl : m = x := by simpa using hm
      have h2 : (Value.slice po ns.length pc).ownBlock ≠ some (blk m.p) := fun e => by have := hw _ e; have := hx.lo; omega
      exact ⟨(hx.kp (Kp.of_gro hG) h2).weak hl, hnew m hx.up h2⟩
  · rcases Nat.lt_or_ge j ns.length with q | q
    · rw [List.getElem_append_left q, List.getElem_append_left (by omega)]; exact h.apart i j (by omega) q hij
    · have e : j = ns.length := by simp at hj; omega
      subst e
      rw [List.getElem_append_left (by omega)]
      simp
      have := hs _ (List.getElem_mem (show i < ns.length by omega))
      have := hx.lo
      omega
theorem TI.rw {base : Nat} {W : World} {po : Option Addr} {pc : Nat} {ns : List Rm} (h : TI base W po pc ns) (h0 : ns ≠ []) : ∃ g, po = some ⟨g, 0, none⟩ ∧ RW base W g ns.length ns := by
  have hp : 0 < ns.length := List.length_pos_iff.2 h0
  obtain ⟨g, rfl, h1, h2⟩ := own_some h.own hp
  refine ⟨g, rfl, h1, h2, own_there h.own.own, Nat.le_refl _, fun i hi => ?_, fun m hm => ⟨(h.sub m hm).1, fun e => (h.sub m hm).2 (by rw [e]; rfl)⟩, h.apart⟩
  obtain ⟨p, c, e, _, hG⟩ := h.own.grow
  cases e
  rcases hG.r with h' | ⟨b, off, h3, _, h4⟩
  · exact absurd h' h0
  · cases h3
    have := h4 i hi
    simpa using this
theorem row_lit {W : World} {y : Rm} : GRow 0 (W.alloc (.cells #[.int .i64 y.r.part, .string y.r.key, .slice y.p y.r.vs.length y.q] 38)) (some ⟨W.heap.size, 0, none⟩) (flatR [y]) := .inr ⟨W.heap.size, 0, rfl, Nat.zero_le _, fun j hj => by
  rw [World.cell?_alloc_at _ _ _ _ rfl, Nat.zero_add, List.getElem?_toArray]
  exact List.getElem?_eq_getElem hj⟩
end Go.Proofs.Ytomcpdbaenohdaa
