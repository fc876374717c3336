/- An event's text, of both sides. -/
import Derived.Test.YtkdbcmkmcjaenaaGreatDoorRows
import Derived.WalkKit
import Derived.WalkSpells
import Derived.WalkLawsBesides
import Derived.Deep.QuietTactic
import Derived.BigQuiet
import Derived.Deep.RegionHeld3
import Derived.Test.YtkdbcmkmcjaenaaGreatDoorVs
import Derived.Test.YtkdbcmkmcjaenaaGreatDoorVt
import Derived.Test.YtkdbcmkmcjaenaaGreatDoorDt
import Derived.Test.YtkdbcmkmcjaenaaGreatDoorJs
import Derived.LoopN
import Derived.OwnWalk
namespace Go.Proofs.YtkdbcmkmcjaenaaGreatDoor
open Go.RowKit
set_option linter.unusedSimpArgs false
set_option linter.unusedVariables false

/-- Four texts, blanks between. -/
def etB (A K V X : ByteArray) : ByteArray := A ++ ⟨#[32]⟩ ++ K ++ ⟨#[32]⟩ ++ V ++ ⟨#[32]⟩ ++ X
theorem join4 (A K V X : ByteArray) : (⟨(Lib.join (([A, K, V, X] : List ByteArray).map (·.data.toList)) (⟨#[32]⟩ : ByteArray).data.toList).toArray⟩ : ByteArray) = etB A K V X := by
  apply ByteArray.ext
  simp [Lib.join_cons, Lib.joinTail, etB]
theorem join4_len (A K V X : ByteArray) : (Lib.join (([A, K, V, X] : List ByteArray).map (·.data.toList)) (⟨#[32]⟩ : ByteArray).data.toList).length = A.size + 1 + K.size + 1 + V.size + 1 + X.size := by
  simp [Lib.join_cons, Lib.joinTail]
  omega
/-- What is called for an event's text, on both sides: the dot's text A, the value's V, the context's X. -/
structure TxI (x : Ev) (A V X : ByteArray) : Prop where
  dot : ∀ W, TB W → Calls Tryz.prog 42 #[.agg #[.int .i64 x.p, .int .i64 x.n]] W fun e w' => e = .returned (.string A) ∧ Below W.heap.size W w'
  val : ∀ W, TB W → ∃ V0, Calls Tryz.prog 40 #[.int .i64 x.v] W (fun e w' => e = .returned (.string V0) ∧ Below W.heap.size W w') ∧ V = if x.dead then ⟨#[33]⟩ else V0
  vv : ∀ W, TB W → Calls Tryz.prog 43 #[.agg #[.int .i64 x.a, .int .i64 x.b, .int .i64 x.c]] W fun e w' => e = .returned (.string X) ∧ Below W.heap.size W w'
  len : A.size ≤ 20000 ∧ x.key.size ≤ 20000 ∧ V.size ≤ 20000 ∧ X.size ≤ 100000
structure TxS (x : Ev) (A V X : ByteArray) : Prop where
  dot : ∀ W, Calls Tryz.prog 74 #[.agg #[.int .i64 x.p, .int .i64 x.n]] W fun e w' => e = .returned (.string A) ∧ Below W.heap.size W w'
  val : x.dead = false → ∀ W, Calls Tryz.prog 75 #[.int .i64 x.v] W (fun e w' => e = .returned (.string V) ∧ Below W.heap.size W w')
  mark : x.dead = true → V = ⟨#[33]⟩
  vv : ∀ W, Calls Tryz.prog 76 #[.agg #[.int .i64 x.a, .int .i64 x.b, .int .i64 x.c]] W fun e w' => e = .returned (.string X) ∧ Below W.heap.size W w'
  len : A.size ≤ 20000 ∧ x.key.size ≤ 20000 ∧ V.size ≤ 20000 ∧ X.size ≤ 100000

set_option maxRecDepth 20000 in
set_option maxHeartbeats 4000000 in
theorem specText (x : Ev) (A V X : ByteArray) (w : World) (ht : TxS x A V X) :
    Calls Tryz.prog 47 #[.agg #[.int .i64 x.p, .int .i64 x.n, .string x.key, .int .i64 x.v, .bool x.dead, .int .i64 x.a, .int .i64 x.b, .int .i64 x.c]] w fun e w' => e = .returned (.string (etB A x.key V X)) ∧ Below w.heap.size w w' := by
  have HT : Hid (TxS x A V X) := ht
  obtain ⟨l1, l2, l3, l4⟩ := ht.len
  have n1 : ¬ 9223372036854775807 < A.size + 1 := by omega
  have n2 : ¬ 9223372036854775807 < A.size + 1 + x.key.size := by omega
  have n3 : ¬ 9223372036854775807 < A.size + 1 + x.key.size + 1 := by omega
  have n4 : ¬ 9223372036854775807 < A.size + 1 + x.key.size + 1 + V.size := by omega
  have n5 : ¬ 9223372036854775807 < A.size + 1 + x.key.size + 1 + V.size + 1 := by omega
  have n6 : ¬ 9223372036854775807 < A.size + 1 + x.key.size + 1 + V.size + 1 + X.size := by omega
  clear l1 l2 l3 l4 ht
  go_enter Tryz.func47, Tryz.ntmps47
  go_upto_region 1 with fail
  refine wp_gen (fun W => Box W w.heap.size [.int .i64 x.p, .int .i64 x.n, .string x.key, .int .i64 x.v, .bool x.dead, .int .i64 x.a, .int .i64 x.b, .int .i64 x.c] ∧ Below w.heap.size w W) ⟨box_mk, bel_alloc _ _⟩ (fun W0 hI => ?_)
  obtain ⟨ge, hge⟩ : ∃ g, g = w.heap.size := ⟨_, rfl⟩
  have Y : Hid (Box W0 ge [.int .i64 x.p, .int .i64 x.n, .string x.key, .int .i64 x.v, .bool x.dead, .int .i64 x.a, .int .i64 x.b, .int .i64 x.c] ∧ Below w.heap.size w W0) := by rw [hge]; exact hI
  rw [← hge]
  clear hI hge
  refine wp_region_held_drew (S := (fun w' => w'.cell? ⟨ge, 0, none⟩ = some (.int .i64 x.p) ∧ w'.cell? ⟨ge, 1, none⟩ = some (.int .i64 x.n) ∧ w'.cell? ⟨ge, 2, none⟩ = some (.string x.key) ∧ w'.cell? ⟨ge, 3, none⟩ = some (.int .i64 x.v) ∧ w'.cell? ⟨ge, 4, none⟩ = some (.bool x.dead) ∧ w'.cell? ⟨ge, 5, none⟩ = some (.int .i64 x.a) ∧ w'.cell? ⟨ge, 6, none⟩ = some (.int .i64 x.b) ∧ w'.cell? ⟨ge, 7, none⟩ = some (.int .i64 x.c))) (by kernel_rfl) ?_ (fun hHeld => ?_)
  · (try dsimp only)
    exact (Y.out.1.next (bel_drew _)).c8
  replace Y : Hid (Box W0.drew ge [.int .i64 x.p, .int .i64 x.n, .string x.key, .int .i64 x.v, .bool x.dead, .int .i64 x.a, .int .i64 x.b, .int .i64 x.c] ∧ Below w.heap.size w W0.drew) := ⟨Y.out.1.next (bel_drew _), Y.out.2.trans ((bel_drew _).mono Y.out.2.size)⟩
  generalize W0.drew = V1 at *
  refine wTk 0 ?_
  refine wTk 1 ?_
  refine wTk 4 ?_
  refine wTk 5 ?_
  refine wRd 2 (fun K hK => ?_)
  go_simp
  go_at_call 74
  refine Calls.mono (HT.out.dot V1) ?_
  rintro e V2 ⟨rfl, hb⟩
  (try simp only [])
  replace Y : Hid (Box V2 ge [.int .i64 x.p, .int .i64 x.n, .string x.key, .int .i64 x.v, .bool x.dead, .int .i64 x.a, .int .i64 x.b, .int .i64 x.c] ∧ Below w.heap.size w V2) := ⟨Y.out.1.next hb, Y.out.2.trans (hb.mono Y.out.2.size)⟩
  refine wHk hK Y.out.1.c8 ?_
  clear hK K hHeld hb
  intro hHeld
  refine wTk 3 ?_
  refine wTk 6 ?_
  refine wTk 7 ?_
  refine wTk 8 ?_
  refine wpAnyH_done (by kernel_rfl) ?_ _
  clear hHeld
  obtain ⟨a0, a1, a2, a3, a4, a5, a6, a7⟩ := Y.out.1.c8
  cases hd : x.dead
  · rw [hd] at a4
    go_wp2_with fail
    refine Calls.mono (HT.out.val hd V2) ?_
    rintro e V3 ⟨rfl, hb⟩
    replace Y : Hid (Box V3 ge [.int .i64 x.p, .int .i64 x.n, .string x.key, .int .i64 x.v, .bool x.dead, .int .i64 x.a, .int .i64 x.b, .int .i64 x.c] ∧ Below w.heap.size w V3) := ⟨Y.out.1.next hb, Y.out.2.trans (hb.mono Y.out.2.size)⟩
    clear hb a0 a1 a2 a3 a4 a5 a6 a7
    obtain ⟨a0, a1, a2, a3, a4, a5, a6, a7⟩ := Y.out.1.c8
    go_wp2_with fail
    refine Calls.mono (HT.out.vv V3) ?_
    rintro e V4 ⟨rfl, hb⟩
    replace Y : Hid (Box V4 ge [.int .i64 x.p, .int .i64 x.n, .string x.key, .int .i64 x.v, .bool x.dead, .int .i64 x.a, .int .i64 x.b, .int .i64 x.c] ∧ Below w.heap.size w V4) := ⟨Y.out.1.next hb, Y.out.2.trans (hb.mono Y.out.2.size)⟩
    clear hb a0 a1 a2 a3 a4 a5 a6 a7
    go_wp2
    go_ret
    exact ⟨rfl, Y.out.2⟩
  · rw [hd] at a4
    have hV := HT.out.mark hd
    subst hV
    go_wp2_with fail
    refine Calls.mono (HT.out.vv V2) ?_
    rintro e V4 ⟨rfl, hb⟩
    replace Y : Hid (Box V4 ge [.int .i64 x.p, .int .i64 x.n, .string x.key, .int .i64 x.v, .bool x.dead, .int .i64 x.a, .int .i64 x.b, .int .i64 x.c] ∧ Below w.heap.size w V4) := ⟨Y.out.1.next hb, Y.out.2.trans (hb.mono Y.out.2.size)⟩
    clear hb a0 a1 a2 a3 a4 a5 a6 a7
    go_wp2
    go_ret
    exact ⟨rfl, Y.out.2⟩

set_option maxRecDepth 20000 in
set_option maxHeartbeats 4000000 in
theorem implText (x : Ev) (A V X : ByteArray) (w : World) (hks : x.key.size < 1099511627776) (ht : evP x → TxI x A V X) (tb : TB w) :
    Calls Tryz.prog 15 #[.agg #[.int .i64 x.p, .int .i64 x.n, .string x.key, .int .i64 x.v, .bool x.dead, .int .i64 x.a, .int .i64 x.b, .int .i64 x.c]] w fun e w' => ∃ r c, e = .returned (.tuple #[.string r, .int .i64 c]) ∧ ((evP x ∧ r = etB A x.key V X ∧ c = 0) ∨ (¬ evP x ∧ r = ⟨#[]⟩ ∧ c = 1)) ∧ Below w.heap.size w w' := by
  have HTB : Hid (TB w) := tb
  have HI : Hid (evP x → TxI x A V X) := ht
  clear ht tb
  go_enter Tryz.func15, Tryz.ntmps15
  go_upto_region 1 with fail
  refine wp_gen (fun W => Box W w.heap.size [.int .i64 x.p, .int .i64 x.n, .string x.key, .int .i64 x.v, .bool x.dead, .int .i64 x.a, .int .i64 x.b, .int .i64 x.c] ∧ Below w.heap.size w W) ⟨box_mk, bel_alloc _ _⟩ (fun W0 hI => ?_)
  obtain ⟨ge, hge⟩ : ∃ g, g = w.heap.size := ⟨_, rfl⟩
  have Y : Hid (Box W0 ge [.int .i64 x.p, .int .i64 x.n, .string x.key, .int .i64 x.v, .bool x.dead, .int .i64 x.a, .int .i64 x.b, .int .i64 x.c] ∧ Below w.heap.size w W0) := by rw [hge]; exact hI
  rw [← hge]
  clear hI hge
  obtain ⟨a0, a1, a2, a3, a4, a5, a6, a7⟩ := Y.out.1.c8
  go_wp2_with fail
  refine (eventOK_any x _ hks).mono ?_
  rintro e W1 ⟨rr, rfl, hq, hb⟩
  have HQ : Hid (rr = true ↔ evP x) := hq
  replace Y : Hid (Box W1 ge [.int .i64 x.p, .int .i64 x.n, .string x.key, .int .i64 x.v, .bool x.dead, .int .i64 x.a, .int .i64 x.b, .int .i64 x.c] ∧ Below w.heap.size w W1) := ⟨Y.out.1.next hb, Y.out.2.trans (hb.mono Y.out.2.size)⟩
  clear hb hq a0 a1 a2 a3 a4 a5 a6 a7
  cases rr
  case false =>
    have HF : Hid (¬ evP x) := fun h => by have := HQ.out.2 h; cases this
    clear HQ HI
    go_wp2
    go_ret2
    exact ⟨⟨#[]⟩, 1, rfl, .inr ⟨HF.out, rfl, rfl⟩, Y.out.2⟩
  have HE : Hid (evP x) := HQ.out.1 rfl
  have HT : Hid (TxI x A V X) := HI.out HE.out
  clear HQ HI
  obtain ⟨a0, a1, a2, a3, a4, a5, a6, a7⟩ := Y.out.1.c8
  obtain ⟨V0, hV0, hV⟩ := HT.out.val W1 (HTB.out.next Y.out.2)
  have HV0 : Hid _ := hV0
  have HV : Hid (V = if x.dead then ⟨#[33]⟩ else V0) := hV
  clear hV0 hV
  go_wp2_with fail
  refine Calls.mono HV0.out ?_
  rintro e W2 ⟨rfl, hb⟩
  replace Y : Hid (Box W2 ge [.int .i64 x.p, .int .i64 x.n, .string x.key, .int .i64 x.v, .bool x.dead, .int .i64 x.a, .int .i64 x.b, .int .i64 x.c] ∧ Below w.heap.size w W2) := ⟨Y.out.1.next hb, Y.out.2.trans (hb.mono Y.out.2.size)⟩
  clear hb a0 a1 a2 a3 a4 a5 a6 a7 HV0
  obtain ⟨a0, a1, a2, a3, a4, a5, a6, a7⟩ := Y.out.1.c8
  obtain ⟨bd, hbd⟩ : ∃ b, b = x.dead := ⟨_, rfl⟩
  have HVV : Hid (V = if bd then ⟨#[33]⟩ else V0) := by rw [hbd]; exact HV.out
  rw [← hbd] at a4
  have HBD : Hid (bd = x.dead) := hbd
  clear HV hbd
  cases bd
  case false =>
    have hv : V = V0 := HVV.out
    subst hv
    go_upto_region 6 with fail
    clear a0 a1 a2 a3 a4 a5 a6 a7 HVV HBD
    refine wp_region_held_drew (S := (fun w' => w'.cell? ⟨ge, 0, none⟩ = some (.int .i64 x.p) ∧ w'.cell? ⟨ge, 1, none⟩ = some (.int .i64 x.n) ∧ w'.cell? ⟨ge, 2, none⟩ = some (.string x.key) ∧ w'.cell? ⟨ge, 3, none⟩ = some (.int .i64 x.v) ∧ w'.cell? ⟨ge, 4, none⟩ = some (.bool x.dead) ∧ w'.cell? ⟨ge, 5, none⟩ = some (.int .i64 x.a) ∧ w'.cell? ⟨ge, 6, none⟩ = some (.int .i64 x.b) ∧ w'.cell? ⟨ge, 7, none⟩ = some (.int .i64 x.c))) (by kernel_rfl) ?_ (fun hHeld => ?_)
    · (try dsimp only)
      exact (Y.out.1.next (bel_drew _)).c8
    replace Y : Hid (Box W2.drew ge [.int .i64 x.p, .int .i64 x.n, .string x.key, .int .i64 x.v, .bool x.dead, .int .i64 x.a, .int .i64 x.b, .int .i64 x.c] ∧ Below w.heap.size w W2.drew) := ⟨Y.out.1.next (bel_drew _), Y.out.2.trans ((bel_drew _).mono Y.out.2.size)⟩
    generalize W2.drew = V1 at *
    refine wTk 0 ?_
    refine wTk 1 ?_
    refine wTk 3 ?_
    refine wTk 4 ?_
    refine wTk 5 ?_
    refine wTk 6 ?_
    refine wTk 7 ?_
    refine wRd 2 (fun K hK => ?_)
    go_simp
    go_at_call 42
    refine Calls.mono (HT.out.dot V1 (HTB.out.next Y.out.2)) ?_
    rintro e V2 ⟨rfl, hb⟩
    (try simp only [])
    replace Y : Hid (Box V2 ge [.int .i64 x.p, .int .i64 x.n, .string x.key, .int .i64 x.v, .bool x.dead, .int .i64 x.a, .int .i64 x.b, .int .i64 x.c] ∧ Below w.heap.size w V2) := ⟨Y.out.1.next hb, Y.out.2.trans (hb.mono Y.out.2.size)⟩
    refine wHk hK Y.out.1.c8 ?_
    clear hK K hHeld hb
    intro hHeld
    refine wRd 8 (fun K hK => ?_)
    go_simp
    go_at_call 43
    refine Calls.mono (HT.out.vv V2 (HTB.out.next Y.out.2)) ?_
    rintro e V3 ⟨rfl, hb⟩
    (try simp only [])
    replace Y : Hid (Box V3 ge [.int .i64 x.p, .int .i64 x.n, .string x.key, .int .i64 x.v, .bool x.dead, .int .i64 x.a, .int .i64 x.b, .int .i64 x.c] ∧ Below w.heap.size w V3) := ⟨Y.out.1.next hb, Y.out.2.trans (hb.mono Y.out.2.size)⟩
    refine wHk hK Y.out.1.c8 ?_
    clear hK K hHeld hb
    intro hHeld
    refine wRd 9 (fun K hK => ?_)
    go_simp
    (try simp only [])
    have HA : Hid (Box (V3.alloc (.cells #[.string A, .string x.key, .string V, .string X] 9)) V3.heap.size [.string A, .string x.key, .string V, .string X]) := box_mk
    replace Y : Hid (Box (V3.alloc (.cells #[.string A, .string x.key, .string V, .string X] 9)) ge [.int .i64 x.p, .int .i64 x.n, .string x.key, .int .i64 x.v, .bool x.dead, .int .i64 x.a, .int .i64 x.b, .int .i64 x.c] ∧ Below w.heap.size w (V3.alloc (.cells #[.string A, .string x.key, .string V, .string X] 9))) := ⟨Y.out.1.alloc, Y.out.2.trans ((bel_alloc _ _).mono Y.out.2.size)⟩
    refine wHk hK Y.out.1.c8 ?_
    clear hK K hHeld
    intro hHeld
    generalize V3.alloc (.cells #[.string A, .string x.key, .string V, .string X] 9) = V4 at *
    generalize V3.heap.size = gs at *
    obtain ⟨l1, l2, l3, l4⟩ := HT.out.len
    have JN : Hid (Calls Tryz.prog 41 #[.slice (some ⟨gs, 0, none⟩) 4 4, .string ⟨#[32]⟩] V4 fun e w' => e = .returned (.string (etB A x.key V X)) ∧ Below V4.heap.size V4 w') := by
      obtain ⟨s0, s1, s2, s3⟩ := HA.out.c4
      have := Any.strings_Join Tryz.lays156 Tryz.Builder_Extra_156 gs 0 4 [A, x.key, V, X] ⟨#[32]⟩ V4 (fun j y hy => by
        match j, hy with
        | 0, hy => simp at hy; subst hy; exact s0
        | 1, hy => simp at hy; subst hy; exact s1
        | 2, hy => simp at hy; subst hy; exact s2
        | 3, hy => simp at hy; subst hy; exact s3
        | j + 4, hy => simp at hy) HA.out.lt (by simp) (by simp) (by rw [join4_len]; omega)
      rw [join4] at this
      exact this
    clear l1 l2 l3 l4 HA
    refine wRd 10 (fun K hK => ?_)
    go_simp
    go_at_call 41
    refine JN.out.mono ?_
    rintro e V5 ⟨rfl, hb⟩
    (try simp only [])
    replace Y : Hid (Box V5 ge [.int .i64 x.p, .int .i64 x.n, .string x.key, .int .i64 x.v, .bool x.dead, .int .i64 x.a, .int .i64 x.b, .int .i64 x.c] ∧ Below w.heap.size w V5) := ⟨Y.out.1.next hb, Y.out.2.trans (hb.mono Y.out.2.size)⟩
    refine wHk hK Y.out.1.c8 ?_
    clear hK K hHeld hb JN
    intro hHeld
    refine wTk 11 ?_
    refine wTk 12 ?_
    refine wpAnyH_done (by kernel_rfl) ?_ _
    clear hHeld
    go_wp2
    go_ret2
    exact ⟨_, 0, rfl, .inl ⟨HE.out, rfl, rfl⟩, Y.out.2⟩
  case true =>
    have hv : V = ⟨#[33]⟩ := HVV.out
    subst hv
    go_upto_region 6 with fail
    clear a0 a1 a2 a3 a4 a5 a6 a7 HVV HBD
    refine wp_region_held_drew (S := (fun w' => w'.cell? ⟨ge, 0, none⟩ = some (.int .i64 x.p) ∧ w'.cell? ⟨ge, 1, none⟩ = some (.int .i64 x.n) ∧ w'.cell? ⟨ge, 2, none⟩ = some (.string x.key) ∧ w'.cell? ⟨ge, 3, none⟩ = some (.int .i64 x.v) ∧ w'.cell? ⟨ge, 4, none⟩ = some (.bool x.dead) ∧ w'.cell? ⟨ge, 5, none⟩ = some (.int .i64 x.a) ∧ w'.cell? ⟨ge, 6, none⟩ = some (.int .i64 x.b) ∧ w'.cell? ⟨ge, 7, none⟩ = some (.int .i64 x.c))) (by kernel_rfl) ?_ (fun hHeld => ?_)
    · (try dsimp only)
      exact (Y.out.1.next (bel_drew _)).c8
    replace Y : Hid (Box W2.drew ge [.int .i64 x.p, .int .i64 x.n, .string x.key, .int .i64 x.v, .bool x.dead, .int .i64 x.a, .int .i64 x.b, .int .i64 x.c] ∧ Below w.heap.size w W2.drew) := ⟨Y.out.1.next (bel_drew _), Y.out.2.trans ((bel_drew _).mono Y.out.2.size)⟩
    generalize W2.drew = V1 at *
    refine wTk 0 ?_
    refine wTk 1 ?_
    refine wTk 3 ?_
    refine wTk 4 ?_
    refine wTk 5 ?_
    refine wTk 6 ?_
    refine wTk 7 ?_
    refine wRd 2 (fun K hK => ?_)
    go_simp
    go_at_call 42
    refine Calls.mono (HT.out.dot V1 (HTB.out.next Y.out.2)) ?_
    rintro e V2 ⟨rfl, hb⟩
    (try simp only [])
    replace Y : Hid (Box V2 ge [.int .i64 x.p, .int .i64 x.n, .string x.key, .int .i64 x.v, .bool x.dead, .int .i64 x.a, .int .i64 x.b, .int .i64 x.c] ∧ Below w.heap.size w V2) := ⟨Y.out.1.next hb, Y.out.2.trans (hb.mono Y.out.2.size)⟩
    refine wHk hK Y.out.1.c8 ?_
    clear hK K hHeld hb
    intro hHeld
    refine wRd 8 (fun K hK => ?_)
    go_simp
    go_at_call 43
    refine Calls.mono (HT.out.vv V2 (HTB.out.next Y.out.2)) ?_
    rintro e V3 ⟨rfl, hb⟩
    (try simp only [])
    replace Y : Hid (Box V3 ge [.int .i64 x.p, .int .i64 x.n, .string x.key, .int .i64 x.v, .bool x.dead, .int .i64 x.a, .int .i64 x.b, .int .i64 x.c] ∧ Below w.heap.size w V3) := ⟨Y.out.1.next hb, Y.out.2.trans (hb.mono Y.out.2.size)⟩
    refine wHk hK Y.out.1.c8 ?_
    clear hK K hHeld hb
    intro hHeld
    refine wRd 9 (fun K hK => ?_)
    go_simp
    (try simp only [])
    have HA : Hid (Box (V3.alloc (.cells #[.string A, .string x.key, .string (⟨#[33]⟩ : ByteArray), .string X] 9)) V3.heap.size [.string A, .string x.key, .string (⟨#[33]⟩ : ByteArray), .string X]) := box_mk
    replace Y : Hid (Box (V3.alloc (.cells #[.string A, .string x.key, .string (⟨#[33]⟩ : ByteArray), .string X] 9)) ge [.int .i64 x.p, .int .i64 x.n, .string x.key, .int .i64 x.v, .bool x.dead, .int .i64 x.a, .int .i64 x.b, .int .i64 x.c] ∧ Below w.heap.size w (V3.alloc (.cells #[.string A, .string x.key, .string (⟨#[33]⟩ : ByteArray), .string X] 9))) := ⟨Y.out.1.alloc, Y.out.2.trans ((bel_alloc _ _).mono Y.out.2.size)⟩
    refine wHk hK Y.out.1.c8 ?_
    clear hK K hHeld
    intro hHeld
    generalize V3.alloc (.cells #[.string A, .string x.key, .string (⟨#[33]⟩ : ByteArray), .string X] 9) = V4 at *
    generalize V3.heap.size = gs at *
    obtain ⟨l1, l2, l3, l4⟩ := HT.out.len
    have JN : Hid (Calls Tryz.prog 41 #[.slice (some ⟨gs, 0, none⟩) 4 4, .string ⟨#[32]⟩] V4 fun e w' => e = .returned (.string (etB A x.key (⟨#[33]⟩ : ByteArray) X)) ∧ Below V4.heap.size V4 w') := by
      obtain ⟨s0, s1, s2, s3⟩ := HA.out.c4
      have := Any.strings_Join Tryz.lays156 Tryz.Builder_Extra_156 gs 0 4 [A, x.key, (⟨#[33]⟩ : ByteArray), X] ⟨#[32]⟩ V4 (fun j y hy => by
        match j, hy with
        | 0, hy => simp at hy; subst hy; exact s0
        | 1, hy => simp at hy; subst hy; exact s1
        | 2, hy => simp at hy; subst hy; exact s2
        | 3, hy => simp at hy; subst hy; exact s3
        | j + 4, hy => simp at hy) HA.out.lt (by simp) (by simp) (by rw [join4_len]; omega)
      rw [join4] at this
      exact this
    clear l1 l2 l3 l4 HA
    refine wRd 10 (fun K hK => ?_)
    go_simp
    go_at_call 41
    refine JN.out.mono ?_
    rintro e V5 ⟨rfl, hb⟩
    (try simp only [])
    replace Y : Hid (Box V5 ge [.int .i64 x.p, .int .i64 x.n, .string x.key, .int .i64 x.v, .bool x.dead, .int .i64 x.a, .int .i64 x.b, .int .i64 x.c] ∧ Below w.heap.size w V5) := ⟨Y.out.1.next hb, Y.out.2.trans (hb.mono Y.out.2.size)⟩
    refine wHk hK Y.out.1.c8 ?_
    clear hK K hHeld hb JN
    intro hHeld
    refine wTk 11 ?_
    refine wTk 12 ?_
    refine wpAnyH_done (by kernel_rfl) ?_ _
    clear hHeld
    go_wp2
    go_ret2
    exact ⟨_, 0, rfl, .inl ⟨HE.out, rfl, rfl⟩, Y.out.2⟩
end Go.Proofs.YtkdbcmkmcjaenaaGreatDoor
