/- Bytes and texts. -/
import Derived.Test.YthblnifapkfbcaaDoorRows
import Derived.WalkKit
import Derived.WalkSpells
import Derived.WalkLawsBesides
import Derived.Deep.QuietTactic
import Derived.BigQuiet
import Derived.Deep.RegionHeld3
import Derived.Test.YthblnifapkfbcaaDoorDk
import Derived.LoopN
import Derived.Lib.ConvBytes
namespace Go.Proofs.YthblnifapkfbcaaDoor
open Go.RowKit
set_option linter.unusedSimpArgs false
set_option linter.unusedVariables false

/-- A disk's two cells in its box. -/
def Cb (W : World) (g : Nat) (v0 v1 : Value) : Prop := W.cell? ⟨g, 0, none⟩ = some v0 ∧ W.cell? ⟨g, 1, none⟩ = some v1
theorem cb_next {W W' : World} {g : Nat} {v0 v1 : Value} (h : Hid (Cb W g v0 v1)) (hb : Below W.heap.size W W') (hl : Hid (g < W.heap.size)) : Hid (Cb W' g v0 v1) := ⟨cell_next hb h.out.1 hl.out, cell_next hb h.out.2 hl.out⟩
theorem box_new {W : World} {v0 v1 : Value} {t : TypeId} : Hid (Cb (W.alloc (.cells #[v0, v1] t)) W.heap.size v0 v1) := by
  refine ⟨?_, ?_⟩ <;> go_simp
theorem box_alloc {W : World} {g o : Nat} {v : Value} {b : Obj} (h : W.cell? ⟨g, o, none⟩ = some v) (hl : g < W.heap.size) : (W.alloc b).cell? ⟨g, o, none⟩ = some v := cell_next (bel_alloc _ _) h hl
theorem o2_next {W W' : World} {v0 v1 : Value} {rs ru : List ByteArray} {lo hi : Nat} (h : Hid (Own2 W v0 v1 rs ru lo hi)) (hb : Below W.heap.size W W') : Hid (Own2 W' v0 v1 rs ru lo hi) := h.out.next hb
theorem own_slice {W : World} {e n : Nat} {v : Value} {xs : List Value} (h : W.ownsRow 0 e 1 v n xs) : ∃ ao cap, v = .slice ao n cap := by
  rcases h.2 with ⟨rfl, hn⟩ | ⟨g, cap', cur, rfl, _⟩
  · exact ⟨none, 0, by rw [hn]⟩
  · exact ⟨_, _, rfl⟩
theorem sz_hid {W W' : World} {n : Nat} (hb : Below n W W') : Hid (W.heap.size ≤ W'.heap.size) := hb.size
theorem sz_alloc {W : World} {o : Obj} : Hid (W.heap.size + 1 ≤ (W.alloc o).heap.size) := by show _ ≤ _; simp

theorem conv_one (W : World) (b : Nat) (c : UInt8) (h : W.cell? ⟨b, 0, none⟩ = some (.int .u8 (c.toNat : Int))) : Sem.run Tryd.prog (convert 22 9 (.slice (some ⟨b, 0, none⟩) 1 1)) W = .ok (.string ⟨#[c]⟩) W := by
  have := run_convert_bytes_back (P := Tryd.prog) W 22 9 5 ⟨b, 0, none⟩ 1 [c] Tryd.underlying22 Tryd.underlying5 Tryd.underlying9 (fun j hj => by
    have hj0 : j = 0 := by simpa using hj
    subst hj0
    exact h)
  exact this
theorem u8_small (n : Nat) (h : n < 256) : (UInt8.ofNat n).toNat = n := by simp; omega
end Go.Proofs.YthblnifapkfbcaaDoor
