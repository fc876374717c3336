/- Nodes, part 18 of the law FnTake. -/
import Derived.Test.YtijcjhcgpmnchaaGreatDoorM12
import Derived.ProofKit
import Derived.OpenShut
import Derived.Deep.Strs
import Derived.SliceStrings
namespace Go.Proofs.YtijcjhcgpmnchaaGreatDoor
open Go.RowKit
set_option maxRecDepth 100000
set_option maxHeartbeats 16000000
set_option linter.unusedSimpArgs false
set_option linter.unusedVariables false
variable {W W' w:World} {g hi lo lo' n:Nat} {ru:List ByteArray} {u v v0 v1:Value} {xs:List Value}
structure Own2 (W:World) (v0 v1:Value) (rs ru:List ByteArray) (lo hi:Nat):Prop where
 r0:W.ownsRow 0 9 1 v0 rs.length (V rs)
 r1:W.ownsRow 0 9 1 v1 ru.length (V ru)
 b0:∀ k,v0.ownBlock=some k->lo<=k∧k < hi
 b1:∀ k,v1.ownBlock=some k->lo<=k∧k < hi
 ne:∀ k,v0.ownBlock=some k->v1.ownBlock≠some k
theorem Own2.next {rs:List ByteArray} (h:Own2 W v0 v1 rs ru lo hi) (hb:Below W.heap.size W W'):Own2 W' v0 v1 rs ru lo hi:=⟨zP_ h.r0 hb,zP_ h.r1 hb,h.b0,h.b1,h.ne⟩
theorem Own2.weak {rs:List ByteArray} {hi':Nat} (h:Own2 W v0 v1 rs ru lo hi) (h1:lo'<=lo) (h2:hi<=hi'):Own2 W v0 v1 rs ru lo' hi':=
 ⟨h.r0,h.r1,fun k e=>by have:=h.b0 k e; omega,fun k e=>by have:=h.b1 k e; omega,h.ne⟩
theorem w5_ {e:TypeId} {o size:Nat} (h:W.ownsRow 0 e size v n xs) (hne:v.ownBlock≠some g):(W.setCell ⟨g,o,none⟩ u).ownsRow 0 e size v n xs:=ownsRow_setCell_other h hne _
theorem Own2.set {rs:List ByteArray} (h:Own2 W v0 v1 rs ru lo hi) {g o:Nat} {u:Value} (hg:g < lo∨hi<=g):Own2 (W.setCell ⟨g,o,none⟩ u) v0 v1 rs ru lo hi:=
 ⟨w5_ h.r0 (fun e=>by have:=h.b0 g e; omega),w5_ h.r1 (fun e=>by have:=h.b1 g e; omega),h.b0,h.b1,h.ne⟩
theorem zR_ {o:Nat} (h:Below w.heap.size w W) (hg:w.heap.size<=g):Below w.heap.size w (W.setCell ⟨g,o,none⟩ u):=h.setCell (by simpa using hg) _
theorem pQ_ (v0 v1:Value) (ss us:List ByteArray) (w:World) (hn:ss.length<=1048576) (hn':us.length<=1048576) (hr0:RowV w v0 ss) (hs0:RowV w v1 us) :
  Calls Tryz.prog 118 #[.agg #[v0,v1]] w fun e w'=>e=.returned (.bool (decide (ss.length+us.length<=300)))∧Below w.heap.size w w':=by
 obtain ⟨ao,c0,rfl,_,_⟩:=hr0;obtain ⟨bo,c1,rfl,_,_⟩:=hs0;obtain ⟨n,hn0⟩:∃ n,n=ss.length:=⟨_,rfl⟩;obtain ⟨m,hm0⟩:∃ m,m=us.length:=⟨_,rfl⟩;rw [<- hn0,<- hm0];rw [<- hn0] at hn;rw [<- hm0] at hn';clear hn0 hm0;have q:IntKind.i64.wrap ((n:Int)+(m:Int))=(n:Int)+(m:Int):=by rw [IntKind.wrap_i64]; omega
 go_enter Tryz.func118,Tryz.ntmps118;go_wp2;go_ret;exact ⟨zi_ (by by_cases h:n+m<=300 <;> simp [h] <;> omega),zb_ _ _⟩
theorem uy_ (v0 v1:Value) (ss us:List ByteArray) (w:World) (hn:ss.length<=1048576) (hn':us.length<=1048576) (hr0:RowV w v0 ss) (hs0:RowV w v1 us) :
  Calls Tryz.prog 63 #[.agg #[v0,v1]] w fun e w'=>e=.returned (.bool (decide (ss.length+us.length<=300)))∧Below w.heap.size w w':=by
 obtain ⟨ao,c0,rfl,_,_⟩:=hr0;obtain ⟨bo,c1,rfl,_,_⟩:=hs0;obtain ⟨n,hn0⟩:∃ n,n=ss.length:=⟨_,rfl⟩;obtain ⟨m,hm0⟩:∃ m,m=us.length:=⟨_,rfl⟩;rw [<- hn0,<- hm0];rw [<- hn0] at hn;rw [<- hm0] at hn';clear hn0 hm0;have q:IntKind.i64.wrap ((n:Int)+(m:Int))=(n:Int)+(m:Int):=by rw [IntKind.wrap_i64]; omega
 go_enter Tryz.func63,Tryz.ntmps63;go_wp2;go_ret;exact ⟨zi_ (by by_cases h:n+m<=300 <;> simp [h] <;> omega),zb_ _ _⟩
end Go.Proofs.YtijcjhcgpmnchaaGreatDoor
