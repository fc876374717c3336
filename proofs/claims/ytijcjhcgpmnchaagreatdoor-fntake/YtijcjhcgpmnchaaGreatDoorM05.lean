/- Nodes, part 5 of the law FnTake. -/
import Derived.Test.YtijcjhcgpmnchaaGreatDoorM01
import Derived.Maps.Own
import Derived.Maps.Views
import Derived.StringKeys
namespace Go.Proofs.YtijcjhcgpmnchaaGreatDoor
open Go.RowKit
set_option maxRecDepth 100000
set_option maxHeartbeats 16000000
set_option linter.unusedSimpArgs false
set_option linter.unusedVariables false
variable {M:ByteArray->Option Value} {b n:Nat} {s:ByteArray} {t:TypeId} {w w':World}
open Go.Maps
def rawE:Value->Option (DataW Value × List MemPlace):=fun v=>some (.held v,[])
def keyL (s:ByteArray):Lit:=.string s.data.toList
theorem pG_ {t:ByteArray} (h:keyL s=keyL t):s=t:=by
 unfold keyL at h;simp only [Lit.string.injEq] at h;apply ByteArray.ext;exact Array.toList_inj.1 h
structure MapF (w:World) (P:Program) (k:TypeId) (b n:Nat) (M:ByteArray->Option Value):Prop where
 view:∃ D:DataW Value,w.ownsMap P k rawE b n D∧Maps.IsMap D∧∀ s z,D.atKey (keyL s) z=(match M s with | some v=>.held v | none=>z)
theorem u1_ (w:World) (P:Program) (k:TypeId):MapF (w.alloc (.map #[] 0)) P k w.heap.size 0 (fun _=>none):=
 ⟨⟨_,World.ownsMap_made w P k rawE,Maps.isMap_empty,fun s z=>rfl⟩⟩
theorem MapF.kept {P:Program} {k:TypeId} {row:Option Nat} (h:MapF w P k b n M) (hg:w.grownBy w' row) (hne:some b≠row):MapF w' P k b n M:=by
 obtain ⟨D,h1,h2,h3⟩:=h.view;exact ⟨⟨D,h1.kept hg hne,h2,h3⟩⟩
theorem MapF.lt {P:Program} {k:TypeId} (h:MapF w P k b n M):b < w.heap.size:=by
 obtain ⟨D,h1,_,_⟩:=h.view;exact h1.lt
theorem MapF.next {P:Program} {k:TypeId} (h:MapF w P k b n M) (hb:Below w.heap.size w w'):MapF w' P k b n M:=
 h.kept (row:=none) ⟨hb.os,hb.tape,hb.output,hb.size,fun i hi _=>hb.block i hi⟩ (by simp)
theorem MapF.look {P:Program} {k e:TypeId} (h:MapF w P k b n M) (hk:P.underlying k=some .string) (ht:P.underlying t=some (.map k e)) {z:Value} (hz:(zeroValue e).run P w=.ok z w) (c:Bool) (s:ByteArray) (hs:s.size<=maxLen) :
  (Instr.lookup t (.map (some b)) (.string s) c).run P w=.ok (if c then .tuple #[(M s).getD z,.bool (M s).isSome] else (M s).getD z) w:=by
 obtain ⟨D,⟨es,clock,hb,F,hn,hD⟩,h2,h3⟩:=h.view;have hkey:keyOf P k (.string s)=some (keyL s):=Go.WideMaps.keyOf_string_mk hk hs;rcases Maps.fit_look c (string_keyed hk) ht hz hb F hkey with ⟨hrun,_,hat⟩ | ⟨e0,y,_,_,hrun,hRv,hat,_⟩
 ·have h4:M s=none:=by
   have h5:=h3 s .nil;have h6:=h3 s (.held z);rw [hD,hat] at h5 h6;cases hM:M s with
   | none=>rfl
   | some v=>rw [hM] at h5; cases h5
  rw [hrun,h4];rfl
 ·have h4:M s=some e0.val:=by
   have h5:=h3 s .nil;rw [hD,hat] at h5;unfold rawE at hRv;cases hRv;cases hM:M s with
   | none=>rw [hM] at h5; cases h5
   | some v=>
    rw [hM] at h5;simp only [DataW.held.injEq] at h5;rw [h5]
  rw [hrun,h4];rfl
def mset (M:ByteArray->Option Value) (s:ByteArray) (v:Value):ByteArray->Option Value:=fun t=>if t=s then some v else M t
theorem MapF.store {P:Program} {k e:TypeId} (h:MapF w P k b n M) (hk:P.underlying k=some .string) (ht:P.underlying t=some (.map k e)) (hn:n < maxLen) (s:ByteArray) (hs:s.size<=maxLen) (v:Value) :
  ∃ w',(Instr.mapUpdate t (.map (some b)) (.string s) v).run P w=.ok () w'∧MapF w' P k b (n+1) (mset M s v)∧w.grownBy w' (some b):=by
 obtain ⟨D,h1,h2,h3⟩:=h.view;have hkey:keyOf P k (.string s)=some (keyL s):=Go.WideMaps.keyOf_string_mk hk hs;obtain ⟨w',hrun,h4,hg⟩:=h1.update (string_keyed hk) ht hn hkey (show rawE v=some (.held v,[]) from rfl)
 refine ⟨w',hrun,⟨⟨_,h4,h2.put _ _,fun u z=>?_⟩⟩,hg⟩;unfold mset;by_cases e:u=s
 ·rw [if_pos e,e];exact Maps.atKey_put_same h2 ((string_keyed hk).key hkey) _ _
 ·rw [if_neg e];rw [Maps.atKey_put_other (fun e'=>e (pG_ e'))];exact h3 u z
end Go.Proofs.YtijcjhcgpmnchaaGreatDoor
