/- Nodes, part 26 of the law FnTake. -/
import Derived.Test.YtijcjhcgpmnchaaGreatDoorM25
import Derived.Lib.IndexMore
import Derived.Lib.IndexBytes
import Derived.Lib.SlicesS
namespace Go.Proofs.YtijcjhcgpmnchaaGreatDoor
open Go.RowKit
set_option maxRecDepth 100000
set_option maxHeartbeats 16000000
set_option linter.unusedSimpArgs false
set_option linter.unusedVariables false
variable {s:ByteArray}
def aft:List UInt8->Option (List UInt8)
 | []=>none
 | c :: r=>if c=58 then some r else aft r
theorem nb_:∀ l:List UInt8,(Lib.cut l [58]).2=match aft l with | some r=>(r,true) | none=>([],false):=by
 intro l
 have key:(aft l=none∧Lib.index l [58] = -1)∨∃ (i:Nat),Lib.index l [58]=i∧aft l=some (l.drop (i+1)):=by
  rw [Lib.index_one]
  induction l with
  | nil=>exact .inl ⟨rfl,rfl⟩
  | cons c r ih=>
   unfold aft Lib.indexByte;by_cases h:c=58
   ·right;refine ⟨0,?_,?_⟩
    ·simp [h]
    ·rw [if_pos h]; simp
   ·rw [if_neg h];rcases ih with ⟨h1,h2⟩ | ⟨i,h1,h2⟩
    ·left;refine ⟨h1,?_⟩;simp [h,h2]
    ·right;refine ⟨i+1,?_,?_⟩
     ·simp [h,h1]
      try omega
     ·rw [h2]; simp
 unfold Lib.cut;rcases key with ⟨h1,h2⟩ | ⟨i,h1,h2⟩
 ·rw [h1,h2,if_neg (by omega)]
 ·rw [h1,h2,if_pos (by omega)];simp
def opn (l:List UInt8):Option (List UInt8):=(aft l).bind aft
def y8_ (s:ByteArray):Option ByteArray:=(opn s.data.toList).bind fun t=>if zq_ ⟨t.toArray⟩=s then some ⟨t.toArray⟩ else none
theorem na_:∀ {l r:List UInt8},aft l=some r->r.length < l.length:=by
 intro l
 induction l with
 | nil=>intro r h; cases h
 | cons c l ih=>
  intro r h;unfold aft at h;by_cases hc:c=58
  ·rw [if_pos hc] at h; cases h; simp
  ·rw [if_neg hc] at h; have:=ih h; simp; omega
theorem oZ_ (s:ByteArray) (i:Nat) (h:i < s.size):s.data.toList.drop i=s[i] :: s.data.toList.drop (i+1):=by
 have h':i < s.data.toList.length:=by simpa using h
 rw [List.drop_eq_getElem_cons h'];rfl
theorem oV_ (s:ByteArray) (i:Nat) (h:i<=s.size):s.extract i s.size=⟨(s.data.toList.drop i).toArray⟩:=by
 apply ByteArray.ext;rw [ByteArray.data_extract];apply Array.ext';rw [Array.toList_extract];show (s.data.toList.drop i).take (s.size - i)=s.data.toList.drop i
 exact List.take_of_length_le (by rw [List.length_drop]; show s.data.size - i<=s.size - i; exact Nat.le_refl _)
theorem c58 (x:UInt8):x=58↔x.toNat=58:=⟨fun h=>by rw [h]; rfl,fun h=>UInt8.toNat_inj.1 (by rw [h]; rfl)⟩
def OpP (w:World) (s:ByteArray) (e:Ending) (w':World):Prop:=∃ t r,e=.returned (.tuple #[.string t,.bool r])∧Below w.heap.size w w'∧(r=false->y8_ s=none)∧(r=true->y8_ s=some t)
theorem retB {t:ByteArray} {a b:Bool} (h:s=t) (k:a=b):Ending.returned (.tuple #[.string s,.bool a])=.returned (.tuple #[.string t,.bool b]):=by rw [h,k]
end Go.Proofs.YtijcjhcgpmnchaaGreatDoor
