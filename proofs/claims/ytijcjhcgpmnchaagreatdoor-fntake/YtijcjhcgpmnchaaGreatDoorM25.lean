/- Nodes, part 25 of the law FnTake. -/
import Derived.Test.YtijcjhcgpmnchaaGreatDoorM21
import Derived.Test.YtijcjhcgpmnchaaGreatDoorM23
namespace Go.Proofs.YtijcjhcgpmnchaaGreatDoor
open Go.RowKit
set_option maxRecDepth 100000
set_option maxHeartbeats 16000000
set_option linter.unusedSimpArgs false
set_option linter.unusedVariables false
theorem xZ_:∀ n:Nat,(dsN n).length<=n / 10+1:=by
 intro n
 induction n using Nat.strongRecOn with
 | _ n ih=>
  rw [dsN];by_cases h:n < 10
  ·rw [dif_pos h]; simp
  ·rw [dif_neg h]
   have:=ih (n / 10) (by omega)
   simp;omega
def zq_ (s:ByteArray):ByteArray:=(((⟨(dsN s.size).toArray⟩++⟨#[58]⟩)++⟨(dsN (yu_ s s.size)).toArray⟩)++⟨#[58]⟩)++s
theorem wB_ (l:List UInt8):(⟨l.toArray⟩:ByteArray).size=l.length:=by simp [ByteArray.size]
theorem vC_ (s:ByteArray):(zq_ s).size=(dsN s.size).length+1+(dsN (yu_ s s.size)).length+1+s.size:=by
 unfold zq_;simp only [ByteArray.size_append,wB_];rfl
theorem wD_ (s:ByteArray) (w:World) (hs:s.size < 1099511627776) :
  Calls Tryz.prog 138 #[.string s] w fun e w'=>e=.returned (.string (zq_ s))∧Below w.heap.size w w':=by
 obtain ⟨n,hn⟩:∃ n,n=s.size:=⟨_,rfl⟩;obtain ⟨k,hk⟩:∃ k,k=yu_ s s.size:=⟨_,rfl⟩;have hk9:k < 9973:=by rw [hk]; exact yW_ _ _
 have HE:Hid (zq_ s=(((⟨(dsN n).toArray⟩++⟨#[58]⟩)++⟨(dsN k).toArray⟩)++⟨#[58]⟩)++s):=by show _=_; unfold zq_; rw [<- hk,<- hn]
 have hl1:=xZ_ n;have hl2:=xZ_ k;obtain ⟨da,hda⟩:∃ da:ByteArray,da=⟨(dsN n).toArray⟩:=⟨_,rfl⟩;obtain ⟨db,hdb⟩:∃ db:ByteArray,db=⟨(dsN k).toArray⟩:=⟨_,rfl⟩;have hsa:da.size<=109951162778:=by rw [hda,wB_]; omega
 have hsb:db.size<=1000:=by rw [hdb,wB_]; omega
 rw [<- hda,<- hdb] at HE
 have C1:Hid (∀ W:World,Calls Tryz.prog 83 #[.int .i64 (s.size:Int)] W fun e w'=>e=.returned (.string da)∧Below W.heap.size W w'):=fun W=>by
  rw [hda,<- hn];exact yl_ (n+1) n (by omega) (by omega) W
 have C2:Hid (∀ W:World,Calls Tryz.prog 83 #[.int .i64 (k:Int)] W fun e w'=>e=.returned (.string db)∧Below W.heap.size W w'):=fun W=>by
  rw [hdb];exact yl_ (k+1) k (by omega) (by omega) W
 have C3:Hid (∀ W:World,Calls Tryz.prog 74 #[.string s] W fun e w'=>e=.returned (.int .i64 (k:Int))∧Below W.heap.size W w'):=fun W=>by
  rw [hk];exact wX_ s W hs
 have z1:(⟨#[58]⟩:ByteArray).size=1:=rfl;have o1:¬ 9223372036854775807 < da.size+1:=by omega
 have o2:¬ 9223372036854775807 < da.size+1+db.size:=by omega
 have o3:¬ 9223372036854775807 < da.size+1+db.size+1:=by omega
 have o4:¬ 9223372036854775807 < da.size+1+db.size+1+s.size:=by omega
 clear hn hk hda hdb hl1 hl2;go_enter Tryz.func138,Tryz.ntmps138;go_wp2_with fail;refine Calls.mono (C1.out _) ?_;rintro e w1 ⟨rfl,hb⟩;have HB1:=hm_ hb;clear hb;go_wp2_with fail;refine Calls.mono (C3.out _) ?_;rintro e w2 ⟨rfl,hb⟩;have HB2:Hid (Below w.heap.size w w2):=ze_ HB1 hb;clear hb HB1;go_wp2_with fail;refine Calls.mono (C2.out _) ?_;rintro e w3 ⟨rfl,hb⟩;have HB3:Hid (Below w.heap.size w w3):=ze_ HB2 hb;clear hb HB2;go_wp2;go_ret;exact ⟨by rw [HE.out]; rfl,HB3.out⟩
theorem xM_ (s:ByteArray) (w:World) (ht:Hid (TB w)) (hs:s.size < 1099511627776) :
  Calls Tryz.prog 96 #[.string s] w fun e w'=>e=.returned (.string (zq_ s))∧Below w.heap.size w w':=by
 obtain ⟨n,hn⟩:∃ n,n=s.size:=⟨_,rfl⟩;obtain ⟨k,hk⟩:∃ k,k=yu_ s s.size:=⟨_,rfl⟩;have hk9:k < 9973:=by rw [hk]; exact yW_ _ _
 have HE:Hid (zq_ s=(((⟨(dsN n).toArray⟩++⟨#[58]⟩)++⟨(dsN k).toArray⟩)++⟨#[58]⟩)++s):=by show _=_; unfold zq_; rw [<- hk,<- hn]
 have hl1:=xZ_ n;have hl2:=xZ_ k;obtain ⟨da,hda⟩:∃ da:ByteArray,da=⟨(dsN n).toArray⟩:=⟨_,rfl⟩;obtain ⟨db,hdb⟩:∃ db:ByteArray,db=⟨(dsN k).toArray⟩:=⟨_,rfl⟩;have hsa:da.size<=109951162778:=by rw [hda,wB_]; omega
 have hsb:db.size<=1000:=by rw [hdb,wB_]; omega
 rw [<- hda,<- hdb] at HE
 have C1:Hid (∀ W:World,TB W->Calls Tryz.prog 144 #[.int .i64 (s.size:Int)] W fun e w'=>e=.returned (.string da)∧Below W.heap.size W w'):=fun W hT=>by
  rw [hda,<- hn];exact xv_ n (by omega) W hT
 have C2:Hid (∀ W:World,TB W->Calls Tryz.prog 144 #[.int .i64 (k:Int)] W fun e w'=>e=.returned (.string db)∧Below W.heap.size W w'):=fun W hT=>by
  rw [hdb];exact xv_ k (by omega) W hT
 have C3:Hid (∀ W:World,Calls Tryz.prog 73 #[.string s] W fun e w'=>e=.returned (.int .i64 (k:Int))∧Below W.heap.size W w'):=fun W=>by
  rw [hk];exact vf_ s W hs
 have z1:(⟨#[58]⟩:ByteArray).size=1:=rfl;have o1:¬ 9223372036854775807 < da.size+1:=by omega
 have o2:¬ 9223372036854775807 < da.size+1+db.size:=by omega
 have o3:¬ 9223372036854775807 < da.size+1+db.size+1:=by omega
 have o4:¬ 9223372036854775807 < da.size+1+db.size+1+s.size:=by omega
 clear hn hk hda hdb hl1 hl2;go_enter Tryz.func96,Tryz.ntmps96;go_wp2_with fail;refine Calls.mono (C1.out _ ht.out) ?_;rintro e w1 ⟨rfl,hb⟩;have HB1:=hm_ hb;clear hb;go_wp2_with fail;refine Calls.mono (C3.out _) ?_;rintro e w2 ⟨rfl,hb⟩;have HB2:Hid (Below w.heap.size w w2):=ze_ HB1 hb;clear hb HB1;go_wp2_with fail;refine Calls.mono (C2.out _ (TB.next (show TB w from ht.out) HB2.out)) ?_
 rintro e w3 ⟨rfl,hb⟩;have HB3:Hid (Below w.heap.size w w3):=ze_ HB2 hb;clear hb HB2;go_wp2;go_ret;exact ⟨by rw [HE.out]; rfl,HB3.out⟩
end Go.Proofs.YtijcjhcgpmnchaaGreatDoor
