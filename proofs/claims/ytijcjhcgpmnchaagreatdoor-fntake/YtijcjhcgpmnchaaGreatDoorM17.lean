/- Nodes, part 17 of the law FnTake. -/
import Derived.Test.YtijcjhcgpmnchaaGreatDoorM16
import Derived.Deep.Cut
namespace Go.Proofs.YtijcjhcgpmnchaaGreatDoor
open Go.RowKit
set_option maxRecDepth 100000
set_option maxHeartbeats 16000000
set_option linter.unusedSimpArgs false
set_option linter.unusedVariables false
section
variable {W w wr':World} {b g o1:Nat} {s s':ByteArray} {u1 u2 u3 u4:Value}
def RBX (w wr:World) (g:Nat):Prop:=(wr.cell? ⟨w.heap.size,0,none⟩=some (.func (.func 220) #[] #[.pointer (some ⟨g,0,none⟩)])∧wr.cell? ⟨w.heap.size,1,none⟩=some (.func (.func 221) #[] #[.pointer (some ⟨g,0,none⟩)])∧wr.cell? ⟨w.heap.size,2,none⟩=some (.func (.func 223) #[] #[.pointer (some ⟨g,0,none⟩)]))∧zQ_ wr (w.heap.size+1) 4∧w.heap.size+1 < wr.heap.size∧w.grownBy wr (some g)
theorem RBX.grown {wr:World} (h:RBX w wr g) (hg:g < w.heap.size) (hG:wr.grownBy wr' (some g)):RBX w wr' g:=by
 obtain ⟨⟨c0,c1,c2⟩,hT,hz,hw⟩:=h;refine ⟨⟨zm_ hG c0 (by omega),zm_ hG c1 (by omega),zm_ hG c2 (by omega)⟩,fun j hj=>?_,Nat.lt_of_lt_of_le hz hG.size,zX_ hw hG⟩;obtain ⟨h1,h2⟩:=hT j hj;obtain ⟨u,hu⟩:=isx h1;exact ⟨by rw [zm_ hG hu (by omega)]; rfl,zC_ hG h2 hz (by omega)⟩
theorem RBX.below {wr:World} (h:RBX w wr g) (hb:Below wr.heap.size wr wr'):RBX w wr' g:=by
 obtain ⟨⟨c0,c1,c2⟩,hT,hz,hw⟩:=h;exact ⟨⟨za_ hb c0 (by omega),za_ hb c1 (by omega),za_ hb c2 (by omega)⟩,hT.next hb hz,Nat.lt_of_lt_of_le hz hb.size,zX_ hw (z4_ hb)⟩
theorem yA_ {o2 o3 o4:Nat} (h:w.grownBy W (some g)) (hb:w.heap.size<=b):w.grownBy ((((W.setCell ⟨b,o1,none⟩ u1).setCell ⟨b,o2,none⟩ u2).setCell ⟨b,o3,none⟩ u3).setCell ⟨b,o4,none⟩ u4) (some g):=by
 have one:∀ {W:World} {o:Nat} {u:Value},w.grownBy W (some g)->w.grownBy (W.setCell ⟨b,o,none⟩ u) (some g):=fun {W o u} h=>⟨by simpa [World.setCell] using h.os,by simpa [World.setCell] using h.tape,by simpa [World.setCell] using h.output,by simpa [World.setCell] using h.size,fun k hk hne=>(Below.heap_setCell W ⟨b,o,none⟩ u k (fun e=>by simp at e; omega)).trans (h.block k hk hne)⟩
 exact one (one (one (one h)))
theorem wi_ {o2 o3 o4:Nat} (h:Left W g s) (hb:g≠b):Left ((((W.setCell ⟨b,o1,none⟩ u1).setCell ⟨b,o2,none⟩ u2).setCell ⟨b,o3,none⟩ u3).setCell ⟨b,o4,none⟩ u4) g s:=
 ⟨zg_ (zg_ (zg_ (zg_ h.1 hb) hb) hb) hb,by rw [World.frozen?_setCell,World.frozen?_setCell,World.frozen?_setCell,World.frozen?_setCell]; exact h.2⟩
theorem xc_ {o:Obj} (h:Left W g s) (hg:g < W.heap.size):Left (W.alloc o) g s:=⟨za_ (zb_ _ _) h.1 hg,zf_ (zb_ _ _) h.2 hg⟩
theorem vc_ (h:Left W g s):Left (W.setCell ⟨g,0,none⟩ (.string s')) g s':=⟨zI_ h.1,by rw [World.frozen?_setCell]; exact h.2⟩
theorem t7_ (h:0 < s.size):bl s=s[0] :: bl (s.extract 1 s.size):=by
 have h1:=yC_ s 0 h;rw [List.drop_zero] at h1;rw [h1,xm_ s 1 h]
theorem sD_ (h:s.size=0):bl s=[]:=List.length_eq_zero_iff.1 (by rw [zF_]; exact h)
theorem oo_ (l:List UInt8):(rdR l).2.2.length<=l.length:=by
 cases l with
 | nil=>simp [rdR]
 | cons c r=>
  rw [rdR];split
  ·simp; omega
  ·simp
def SbP (w:World) (g:Nat) (l:List UInt8) (e:Ending) (w':World):Prop:=(∃ (s:Sib) (rest:List UInt8),sibR l=some (s,rest)∧e=.returned (.tuple #[.agg #[.int .i64 s.p,.int .i64 s.n,.int .i64 s.v,.bool s.d],.bool true])∧∃ s',Left w' g s'∧bl s'=rest∧w.grownBy w' (some g))∨(sibR l=none∧∃ s:Sib,e=.returned (.tuple #[.agg #[.int .i64 s.p,.int .i64 s.n,.int .i64 s.v,.bool s.d],.bool false])∧w.grownBy w' (some g))
theorem tN_ (g:Nat) (s:ByteArray) (w:World) (hg:g < w.heap.size) (hL0:Left w g s) (hs:s.size<=65536) :
  Calls Tryz.prog 218 #[.agg #[.func (.func 220) #[] #[.pointer (some ⟨g,0,none⟩)],.func (.func 221) #[] #[.pointer (some ⟨g,0,none⟩)],.func (.func 223) #[] #[.pointer (some ⟨g,0,none⟩)]]] w fun e w'=>SbP w g (bl s) e w':=by
 have B0:Hid (Below w.heap.size w ((w.alloc (.cells #[.func (.func 220) #[] #[.pointer (some ⟨g,0,none⟩)],.func (.func 221) #[] #[.pointer (some ⟨g,0,none⟩)],.func (.func 223) #[] #[.pointer (some ⟨g,0,none⟩)]] 195)).alloc (.cells #[.int .i64 0,.int .i64 0,.int .i64 0,.bool false] 89))):=((zb_ _ _).trans ((zb_ _ _).mono (by simp)))
 have RX:Hid (RBX w ((w.alloc (.cells #[.func (.func 220) #[] #[.pointer (some ⟨g,0,none⟩)],.func (.func 221) #[] #[.pointer (some ⟨g,0,none⟩)],.func (.func 223) #[] #[.pointer (some ⟨g,0,none⟩)]] 195)).alloc (.cells #[.int .i64 0,.int .i64 0,.int .i64 0,.bool false] 89)) g):=⟨⟨by go_simp,by go_simp,by go_simp⟩,fun j hj=>by
  have hj':j=0∨j=1∨j=2∨j=3:=by omega
  rcases hj' with rfl | rfl | rfl | rfl <;> exact ⟨by go_simp,by go_simp⟩,by simp,⟨B0.out.os,B0.out.tape,B0.out.output,B0.out.size,fun b hb _=>B0.out.block b hb⟩⟩
 have LX:Hid (Left ((w.alloc (.cells #[.func (.func 220) #[] #[.pointer (some ⟨g,0,none⟩)],.func (.func 221) #[] #[.pointer (some ⟨g,0,none⟩)],.func (.func 223) #[] #[.pointer (some ⟨g,0,none⟩)]] 195)).alloc (.cells #[.int .i64 0,.int .i64 0,.int .i64 0,.bool false] 89)) g s):=⟨za_ B0.out hL0.1 hg,zf_ B0.out hL0.2 hg⟩;have HG:=hm_ hg;clear hL0;by_cases hz:s.size=0
 ·have HN:Hid (sibR (bl s)=none):=by show _=_; rw [sD_ hz]; rfl
  go_enter Tryz.func218,Tryz.ntmps218;go_wp2_with fail;generalize ((w.alloc (.cells #[.func (.func 220) #[] #[.pointer (some ⟨g,0,none⟩)],.func (.func 221) #[] #[.pointer (some ⟨g,0,none⟩)],.func (.func 223) #[] #[.pointer (some ⟨g,0,none⟩)]] 195)).alloc (.cells #[.int .i64 0,.int .i64 0,.int .i64 0,.bool false] 89))=W0 at *;refine (yy_ g s 124 _ LX.out.1 hz).mono ?_;rintro e w1 ⟨rfl,rfl⟩;obtain ⟨_,hTr,_,hGr⟩:=RX.out;obtain ⟨t0,T0⟩:=isx (hTr 0 (by omega)).1;have Z0:=(hTr 0 (by omega)).2;obtain ⟨t1,T1⟩:=isx (hTr 1 (by omega)).1;have Z1:=(hTr 1 (by omega)).2;obtain ⟨t2,T2⟩:=isx (hTr 2 (by omega)).1;have Z2:=(hTr 2 (by omega)).2;obtain ⟨t3,T3⟩:=isx (hTr 3 (by omega)).1;have Z3:=(hTr 3 (by omega)).2;clear hTr;have GR:Hid (w.grownBy _ (some g)):=hGr;clear hGr;go_wp2;refine bodyPost_ret (v:=.tuple #[.agg #[.int .i64 0,.int .i64 0,.int .i64 0,.bool false],.bool false]) (by simp [results,Tryz.results218,go_sem,T0,T1,T2,T3,Z0,Z1,Z2,Z3]) rfl ?_;exact .inr ⟨HN.out,⟨0,0,0,false⟩,rfl,yA_ GR.out (Nat.le_succ _)⟩
 have hs0:0 < s.size:=by omega
 by_cases h124:(s[0]'hs0).toNat=124
 ·obtain ⟨s1,hs1⟩:∃ s1,s1=s.extract 1 s.size:=⟨_,rfl⟩;have HB1:Hid (bl s=(s[0]'hs0) :: bl s1):=by show _=_; rw [hs1]; exact t7_ hs0
  have hsz1:s1.size<=65536:=by rw [hs1]; simp; omega
  obtain ⟨r0,hr0⟩:∃ r:(Int × Int) × Bool × List UInt8,r=rdR (bl s1):=⟨_,rfl⟩;obtain ⟨⟨p,n⟩,ok,rest⟩:=r0;have HR:=hm_ hr0.symm
  have HC:Hid (bl s=124 :: bl s1):=by
   show _=_
   rw [HB1.out]
   congr 1
   exact UInt8.toNat_inj.1 (by simpa using h124)
  have HY1:=hm_ hs1;clear hr0 hs1 HB1;go_enter Tryz.func218,Tryz.ntmps218;go_wp2_with fail;generalize ((w.alloc (.cells #[.func (.func 220) #[] #[.pointer (some ⟨g,0,none⟩)],.func (.func 221) #[] #[.pointer (some ⟨g,0,none⟩)],.func (.func 223) #[] #[.pointer (some ⟨g,0,none⟩)]] 195)).alloc (.cells #[.int .i64 0,.int .i64 0,.int .i64 0,.bool false] 89))=W0 at *;refine (yY_ g s 124 _ LX.out.1 LX.out.2 hs0 h124).mono ?_;rintro e w1 ⟨rfl,hw1⟩;have G1:W0.grownBy w1 (some g):=by rw [hw1]; exact wp_ _ _ _ _
  have L1:Hid (Left w1 g s1):=by rw [hw1,HY1.out]; exact vc_ LX.out
  replace RX:Hid (RBX w w1 g):=RX.out.grown HG.out G1;have G1z:Hid (g < w1.heap.size):=Nat.lt_trans HG.out (Nat.lt_of_lt_of_le (Nat.lt_succ_self _) (Nat.le_of_lt RX.out.2.2.1));clear hw1 G1 LX B0 HY1;obtain ⟨⟨c0,c1,c2⟩,_,_,_⟩:=RX.out;go_wp2_with fail;clear c0 c1 c2;refine (tP_ g s1 _ G1z.out L1.out hsz1 p n ok rest HR).mono ?_;rintro e w2 ⟨rfl,s',hL2,hbl,hG2⟩;replace RX:Hid (RBX w w2 g):=RX.out.grown HG.out hG2;have L2:Hid (Left w2 g s'):=hL2;have HBL:Hid (bl s'=rest):=hbl;have G2z:Hid (g < w2.heap.size):=Nat.lt_of_lt_of_le G1z.out hG2.size
  have hsz2:s'.size<=65536:=by
   have h1:=oo_ (bl s1);rw [HR.out] at h1;simp only [] at h1;rw [<- hbl,zF_,zF_] at h1;omega
  clear hL2 hbl hG2 L1 G1z;go_upto_region 4 with fail;replace RX:Hid (RBX w (w2.alloc (.cells #[.int .i64 p,.int .i64 n] 41)) g):=RX.out.below (zb_ _ _);replace L2:Hid (Left (w2.alloc (.cells #[.int .i64 p,.int .i64 n] 41)) g s'):=xc_ L2.out G2z.out;have D0:(w2.alloc (.cells #[.int .i64 p,.int .i64 n] 41)).cell? ⟨w2.heap.size,0,none⟩=some (.int .i64 p):=by go_simp
  have D1:(w2.alloc (.cells #[.int .i64 p,.int .i64 n] 41)).cell? ⟨w2.heap.size,1,none⟩=some (.int .i64 n):=by go_simp
  have GD:Hid (g≠w2.heap.size):=fun e=>by have:=G2z.out; omega
  have G3z:Hid (g < (w2.alloc (.cells #[.int .i64 p,.int .i64 n] 41)).heap.size):=Nat.lt_of_lt_of_le G2z.out (zb_ _ _).size;generalize (w2.alloc (.cells #[.int .i64 p,.int .i64 n] 41))=w3 at *;generalize w2.heap.size=gd at *;clear G2z;cases ok
  ·have HN:Hid (sibR (bl s)=none):=by
    show _=_
    rw [HC.out,we_]
    have:dotR (bl s1)=none:=by unfold dotR; rw [HR.out]; rfl
    rw [this]; rfl
   obtain ⟨_,hTr,_,hGr⟩:=RX.out;obtain ⟨t0,T0⟩:=isx (hTr 0 (by omega)).1;have Z0:=(hTr 0 (by omega)).2;obtain ⟨t1,T1⟩:=isx (hTr 1 (by omega)).1;have Z1:=(hTr 1 (by omega)).2;obtain ⟨t2,T2⟩:=isx (hTr 2 (by omega)).1;have Z2:=(hTr 2 (by omega)).2;obtain ⟨t3,T3⟩:=isx (hTr 3 (by omega)).1;have Z3:=(hTr 3 (by omega)).2;clear hTr;have GR:Hid (w.grownBy _ (some g)):=hGr;clear hGr;go_wp2;refine bodyPost_ret (v:=.tuple #[.agg #[.int .i64 0,.int .i64 0,.int .i64 0,.bool false],.bool false]) (by simp [results,Tryz.results218,go_sem,T0,T1,T2,T3,Z0,Z1,Z2,Z3]) rfl ?_;exact .inr ⟨HN.out,⟨0,0,0,false⟩,rfl,yA_ GR.out (Nat.le_succ _)⟩
  have HD:Hid (sibR (bl s)=(valR rest).map fun v=>(⟨p,n,v.1.1,v.1.2⟩,v.2)):=by
   show _=_
   have:dotR (bl s1)=some ((p,n),rest):=by unfold dotR; rw [HR.out]; rfl
   rw [HC.out,we_,this];rfl
  clear HR HC;obtain ⟨⟨c0,c1,c2⟩,_,_,_⟩:=RX.out;by_cases hz2:s'.size=0
  ·have HN:Hid (sibR (bl s)=none):=by show _=_; rw [HD.out,<- HBL.out,sD_ hz2]; rfl
   go_wp2_with fail;refine (yy_ g s' 33 _ L2.out.1 hz2).mono ?_;rintro e w4 ⟨rfl,rfl⟩;go_wp2_with fail;refine (yy_ g s' 61 _ L2.out.1 hz2).mono ?_;rintro e w5 ⟨rfl,rfl⟩;clear c0 c1 c2 D0 D1;obtain ⟨_,hTr,_,hGr⟩:=RX.out;obtain ⟨t0,T0⟩:=isx (hTr 0 (by omega)).1;have Z0:=(hTr 0 (by omega)).2;obtain ⟨t1,T1⟩:=isx (hTr 1 (by omega)).1;have Z1:=(hTr 1 (by omega)).2;obtain ⟨t2,T2⟩:=isx (hTr 2 (by omega)).1;have Z2:=(hTr 2 (by omega)).2;obtain ⟨t3,T3⟩:=isx (hTr 3 (by omega)).1;have Z3:=(hTr 3 (by omega)).2;clear hTr;have GR:Hid (w.grownBy _ (some g)):=hGr;clear hGr;go_wp2;refine bodyPost_ret (v:=.tuple #[.agg #[.int .i64 0,.int .i64 0,.int .i64 0,.bool false],.bool false]) (by simp [results,Tryz.results218,go_sem,T0,T1,T2,T3,Z0,Z1,Z2,Z3]) rfl ?_;exact .inr ⟨HN.out,⟨0,0,0,false⟩,rfl,yA_ GR.out (Nat.le_succ _)⟩
  have hs2:0 < s'.size:=by omega
  have HH:Hid (rest=(s'[0]'hs2) :: bl (s'.extract 1 s'.size)):=by show _=_; rw [<- HBL.out]; exact t7_ hs2
  by_cases h33:(s'[0]'hs2).toNat=33
  ·have HY:Hid (sibR (bl s)=some (⟨p,n,0,true⟩,bl (s'.extract 1 s'.size))):=by
    show _=_
    have e33:(s'[0]'hs2)=33:=UInt8.toNat_inj.1 (by simpa using h33);rw [HD.out,HH.out,e33,wV_];rfl
   go_wp2_with fail;refine (yY_ g s' 33 _ L2.out.1 L2.out.2 hs2 h33).mono ?_;rintro e w4 ⟨rfl,hw4⟩;have G4:w3.grownBy w4 (some g):=by rw [hw4]; exact wp_ _ _ _ _
   have L4:Hid (Left w4 g (s'.extract 1 s'.size)):=by rw [hw4]; exact vc_ L2.out
   replace RX:Hid (RBX w w4 g):=RX.out.grown HG.out G4;replace D0:=zm_ G4 D0 (fun e=>GD.out e.symm);replace D1:=zm_ G4 D1 (fun e=>GD.out e.symm);clear hw4 G4 L2 c0 c1 c2 HD HBL HH;obtain ⟨_,hTr,_,hGr⟩:=RX.out;obtain ⟨t0,T0⟩:=isx (hTr 0 (by omega)).1;have Z0:=(hTr 0 (by omega)).2;obtain ⟨t1,T1⟩:=isx (hTr 1 (by omega)).1;have Z1:=(hTr 1 (by omega)).2;obtain ⟨t2,T2⟩:=isx (hTr 2 (by omega)).1;have Z2:=(hTr 2 (by omega)).2;obtain ⟨t3,T3⟩:=isx (hTr 3 (by omega)).1;have Z3:=(hTr 3 (by omega)).2;clear hTr;have GR:Hid (w.grownBy _ (some g)):=hGr;clear hGr;go_wp2;refine bodyPost_ret (v:=.tuple #[.agg #[.int .i64 p,.int .i64 n,.int .i64 0,.bool true],.bool true]) (by simp [results,Tryz.results218,go_sem,T0,T1,T2,T3,Z0,Z1,Z2,Z3]) rfl ?_;exact .inl ⟨⟨p,n,0,true⟩,_,HY.out,rfl,_,wi_ L4.out (by have:=HG.out; omega),rfl,yA_ GR.out (Nat.le_succ _)⟩
  by_cases h61:(s'[0]'hs2).toNat=61
  ·obtain ⟨s3,hs3⟩:∃ s3,s3=s'.extract 1 s'.size:=⟨_,rfl⟩;have HS3:=hm_ hs3;obtain ⟨⟨v,k⟩,hvk⟩:∃ r,r=ld 999 (bl s3):=⟨_,rfl⟩;have HK:=hm_ hvk.symm
   have HV:Hid (sibR (bl s)=if 0 < k then some (⟨p,n,v,false⟩,(bl s3).drop k) else none):=by
    show _=_
    have e61:(s'[0]'hs2)=61:=UInt8.toNat_inj.1 (by simpa using h61);rw [HD.out,HH.out,e61,wU_,<- hs3,HK.out];by_cases hk:0 < k
    ·rw [if_pos hk,if_pos hk]; rfl
    ·rw [if_neg hk,if_neg hk]; rfl
   have hsz3:s3.size<=1048576:=by rw [hs3]; simp; omega
   clear hs3 hvk;go_wp2_with fail;refine (yc_ g s' 33 _ L2.out.1 hs2 h33).mono ?_;rintro e w4 ⟨rfl,rfl⟩;go_wp2_with fail;refine (yY_ g s' 61 _ L2.out.1 L2.out.2 hs2 h61).mono ?_;rintro e w5 ⟨rfl,hw5⟩;have G5:w4.grownBy w5 (some g):=by rw [hw5]; exact wp_ _ _ _ _
   have L5:Hid (Left w5 g s3):=by rw [hw5,HS3.out]; exact vc_ L2.out
   replace RX:Hid (RBX w w5 g):=RX.out.grown HG.out G5;replace D0:=zm_ G5 D0 (fun e=>GD.out e.symm);replace D1:=zm_ G5 D1 (fun e=>GD.out e.symm);have G5z:Hid (g < w5.heap.size):=Nat.lt_of_lt_of_le G3z.out G5.size;clear hw5 G5 L2 c0 c1 c2 HD HBL HH HS3;obtain ⟨⟨c0,c1,c2⟩,_,_,_⟩:=RX.out;go_wp2_with fail;refine (yv_ g s3 999 v k HK _ L5.out G5z.out (by omega) (by omega) hsz3).mono ?_;rintro e w6 ⟨rfl,hL6,G6⟩;have L6:=hm_ hL6;replace RX:Hid (RBX w w6 g):=RX.out.grown HG.out G6;replace D0:=zm_ G6 D0 (fun e=>GD.out e.symm);replace D1:=zm_ G6 D1 (fun e=>GD.out e.symm);have HKL:Hid (k<=s3.size):=vq_ HK (by omega);clear G6 hL6 c0 c1 c2 L5;by_cases hk:0 < k
   ·have HY:Hid (sibR (bl s)=some (⟨p,n,v,false⟩,bl (s3.extract k s3.size))):=by show _=_; rw [HV.out,if_pos hk,xm_ s3 k HKL.out]
    have dk:decide (0 < k)=true:=decide_eq_true hk;rw [dk];clear dk hk HV;obtain ⟨_,hTr,_,hGr⟩:=RX.out;obtain ⟨t0,T0⟩:=isx (hTr 0 (by omega)).1;have Z0:=(hTr 0 (by omega)).2;obtain ⟨t1,T1⟩:=isx (hTr 1 (by omega)).1;have Z1:=(hTr 1 (by omega)).2;obtain ⟨t2,T2⟩:=isx (hTr 2 (by omega)).1;have Z2:=(hTr 2 (by omega)).2;obtain ⟨t3,T3⟩:=isx (hTr 3 (by omega)).1;have Z3:=(hTr 3 (by omega)).2;clear hTr;have GR:Hid (w.grownBy _ (some g)):=hGr;clear hGr;go_wp2;refine bodyPost_ret (v:=.tuple #[.agg #[.int .i64 p,.int .i64 n,.int .i64 v,.bool false],.bool true]) (by simp [results,Tryz.results218,go_sem,T0,T1,T2,T3,Z0,Z1,Z2,Z3]) rfl ?_;exact .inl ⟨⟨p,n,v,false⟩,_,HY.out,rfl,_,wi_ L6.out (by have:=HG.out; omega),rfl,yA_ GR.out (Nat.le_succ _)⟩
   ·have HN:Hid (sibR (bl s)=none):=by show _=_; rw [HV.out,if_neg hk]
    have dk:decide (0 < k)=false:=decide_eq_false hk;rw [dk];clear dk hk HV;obtain ⟨_,hTr,_,hGr⟩:=RX.out;obtain ⟨t0,T0⟩:=isx (hTr 0 (by omega)).1;have Z0:=(hTr 0 (by omega)).2;obtain ⟨t1,T1⟩:=isx (hTr 1 (by omega)).1;have Z1:=(hTr 1 (by omega)).2;obtain ⟨t2,T2⟩:=isx (hTr 2 (by omega)).1;have Z2:=(hTr 2 (by omega)).2;obtain ⟨t3,T3⟩:=isx (hTr 3 (by omega)).1;have Z3:=(hTr 3 (by omega)).2;clear hTr;have GR:Hid (w.grownBy _ (some g)):=hGr;clear hGr;go_wp2;refine bodyPost_ret (v:=.tuple #[.agg #[.int .i64 p,.int .i64 n,.int .i64 v,.bool false],.bool false]) (by simp [results,Tryz.results218,go_sem,T0,T1,T2,T3,Z0,Z1,Z2,Z3]) rfl ?_;exact .inr ⟨HN.out,⟨p,n,v,false⟩,rfl,yA_ GR.out (Nat.le_succ _)⟩
  ·have HN:Hid (sibR (bl s)=none):=by show _=_; rw [HD.out,HH.out,rD_ h33 h61]; rfl
   go_wp2_with fail;refine (yc_ g s' 33 _ L2.out.1 hs2 h33).mono ?_;rintro e w4 ⟨rfl,rfl⟩;go_wp2_with fail;refine (yc_ g s' 61 _ L2.out.1 hs2 h61).mono ?_;rintro e w5 ⟨rfl,rfl⟩;clear c0 c1 c2 D0 D1;obtain ⟨_,hTr,_,hGr⟩:=RX.out;obtain ⟨t0,T0⟩:=isx (hTr 0 (by omega)).1;have Z0:=(hTr 0 (by omega)).2;obtain ⟨t1,T1⟩:=isx (hTr 1 (by omega)).1;have Z1:=(hTr 1 (by omega)).2;obtain ⟨t2,T2⟩:=isx (hTr 2 (by omega)).1;have Z2:=(hTr 2 (by omega)).2;obtain ⟨t3,T3⟩:=isx (hTr 3 (by omega)).1;have Z3:=(hTr 3 (by omega)).2;clear hTr;have GR:Hid (w.grownBy _ (some g)):=hGr;clear hGr;go_wp2;refine bodyPost_ret (v:=.tuple #[.agg #[.int .i64 0,.int .i64 0,.int .i64 0,.bool false],.bool false]) (by simp [results,Tryz.results218,go_sem,T0,T1,T2,T3,Z0,Z1,Z2,Z3]) rfl ?_;exact .inr ⟨HN.out,⟨0,0,0,false⟩,rfl,yA_ GR.out (Nat.le_succ _)⟩
 ·have HN:Hid (sibR (bl s)=none):=by show _=_; rw [t7_ hs0,sibR,if_neg h124]
  go_enter Tryz.func218,Tryz.ntmps218;go_wp2_with fail;generalize ((w.alloc (.cells #[.func (.func 220) #[] #[.pointer (some ⟨g,0,none⟩)],.func (.func 221) #[] #[.pointer (some ⟨g,0,none⟩)],.func (.func 223) #[] #[.pointer (some ⟨g,0,none⟩)]] 195)).alloc (.cells #[.int .i64 0,.int .i64 0,.int .i64 0,.bool false] 89))=W0 at *;refine (yc_ g s 124 _ LX.out.1 hs0 h124).mono ?_;rintro e w1 ⟨rfl,rfl⟩;obtain ⟨_,hTr,_,hGr⟩:=RX.out;obtain ⟨t0,T0⟩:=isx (hTr 0 (by omega)).1;have Z0:=(hTr 0 (by omega)).2;obtain ⟨t1,T1⟩:=isx (hTr 1 (by omega)).1;have Z1:=(hTr 1 (by omega)).2;obtain ⟨t2,T2⟩:=isx (hTr 2 (by omega)).1;have Z2:=(hTr 2 (by omega)).2;obtain ⟨t3,T3⟩:=isx (hTr 3 (by omega)).1;have Z3:=(hTr 3 (by omega)).2;clear hTr;have GR:Hid (w.grownBy _ (some g)):=hGr;clear hGr;go_wp2;refine bodyPost_ret (v:=.tuple #[.agg #[.int .i64 0,.int .i64 0,.int .i64 0,.bool false],.bool false]) (by simp [results,Tryz.results218,go_sem,T0,T1,T2,T3,Z0,Z1,Z2,Z3]) rfl ?_;exact .inr ⟨HN.out,⟨0,0,0,false⟩,rfl,yA_ GR.out (Nat.le_succ _)⟩
end
section
variable {i:Nat} {ok:Bool} {s:ByteArray}
def NumR (l:List UInt8) (n:Int) (ok:Bool):Prop:=(Num l∧l.length<=18->ok=true∧n=nv l)∧(¬ (Num l∧l.length<=18)->ok=true->n < 0)
theorem w9_ {l:List UInt8} (h:¬ (Num l∧l.length<=18)):Hid (NumR l 0 false):=⟨fun h'=>(h h').elim,fun _ h'=>by cases h'⟩
theorem vn_ (h:0 < s.size):bl s=s[0] :: (bl s).drop 1:=by have:=yC_ s 0 h; rwa [List.drop_zero] at this
theorem qZ_ (h:i < s.size):s[i] ∈ bl s:=by
 have:s[i]=(bl s)[i]'(by rw [zF_]; exact h):=rfl
 rw [this];exact List.getElem_mem _
theorem xa_ {n:Int} (hs:0 < s.size) (hc:(s[0]'hs).toNat=45) (h:ok=true->n < 0):Hid (NumR (bl s) n ok):=by
 have hn:¬ (Num (bl s)∧(bl s).length<=18):=fun h'=>by
  have:=yp_.1 (h'.1.2.1 _ (qZ_ hs))
  omega
 exact ⟨fun h'=>(hn h').elim,fun _=>h⟩
theorem oF_ (hs:0 < s.size) (hc:(s[0]'hs).toNat=48) (hl:1 < s.size) (h:Num (bl s)):False:=by
 refine h.2.2 (by rw [zF_]; exact hl) ?_;rw [vn_ hs,List.head?_cons]
 congr 1
 exact UInt8.toNat_inj.1 (by simpa using hc)
theorem sX_ (h:i < s.size) (hd:∀ c ∈ (bl s).take i,dg c=true) (hc:dg s[i]=true):Hid (∀ c ∈ (bl s).take (i+1),dg c=true):=fun c hm=>by
 rw [List.take_succ_eq_append_getElem (by rw [zF_]; exact h),List.mem_append] at hm;rcases hm with hm | hm
 ·exact hd c hm
 ·rw [List.mem_singleton] at hm;rw [hm];exact hc
theorem qb_ (h:i < s.size):nv ((bl s).take (i+1))=10 * nv ((bl s).take i)+((s[i].toNat:Int) - 48):=by
 rw [List.take_succ_eq_append_getElem (by rw [zF_]; exact h),uc_];rfl
theorem nu_:∀ (k:Nat) (l:List UInt8),l.length=k->(∀ c ∈ l,dg c=true)->nv l < ((10 ^ k:Nat):Int):=by
 intro k
 induction k with
 | zero=>intro l hl _; rw [List.length_eq_zero_iff.1 hl]; simp [nv]
 | succ k ih=>
  intro l hl h;have hne:l≠[]:=fun e=>by rw [e] at hl; simp at hl
  obtain ⟨m,c,rfl⟩:∃ m c,l=m++[c]:=⟨l.dropLast,l.getLast hne,(List.dropLast_concat_getLast hne).symm⟩;have hc:=yp_.1 (h c (by simp))
  have:=ih m (by simp at hl; omega) (fun d hd=>h d (by simp [hd]))
  rw [uc_,Nat.pow_succ];omega
theorem ud_ {l:List UInt8} (h:∀ c ∈ l,dg c=true) (hl:l.length<=18):nv l<=999999999999999999:=by
 have h1:=nu_ _ l rfl h;have h2:10 ^ l.length<=10 ^ 18:=Nat.pow_le_pow_right (by decide) hl;have h3:(10:Nat) ^ 18=1000000000000000000:=by decide
 omega
theorem vI_ {l:List UInt8} (h:∀ c ∈ l,dg c=true) (hl:l.length<=17):nv l<=99999999999999999:=by
 have h1:=nu_ _ l rfl h;have h2:10 ^ l.length<=10 ^ 17:=Nat.pow_le_pow_right (by decide) hl;have h3:(10:Nat) ^ 17=100000000000000000:=by decide
 omega
theorem qD_ (hs:0 < s.size) (hc:¬ (s[0]'hs).toNat=48) (h:∀ c ∈ bl s,dg c=true):0 < nv (bl s):=by
 have h0:=yp_.1 (h _ (qZ_ hs));have e:=vn_ hs;have h1:=ut_ ((bl s).drop 1) (10 * 0+(((s[0]'hs).toNat:Int) - 48)) (by omega) (fun x hx=>h x (List.mem_of_mem_drop hx));have h2:nv (s[0] :: (bl s).drop 1)=((bl s).drop 1).foldl (fun n c=>10 * n+((c.toNat:Int) - 48)) (10 * 0+(((s[0]'hs).toNat:Int) - 48)):=rfl;rw [<- e] at h2;omega
theorem pA_ {v:Int} (hs:0 < s.size) (h18:s.size<=18) (hc:¬ ((s[0]'hs).toNat=48∧1 < s.size)) (h:v=nv (bl s)∧∀ c ∈ bl s,dg c=true):Hid (NumR (bl s) v true):=by
 have hN:Num (bl s):=⟨fun e=>by have:=zF_ s; rw [e] at this; simp at this; omega,h.2,fun hl=>by
  rw [zF_] at hl;rw [vn_ hs,List.head?_cons];intro e;simp at e
  exact hc ⟨by rw [e]; rfl,hl⟩⟩
 exact ⟨fun _=>⟨rfl,h.1⟩,fun h'=>(h' ⟨hN,by rw [zF_]; exact h18⟩).elim⟩
def NumP (s:ByteArray) (w:World) (e:Ending) (w':World):Prop:=∃ (n:Int) (ok:Bool),e=.returned (.tuple #[.int .i64 n,.bool ok])∧NumR (bl s) n ok∧Below w.heap.size w w'
theorem vL_ (s:ByteArray) (w:World) (hs:s.size<=1048576) :
  Calls Tryz.prog 206 #[.string s] w fun e w'=>NumP s w e w':=by
 by_cases hs00:s.size=0
 ·have HF:Hid (NumR (bl s) 0 false):=w9_ (fun h=>h.1.1 (qY_ hs00));have h0:¬ (0:Int) < (s.size:Int):=by omega
  go_enter Tryz.func206,Tryz.ntmps206;go_wp2;go_ret2;exact ⟨0,false,rfl,HF.out,Below.refl _ _⟩
 have hs0:0 < s.size:=by omega
 have hs0':(0:Int) < (s.size:Int):=by omega
 by_cases hc45:(s[0]'hs0).toNat=45
 ·have hx:(((s[0]'hs0).toNat:Int) == 45)=true:=by rw [beq_iff_eq]; omega
  have hx1:(1:Int)<=(s.size:Int):=by omega
  go_enter Tryz.func206,Tryz.ntmps206;go_upto_region 5 with fail;have hSz:(s.extract 1 s.size).size<=1048576:=by rw [yz_ s 1 hs0]; omega
  clear hx hx1 hs0';generalize s.extract 1 s.size=S at *;by_cases hz:S.size=0
  ·have HF:Hid (NumR (bl s) 0 false):=xa_ hs0 hc45 (fun h=>by cases h);have e1:((S.size:Int) == 0)=true:=by rw [beq_iff_eq]; omega
   go_wp2
   all_goals go_ret2
   all_goals exact ⟨0,false,rfl,HF.out,Below.refl _ _⟩
  have hz1:0 < S.size:=by omega
  have e1:((S.size:Int) == 0)=false:=beq_eq_false_iff_ne.2 (by omega);have e1':(0:Int) < (S.size:Int):=by omega
  by_cases h18:18 < S.size
  ·have HF:Hid (NumR (bl s) 0 false):=xa_ hs0 hc45 (fun h=>by cases h);have e2:(18:Int) < (S.size:Int):=by omega
   go_wp2
   all_goals go_ret2
   all_goals exact ⟨0,false,rfl,HF.out,Below.refl _ _⟩
  have e2:¬ (18:Int) < (S.size:Int):=by omega
  by_cases h48:(S[0]'hz1).toNat=48
  ·have HF:Hid (NumR (bl s) 0 false):=xa_ hs0 hc45 (fun h=>by cases h);have e3:(((S[0]'hz1).toNat:Int) == 48)=true:=by rw [beq_iff_eq]; omega
   by_cases hl1:1 < S.size
   focus
    have e4:(1:Int) < (S.size:Int):=by omega
   rotate_left
   focus
    have e4:¬ (1:Int) < (S.size:Int):=by omega
   rotate_left
   all_goals
    go_wp2
    all_goals go_ret2
    all_goals exact ⟨0,false,rfl,HF.out,Below.refl _ _⟩
  have e3:(((S[0]'hz1).toNat:Int) == 48)=false:=beq_eq_false_iff_ne.2 (by omega);have H48:=hm_ h48;clear h48;go_wp2;go_loopw [5,6] (fun s5 s6 wr=>∃ i:Nat,i<=S.size∧s6=.int .i64 i∧s5=.int .i64 (nv ((bl S).take i))∧(∀ c ∈ (bl S).take i,dg c=true)∧wr=w) (fun _ s6 _=>S.size - (intOf s6).toNat)
  case atStart=>exact ⟨0,by omega,rfl,by simp [nv],fun c hc=>by simp at hc,rfl⟩
  case round=>
   obtain ⟨i,hi,rfl,rfl,hD0,rfl⟩:=hrel;have hD:=hm_ hD0;clear hD0;obtain ⟨v,hv⟩:∃ v,v=nv ((bl S).take i):=⟨_,rfl⟩;have hv0:0<=v:=by rw [hv]; exact w8_ hD.out
   have hvb:v<=999999999999999999:=by rw [hv]; exact ud_ hD.out (by simp; omega)
   have HV:=hm_ hv;rw [<- hv];clear hv;have kk:(0:Int)<=(i:Int):=by omega
   by_cases hlt:i < S.size
   ·have hlt':(i:Int) < (S.size:Int):=by omega
    have hv17:v<=99999999999999999:=by have:=HV.out; rw [this]; exact vI_ hD.out (by simp; omega)
    obtain ⟨c,hc⟩:∃ c:Nat,c=(S[i]'hlt).toNat:=⟨_,rfl⟩;have hgi:∀ h:i < S.size,((S[i]'h).toNat:Int)=(c:Int):=fun h=>by rw [hc]
    have hc256:c < 256:=by rw [hc]; exact (S[i]'hlt).toNat_lt
    have HC:=hm_ hc;clear hc;by_cases hd:48<=c∧c<=57
    ·obtain ⟨d1,d2⟩:=hd;have d1':¬ (c:Int) < 48:=by omega
     have d2':¬ 57 < (c:Int):=by omega
     have HD1:Hid (∀ c ∈ (bl S).take (i+1),dg c=true):=sX_ hlt hD.out (yp_.2 (by rw [<- HC.out]; exact ⟨d1,d2⟩))
     have HV1:Hid (v * 10+(c:Int) - 48=nv ((bl S).take (i+1))):=by
      show _=_
      rw [qb_ hlt,<- HV.out,<- HC.out];omega
     go_wp2
     go_roundw
     case rel=>first | exact ⟨i+1,by omega,by go_num,by rw [<- HV1.out],HD1.out,rfl⟩ | exact ⟨i+1,by omega,by go_num,by rw [<- HV1.out],HD1.out,trivial⟩
     case measure=>simp [intOf]; omega
    ·have HF:Hid (NumR (bl s) 0 false):=xa_ hs0 hc45 (fun h=>by cases h);have hdd:(c:Int) < 48∨(¬ (c:Int) < 48∧57 < (c:Int)):=by omega
     rcases hdd with d1 | ⟨d1,d2⟩
     all_goals
      go_wp2;go_ret2;exact ⟨0,false,rfl,HF.out,Below.refl _ _⟩
   ·have hlt':¬ (i:Int) < (S.size:Int):=by omega
    have HA:Hid (v=nv (bl S)∧∀ c ∈ bl S,dg c=true):=by
     have e:(bl S).take i=bl S:=List.take_of_length_le (by rw [zF_]; omega);have h1:=HV.out;have h2:=hD.out;rw [e] at h1 h2;exact ⟨h1,h2⟩
    have HF:Hid (NumR (bl s) (-v) true):=xa_ hs0 hc45 (fun _=>by have:=qD_ hz1 H48.out HA.out.2; rw [<- HA.out.1] at this; omega);go_wp2;go_ret2;exact ⟨_,_,rfl,by simpa using HF.out,Below.refl _ _⟩
 ·have hx:(((s[0]'hs0).toNat:Int) == 45)=false:=beq_eq_false_iff_ne.2 (by omega);go_enter Tryz.func206,Tryz.ntmps206;go_upto_region 5 with fail;obtain ⟨S,hS⟩:∃ S,S=s:=⟨_,rfl⟩;subst hS;clear hx hc45;by_cases hz:S.size=0
  ·have HF:Hid (NumR (bl S) 0 false):=w9_ (fun h=>h.1.1 (qY_ hz));have e1:((S.size:Int) == 0)=true:=by rw [beq_iff_eq]; omega
   go_wp2
   all_goals go_ret2
   all_goals exact ⟨0,false,rfl,HF.out,Below.refl _ _⟩
  have hz1:0 < S.size:=by omega
  have e1:((S.size:Int) == 0)=false:=beq_eq_false_iff_ne.2 (by omega);have e1':(0:Int) < (S.size:Int):=by omega
  by_cases h18:18 < S.size
  ·have HF:Hid (NumR (bl S) 0 false):=w9_ (fun h=>by have:=h.2; rw [zF_] at this; omega);have e2:(18:Int) < (S.size:Int):=by omega
   go_wp2
   all_goals go_ret2
   all_goals exact ⟨0,false,rfl,HF.out,Below.refl _ _⟩
  have e2:¬ (18:Int) < (S.size:Int):=by omega
  by_cases h48:(S[0]'hz1).toNat=48∧1 < S.size
  ·obtain ⟨h48,hl1⟩:=h48;have HF:Hid (NumR (bl S) 0 false):=w9_ (fun h=>oF_ hz1 h48 hl1 h.1);have e3:(((S[0]'hz1).toNat:Int) == 48)=true:=by rw [beq_iff_eq]; omega
   have e4:(1:Int) < (S.size:Int):=by omega
   go_wp2
   all_goals go_ret2
   all_goals exact ⟨0,false,rfl,HF.out,Below.refl _ _⟩
  have H48:=hm_ h48
  have e34:(((S[0]'hz1).toNat:Int) == 48)=false∨((((S[0]'hz1).toNat:Int) == 48)=true∧¬ (1:Int) < (S.size:Int)):=by
   by_cases hh:(S[0]'hz1).toNat=48
   ·right; exact ⟨by rw [beq_iff_eq]; omega,by omega⟩
   ·left; exact beq_eq_false_iff_ne.2 (by omega)
  clear h48;rcases e34 with e3 | ⟨e3,e4⟩;rotate_left;rotate_left
  all_goals
   go_wp2;go_loopw [5,6] (fun s5 s6 wr=>∃ i:Nat,i<=S.size∧s6=.int .i64 i∧s5=.int .i64 (nv ((bl S).take i))∧(∀ c ∈ (bl S).take i,dg c=true)∧wr=w) (fun _ s6 _=>S.size - (intOf s6).toNat)
   case atStart=>exact ⟨0,by omega,rfl,by simp [nv],fun c hc=>by simp at hc,rfl⟩
   case round=>
    obtain ⟨i,hi,rfl,rfl,hD0,rfl⟩:=hrel;have hD:=hm_ hD0;clear hD0;obtain ⟨v,hv⟩:∃ v,v=nv ((bl S).take i):=⟨_,rfl⟩;have hv0:0<=v:=by rw [hv]; exact w8_ hD.out
    have hvb:v<=999999999999999999:=by rw [hv]; exact ud_ hD.out (by simp; omega)
    have HV:=hm_ hv;rw [<- hv];clear hv;have kk:(0:Int)<=(i:Int):=by omega
    by_cases hlt:i < S.size
    ·have hlt':(i:Int) < (S.size:Int):=by omega
     have hv17:v<=99999999999999999:=by have:=HV.out; rw [this]; exact vI_ hD.out (by simp; omega)
     obtain ⟨c,hc⟩:∃ c:Nat,c=(S[i]'hlt).toNat:=⟨_,rfl⟩;have hgi:∀ h:i < S.size,((S[i]'h).toNat:Int)=(c:Int):=fun h=>by rw [hc]
     have hc256:c < 256:=by rw [hc]; exact (S[i]'hlt).toNat_lt
     have HC:=hm_ hc;clear hc;by_cases hd:48<=c∧c<=57
     ·obtain ⟨d1,d2⟩:=hd;have d1':¬ (c:Int) < 48:=by omega
      have d2':¬ 57 < (c:Int):=by omega
      have HD1:Hid (∀ c ∈ (bl S).take (i+1),dg c=true):=sX_ hlt hD.out (yp_.2 (by rw [<- HC.out]; exact ⟨d1,d2⟩))
      have HV1:Hid (v * 10+(c:Int) - 48=nv ((bl S).take (i+1))):=by
       show _=_
       rw [qb_ hlt,<- HV.out,<- HC.out];omega
      go_wp2
      go_roundw
      case rel=>first | exact ⟨i+1,by omega,by go_num,by rw [<- HV1.out],HD1.out,rfl⟩ | exact ⟨i+1,by omega,by go_num,by rw [<- HV1.out],HD1.out,trivial⟩
      case measure=>simp [intOf]; omega
     ·have HF:Hid (NumR (bl S) 0 false):=w9_ (fun h=>hd (by rw [HC.out]; exact yp_.1 (h.1.2.1 _ (qZ_ hlt))));have hdd:(c:Int) < 48∨(¬ (c:Int) < 48∧57 < (c:Int)):=by omega
      rcases hdd with d1 | ⟨d1,d2⟩
      all_goals
       go_wp2;go_ret2;exact ⟨0,false,rfl,HF.out,Below.refl _ _⟩
    ·have hlt':¬ (i:Int) < (S.size:Int):=by omega
     have HA:Hid (v=nv (bl S)∧∀ c ∈ bl S,dg c=true):=by
      have e:(bl S).take i=bl S:=List.take_of_length_le (by rw [zF_]; omega);have h1:=HV.out;have h2:=hD.out;rw [e] at h1 h2;exact ⟨h1,h2⟩
     have HF:Hid (NumR (bl S) (v) true):=pA_ hz1 (by omega) H48.out HA.out;go_wp2;go_ret2;exact ⟨_,_,rfl,by simpa using HF.out,Below.refl _ _⟩
end
theorem yw_ (s:ByteArray) (w:World) (hs:s.size<=1048576) (h:Num (bl s)∧(bl s).length<=18) :
  Calls Tryz.prog 186 #[.string s] w fun e w'=>e=.returned (.tuple #[.int .i64 (nv (bl s)),.bool true])∧Below w.heap.size w w':=by
 obtain ⟨m,hm⟩:∃ m:Nat,nv (bl s)=(m:Int):=⟨(nv (bl s)).toNat,by have:=w8_ h.1.2.1; omega⟩
 have hds:(⟨(dsN m).toArray⟩:ByteArray)=s:=by
  have:=oX_ _ (bl s) rfl h.1
  rw [hm] at this;have e:((m:Int)).toNat=m:=by omega
  rw [e] at this;rw [this];exact n3_ s
 have hm18:m < 1000000000000000000:=by have:=ud_ h.1.2.1 h.2; omega
 have H:=hm_ h;have HM:=hm_ hm;have HDS:=hm_ hds;rw [hm];clear h hm hds;have hm0:(0:Int)<=(m:Int):=by omega
 go_enter Tryz.func186,Tryz.ntmps186;go_wp2_with fail;refine (vL_ s _ hs).mono ?_;rintro e w1 ⟨n,ok,rfl,hR,hb⟩;obtain ⟨rfl,rfl⟩:=hR.1 H.out;have HB:=hm_ hb;clear hR hb;rw [HM.out];go_wp2_with fail;refine (yl_ (m+1) m (by omega) hm18 _).mono ?_;rintro e w2 ⟨rfl,hb⟩;replace HB:=ze_ HB hb;rw [HDS.out];clear hb;go_wp2;go_ret2;exact ⟨by simp,HB.out⟩
theorem xd_ (s:ByteArray) (w:World) (hs:s.size<=1048576) (h:¬ (Num (bl s)∧(bl s).length<=18)) :
  Calls Tryz.prog 186 #[.string s] w fun e w'=>N3P w e w':=by
 have H:=hm_ h;clear h;go_enter Tryz.func186,Tryz.ntmps186;go_wp2_with fail;refine (vL_ s _ hs).mono ?_;rintro e w1 ⟨n,ok,rfl,hR,hb⟩;have HB:=hm_ hb;have HR:Hid (ok=true->n < 0):=hR.2 H.out;clear hR hb;cases ok
 ·go_wp2;go_ret2;exact ⟨n,rfl,HB.out⟩
 ·have hn:¬ 0<=n:=by have:=HR.out rfl; omega
  go_wp2;go_ret2;exact ⟨n,rfl,HB.out⟩
theorem uE_ (s:ByteArray) (w:World) (hs:s.size<=1048576) (h:tdR (bl s)) :
  Calls Tryz.prog 241 #[.string s] w fun e w'=>e=.returned (.tuple #[.agg #[.int .i64 (tdV (bl s)).1,.int .i64 (tdV (bl s)).2],.bool true])∧Below w.heap.size w w':=by
 have hs0:0 < s.size:=by
  rcases Nat.eq_zero_or_pos s.size with e | e
  ·rw [qY_ e] at h; exact h.elim
  ·exact e
 have e0:=vn_ hs0;rw [e0] at h;obtain ⟨⟨c1,c2⟩,hN,hD⟩:=h;have HV1:Hid ((tdV (bl s)).1=((s[0]'hs0).toNat:Int) - 97):=by show _=_; rw [e0]; rfl
 have HV2:Hid ((tdV (bl s)).2=nv ((bl s).drop 1)):=by show _=_; rw [e0]; rfl
 rw [HV1.out,HV2.out];rw [<- xm_ s 1 hs0] at hN hD ⊢;obtain ⟨c,hc⟩:∃ c:Nat,c=(s[0]'hs0).toNat:=⟨_,rfl⟩;have hgi:∀ h:0 < s.size,((s[0]'h).toNat:Int)=(c:Int):=fun h=>by rw [hc]
 rw [<- hc] at c1 c2 hD ⊢;clear hc HV1 HV2 e0;have hE:=xx_ s hs0;have hs0':(0:Int) < (s.size:Int):=by omega
 have hs1':(1:Int)<=(s.size:Int):=by omega
 have c1':(97:Int)<=(c:Int):=by omega
 have c2':(c:Int)<=99:=by omega
 obtain ⟨v,hv⟩:∃ v,v=nv (bl (s.extract 1 s.size)):=⟨_,rfl⟩;have Q:=yw_ (s.extract 1 s.size);rw [<- hv] at hD Q ⊢;have HQ:Hid (∀ W:World,Calls Tryz.prog 186 #[.string (s.extract 1 s.size)] W fun e w'=>e=.returned (.tuple #[.int .i64 v,.bool true])∧Below W.heap.size W w'):=fun W=>Q W (by rw [yz_ s 1 hs0]; omega) hN
 clear Q hv hN;have HDD:=hm_ hD;clear hD;go_enter Tryz.func241,Tryz.ntmps241;go_wp2_with fail;refine (wj_ _ _ _ _ c1' c2').mono ?_;rintro e w1 ⟨rfl,rfl⟩;go_wp2_with fail;refine (HQ.out _).mono ?_;rintro e w1 ⟨rfl,hb⟩;have HB:Hid (Below w.heap.size w w1):=(zb_ _ _).trans (hb.mono (by simp));have r0:=za_ hb (b:=w.heap.size) (o:=0) (v:=.int .i64 0) (by go_simp) (by simp);have r1:=za_ hb (b:=w.heap.size) (o:=1) (v:=.int .i64 0) (by go_simp) (by simp);have q0:=zf_ hb (b:=w.heap.size) (o:=0) (by go_simp) (by simp);have q1:=zf_ hb (b:=w.heap.size) (o:=1) (by go_simp) (by simp);have hz:w.heap.size < w1.heap.size:=by have:=hb.size; simp at this; omega
 clear hb;go_wp2_with fail;refine (yX_ _ _ _).mono ?_;rintro e w2 ⟨rfl,hb⟩;rw [HDD.out];have d0:=za_ hb (b:=w1.heap.size) (o:=0) (v:=.int .i64 ((c:Int) - 97)) (by go_simp) (by simp);have d1:=za_ hb (b:=w1.heap.size) (o:=1) (v:=.int .i64 v) (by go_simp) (by simp);replace HB:=ze_ (ze_ HB (zb_ _ _)) hb;replace r0:=za_ hb (zL_ r0 hz) (by simp; omega);replace r1:=za_ hb (zL_ r1 hz) (by simp; omega);replace q0:=zf_ hb (z0_ q0 hz) (by simp; omega);replace q1:=zf_ hb (z0_ q1 hz) (by simp; omega);clear hb;go_wp2;refine bodyPost_ret (v:=.tuple #[.agg #[.int .i64 ((c:Int) - 97),.int .i64 v],.bool true]) (by simp [results,Tryz.results241,go_sem,r0,r1,q0,q1]) rfl ⟨rfl,?_⟩;exact (HB.out.setCell (by simp) _).setCell (by simp) _
theorem sg_ (s:ByteArray) (w:World) (hs:s.size<=1048576) (h:¬ tdR (bl s)) :
  Calls Tryz.prog 241 #[.string s] w fun e w'=>e=.returned (.tuple #[.agg #[.int .i64 0,.int .i64 0],.bool false])∧Below w.heap.size w w':=by
 by_cases hs0:0 < s.size
 ·have e0:=vn_ hs0;rw [e0] at h;have H:=hm_ h;clear h;rw [<- xm_ s 1 hs0] at H;obtain ⟨c,hc⟩:∃ c:Nat,c=(s[0]'hs0).toNat:=⟨_,rfl⟩;have hgi:∀ h:0 < s.size,((s[0]'h).toNat:Int)=(c:Int):=fun h=>by rw [hc]
  have H2:Hid (¬ ((97<=c∧c<=99)∧(Num (bl (s.extract 1 s.size))∧(bl (s.extract 1 s.size)).length<=18)∧dotB ((c:Int) - 97) (nv (bl (s.extract 1 s.size)))=true)):=by rw [hc]; exact H.out
  have hc256:c < 256:=by rw [hc]; exact (s[0]'hs0).toNat_lt
  clear hc e0 H;have hE:=xx_ s hs0;have hs0':(0:Int) < (s.size:Int):=by omega
  have hs1':(1:Int)<=(s.size:Int):=by omega
  by_cases hcc:97<=c∧c<=99
  ·obtain ⟨c1,c2⟩:=hcc;have c1':(97:Int)<=(c:Int):=by omega
   have c2':(c:Int)<=99:=by omega
   have hsz:(s.extract 1 s.size).size<=1048576:=by rw [yz_ s 1 hs0]; omega
   by_cases hN:Num (bl (s.extract 1 s.size))∧(bl (s.extract 1 s.size)).length<=18
   ·obtain ⟨v,hv⟩:∃ v,v=nv (bl (s.extract 1 s.size)):=⟨_,rfl⟩;have Q:=yw_ (s.extract 1 s.size)
    have HDD:Hid (dotB ((c:Int) - 97) v=false):=by
     rw [<- Bool.not_eq_true];intro h';rw [hv] at h';exact H2.out ⟨⟨c1,c2⟩,hN,h'⟩
    rw [<- hv] at Q;have HQ:Hid (∀ W:World,Calls Tryz.prog 186 #[.string (s.extract 1 s.size)] W fun e w'=>e=.returned (.tuple #[.int .i64 v,.bool true])∧Below W.heap.size W w'):=fun W=>Q W hsz hN
    clear Q hv hN H2;go_enter Tryz.func241,Tryz.ntmps241;go_wp2_with fail;refine (wj_ _ _ _ _ c1' c2').mono ?_;rintro e w1 ⟨rfl,rfl⟩;go_wp2_with fail;refine (HQ.out _).mono ?_;rintro e w1 ⟨rfl,hb⟩;have HB:Hid (Below w.heap.size w w1):=(zb_ _ _).trans (hb.mono (by simp));have r0:=za_ hb (b:=w.heap.size) (o:=0) (v:=.int .i64 0) (by go_simp) (by simp);have r1:=za_ hb (b:=w.heap.size) (o:=1) (v:=.int .i64 0) (by go_simp) (by simp);have q0:=zf_ hb (b:=w.heap.size) (o:=0) (by go_simp) (by simp);have q1:=zf_ hb (b:=w.heap.size) (o:=1) (by go_simp) (by simp);have hz:w.heap.size < w1.heap.size:=by have:=hb.size; simp at this; omega
    clear hb;go_wp2_with fail;refine (yX_ _ _ _).mono ?_;rintro e w2 ⟨rfl,hb⟩;rw [HDD.out];replace HB:=ze_ (ze_ HB (zb_ _ _)) hb;replace r0:=za_ hb (zL_ r0 hz) (by simp; omega);replace r1:=za_ hb (zL_ r1 hz) (by simp; omega);replace q0:=zf_ hb (z0_ q0 hz) (by simp; omega);replace q1:=zf_ hb (z0_ q1 hz) (by simp; omega);clear hb;go_wp2;refine bodyPost_ret (v:=.tuple #[.agg #[.int .i64 0,.int .i64 0],.bool false]) (by simp [results,Tryz.results241,go_sem,r0,r1,q0,q1]) rfl ⟨rfl,?_⟩;exact (HB.out.setCell (by simp) _).setCell (by simp) _
   ·have HQ:Hid (∀ W:World,Calls Tryz.prog 186 #[.string (s.extract 1 s.size)] W fun e w'=>N3P W e w'):=fun W=>xd_ (s.extract 1 s.size) W hsz hN
    clear hN H2;go_enter Tryz.func241,Tryz.ntmps241;go_wp2_with fail;refine (wj_ _ _ _ _ c1' c2').mono ?_;rintro e w1 ⟨rfl,rfl⟩;go_wp2_with fail;refine (HQ.out _).mono ?_;rintro e w1 ⟨v,rfl,hb⟩;have HB:Hid (Below w.heap.size w w1):=(zb_ _ _).trans (hb.mono (by simp));have r0:=za_ hb (b:=w.heap.size) (o:=0) (v:=.int .i64 0) (by go_simp) (by simp);have r1:=za_ hb (b:=w.heap.size) (o:=1) (v:=.int .i64 0) (by go_simp) (by simp);have q0:=zf_ hb (b:=w.heap.size) (o:=0) (by go_simp) (by simp);have q1:=zf_ hb (b:=w.heap.size) (o:=1) (by go_simp) (by simp);have hz:w.heap.size < w1.heap.size:=by have:=hb.size; simp at this; omega
    clear hb;go_wp2;refine bodyPost_ret (v:=.tuple #[.agg #[.int .i64 0,.int .i64 0],.bool false]) (by simp [results,Tryz.results241,go_sem,r0,r1,q0,q1,hz]) rfl ⟨rfl,?_⟩;exact ((HB.out.setCell (by simp) _).setCell (by simp) _).alloc (by simpa [World.setCell] using Nat.le_of_lt hz) _
  ·have hcn:(c:Int) < 97∨((97:Int)<=(c:Int)∧99 < (c:Int)):=by omega
   clear hcc H2;go_enter Tryz.func241,Tryz.ntmps241;go_wp2_with fail;refine (pF_ _ _ _ _ hcn).mono ?_;rintro e w1 ⟨rfl,rfl⟩;go_wp2;refine bodyPost_ret (v:=.tuple #[.agg #[.int .i64 0,.int .i64 0],.bool false]) (by simp [results,Tryz.results241,go_sem]) rfl ⟨rfl,?_⟩
   repeat (first | exact Below.refl _ _ | refine Below.drew ?_ | refine below_drewN ?_ _ | refine Below.alloc ?_ (by first | (simp; done) | (simp; omega)) _ | refine Below.setCell ?_ (by first | (simp; done) | (simp; omega)) _)
 ·have hE:=ws_ s (by omega);go_enter Tryz.func241,Tryz.ntmps241;go_wp2;refine bodyPost_ret (v:=.tuple #[.agg #[.int .i64 0,.int .i64 0],.bool false]) (by simp [results,Tryz.results241,go_sem]) rfl ⟨rfl,?_⟩
  repeat (first | exact Below.refl _ _ | refine Below.drew ?_ | refine below_drewN ?_ _ | refine Below.alloc ?_ (by first | (simp; done) | (simp; omega)) _ | refine Below.setCell ?_ (by first | (simp; done) | (simp; omega)) _)
end Go.Proofs.YtijcjhcgpmnchaaGreatDoor
