/- Nodes and their buckets, part 20 of the law FnDigest. -/
import Derived.Test.YtiokjphefpicbaaGreatDoorM19
import Derived.Deep.Cut
namespace Go.Proofs.YtiokjphefpicbaaGreatDoor
open Go.RowKit
set_option maxRecDepth 100000
set_option maxHeartbeats 16000000
set_option linter.unusedSimpArgs false
set_option linter.unusedVariables false
variable {W w wr':World} {b g o1:Nat} {s s':ByteArray} {u1 u2 u3 u4:Value}
def RBX (w wr:World) (g:Nat):Prop:=(wr.cell? ⟨w.heap.size,0,none⟩=some (.func (.func 219) #[] #[.pointer (some ⟨g,0,none⟩)])∧wr.cell? ⟨w.heap.size,1,none⟩=some (.func (.func 220) #[] #[.pointer (some ⟨g,0,none⟩)])∧wr.cell? ⟨w.heap.size,2,none⟩=some (.func (.func 222) #[] #[.pointer (some ⟨g,0,none⟩)]))∧zS_ wr (w.heap.size+1) 4∧w.heap.size+1 < wr.heap.size∧w.grownBy wr (some g)
theorem RBX.grown {wr:World} (h:RBX w wr g) (hg:g < w.heap.size) (hG:wr.grownBy wr' (some g)):RBX w wr' g:=by
 obtain ⟨⟨c0,c1,c2⟩,hT,hz,hw⟩:=h
 refine ⟨⟨zl_ hG c0 (by omega),zl_ hG c1 (by omega),zl_ hG c2 (by omega)⟩,fun j hj=>?_,Nat.lt_of_lt_of_le hz hG.size,zW_ hw hG⟩
 obtain ⟨h1,h2⟩:=hT j hj
 obtain ⟨u,hu⟩:=isx h1
 exact ⟨by rw [zl_ hG hu (by omega)]; rfl,zC_ hG h2 hz (by omega)⟩
theorem RBX.below {wr:World} (h:RBX w wr g) (hb:Below wr.heap.size wr wr'):RBX w wr' g:=by
 obtain ⟨⟨c0,c1,c2⟩,hT,hz,hw⟩:=h
 exact ⟨⟨za_ hb c0 (by omega),za_ hb c1 (by omega),za_ hb c2 (by omega)⟩,hT.next hb hz,Nat.lt_of_lt_of_le hz hb.size,zW_ hw (z3_ hb)⟩
theorem yw_ {o2 o3 o4:Nat} (h:w.grownBy W (some g)) (hb:w.heap.size≤b):w.grownBy ((((W.setCell ⟨b,o1,none⟩ u1).setCell ⟨b,o2,none⟩ u2).setCell ⟨b,o3,none⟩ u3).setCell ⟨b,o4,none⟩ u4) (some g):=by
 have one:∀ {W:World} {o:Nat} {u:Value},w.grownBy W (some g)→w.grownBy (W.setCell ⟨b,o,none⟩ u) (some g):=fun {W o u} h=>⟨by simpa [World.setCell] using h.os,by simpa [World.setCell] using h.tape,by simpa [World.setCell] using h.output,by simpa [World.setCell] using h.size,fun k hk hne=>(Below.heap_setCell W ⟨b,o,none⟩ u k (fun e=>by simp at e; omega)).trans (h.block k hk hne)⟩
 exact one (one (one (one h)))
theorem x4_ {o2 o3 o4:Nat} (h:Left W g s) (hb:g≠b):Left ((((W.setCell ⟨b,o1,none⟩ u1).setCell ⟨b,o2,none⟩ u2).setCell ⟨b,o3,none⟩ u3).setCell ⟨b,o4,none⟩ u4) g s:=
 ⟨zf_ (zf_ (zf_ (zf_ h.1 hb) hb) hb) hb,by rw [World.frozen?_setCell,World.frozen?_setCell,World.frozen?_setCell,World.frozen?_setCell]; exact h.2⟩
theorem y4_ {o:Obj} (h:Left W g s) (hg:g < W.heap.size):Left (W.alloc o) g s:=⟨za_ (zb_ _ _) h.1 hg,zd_ (zb_ _ _) h.2 hg⟩
theorem wY_ (h:Left W g s):Left (W.setCell ⟨g,0,none⟩ (.string s')) g s':=⟨zI_ h.1,by rw [World.frozen?_setCell]; exact h.2⟩
theorem tG_ (h:0 < s.size):bl s=s[0] :: bl (s.extract 1 s.size):=by
 have h1:=yy_ s 0 h
 rw [List.drop_zero] at h1
 rw [h1,xc_ s 1 h]
theorem se_ (h:s.size=0):bl s=[]:=List.length_eq_zero_iff.1 (by rw [zF_]; exact h)
theorem om_ (l:List UInt8):(rdR l).2.2.length≤l.length:=by
 cases l with
 | nil=>simp [rdR]
 | cons c r=>
  rw [rdR]
  split
  ·simp; omega
  ·simp
def SbP (w:World) (g:Nat) (l:List UInt8) (e:Ending) (w':World):Prop:=(∃ (s:Sib) (rest:List UInt8),sibR l=some (s,rest)∧e=.returned (.tuple #[.agg #[.int .i64 s.p,.int .i64 s.n,.int .i64 s.v,.bool s.d],.bool true])∧∃ s',Left w' g s'∧bl s'=rest∧w.grownBy w' (some g))∨(sibR l=none∧∃ s:Sib,e=.returned (.tuple #[.agg #[.int .i64 s.p,.int .i64 s.n,.int .i64 s.v,.bool s.d],.bool false])∧w.grownBy w' (some g))
theorem tn_ (g:Nat) (s:ByteArray) (w:World) (hg:g < w.heap.size) (hL0:Left w g s) (hs:s.size≤65536) :
  Calls Tryz.prog 217 #[.agg #[.func (.func 219) #[] #[.pointer (some ⟨g,0,none⟩)],.func (.func 220) #[] #[.pointer (some ⟨g,0,none⟩)],.func (.func 222) #[] #[.pointer (some ⟨g,0,none⟩)]]] w fun e w'=>SbP w g (bl s) e w':=by
 have B0:Hid (Below w.heap.size w ((w.alloc (.cells #[.func (.func 219) #[] #[.pointer (some ⟨g,0,none⟩)],.func (.func 220) #[] #[.pointer (some ⟨g,0,none⟩)],.func (.func 222) #[] #[.pointer (some ⟨g,0,none⟩)]] 194)).alloc (.cells #[.int .i64 0,.int .i64 0,.int .i64 0,.bool false] 89))):=((zb_ _ _).trans ((zb_ _ _).mono (by simp)))
 have RX:Hid (RBX w ((w.alloc (.cells #[.func (.func 219) #[] #[.pointer (some ⟨g,0,none⟩)],.func (.func 220) #[] #[.pointer (some ⟨g,0,none⟩)],.func (.func 222) #[] #[.pointer (some ⟨g,0,none⟩)]] 194)).alloc (.cells #[.int .i64 0,.int .i64 0,.int .i64 0,.bool false] 89)) g):=⟨⟨by go_simp,by go_simp,by go_simp⟩,fun j hj=>by
  have hj':j=0∨j=1∨j=2∨j=3:=by omega
  rcases hj' with rfl | rfl | rfl | rfl <;> exact ⟨by go_simp,by go_simp⟩,by simp,⟨B0.out.os,B0.out.tape,B0.out.output,B0.out.size,fun b hb _=>B0.out.block b hb⟩⟩
 have LX:Hid (Left ((w.alloc (.cells #[.func (.func 219) #[] #[.pointer (some ⟨g,0,none⟩)],.func (.func 220) #[] #[.pointer (some ⟨g,0,none⟩)],.func (.func 222) #[] #[.pointer (some ⟨g,0,none⟩)]] 194)).alloc (.cells #[.int .i64 0,.int .i64 0,.int .i64 0,.bool false] 89)) g s):=⟨za_ B0.out hL0.1 hg,zd_ B0.out hL0.2 hg⟩
 have HG:=hm_ hg
 clear hL0
 by_cases hz:s.size=0
 ·have HN:Hid (sibR (bl s)=none):=by show _=_; rw [se_ hz]; rfl
  go_enter Tryz.func217,Tryz.ntmps217
  go_wp2_with fail
  generalize ((w.alloc (.cells #[.func (.func 219) #[] #[.pointer (some ⟨g,0,none⟩)],.func (.func 220) #[] #[.pointer (some ⟨g,0,none⟩)],.func (.func 222) #[] #[.pointer (some ⟨g,0,none⟩)]] 194)).alloc (.cells #[.int .i64 0,.int .i64 0,.int .i64 0,.bool false] 89))=W0 at *
  refine (yu_ g s 124 _ LX.out.1 hz).mono ?_
  rintro e w1 ⟨rfl,rfl⟩
  obtain ⟨_,hTr,_,hGr⟩:=RX.out
  obtain ⟨t0,T0⟩:=isx (hTr 0 (by omega)).1
  have Z0:=(hTr 0 (by omega)).2
  obtain ⟨t1,T1⟩:=isx (hTr 1 (by omega)).1
  have Z1:=(hTr 1 (by omega)).2
  obtain ⟨t2,T2⟩:=isx (hTr 2 (by omega)).1
  have Z2:=(hTr 2 (by omega)).2
  obtain ⟨t3,T3⟩:=isx (hTr 3 (by omega)).1
  have Z3:=(hTr 3 (by omega)).2
  clear hTr
  have GR:Hid (w.grownBy _ (some g)):=hGr
  clear hGr
  go_wp2
  refine bodyPost_ret (v:=.tuple #[.agg #[.int .i64 0,.int .i64 0,.int .i64 0,.bool false],.bool false]) (by simp [results,Tryz.results217,go_sem,T0,T1,T2,T3,Z0,Z1,Z2,Z3]) rfl ?_
  exact .inr ⟨HN.out,⟨0,0,0,false⟩,rfl,yw_ GR.out (Nat.le_succ _)⟩
 have hs0:0 < s.size:=by omega
 by_cases h124:(s[0]'hs0).toNat=124
 ·obtain ⟨s1,hs1⟩:∃ s1,s1=s.extract 1 s.size:=⟨_,rfl⟩
  have HB1:Hid (bl s=(s[0]'hs0) :: bl s1):=by show _=_; rw [hs1]; exact tG_ hs0
  have hsz1:s1.size≤65536:=by rw [hs1]; simp; omega
  obtain ⟨r0,hr0⟩:∃ r:(Int × Int) × Bool × List UInt8,r=rdR (bl s1):=⟨_,rfl⟩
  obtain ⟨⟨p,n⟩,ok,rest⟩:=r0
  have HR:=hm_ hr0.symm
  have HC:Hid (bl s=124 :: bl s1):=by
   show _=_
   rw [HB1.out]
   congr 1
   exact UInt8.toNat_inj.1 (by simpa using h124)
  have HY1:=hm_ hs1
  clear hr0 hs1 HB1
  go_enter Tryz.func217,Tryz.ntmps217
  go_wp2_with fail
  generalize ((w.alloc (.cells #[.func (.func 219) #[] #[.pointer (some ⟨g,0,none⟩)],.func (.func 220) #[] #[.pointer (some ⟨g,0,none⟩)],.func (.func 222) #[] #[.pointer (some ⟨g,0,none⟩)]] 194)).alloc (.cells #[.int .i64 0,.int .i64 0,.int .i64 0,.bool false] 89))=W0 at *
  refine (yS_ g s 124 _ LX.out.1 LX.out.2 hs0 h124).mono ?_
  rintro e w1 ⟨rfl,hw1⟩
  have G1:W0.grownBy w1 (some g):=by rw [hw1]; exact wa_ _ _ _ _
  have L1:Hid (Left w1 g s1):=by rw [hw1,HY1.out]; exact wY_ LX.out
  replace RX:Hid (RBX w w1 g):=RX.out.grown HG.out G1
  have G1z:Hid (g < w1.heap.size):=Nat.lt_trans HG.out (Nat.lt_of_lt_of_le (Nat.lt_succ_self _) (Nat.le_of_lt RX.out.2.2.1))
  clear hw1 G1 LX B0 HY1
  obtain ⟨⟨c0,c1,c2⟩,_,_,_⟩:=RX.out
  go_wp2_with fail
  clear c0 c1 c2
  refine (tp_ g s1 _ G1z.out L1.out hsz1 p n ok rest HR).mono ?_
  rintro e w2 ⟨rfl,s',hL2,hbl,hG2⟩
  replace RX:Hid (RBX w w2 g):=RX.out.grown HG.out hG2
  have L2:Hid (Left w2 g s'):=hL2
  have HBL:Hid (bl s'=rest):=hbl
  have G2z:Hid (g < w2.heap.size):=Nat.lt_of_lt_of_le G1z.out hG2.size
  have hsz2:s'.size≤65536:=by
   have h1:=om_ (bl s1)
   rw [HR.out] at h1
   simp only [] at h1
   rw [← hbl,zF_,zF_] at h1
   omega
  clear hL2 hbl hG2 L1 G1z
  go_upto_region 4 with fail
  replace RX:Hid (RBX w (w2.alloc (.cells #[.int .i64 p,.int .i64 n] 41)) g):=RX.out.below (zb_ _ _)
  replace L2:Hid (Left (w2.alloc (.cells #[.int .i64 p,.int .i64 n] 41)) g s'):=y4_ L2.out G2z.out
  have D0:(w2.alloc (.cells #[.int .i64 p,.int .i64 n] 41)).cell? ⟨w2.heap.size,0,none⟩=some (.int .i64 p):=by go_simp
  have D1:(w2.alloc (.cells #[.int .i64 p,.int .i64 n] 41)).cell? ⟨w2.heap.size,1,none⟩=some (.int .i64 n):=by go_simp
  have GD:Hid (g≠w2.heap.size):=fun e=>by have:=G2z.out; omega
  have G3z:Hid (g < (w2.alloc (.cells #[.int .i64 p,.int .i64 n] 41)).heap.size):=Nat.lt_of_lt_of_le G2z.out (zb_ _ _).size
  generalize (w2.alloc (.cells #[.int .i64 p,.int .i64 n] 41))=w3 at *
  generalize w2.heap.size=gd at *
  clear G2z
  cases ok
  ·have HN:Hid (sibR (bl s)=none):=by
    show _=_
    rw [HC.out,xY_]
    have:dotR (bl s1)=none:=by unfold dotR; rw [HR.out]; rfl
    rw [this]; rfl
   obtain ⟨_,hTr,_,hGr⟩:=RX.out
   obtain ⟨t0,T0⟩:=isx (hTr 0 (by omega)).1
   have Z0:=(hTr 0 (by omega)).2
   obtain ⟨t1,T1⟩:=isx (hTr 1 (by omega)).1
   have Z1:=(hTr 1 (by omega)).2
   obtain ⟨t2,T2⟩:=isx (hTr 2 (by omega)).1
   have Z2:=(hTr 2 (by omega)).2
   obtain ⟨t3,T3⟩:=isx (hTr 3 (by omega)).1
   have Z3:=(hTr 3 (by omega)).2
   clear hTr
   have GR:Hid (w.grownBy _ (some g)):=hGr
   clear hGr
   go_wp2
   refine bodyPost_ret (v:=.tuple #[.agg #[.int .i64 0,.int .i64 0,.int .i64 0,.bool false],.bool false]) (by simp [results,Tryz.results217,go_sem,T0,T1,T2,T3,Z0,Z1,Z2,Z3]) rfl ?_
   exact .inr ⟨HN.out,⟨0,0,0,false⟩,rfl,yw_ GR.out (Nat.le_succ _)⟩
  have HD:Hid (sibR (bl s)=(valR rest).map fun v=>(⟨p,n,v.1.1,v.1.2⟩,v.2)):=by
   show _=_
   have:dotR (bl s1)=some ((p,n),rest):=by unfold dotR; rw [HR.out]; rfl
   rw [HC.out,xY_,this]
   rfl
  clear HR HC
  obtain ⟨⟨c0,c1,c2⟩,_,_,_⟩:=RX.out
  by_cases hz2:s'.size=0
  ·have HN:Hid (sibR (bl s)=none):=by show _=_; rw [HD.out,← HBL.out,se_ hz2]; rfl
   go_wp2_with fail
   refine (yu_ g s' 33 _ L2.out.1 hz2).mono ?_
   rintro e w4 ⟨rfl,rfl⟩
   go_wp2_with fail
   refine (yu_ g s' 61 _ L2.out.1 hz2).mono ?_
   rintro e w5 ⟨rfl,rfl⟩
   clear c0 c1 c2 D0 D1
   obtain ⟨_,hTr,_,hGr⟩:=RX.out
   obtain ⟨t0,T0⟩:=isx (hTr 0 (by omega)).1
   have Z0:=(hTr 0 (by omega)).2
   obtain ⟨t1,T1⟩:=isx (hTr 1 (by omega)).1
   have Z1:=(hTr 1 (by omega)).2
   obtain ⟨t2,T2⟩:=isx (hTr 2 (by omega)).1
   have Z2:=(hTr 2 (by omega)).2
   obtain ⟨t3,T3⟩:=isx (hTr 3 (by omega)).1
   have Z3:=(hTr 3 (by omega)).2
   clear hTr
   have GR:Hid (w.grownBy _ (some g)):=hGr
   clear hGr
   go_wp2
   refine bodyPost_ret (v:=.tuple #[.agg #[.int .i64 0,.int .i64 0,.int .i64 0,.bool false],.bool false]) (by simp [results,Tryz.results217,go_sem,T0,T1,T2,T3,Z0,Z1,Z2,Z3]) rfl ?_
   exact .inr ⟨HN.out,⟨0,0,0,false⟩,rfl,yw_ GR.out (Nat.le_succ _)⟩
  have hs2:0 < s'.size:=by omega
  have HH:Hid (rest=(s'[0]'hs2) :: bl (s'.extract 1 s'.size)):=by show _=_; rw [← HBL.out]; exact tG_ hs2
  by_cases h33:(s'[0]'hs2).toNat=33
  ·have HY:Hid (sibR (bl s)=some (⟨p,n,0,true⟩,bl (s'.extract 1 s'.size))):=by
    show _=_
    have e33:(s'[0]'hs2)=33:=UInt8.toNat_inj.1 (by simpa using h33)
    rw [HD.out,HH.out,e33,wI_]
    rfl
   go_wp2_with fail
   refine (yS_ g s' 33 _ L2.out.1 L2.out.2 hs2 h33).mono ?_
   rintro e w4 ⟨rfl,hw4⟩
   have G4:w3.grownBy w4 (some g):=by rw [hw4]; exact wa_ _ _ _ _
   have L4:Hid (Left w4 g (s'.extract 1 s'.size)):=by rw [hw4]; exact wY_ L2.out
   replace RX:Hid (RBX w w4 g):=RX.out.grown HG.out G4
   replace D0:=zl_ G4 D0 (fun e=>GD.out e.symm)
   replace D1:=zl_ G4 D1 (fun e=>GD.out e.symm)
   clear hw4 G4 L2 c0 c1 c2 HD HBL HH
   obtain ⟨_,hTr,_,hGr⟩:=RX.out
   obtain ⟨t0,T0⟩:=isx (hTr 0 (by omega)).1
   have Z0:=(hTr 0 (by omega)).2
   obtain ⟨t1,T1⟩:=isx (hTr 1 (by omega)).1
   have Z1:=(hTr 1 (by omega)).2
   obtain ⟨t2,T2⟩:=isx (hTr 2 (by omega)).1
   have Z2:=(hTr 2 (by omega)).2
   obtain ⟨t3,T3⟩:=isx (hTr 3 (by omega)).1
   have Z3:=(hTr 3 (by omega)).2
   clear hTr
   have GR:Hid (w.grownBy _ (some g)):=hGr
   clear hGr
   go_wp2
   refine bodyPost_ret (v:=.tuple #[.agg #[.int .i64 p,.int .i64 n,.int .i64 0,.bool true],.bool true]) (by simp [results,Tryz.results217,go_sem,T0,T1,T2,T3,Z0,Z1,Z2,Z3]) rfl ?_
   exact .inl ⟨⟨p,n,0,true⟩,_,HY.out,rfl,_,x4_ L4.out (by have:=HG.out; omega),rfl,yw_ GR.out (Nat.le_succ _)⟩
  by_cases h61:(s'[0]'hs2).toNat=61
  ·obtain ⟨s3,hs3⟩:∃ s3,s3=s'.extract 1 s'.size:=⟨_,rfl⟩
   have HS3:=hm_ hs3
   obtain ⟨⟨v,k⟩,hvk⟩:∃ r,r=ld 999 (bl s3):=⟨_,rfl⟩
   have HK:=hm_ hvk.symm
   have HV:Hid (sibR (bl s)=if 0 < k then some (⟨p,n,v,false⟩,(bl s3).drop k) else none):=by
    show _=_
    have e61:(s'[0]'hs2)=61:=UInt8.toNat_inj.1 (by simpa using h61)
    rw [HD.out,HH.out,e61,wH_,← hs3,HK.out]
    by_cases hk:0 < k
    ·rw [if_pos hk,if_pos hk]; rfl
    ·rw [if_neg hk,if_neg hk]; rfl
   have hsz3:s3.size≤1048576:=by rw [hs3]; simp; omega
   clear hs3 hvk
   go_wp2_with fail
   refine (yb_ g s' 33 _ L2.out.1 hs2 h33).mono ?_
   rintro e w4 ⟨rfl,rfl⟩
   go_wp2_with fail
   refine (yS_ g s' 61 _ L2.out.1 L2.out.2 hs2 h61).mono ?_
   rintro e w5 ⟨rfl,hw5⟩
   have G5:w4.grownBy w5 (some g):=by rw [hw5]; exact wa_ _ _ _ _
   have L5:Hid (Left w5 g s3):=by rw [hw5,HS3.out]; exact wY_ L2.out
   replace RX:Hid (RBX w w5 g):=RX.out.grown HG.out G5
   replace D0:=zl_ G5 D0 (fun e=>GD.out e.symm)
   replace D1:=zl_ G5 D1 (fun e=>GD.out e.symm)
   have G5z:Hid (g < w5.heap.size):=Nat.lt_of_lt_of_le G3z.out G5.size
   clear hw5 G5 L2 c0 c1 c2 HD HBL HH HS3
   obtain ⟨⟨c0,c1,c2⟩,_,_,_⟩:=RX.out
   go_wp2_with fail
   refine (yr_ g s3 999 v k HK _ L5.out G5z.out (by omega) (by omega) hsz3).mono ?_
   rintro e w6 ⟨rfl,hL6,G6⟩
   have L6:=hm_ hL6
   replace RX:Hid (RBX w w6 g):=RX.out.grown HG.out G6
   replace D0:=zl_ G6 D0 (fun e=>GD.out e.symm)
   replace D1:=zl_ G6 D1 (fun e=>GD.out e.symm)
   have HKL:Hid (k≤s3.size):=vf_ HK (by omega)
   clear G6 hL6 c0 c1 c2 L5
   by_cases hk:0 < k
   ·have HY:Hid (sibR (bl s)=some (⟨p,n,v,false⟩,bl (s3.extract k s3.size))):=by show _=_; rw [HV.out,if_pos hk,xc_ s3 k HKL.out]
    have dk:decide (0 < k)=true:=decide_eq_true hk
    rw [dk]
    clear dk hk HV
    obtain ⟨_,hTr,_,hGr⟩:=RX.out
    obtain ⟨t0,T0⟩:=isx (hTr 0 (by omega)).1
    have Z0:=(hTr 0 (by omega)).2
    obtain ⟨t1,T1⟩:=isx (hTr 1 (by omega)).1
    have Z1:=(hTr 1 (by omega)).2
    obtain ⟨t2,T2⟩:=isx (hTr 2 (by omega)).1
    have Z2:=(hTr 2 (by omega)).2
    obtain ⟨t3,T3⟩:=isx (hTr 3 (by omega)).1
    have Z3:=(hTr 3 (by omega)).2
    clear hTr
    have GR:Hid (w.grownBy _ (some g)):=hGr
    clear hGr
    go_wp2
    refine bodyPost_ret (v:=.tuple #[.agg #[.int .i64 p,.int .i64 n,.int .i64 v,.bool false],.bool true]) (by simp [results,Tryz.results217,go_sem,T0,T1,T2,T3,Z0,Z1,Z2,Z3]) rfl ?_
    exact .inl ⟨⟨p,n,v,false⟩,_,HY.out,rfl,_,x4_ L6.out (by have:=HG.out; omega),rfl,yw_ GR.out (Nat.le_succ _)⟩
   ·have HN:Hid (sibR (bl s)=none):=by show _=_; rw [HV.out,if_neg hk]
    have dk:decide (0 < k)=false:=decide_eq_false hk
    rw [dk]
    clear dk hk HV
    obtain ⟨_,hTr,_,hGr⟩:=RX.out
    obtain ⟨t0,T0⟩:=isx (hTr 0 (by omega)).1
    have Z0:=(hTr 0 (by omega)).2
    obtain ⟨t1,T1⟩:=isx (hTr 1 (by omega)).1
    have Z1:=(hTr 1 (by omega)).2
    obtain ⟨t2,T2⟩:=isx (hTr 2 (by omega)).1
    have Z2:=(hTr 2 (by omega)).2
    obtain ⟨t3,T3⟩:=isx (hTr 3 (by omega)).1
    have Z3:=(hTr 3 (by omega)).2
    clear hTr
    have GR:Hid (w.grownBy _ (some g)):=hGr
    clear hGr
    go_wp2
    refine bodyPost_ret (v:=.tuple #[.agg #[.int .i64 p,.int .i64 n,.int .i64 v,.bool false],.bool false]) (by simp [results,Tryz.results217,go_sem,T0,T1,T2,T3,Z0,Z1,Z2,Z3]) rfl ?_
    exact .inr ⟨HN.out,⟨p,n,v,false⟩,rfl,yw_ GR.out (Nat.le_succ _)⟩
  ·have HN:Hid (sibR (bl s)=none):=by show _=_; rw [HD.out,HH.out,rs_ h33 h61]; rfl
   go_wp2_with fail
   refine (yb_ g s' 33 _ L2.out.1 hs2 h33).mono ?_
   rintro e w4 ⟨rfl,rfl⟩
   go_wp2_with fail
   refine (yb_ g s' 61 _ L2.out.1 hs2 h61).mono ?_
   rintro e w5 ⟨rfl,rfl⟩
   clear c0 c1 c2 D0 D1
   obtain ⟨_,hTr,_,hGr⟩:=RX.out
   obtain ⟨t0,T0⟩:=isx (hTr 0 (by omega)).1
   have Z0:=(hTr 0 (by omega)).2
   obtain ⟨t1,T1⟩:=isx (hTr 1 (by omega)).1
   have Z1:=(hTr 1 (by omega)).2
   obtain ⟨t2,T2⟩:=isx (hTr 2 (by omega)).1
   have Z2:=(hTr 2 (by omega)).2
   obtain ⟨t3,T3⟩:=isx (hTr 3 (by omega)).1
   have Z3:=(hTr 3 (by omega)).2
   clear hTr
   have GR:Hid (w.grownBy _ (some g)):=hGr
   clear hGr
   go_wp2
   refine bodyPost_ret (v:=.tuple #[.agg #[.int .i64 0,.int .i64 0,.int .i64 0,.bool false],.bool false]) (by simp [results,Tryz.results217,go_sem,T0,T1,T2,T3,Z0,Z1,Z2,Z3]) rfl ?_
   exact .inr ⟨HN.out,⟨0,0,0,false⟩,rfl,yw_ GR.out (Nat.le_succ _)⟩
 ·have HN:Hid (sibR (bl s)=none):=by show _=_; rw [tG_ hs0,sibR,if_neg h124]
  go_enter Tryz.func217,Tryz.ntmps217
  go_wp2_with fail
  generalize ((w.alloc (.cells #[.func (.func 219) #[] #[.pointer (some ⟨g,0,none⟩)],.func (.func 220) #[] #[.pointer (some ⟨g,0,none⟩)],.func (.func 222) #[] #[.pointer (some ⟨g,0,none⟩)]] 194)).alloc (.cells #[.int .i64 0,.int .i64 0,.int .i64 0,.bool false] 89))=W0 at *
  refine (yb_ g s 124 _ LX.out.1 hs0 h124).mono ?_
  rintro e w1 ⟨rfl,rfl⟩
  obtain ⟨_,hTr,_,hGr⟩:=RX.out
  obtain ⟨t0,T0⟩:=isx (hTr 0 (by omega)).1
  have Z0:=(hTr 0 (by omega)).2
  obtain ⟨t1,T1⟩:=isx (hTr 1 (by omega)).1
  have Z1:=(hTr 1 (by omega)).2
  obtain ⟨t2,T2⟩:=isx (hTr 2 (by omega)).1
  have Z2:=(hTr 2 (by omega)).2
  obtain ⟨t3,T3⟩:=isx (hTr 3 (by omega)).1
  have Z3:=(hTr 3 (by omega)).2
  clear hTr
  have GR:Hid (w.grownBy _ (some g)):=hGr
  clear hGr
  go_wp2
  refine bodyPost_ret (v:=.tuple #[.agg #[.int .i64 0,.int .i64 0,.int .i64 0,.bool false],.bool false]) (by simp [results,Tryz.results217,go_sem,T0,T1,T2,T3,Z0,Z1,Z2,Z3]) rfl ?_
  exact .inr ⟨HN.out,⟨0,0,0,false⟩,rfl,yw_ GR.out (Nat.le_succ _)⟩
end Go.Proofs.YtiokjphefpicbaaGreatDoor
