/- Nodes and their buckets, part 34 of the law FnDigest. -/
import Derived.Test.YtiokjphefpicbaaGreatDoorM33
namespace Go.Proofs.YtiokjphefpicbaaGreatDoor
open Go.RowKit
set_option maxRecDepth 100000
set_option maxHeartbeats 16000000
set_option linter.unusedSimpArgs false
set_option linter.unusedVariables false
variable {W W' w:World} {ao:Option Addr} {b cap g i off q:Nat} {o:No} {u:Value} {vs:List Value} {zs:List Int}
section
variable {w W:World} {g q:Nat} {ao:Option Addr} {len cap:Nat} {zs:List Int} {k:Int} {V:Int→Int→Int × Bool} {m:Nat→Int} {o:Nat→No} {rs:Nat→List (Bool × Cl)}
theorem wf_ (h:QN w W g q ao len cap zs k V m o rs) (n:Int) (h2:2≤n) (h256:n≤256) (hn:∀ x,ao=some x→0 < cap→x.block≠g) (hl:(len:Int)≤1048576) (hk0:0≤k) (hk:k≤1000000000) :
  Calls Tryz.prog 80 #[.pointer (some ⟨g,0,none⟩),.int .i64 n] W fun e w'=>∃ i:Int,(0≤i∧i < n)∧e=.returned (.int .i64 i)∧QN w w' g q ao len cap zs (k+1) V m o rs∧W.grownBy w' (some g):=by
 obtain ⟨s,hs⟩:=h.src
 refine (vX_ g len cap ao zs k s n h2 h256 W hs h.row hn hl hk0 hk).mono ?_
 rintro e w' ⟨i,t,hi,rfl,hS,hG⟩
 exact ⟨i,hi,rfl,h.by ⟨t,hS⟩ (xv_ h.row hn hG) hG,hG⟩
theorem uC_ (h:QN w W g q ao len cap zs k V m o rs) (n:Int) (h2:2≤n) (h256:n≤256) (hn:∀ x,ao=some x→0 < cap→x.block≠g) (hl:(len:Int)≤1048576) (hk0:0≤k) (hk:k≤1000000000) :
  Calls Tryz.prog 81 #[.pointer (some ⟨g,0,none⟩),.int .i64 n] W fun e w'=>∃ b:Bool,e=.returned (.bool b)∧QN w w' g q ao len cap zs (k+1) V m o rs∧W.grownBy w' (some g):=by
 obtain ⟨s,hs⟩:=h.src
 refine (rm_ g len cap ao zs k s n h2 h256 W hs h.row hn hl hk0 hk).mono ?_
 rintro e w' ⟨b,t,rfl,hS,hG⟩
 exact ⟨b,rfl,h.by ⟨t,hS⟩ (xv_ h.row hn hG) hG,hG⟩
theorem p0_ (h:QN w W g q ao len cap zs k V m o rs) (hn:∀ x,ao=some x→0 < cap→x.block≠g) (hl:(len:Int)≤1048576) (hk0:0≤k) (hk:k≤1000000000) :
  Calls Tryz.prog 36 #[.pointer (some ⟨g,0,none⟩)] W fun e w'=>∃ kk:ByteArray,(keyP kk∧kk.size≤6)∧e=.returned (.string kk)∧QN w w' g q ao len cap zs (k+1) V m o rs:=by
 obtain ⟨s,hs⟩:=h.src
 refine (oJ_ g len cap ao zs k s W hs h.row hn hl hk0 hk).mono ?_
 rintro e w' ⟨i,t,rfl,hS,hG⟩
 exact ⟨_,qA_ i,rfl,h.by ⟨t,hS⟩ (xv_ h.row hn hG) hG⟩
end
theorem Box.grown (h:Box W b vs) (hG:W.grownBy W' (some g)) (hne:b≠g):Box W' b vs:=⟨fun j hj=>⟨zl_ hG (h.is j hj).1 hne,ws_ hG (h.is j hj).2 h.lt hne⟩,Nat.lt_of_lt_of_le h.lt hG.size⟩
theorem nO_ (hb:Below w.heap.size w W):w.grownBy W (some g):=⟨hb.os,hb.tape,hb.output,hb.size,fun b h' _=>hb.block b h'⟩
theorem pH_ (v:Value) (a b c:Int) (w:World):(Instr.field 37 (.agg #[v,.int .i64 a,.int .i64 b,.int .i64 c]) 1).run Tryz.prog w=.ok (.agg #[.int .i64 a,.int .i64 b,.int .i64 c]) w:=by kernel_rfl
theorem NdAt.oth (h:NdAt W q off o) (hne:q≠b):NdAt (W.setCell ⟨b,i,none⟩ u) q off o:=⟨zf_ h.1 hne,zf_ h.2.1 hne,zf_ h.2.2.1 hne,zf_ h.2.2.2.1 hne,zf_ h.2.2.2.2.1 hne,zf_ h.2.2.2.2.2.1 hne,zf_ h.2.2.2.2.2.2 hne⟩
theorem QN.far {len:Nat} {k:Int} {V:Int→Int→Int × Bool} {m:Nat→Int} {o:Nat→No} {rs:Nat→List (Bool × Cl)} (h:QN w W g q ao len cap zs k V m o rs) (hb:q < b) (hx:∀ j,j < 3→NoX (o j) b) (hold:∀ x,ao=some x→0 < cap→x.block < w.heap.size):QN w (W.setCell ⟨b,i,none⟩ u) g q ao len cap zs k V m o rs:=by
 obtain ⟨s,hs⟩:=h.src
 have hl:=h.lt
 exact ⟨⟨s,hs.set (by omega)⟩,xv_ h.row (fun y hy hc=>by have:=hold y hy hc; omega) (ym_ W b i u),fun j hj=>(h.nd j hj).oth (by omega),h.th.set,fun j hj=>(h.nor j hj).oth (hx j hj),h.inv,⟨hl.1,by simpa [World.setCell] using hl.2.1,hl.2.2⟩,yE_ h.grown (ym_ W b i u) (fun y hy=>.inl (by cases hy; omega))⟩
theorem xp_ (h:Below w.heap.size w W) (hg:w.heap.size≤g):Below w.heap.size w (W.setCell ⟨g,i,none⟩ u):=zH_ h hg
theorem yc_ {g11 kk:Nat} {o:Nat→No} {X Y Z:Int} (h:NdAt W q (kk * 7) (o kk)) (hc:Box W g11 [.int .i64 X,.int .i64 Y,.int .i64 Z]):W.cell? ⟨q,kk * 7,none⟩=some (.int .i64 (o kk).x.id)∧W.cell? ⟨q,kk * 7+1,none⟩=some (.int .i64 (o kk).x.n)∧W.cell? ⟨q,kk * 7+2,none⟩=some (.int .i64 (o kk).x.cut)∧W.cell? ⟨q,kk * 7+3,none⟩=some (.slice (o kk).p0 (o kk).ms.length (o kk).c0)∧W.cell? ⟨q,kk * 7+4,none⟩=some (.slice (o kk).p1 (o kk).x.fd.length (o kk).c1)∧W.cell? ⟨q,kk * 7+5,none⟩=some (.slice (o kk).p2 (o kk).su.length (o kk).c2)∧W.cell? ⟨q,kk * 7+6,none⟩=some (.slice (o kk).p3 (o kk).un.length (o kk).c3)∧W.cell? ⟨g11,0,none⟩=some (.int .i64 X)∧W.cell? ⟨g11,1,none⟩=some (.int .i64 Y)∧W.cell? ⟨g11,2,none⟩=some (.int .i64 Z):=by
 obtain ⟨b0,b1,b2,b3,b4,b5,b6⟩:=h
 obtain ⟨c0,c1,c2⟩:=hc.c3
 exact ⟨b0,b1,b2,b3,b4,b5,b6,c0,c1,c2⟩
def NsP (w:World) (g:Nat) (ao:Option Addr) (len cap:Nat) (zs:List Int) (e:Ending) (w':World):Prop:=
 ∃ (q:Nat) (k:Int) (V:Int→Int→Int × Bool) (m:Nat→Int) (o:Nat→No) (rs:Nat→List (Bool × Cl)),e=.returned (.slice (some ⟨q,0,none⟩) 3 3)∧QN w w' g q ao len cap zs k V m o rs∧(0≤k∧k≤1000)∧∀ j,j < 3→0≤m j∧(rs j).length≤20∧m j≤20
def o3 (a b c:No):Nat→No:=fun j=>if j=0 then a else if j=1 then b else c
theorem vU_ (j:Nat) (u:No) (V:Int→Int→Int × Bool) (hx:u.x=newN j) (hs:u.su=[]) (hu:u.un=[]):z1_ V (fun _=>0) j u.x u.su u.un []:=⟨by rw [hx]; rfl,oS_ _,by rw [hs,hu]; rfl,by rw [hx]; rfl,fun c hc=>by rw [hx] at hc; cases hc⟩
theorem r8_ (g len cap:Nat) (ao:Option Addr) (zs:List Int) (s:Int) (w:World) (h:yo_ w g ao len cap 0 s) (hr:Gen.IsRow .u8 w ao len cap zs) (hn:∀ x,ao=some x→0 < cap→x.block≠g) (hold:∀ x,ao=some x→0 < cap→x.block < w.heap.size) (hl:(len:Int)≤1048576) :
  Calls Tryz.prog 65 #[.pointer (some ⟨g,0,none⟩)] w fun e w'=>NsP w g ao len cap zs e w':=by
 have HN:=hm_ hn
 have HOLD:=hm_ hold
 have HS:=hm_ h
 have HR:=hm_ hr
 clear h hr hn hold
 go_enter Tryz.func65,Tryz.ntmps65
 go_wp2_with fail
 refine Calls.mono (wy_ 0 _ 0) ?_
 rintro e w1 ⟨u0,rfl,hN0,hx0,hs0,hu0,hb0⟩
 have U0:Hid (NoR 0 w1 u0∧u0.x=newN 0∧u0.su=[]∧u0.un=[]):=⟨hN0,hx0,hs0,hu0⟩
 have B1:=hm_ hb0
 clear hN0 hx0 hs0 hu0 hb0
 go_wp2_with fail
 refine Calls.mono (wy_ 1 _ 0) ?_
 rintro e w2 ⟨u1,rfl,hN0,hx0,hs0,hu0,hb0⟩
 have U1:Hid (NoR 0 w2 u1∧u1.x=newN 1∧u1.su=[]∧u1.un=[]):=⟨hN0,hx0,hs0,hu0⟩
 replace B1:=ze_ B1 hb0
 clear hN0 hx0 hs0 hu0 hb0
 go_wp2_with fail
 refine Calls.mono (wy_ 2 _ 0) ?_
 rintro e w3 ⟨u2,rfl,hN0,hx0,hs0,hu0,hb0⟩
 have U2:Hid (NoR 0 w3 u2∧u2.x=newN 2∧u2.su=[]∧u2.un=[]):=⟨hN0,hx0,hs0,hu0⟩
 replace B1:=ze_ B1 hb0
 clear hN0 hx0 hs0 hu0 hb0
 go_upto_region 2 with fail
 refine zQ_ (fun W=>QN w W g w3.heap.size ao len cap zs 0 (fun _ _=>(0,false)) (fun _=>0) (o3 u0 u1 u2) (fun _=>[])) ?_ (fun W0 hI=>?_)
 ·refine ⟨⟨s,(HS.out.below B1.out).alloc⟩,yF_ (yF_ HR.out B1.out) (zb_ _ _),fun j hj=>?_,fun j hj=>?_,fun j hj=>?_,fun j hj=>?_,⟨Nat.lt_of_lt_of_le HS.out.2.2.2.2.2.1 B1.out.size,by simp,B1.out.size⟩,?_⟩
  ·have h3:j=0∨j=1∨j=2:=by omega
   rcases h3 with rfl | rfl | rfl <;> (refine ⟨?_,?_,?_,?_,?_,?_,?_⟩ <;> (simp only [o3]; go_simp))
  ·have h3:j=0∨j=1∨j=2∨j=3∨j=4∨j=5∨j=6∨j=7∨j=8∨j=9∨j=10∨j=11∨j=12∨j=13∨j=14∨j=15∨j=16∨j=17∨j=18∨j=19∨j=20:=by omega
   rcases h3 with rfl | rfl | rfl | rfl | rfl | rfl | rfl | rfl | rfl | rfl | rfl | rfl | rfl | rfl | rfl | rfl | rfl | rfl | rfl | rfl | rfl <;> exact ⟨by go_simp,by go_simp⟩
  ·have h3:j=0∨j=1∨j=2:=by omega
   rcases h3 with rfl | rfl | rfl
   ·exact vT_ U0.out.1 U0.out.2.1 U0.out.2.2.1 U0.out.2.2.2
   ·exact vT_ U1.out.1 U1.out.2.1 U1.out.2.2.1 U1.out.2.2.2
   ·exact vT_ U2.out.1 U2.out.2.1 U2.out.2.2.1 U2.out.2.2.2
  ·have h3:j=0∨j=1∨j=2:=by omega
   rcases h3 with rfl | rfl | rfl
   ·exact vU_ 0 u0 _ U0.out.2.1 U0.out.2.2.1 U0.out.2.2.2
   ·exact vU_ 1 u1 _ U1.out.2.1 U1.out.2.2.1 U1.out.2.2.2
   ·exact vU_ 2 u2 _ U2.out.2.1 U2.out.2.2.1 U2.out.2.2.2
  ·exact nO_ (B1.out.trans ((zb_ _ _).mono B1.out.size))
 generalize w3.heap.size=q at *
 have QA:Hid _:=hI
 clear hI U0 U1 U2 B1 HS HR
 obtain ⟨sa,hsa⟩:=QA.out.src
 go_wp2_with fail
 refine Calls.mono (pb_ g len cap ao 0 sa 16 (by omega) (by omega) _ hsa hl) ?_
 rintro e w4 ⟨n0,hn0,rfl,hb4⟩
 have QB:Hid (QN w w4 g q ao len cap zs 0 (fun _ _=>(0,false)) (fun _=>0) (o3 u0 u1 u2) (fun _=>[])):=QA.out.below hb4
 have q0:IntKind.i64.wrap (n0+5)=n0+5:=by rw [IntKind.wrap_i64]; omega
 clear QA hb4 hsa
 go_wp2_with fail
 refine Calls.mono (wf_ QB.out (n0+5) (by omega) (by omega) HN.out hl (by omega) (by omega)) ?_
 rintro e w5 ⟨n1,hn1,rfl,hq5,_⟩
 have QC:Hid _:=hq5
 obtain ⟨i0,rfl⟩:∃ i0:Nat,n1=(i0:Int):=⟨n1.toNat,by omega⟩
 clear hq5 QB q0
 go_wp2
 go_loopw [4] (fun s4 wr=>∃ (i:Nat) (k:Int) (V:Int→Int→Int × Bool) (m:Nat→Int) (o:Nat→No) (rs:Nat→List (Bool × Cl)),s4=.int .i64 i∧(∀ j,j < 3→0≤m j∧(rs j).length+i≤20∧m j+i≤20)∧(0≤k∧k≤900 - 10 * (i:Int))∧QN w wr g q ao len cap zs k V m o rs) (fun s4 _=>(intOf s4).toNat)
 case atStart=>exact ⟨i0,0+1,_,_,_,_,rfl,fun j hj=>by simp; omega,by omega,QC.out⟩
 case round=>
  obtain ⟨i,k,V,m,o,rs,rfl,hbnd,hk,hq⟩:=hrel
  have BN:=hm_ hbnd
  have Q0:=hm_ hq
  clear hbnd hq QC
  cases i with
  | zero=>
   have hi':¬ (0:Int) < ((0:Nat):Int):=by omega
   go_wp2
   go_ret
   exact ⟨q,k,V,m,o,rs,by first | rfl | simp,Q0.out,by omega,fun j hj=>by have:=BN.out j hj; omega⟩
  | succ i=>
   have hi':(0:Int) < ((i+1:Nat):Int):=by omega
   have hi2:IntKind.i64.wrap (((i+1:Nat):Int) - 1)=(i:Int):=by rw [IntKind.wrap_i64]; omega
   go_wp2_with fail
   refine Calls.mono (wf_ Q0.out 3 (by omega) (by omega) HN.out hl (by omega) (by omega)) ?_
   rintro e x1 ⟨n2,hn2,rfl,hq1,_⟩
   have Q1:Hid _:=hq1
   obtain ⟨kk,rfl⟩:∃ kk:Nat,n2=(kk:Int):=⟨n2.toNat,by omega⟩
   have hkk:kk < 3:=by omega
   have hkk':(kk:Int) < 3:=by omega
   have hkk0:(0:Int)≤(kk:Int):=by omega
   clear hq1 Q0
   go_wp2_with fail
   refine Calls.mono (wf_ Q1.out 6 (by omega) (by omega) HN.out hl (by omega) (by omega)) ?_
   rintro e x2 ⟨sw,hsw,rfl,hq2,_⟩
   have Q2:Hid _:=hq2
   clear hq2 Q1
   by_cases e2:sw=2
   ·have E0:(sw == 0)=false:=by simp [e2]
    have E1:(sw == 1)=false:=by simp [e2]
    have E2:(sw == 2)=true:=by simp [e2]
    have c0:¬ sw=0:=by omega
    have c1:¬ sw=1:=by omega
    obtain ⟨y0,y1,y2,y3,y4,y5,y6⟩:=Q2.out.nd kk hkk
    have NR:=Q2.out.nor kk hkk
    have IV:=Q2.out.inv kk hkk
    have CS:Hid _:=rw_ (q+1) (o kk) x2 (by have:=Q2.out.lt; omega) (by have:=IV.len; have:=BN.out kk hkk; omega) NR
    clear NR IV
    go_wp2_with fail
    refine Calls.mono CS.out ?_
    rintro e x3 ⟨u,rfl,hN3,hx3,hs3,hu3,hb3⟩
    have Q3:Hid _:=Q2.out.below hb3
    have HU:Hid (NoR (q+1) x3 u∧u.x=(o kk).x∧u.su=(o kk).su++(o kk).un∧u.un=[]):=⟨hN3,hx3,hs3,hu3⟩
    clear hN3 hx3 hs3 hu3 hb3 Q2 CS y0 y1 y2 y3 y4 y5 y6
    obtain ⟨t0,T0⟩:=isx (Q3.out.th (kk * 7) (by omega)).1
    have f0:=(Q3.out.th (kk * 7) (by omega)).2
    obtain ⟨t1,T1⟩:=isx (Q3.out.th (kk * 7+1) (by omega)).1
    have f1:=(Q3.out.th (kk * 7+1) (by omega)).2
    obtain ⟨t2,T2⟩:=isx (Q3.out.th (kk * 7+2) (by omega)).1
    have f2:=(Q3.out.th (kk * 7+2) (by omega)).2
    obtain ⟨t3,T3⟩:=isx (Q3.out.th (kk * 7+3) (by omega)).1
    have f3:=(Q3.out.th (kk * 7+3) (by omega)).2
    obtain ⟨t4,T4⟩:=isx (Q3.out.th (kk * 7+4) (by omega)).1
    have f4:=(Q3.out.th (kk * 7+4) (by omega)).2
    obtain ⟨t5,T5⟩:=isx (Q3.out.th (kk * 7+5) (by omega)).1
    have f5:=(Q3.out.th (kk * 7+5) (by omega)).2
    obtain ⟨t6,T6⟩:=isx (Q3.out.th (kk * 7+6) (by omega)).1
    have f6:=(Q3.out.th (kk * 7+6) (by omega)).2
    go_wp2
    go_roundw
    case rel=>
     refine ⟨i,k+1+1,V,m,updo o kk u,rs,by go_num,fun j hj=>by have:=BN.out j hj; omega,by omega,?_⟩
     refine Q3.out.store hkk HOLD.out HU.out.1 (fun j hj=>?_)
     by_cases e:j=kk
     ·subst e
      rw [xr_,HU.out.2.1,HU.out.2.2.1,HU.out.2.2.2]
      exact (Q3.out.inv j hj).sync
     ·rw [yY_ o u e]
      exact Q3.out.inv j hj
    case measure=>simp [intOf]
   ·by_cases e3:sw < 2
    ·skip
     have hj01:sw=0∨sw=1:=by omega
     clear e2 e3 hsw
     rcases hj01 with rfl | rfl
     all_goals
      go_wp2_with fail
      refine Calls.mono (p0_ Q2.out HN.out hl (by omega) (by omega)) ?_
      rintro e WS ⟨key,hkey,rfl,hq3⟩
      have Q3:Hid _:=hq3
      have HKP:Hid (keyP key):=hkey.1
      have hks:key.size≤6:=hkey.2
      clear hq3 hkey Q2
      have ML:Hid (∀ j,j < 3→(o j).ms.length≤20):=fun j hj=>by have h1:=congrArg List.length (Q3.out.nor j hj).cs; have h2:=BN.out j hj; have h3:=(Q3.out.inv j hj).len; simp at h1; omega
      have HM:Hid (∀ j,j < 3→0≤m j∧m j≤24):=fun j hj=>by have:=BN.out j hj; omega
      have CJ:Hid (∀ W' k2 p2 q2,k2 < 3→QN w W' g q ao len cap zs (k+1+1+1+1) V m o rs→GRow (q+1) W' p2 (flat (atC key (o k2).x.cs).l)→(atC key (o k2).x.cs).l.length≤q2→Calls Tryz.prog 71 #[.agg #[.int .i64 (o kk).x.id,.int .i64 (o kk).x.n,.int .i64 (o kk).x.cut,.slice (o kk).p0 (o kk).ms.length (o kk).c0,.slice (o kk).p1 (o kk).x.fd.length (o kk).c1,.slice (o kk).p2 (o kk).su.length (o kk).c2,.slice (o kk).p3 (o kk).un.length (o kk).c3],.string key,.agg #[.slice p2 (atC key (o k2).x.cs).l.length q2,.int .i64 (atC key (o k2).x.cs).a,.int .i64 (atC key (o k2).x.cs).b,.int .i64 (atC key (o k2).x.cs).c]] W' fun e w'=>∃ (u:No) (b:Bool),e=.returned (.tuple #[nV u,.bool b,.int .i64 0])∧NoR (q+1) w' u∧(∀ c,c < W'.heap.size→NoX (o kk) c→NoX u c)∧(∃ r,z1_ V m kk u.x u.su u.un r∧r.length≤(rs kk).length+1)∧Below W'.heap.size W' w'):=fun W' k2 p2 q2 hk2 hQ hg hq2=>by
       obtain ⟨c,hc⟩:∃ c:Cl,c=atC key (o k2).x.cs:=⟨_,rfl⟩
       have hck:c.k=key:=by rw [hc]; exact nb_ _ _
       have IV:=hQ.inv kk hkk
       have hb:=BN.out kk hkk
       have hlen:=IV.len
       have hcr:RpC V m c:=by rw [hc]; exact (hQ.inv k2 hk2).had (fun j hj=>(HM.out j hj).1) key
       rw [← hc] at hg hq2 ⊢
       rw [← hck]
       have m0:=HM.out 0 (by omega)
       have m1:=HM.out 1 (by omega)
       have m2:=HM.out 2 (by omega)
       have hHr:=IV.had (fun j hj=>(HM.out j hj).1) c.k
       have hJr:RpC V m (jnC (atC c.k (o kk).x.cs) c):=Rp.join hHr hcr
       have hkp:keyP c.k:=by rw [hck]; exact HKP.out
       have hle:comp (jnC (atC c.k (o kk).x.cs) c).a (jnC (atC c.k (o kk).x.cs) c).b (jnC (atC c.k (o kk).x.cs) c).c (o kk).x.id≤(o kk).x.n:=by
        rw [IV.n,IV.id,← u1_ m kk hkk]
        exact z9_ hJr.le
       refine (qq_ (q+1) (o kk) c p2 q2 W' hQ.lt.2.1 (by have:=ML.out kk hkk; omega) (by omega) (by rw [IV.id]; omega) (Rp.okP24 hHr m0.2 m1.2 m2.2) (Rp.okP24 hcr m0.2 m1.2 m2.2) (Rp.okP24 hJr m0.2 m1.2 m2.2) hle (by rw [hck]; exact hks) (hQ.nor kk hkk) hg hq2).mono ?_
       rintro e w' (⟨_,rfl,hb'⟩ | ⟨hns,u,rfl,hN,hx,hs,hu,hX,hb'⟩)
       ·exact ⟨o kk,false,rfl,(hQ.nor kk hkk).next hb',fun _ _ h=>h,⟨rs kk,IV,by omega⟩,hb'⟩
       ·have hf:=IV.fol_join hkk HM.out (by omega) hkp hcr hns
        refine ⟨u,true,rfl,hN,hX,⟨rs kk++[(false,jnC (atC c.k (o kk).x.cs) c)],?_,by simp⟩,hb'⟩
        rw [hx,hs,hu]
        exact IV.join (fun j hj=>(HM.out j hj).1) hkp hcr hf
      go_upto_region 20 with fail
      go_cut [7,8,9] from 73 to 89 (fun s7 s8 s9 wc=>∃ (g7:Nat) (u:No),s7=.pointer (some ⟨g7,0,none⟩)∧QN w wc g q ao len cap zs (k+1+1+1+1) V m o rs∧Box wc g7 [.int .i64 u.x.id,.int .i64 u.x.n,.int .i64 u.x.cut,.slice u.p0 u.ms.length u.c0,.slice u.p1 u.x.fd.length u.c1,.slice u.p2 u.su.length u.c2,.slice u.p3 u.un.length u.c3]∧NoR (q+1) wc u∧∃ r,z1_ V m kk u.x u.su u.un r∧r.length≤(rs kk).length+1)
      case first=>
       refine wp_region_held_drew (S:=(fun w'=>∀ j,j < 3→NdAt w' q (j * 7) (o j))) (by kernel_rfl) ?_ (fun hH=>?_)
       ·(try dsimp only)
        exact (Q3.out.below (zc_ _)).nd
       have QC:Hid _:=Q3.out.below (zc_ WS)
       refine wTk 0 ?_
       refine wTk 1 ?_
       refine wTk 2 ?_
       refine wpAnyH_take (i:=3) (v:=?_) rfl (by kernel_rfl) (by kernel_rfl) (by kernel_rfl) (fun _ _ _ h=>h) (Or.inl ⟨by rfl,?_⟩) (by assumption) ?_
       rotate_left
       ·intro w' hSw
        (try dsimp only at hSw)
        obtain ⟨y0,y1,y2,y3,y4,y5,y6⟩:=hSw kk hkk
        go_simp
        all_goals (try with_reducible rfl)
       refine wLy ?_
       refine wTk 4 ?_
       refine wTk 5 ?_
       refine wTk 6 ?_
       refine wTk 10 ?_
       generalize WS.drew=wd at *
       refine wpAnyH_ready (rs:=[7,17]) (by kernel_rfl) (by simp) ?_
       refine AllReadyH.cons rfl (fun K hK=>?_) (AllReadyH.cons rfl (fun K hK=>?_) AllReadyH.nil)
       ·refine wLy ?_
        go_simp
        go_at_call 80
        refine (wf_ QC.out 3 (by omega) (by omega) HN.out hl (by omega) (by omega)).mono ?_
        rintro e z0 ⟨n3,hn3,rfl,hq4,hG4⟩
        (try simp only [])
        obtain ⟨k2,rfl⟩:∃ k2:Nat,n3=(k2:Int):=⟨n3.toNat,by omega⟩
        have hk2:k2 < 3:=by omega
        have hk2':(k2:Int) < 3:=by omega
        have hk20:(0:Int)≤(k2:Int):=by omega
        replace QC:=hm_ hq4
        clear hq4 hG4
        refine wHk hK (QC.out.nd) ?_
        clear hK K hH
        intro hH
        refine wTk 8 ?_
        refine wpAnyH_take (i:=9) (v:=?_) rfl (by kernel_rfl) (by kernel_rfl) (by kernel_rfl) (fun _ _ _ h=>h) (Or.inl ⟨by rfl,?_⟩) (by assumption) ?_
        rotate_left
        ·intro w' hSw
         (try dsimp only at hSw)
         obtain ⟨y0,y1,y2,y3,y4,y5,y6⟩:=hSw k2 hk2
         go_simp
         all_goals (try with_reducible rfl)
        refine wLy ?_
        refine wpAnyH_ready (rs:=[11,17]) (by kernel_rfl) (by simp) ?_
        refine AllReadyH.cons rfl (fun K hK=>?_) (AllReadyH.cons rfl (fun K hK=>?_) AllReadyH.nil)
        ·refine wLy ?_
         go_simp
         go_at_call 101
         refine (xG_ (q+1) (o k2) key _ (by have:=ML.out k2 hk2; omega) (QC.out.nor k2 hk2)).mono ?_
         rintro e z1 ⟨p2,q2,rfl,hg2,hq2,hb2⟩
         (try simp only [])
         have GC:Hid (GRow (q+1) z1 p2 (flat (atC key (o k2).x.cs).l)∧(atC key (o k2).x.cs).l.length≤q2):=⟨hg2,hq2⟩
         replace QC:Hid _:=QC.out.below hb2
         clear hg2 hq2 hb2
         refine wHk hK (QC.out.nd) ?_
         clear hK K hH
         intro hH
         refine wpAnyH_ready (rs:=[12,17]) (by kernel_rfl) (by simp) ?_
         refine AllReadyH.cons rfl (fun K hK=>?_) (AllReadyH.cons rfl (fun K hK=>?_) AllReadyH.nil)
         focus
          refine wLy ?_
          go_simp
          go_at_call 71
          refine (CJ.out _ k2 p2 q2 hk2 QC.out GC.out.1 GC.out.2).mono ?_
          rintro e z2 ⟨u,bb,rfl,hN,hX,hI,hb⟩
          (try simp only [])
          have HU:Hid (NoR (q+1) z2 u∧∃ r,z1_ V m kk u.x u.su u.un r∧r.length≤(rs kk).length+1):=⟨hN,hI⟩
          replace QC:Hid _:=QC.out.below hb
          clear hN hX hI hb
          refine wHk hK (QC.out.nd) ?_
          clear hK K hH
          intro hH
          refine wTk 13 ?_
          refine wTk 14 ?_
          refine wTk 15 ?_
          refine wTk 16 ?_
          refine wRd 17 (fun K hK=>?_)
          go_simp
          (try simp only [])
          have B7:Hid (Box (z2.alloc (.cells nZ.toArray 29)) z2.heap.size nZ):=zo_
          have G7:Hid (q < z2.heap.size):=QC.out.lt.2.1
          have NK7:Hid (∀ j,j < 3→NoX (o j) z2.heap.size):=fun j hj=>zT_ (QC.out.nor j hj) (Nat.le_refl _)
          have NX7:Hid (NoX u z2.heap.size):=zT_ HU.out.1 (Nat.le_refl _)
          replace HU:Hid (NoR (q+1) (z2.alloc (.cells nZ.toArray 29)) u∧∃ r,z1_ V m kk u.x u.su u.un r∧r.length≤(rs kk).length+1):=⟨HU.out.1.next (zb_ _ _),HU.out.2⟩
          replace QC:Hid _:=QC.out.below (zb_ z2 (.cells nZ.toArray 29))
          refine wHk hK (QC.out.nd) ?_
          clear hK K hH
          intro hH
          generalize z2.alloc (.cells nZ.toArray 29)=z3 at *
          generalize z2.heap.size=g7 at *
         rotate_left
         focus
          refine wLy ?_
          go_simp
          (try simp only [])
          have B7:Hid (Box (z1.alloc (.cells nZ.toArray 29)) z1.heap.size nZ):=zo_
          have G7:Hid (q < z1.heap.size):=QC.out.lt.2.1
          have NK7:Hid (∀ j,j < 3→NoX (o j) z1.heap.size):=fun j hj=>zT_ (QC.out.nor j hj) (Nat.le_refl _)
          replace GC:Hid (GRow (q+1) (z1.alloc (.cells nZ.toArray 29)) p2 (flat (atC key (o k2).x.cs).l)∧(atC key (o k2).x.cs).l.length≤q2):=⟨GC.out.1.next (zb_ _ _),GC.out.2⟩
          replace QC:Hid _:=QC.out.below (zb_ z1 (.cells nZ.toArray 29))
          refine wHk hK (QC.out.nd) ?_
          clear hK K hH
          intro hH
          generalize z1.alloc (.cells nZ.toArray 29)=z2 at *
          generalize z1.heap.size=g7 at *
          refine wRd 12 (fun K hK=>?_)
          go_simp
          go_at_call 71
          refine (CJ.out _ k2 p2 q2 hk2 QC.out GC.out.1 GC.out.2).mono ?_
          rintro e z3 ⟨u,bb,rfl,hN,hX,hI,hb⟩
          (try simp only [])
          have HU:Hid (NoR (q+1) z3 u∧∃ r,z1_ V m kk u.x u.su u.un r∧r.length≤(rs kk).length+1):=⟨hN,hI⟩
          have NX7:Hid (NoX u g7):=hX g7 B7.out.lt (NK7.out kk hkk)
          replace B7:Hid _:=B7.out.next hb
          replace QC:Hid _:=QC.out.below hb
          clear hN hX hI hb
          refine wHk hK (QC.out.nd) ?_
          clear hK K hH
          intro hH
          refine wTk 13 ?_
          refine wTk 14 ?_
          refine wTk 15 ?_
          refine wTk 16 ?_
         rotate_left
         all_goals
          obtain ⟨a0,a1,a2,a3,a4,a5,a6⟩:=B7.out.c7
          obtain ⟨f0,f1,f2,f3,f4,f5,f6⟩:=B7.out.f7
          have hq7:q < g7:=G7.out
          have QD:Hid (QN w (((((((z3.setCell ⟨g7,0,none⟩ (.int .i64 u.x.id)).setCell ⟨g7,1,none⟩ (.int .i64 u.x.n)).setCell ⟨g7,2,none⟩ (.int .i64 u.x.cut)).setCell ⟨g7,3,none⟩ (.slice u.p0 u.ms.length u.c0)).setCell ⟨g7,4,none⟩ (.slice u.p1 u.x.fd.length u.c1)).setCell ⟨g7,5,none⟩ (.slice u.p2 u.su.length u.c2)).setCell ⟨g7,6,none⟩ (.slice u.p3 u.un.length u.c3)) g q ao len cap zs (k+1+1+1+1) V m o rs):=(((((((QC.out.far hq7 NK7.out HOLD.out).far hq7 NK7.out HOLD.out).far hq7 NK7.out HOLD.out).far hq7 NK7.out HOLD.out).far hq7 NK7.out HOLD.out).far hq7 NK7.out HOLD.out).far hq7 NK7.out HOLD.out)
          refine wRd 18 (fun K hK=>?_)
          go_simp
          (try simp only [])
          refine wHk hK (QD.out.nd) ?_
          clear hK K hH
          intro hH
          refine wTk 19 ?_
          refine wTk 20 ?_
          refine wDn ?_
          clear hH a0 a1 a2 a3 a4 a5 a6 f0 f1 f2 f3 f4 f5 f6
          go_wp2_with fail
          go_meet
          case rel=>exact ⟨g7,u,rfl,QD.out,B7.out.s7,(((((((HU.out.1.oth NX7.out).oth NX7.out).oth NX7.out).oth NX7.out).oth NX7.out).oth NX7.out).oth NX7.out),HU.out.2⟩
        ·refine wLy ?_
         go_simp
         (try simp only [])
         have B7:Hid (Box (z0.alloc (.cells nZ.toArray 29)) z0.heap.size nZ):=zo_
         have G7:Hid (q < z0.heap.size):=QC.out.lt.2.1
         have NK7:Hid (∀ j,j < 3→NoX (o j) z0.heap.size):=fun j hj=>zT_ (QC.out.nor j hj) (Nat.le_refl _)
         replace QC:Hid _:=QC.out.below (zb_ z0 (.cells nZ.toArray 29))
         refine wHk hK (QC.out.nd) ?_
         clear hK K hH
         intro hH
         generalize z0.alloc (.cells nZ.toArray 29)=z1 at *
         generalize z0.heap.size=g7 at *
         refine wRd 11 (fun K hK=>?_)
         go_simp
         go_at_call 101
         refine (xG_ (q+1) (o k2) key _ (by have:=ML.out k2 hk2; omega) (QC.out.nor k2 hk2)).mono ?_
         rintro e z2 ⟨p2,q2,rfl,hg2,hq2,hb2⟩
         (try simp only [])
         have GC:Hid (GRow (q+1) z2 p2 (flat (atC key (o k2).x.cs).l)∧(atC key (o k2).x.cs).l.length≤q2):=⟨hg2,hq2⟩
         replace QC:Hid _:=QC.out.below hb2
         replace B7:Hid _:=B7.out.next hb2
         clear hg2 hq2 hb2
         refine wHk hK (QC.out.nd) ?_
         clear hK K hH
         intro hH
         refine wRd 12 (fun K hK=>?_)
         go_simp
         go_at_call 71
         refine (CJ.out _ k2 p2 q2 hk2 QC.out GC.out.1 GC.out.2).mono ?_
         rintro e z3 ⟨u,bb,rfl,hN,hX,hI,hb⟩
         (try simp only [])
         have HU:Hid (NoR (q+1) z3 u∧∃ r,z1_ V m kk u.x u.su u.un r∧r.length≤(rs kk).length+1):=⟨hN,hI⟩
         have NX7:Hid (NoX u g7):=hX g7 B7.out.lt (NK7.out kk hkk)
         replace B7:Hid _:=B7.out.next hb
         replace QC:Hid _:=QC.out.below hb
         clear hN hX hI hb
         refine wHk hK (QC.out.nd) ?_
         clear hK K hH
         intro hH
         refine wTk 13 ?_
         refine wTk 14 ?_
         refine wTk 15 ?_
         refine wTk 16 ?_
         obtain ⟨a0,a1,a2,a3,a4,a5,a6⟩:=B7.out.c7
         obtain ⟨f0,f1,f2,f3,f4,f5,f6⟩:=B7.out.f7
         have hq7:q < g7:=G7.out
         have QD:Hid (QN w (((((((z3.setCell ⟨g7,0,none⟩ (.int .i64 u.x.id)).setCell ⟨g7,1,none⟩ (.int .i64 u.x.n)).setCell ⟨g7,2,none⟩ (.int .i64 u.x.cut)).setCell ⟨g7,3,none⟩ (.slice u.p0 u.ms.length u.c0)).setCell ⟨g7,4,none⟩ (.slice u.p1 u.x.fd.length u.c1)).setCell ⟨g7,5,none⟩ (.slice u.p2 u.su.length u.c2)).setCell ⟨g7,6,none⟩ (.slice u.p3 u.un.length u.c3)) g q ao len cap zs (k+1+1+1+1) V m o rs):=(((((((QC.out.far hq7 NK7.out HOLD.out).far hq7 NK7.out HOLD.out).far hq7 NK7.out HOLD.out).far hq7 NK7.out HOLD.out).far hq7 NK7.out HOLD.out).far hq7 NK7.out HOLD.out).far hq7 NK7.out HOLD.out)
         refine wRd 18 (fun K hK=>?_)
         go_simp
         (try simp only [])
         refine wHk hK (QD.out.nd) ?_
         clear hK K hH
         intro hH
         refine wTk 19 ?_
         refine wTk 20 ?_
         refine wDn ?_
         clear hH a0 a1 a2 a3 a4 a5 a6 f0 f1 f2 f3 f4 f5 f6
         go_wp2_with fail
         go_meet
         case rel=>exact ⟨g7,u,rfl,QD.out,B7.out.s7,(((((((HU.out.1.oth NX7.out).oth NX7.out).oth NX7.out).oth NX7.out).oth NX7.out).oth NX7.out).oth NX7.out),HU.out.2⟩
       ·refine wLy ?_
        go_simp
        (try simp only [])
        have B7:Hid (Box (wd.alloc (.cells nZ.toArray 29)) wd.heap.size nZ):=zo_
        have G7:Hid (q < wd.heap.size):=QC.out.lt.2.1
        have NK7:Hid (∀ j,j < 3→NoX (o j) wd.heap.size):=fun j hj=>zT_ (QC.out.nor j hj) (Nat.le_refl _)
        replace QC:Hid _:=QC.out.below (zb_ wd (.cells nZ.toArray 29))
        refine wHk hK (QC.out.nd) ?_
        clear hK K hH
        intro hH
        generalize wd.alloc (.cells nZ.toArray 29)=z0 at *
        generalize wd.heap.size=g7 at *
        refine wRd 7 (fun K hK=>?_)
        go_simp
        go_at_call 80
        refine (wf_ QC.out 3 (by omega) (by omega) HN.out hl (by omega) (by omega)).mono ?_
        rintro e z1 ⟨n3,hn3,rfl,hq4,hG4⟩
        (try simp only [])
        obtain ⟨k2,rfl⟩:∃ k2:Nat,n3=(k2:Int):=⟨n3.toNat,by omega⟩
        have hk2:k2 < 3:=by omega
        have hk2':(k2:Int) < 3:=by omega
        have hk20:(0:Int)≤(k2:Int):=by omega
        replace QC:=hm_ hq4
        replace B7:Hid _:=B7.out.grown hG4 (by have:=QC.out.lt; have:=G7.out; omega)
        clear hq4 hG4
        refine wHk hK (QC.out.nd) ?_
        clear hK K hH
        intro hH
        refine wTk 8 ?_
        refine wpAnyH_take (i:=9) (v:=?_) rfl (by kernel_rfl) (by kernel_rfl) (by kernel_rfl) (fun _ _ _ h=>h) (Or.inl ⟨by rfl,?_⟩) (by assumption) ?_
        rotate_left
        ·intro w' hSw
         (try dsimp only at hSw)
         obtain ⟨y0,y1,y2,y3,y4,y5,y6⟩:=hSw k2 hk2
         go_simp
         all_goals (try with_reducible rfl)
        refine wLy ?_
        refine wRd 11 (fun K hK=>?_)
        go_simp
        go_at_call 101
        refine (xG_ (q+1) (o k2) key _ (by have:=ML.out k2 hk2; omega) (QC.out.nor k2 hk2)).mono ?_
        rintro e z2 ⟨p2,q2,rfl,hg2,hq2,hb2⟩
        (try simp only [])
        have GC:Hid (GRow (q+1) z2 p2 (flat (atC key (o k2).x.cs).l)∧(atC key (o k2).x.cs).l.length≤q2):=⟨hg2,hq2⟩
        replace QC:Hid _:=QC.out.below hb2
        replace B7:Hid _:=B7.out.next hb2
        clear hg2 hq2 hb2
        refine wHk hK (QC.out.nd) ?_
        clear hK K hH
        intro hH
        refine wRd 12 (fun K hK=>?_)
        go_simp
        go_at_call 71
        refine (CJ.out _ k2 p2 q2 hk2 QC.out GC.out.1 GC.out.2).mono ?_
        rintro e z3 ⟨u,bb,rfl,hN,hX,hI,hb⟩
        (try simp only [])
        have HU:Hid (NoR (q+1) z3 u∧∃ r,z1_ V m kk u.x u.su u.un r∧r.length≤(rs kk).length+1):=⟨hN,hI⟩
        have NX7:Hid (NoX u g7):=hX g7 B7.out.lt (NK7.out kk hkk)
        replace B7:Hid _:=B7.out.next hb
        replace QC:Hid _:=QC.out.below hb
        clear hN hX hI hb
        refine wHk hK (QC.out.nd) ?_
        clear hK K hH
        intro hH
        refine wTk 13 ?_
        refine wTk 14 ?_
        refine wTk 15 ?_
        refine wTk 16 ?_
        obtain ⟨a0,a1,a2,a3,a4,a5,a6⟩:=B7.out.c7
        obtain ⟨f0,f1,f2,f3,f4,f5,f6⟩:=B7.out.f7
        have hq7:q < g7:=G7.out
        have QD:Hid (QN w (((((((z3.setCell ⟨g7,0,none⟩ (.int .i64 u.x.id)).setCell ⟨g7,1,none⟩ (.int .i64 u.x.n)).setCell ⟨g7,2,none⟩ (.int .i64 u.x.cut)).setCell ⟨g7,3,none⟩ (.slice u.p0 u.ms.length u.c0)).setCell ⟨g7,4,none⟩ (.slice u.p1 u.x.fd.length u.c1)).setCell ⟨g7,5,none⟩ (.slice u.p2 u.su.length u.c2)).setCell ⟨g7,6,none⟩ (.slice u.p3 u.un.length u.c3)) g q ao len cap zs (k+1+1+1+1) V m o rs):=(((((((QC.out.far hq7 NK7.out HOLD.out).far hq7 NK7.out HOLD.out).far hq7 NK7.out HOLD.out).far hq7 NK7.out HOLD.out).far hq7 NK7.out HOLD.out).far hq7 NK7.out HOLD.out).far hq7 NK7.out HOLD.out)
        refine wRd 18 (fun K hK=>?_)
        go_simp
        (try simp only [])
        refine wHk hK (QD.out.nd) ?_
        clear hK K hH
        intro hH
        refine wTk 19 ?_
        refine wTk 20 ?_
        refine wDn ?_
        clear hH a0 a1 a2 a3 a4 a5 a6 f0 f1 f2 f3 f4 f5 f6
        go_wp2_with fail
        go_meet
        case rel=>exact ⟨g7,u,rfl,QD.out,B7.out.s7,(((((((HU.out.1.oth NX7.out).oth NX7.out).oth NX7.out).oth NX7.out).oth NX7.out).oth NX7.out).oth NX7.out),HU.out.2⟩
      case rest=>
       obtain ⟨g7,u,rfl,hqe,hbe,hne,hue⟩:=hcut
       generalize wc=WE at *
       have QE:Hid _:=hqe
       have BE:Hid _:=hbe
       have HU:Hid (NoR (q+1) WE u∧∃ r,z1_ V m kk u.x u.su u.un r∧r.length≤(rs kk).length+1):=⟨hne,hue⟩
       clear hqe hbe hne hue Q3 CJ
       obtain ⟨a0,a1,a2,a3,a4,a5,a6⟩:=BE.out.c7
       obtain ⟨t0,T0⟩:=isx (QE.out.th (kk * 7) (by omega)).1
       have f0:=(QE.out.th (kk * 7) (by omega)).2
       obtain ⟨t1,T1⟩:=isx (QE.out.th (kk * 7+1) (by omega)).1
       have f1:=(QE.out.th (kk * 7+1) (by omega)).2
       obtain ⟨t2,T2⟩:=isx (QE.out.th (kk * 7+2) (by omega)).1
       have f2:=(QE.out.th (kk * 7+2) (by omega)).2
       obtain ⟨t3,T3⟩:=isx (QE.out.th (kk * 7+3) (by omega)).1
       have f3:=(QE.out.th (kk * 7+3) (by omega)).2
       obtain ⟨t4,T4⟩:=isx (QE.out.th (kk * 7+4) (by omega)).1
       have f4:=(QE.out.th (kk * 7+4) (by omega)).2
       obtain ⟨t5,T5⟩:=isx (QE.out.th (kk * 7+5) (by omega)).1
       have f5:=(QE.out.th (kk * 7+5) (by omega)).2
       obtain ⟨t6,T6⟩:=isx (QE.out.th (kk * 7+6) (by omega)).1
       have f6:=(QE.out.th (kk * 7+6) (by omega)).2
       go_wp2
       go_roundw
       case rel=>
        obtain ⟨r,hr1,hr2⟩:=HU.out.2
        refine ⟨i,k+1+1+1+1,V,m,updo o kk u,updr rs kk r,by go_num,fun j hj=>?_,by omega,?_⟩
        ·have:=BN.out j hj
         have hb:=BN.out kk hkk
         unfold updr
         split
         ·omega
         ·omega
        ·refine QE.out.store hkk HOLD.out HU.out.1 (fun j hj=>?_)
         by_cases e:j=kk
         ·subst e
          rw [xr_]
          unfold updr
          rw [if_pos rfl]
          exact hr1
         ·rw [yY_ o u e]
          unfold updr
          rw [if_neg e]
          exact QE.out.inv j hj
       case measure=>simp [intOf]
    ·have c2:¬ sw=2:=e2
     have E0:(sw == 0)=false:=beq_false_of_ne (by omega)
     have E1:(sw == 1)=false:=beq_false_of_ne (by omega)
     have E2:(sw == 2)=false:=beq_false_of_ne (by omega)
     have c0:¬ sw=0:=by omega
     have c1:¬ sw=1:=by omega
     go_wp2_with fail
     refine Calls.mono (p0_ Q2.out HN.out hl (by omega) (by omega)) ?_
     rintro e x3 ⟨key,hkey,rfl,hq3⟩
     have Q3:Hid _:=hq3
     have HKP:Hid (keyP key):=hkey.1
     have hks:key.size≤6:=hkey.2
     clear hq3 hkey Q2
     obtain ⟨y0,y1,y2,y3,y4,y5,y6⟩:=Q3.out.nd kk hkk
     have LEN:=(Q3.out.inv kk hkk).len
     have ML:Hid ((o kk).ms.length≤20):=by have h1:=congrArg List.length (Q3.out.nor kk hkk).cs; have h2:=BN.out kk hkk; simp at h1; show _≤_; omega
     have CO:Hid _:=xG_ (q+1) (o kk) key x3 (by have:=ML.out; omega) (Q3.out.nor kk hkk)
     go_wp2_with fail
     refine Calls.mono CO.out ?_
     rintro e x4 ⟨p1,q1,rfl,hg1,hq1,hb4⟩
     have Q4:Hid _:=Q3.out.below hb4
     clear Q3 CO hg1 hq1 hb4 y0 y1 y2 y3 y4 y5 y6 LEN
     obtain ⟨H,hH⟩:∃ H:Cl,H=atC key (o kk).x.cs:=⟨_,rfl⟩
     rw [← hH]
     have HH:=hm_ hH
     clear hH
     have fs:=pH_ (.slice p1 H.l.length q1) H.a H.b H.c x4
     have NX11:Hid (∀ j,j < 3→NoX (o j) x4.heap.size):=fun j hj=>zT_ (Q4.out.nor j hj) (Nat.le_refl _)
     go_upto_region 9 with fail
     clear fs
     refine zQ_ (fun W=>QN w W g q ao len cap zs (k+1+1+1) V m o rs∧Box W x4.heap.size [.int .i64 H.a,.int .i64 H.b,.int .i64 H.c]∧q < x4.heap.size) ⟨Q4.out.below (zb_ _ _),zo_,Q4.out.lt.2.1⟩ (fun W5 hI=>?_)
     generalize x4.heap.size=g11 at *
     have Q5:Hid _:=hI.1
     have B5:Hid _:=hI.2.1
     have hq11:q < g11:=hI.2.2
     have hg11:g11≠g:=by have:=Q5.out.lt; omega
     clear hI Q4
     go_wp2_with fail
     refine Calls.mono (uC_ Q5.out 3 (by omega) (by omega) HN.out hl (by omega) (by omega)) ?_
     rintro e x5 ⟨b1,rfl,hq6,hG6⟩
     have Q6:Hid _:=hq6
     have B6:Hid _:=B5.out.grown hG6 hg11
     clear hq6 hG6 Q5 B5
     obtain ⟨z0,z1,z2⟩:=B6.out.c3
     obtain ⟨f0,f1,f2⟩:=B6.out.f3
     cases b1
     all_goals
      go_upto_region 11 with fail
      refine zQ_ (fun W=>∃ X Y Z:Int,(X≤H.a∧Y≤H.b∧Z≤H.c)∧QN w W g q ao len cap zs (k+1+1+1+1) V m o rs∧Box W g11 [.int .i64 X,.int .i64 Y,.int .i64 Z]) (by
       have hp:0≤H.a∧0≤H.b∧0≤H.c:=by rw [HH.out]; exact Rp.pos ((Q6.out.inv kk hkk).had (fun j hj=>(BN.out j hj).1) key)
       first
        | exact ⟨H.a,H.b,H.c,⟨Int.le_refl _,Int.le_refl _,Int.le_refl _⟩,Q6.out,B6.out⟩
        | exact ⟨0,0,0,hp,((Q6.out.far hq11 NX11.out HOLD.out).far hq11 NX11.out HOLD.out).far hq11 NX11.out HOLD.out,B6.out.s3⟩) (fun W6 hI=>?_)
      obtain ⟨X,Y,Z,hX0,hq7,hb7⟩:=hI
      have HX:=hm_ hX0
      have Q7:Hid _:=hq7
      have B7:Hid _:=hb7
      clear hX0 hq7 hb7 Q6 B6 z0 z1 z2 f0 f1 f2
      go_wp2_with fail
      refine Calls.mono (uC_ Q7.out 5 (by omega) (by omega) HN.out hl (by omega) (by omega)) ?_
      rintro e x7 ⟨dd,rfl,hq8,hG8⟩
      have Q8:Hid _:=hq8
      have B8:Hid _:=B7.out.grown hG8 hg11
      clear hq8 hG8 Q7 B7
      go_wp2_with fail
      refine Calls.mono (wf_ Q8.out 20 (by omega) (by omega) HN.out hl (by omega) (by omega)) ?_
      rintro e x8 ⟨vv,hvv,rfl,hq9,hG9⟩
      have Q9:Hid _:=hq9
      have B9:Hid _:=B8.out.grown hG9 hg11
      clear hq9 hG9 Q8 B8
      go_upto_if 50 with fail
      go_cut [12,13] from 50 to 50 (fun s12 s13 wc=>∃ (d:Bool) (v:Int),s12=.bool d∧s13=.int .i64 v∧((0≤v∧v≤999)∧(d=true→v=0))∧QN w wc g q ao len cap zs (k+1+1+1+1+1+1) V m o rs∧Box wc g11 [.int .i64 X,.int .i64 Y,.int .i64 Z])
      case first=>
       cases dd
       ·go_wp2_with fail
        go_meet
        case rel=>exact ⟨false,vv,rfl,rfl,⟨by omega,fun e=>by cases e⟩,Q9.out,B9.out⟩
       ·go_wp2_with fail
        go_meet
        case rel=>exact ⟨true,0,rfl,rfl,⟨by omega,fun _=>rfl⟩,Q9.out,B9.out⟩
      case rest=>
       obtain ⟨d,v,rfl,rfl,hvd,hqs,hbs⟩:=hcut
       have HVD:=hm_ hvd
       generalize wc=WS at *
       have QS:Hid _:=hqs
       have BS:Hid _:=hbs
       clear hvd hqs hbs Q9 B9
       have HM:Hid (∀ j,j < 3→0≤m j∧m j≤23):=fun j hj=>by have:=BN.out j hj; omega
       obtain ⟨C,hC⟩:∃ C:Cl,C=wrC (o kk).x H X Y Z v d:=⟨_,rfl⟩
       have HC:=hm_ hC
       have CP:Hid (∀ W',NoR (q+1) W' (o kk)→q+1≤W'.heap.size→Calls Tryz.prog 49 #[.agg #[.int .i64 (o kk).x.id,.int .i64 (o kk).x.n,.int .i64 (o kk).x.cut,.slice (o kk).p0 (o kk).ms.length (o kk).c0,.slice (o kk).p1 (o kk).x.fd.length (o kk).c1,.slice (o kk).p2 (o kk).su.length (o kk).c2,.slice (o kk).p3 (o kk).un.length (o kk).c3],.string key,.agg #[.int .i64 X,.int .i64 Y,.int .i64 Z],.int .i64 v,.bool d] W' fun e w'=>PtP (q+1) W' (o kk) C e w'):=fun W' hN hq=>by
        have IV:=QS.out.inv kk hkk
        have hb:=BN.out kk hkk
        have hlen:=IV.len
        have hid:=IV.id
        have hn:=IV.n
        have HX2:=HX.out
        rw [HH.out] at HX2
        obtain ⟨w1,w2,w3,w4,w5⟩:=IV.wr hkk HM.out key HX2 HVD.out.1 HVD.out.2
        have hok:=(IV.fol_put hkk HM.out (by omega) key HKP.out HX2 HVD.out.1 HVD.out.2).ok
        rw [hC,HH.out]
        exact po_ (q+1) (o kk) key X Y Z v d W' hq (by have:=ML.out; omega) (by omega) (by omega) (by rw [hid]; omega) (by rw [hn]; omega) (Rp.okP24 (IV.had (fun j hj=>(BN.out j hj).1) key) (by have:=HM.out 0 (by omega); omega) (by have:=HM.out 1 (by omega); omega) (by have:=HM.out 2 (by omega); omega)) w4 w5 hok hks hN
       clear hC
       go_upto_region 15 with fail
       go_cut [14,15,16] from 51 to 63 (fun s14 s15 s16 wc=>∃ (g14:Nat) (u:No),s14=.pointer (some ⟨g14,0,none⟩)∧QN w wc g q ao len cap zs (k+1+1+1+1+1+1) V m o rs∧Box wc g14 [.int .i64 u.x.id,.int .i64 u.x.n,.int .i64 u.x.cut,.slice u.p0 u.ms.length u.c0,.slice u.p1 u.x.fd.length u.c1,.slice u.p2 u.su.length u.c2,.slice u.p3 u.un.length u.c3]∧NoR (q+1) wc u∧(u.x=nxt (o kk).x (true,C)∧u.su=(o kk).su∧u.un=(o kk).un++[zs_ (recT true C)]))
       case first=>
        refine wp_region_held_drew (S:=(fun w'=>w'.cell? ⟨q,kk * 7,none⟩=some (.int .i64 (o kk).x.id)∧w'.cell? ⟨q,kk * 7+1,none⟩=some (.int .i64 (o kk).x.n)∧w'.cell? ⟨q,kk * 7+2,none⟩=some (.int .i64 (o kk).x.cut)∧w'.cell? ⟨q,kk * 7+3,none⟩=some (.slice (o kk).p0 (o kk).ms.length (o kk).c0)∧w'.cell? ⟨q,kk * 7+4,none⟩=some (.slice (o kk).p1 (o kk).x.fd.length (o kk).c1)∧w'.cell? ⟨q,kk * 7+5,none⟩=some (.slice (o kk).p2 (o kk).su.length (o kk).c2)∧w'.cell? ⟨q,kk * 7+6,none⟩=some (.slice (o kk).p3 (o kk).un.length (o kk).c3)∧w'.cell? ⟨g11,0,none⟩=some (.int .i64 X)∧w'.cell? ⟨g11,1,none⟩=some (.int .i64 Y)∧w'.cell? ⟨g11,2,none⟩=some (.int .i64 Z))) (by kernel_rfl) ?_ (fun hH=>?_)
        ·(try dsimp only)
         exact yc_ ((QS.out.below (zc_ _)).nd kk hkk) (BS.out.next (zc_ _))
        have BW:Hid (Below WS.heap.size WS WS.drew):=zc_ _
        refine wTk 0 ?_
        refine wTk 1 ?_
        refine wTk 2 ?_
        refine wTk 3 ?_
        refine wTk 4 ?_
        refine wTk 5 ?_
        refine wTk 6 ?_
        refine wTk 7 ?_
        generalize WS.drew=wd at *
        refine wpAnyH_ready (rs:=[8,13,14]) (by kernel_rfl) (by simp) ?_
        refine AllReadyH.cons rfl (fun K hK=>?_) (AllReadyH.cons rfl (fun K hK=>?_) (AllReadyH.cons rfl (fun K hK=>?_) AllReadyH.nil))
        ·refine wLy ?_
         go_simp
         go_at_call 49
         refine (CP.out _ ((QS.out.below BW.out).nor kk hkk) (by have:=QS.out.lt; have:=BW.out.size; omega)).mono ?_
         rintro e z0 ⟨u,rfl,hN,hx,hs,hu,hX,hb⟩
         (try simp only [])
         have HU:Hid (NoR (q+1) z0 u∧u.x=nxt (o kk).x (true,C)∧u.su=(o kk).su∧u.un=(o kk).un++[zs_ (recT true C)]):=⟨hN,hx,hs,hu⟩
         replace BW:=ze_ BW hb
         clear hN hx hs hu hX hb
         refine wHk hK (yc_ ((QS.out.below BW.out).nd kk hkk) (BS.out.next BW.out)) ?_
         clear hK K hH
         intro hH
         refine wTk 9 ?_
         refine wTk 10 ?_
         refine wTk 11 ?_
         refine wTk 12 ?_
         refine wpAnyH_ready (rs:=[13,14]) (by kernel_rfl) (by simp) ?_
         refine AllReadyH.cons rfl (fun K hK=>?_) (AllReadyH.cons rfl (fun K hK=>?_) AllReadyH.nil)
         focus
          refine wLy ?_
          go_simp
          (try simp only [])
          have B14:Hid (Box (z0.alloc (.cells nZ.toArray 29)) z0.heap.size nZ):=zo_
          have G14:Hid (WS.heap.size≤z0.heap.size):=BW.out.size
          have NX14:Hid (NoX u z0.heap.size):=zT_ HU.out.1 (Nat.le_refl _)
          replace HU:Hid (NoR (q+1) _ u∧u.x=nxt (o kk).x (true,C)∧u.su=(o kk).su∧u.un=(o kk).un++[zs_ (recT true C)]):=⟨HU.out.1.next (zb_ _ (.cells nZ.toArray 29)),HU.out.2⟩
          replace BW:=ze_ BW (zb_ z0 (.cells nZ.toArray 29))
          refine wHk hK (yc_ ((QS.out.below BW.out).nd kk hkk) (BS.out.next BW.out)) ?_
          clear hK K hH
          intro hH
          generalize z0.alloc (.cells nZ.toArray 29)=z1 at *
          generalize z0.heap.size=g14 at *
          refine wRd 14 (fun K hK=>?_)
          go_simp
          (try simp only [])
          have B15:Hid (Box (z1.alloc (.cells #[.int .i64 0,.int .i64 0] 41)) z1.heap.size [.int .i64 0,.int .i64 0]):=zo_
          have G15:Hid (WS.heap.size≤z1.heap.size):=BW.out.size
          have N1:Hid (g14≠z1.heap.size):=Nat.ne_of_lt B14.out.lt
          replace B14:Hid _:=B14.out.alloc (ob:=(.cells #[.int .i64 0,.int .i64 0] 41))
          have NX15:Hid (NoX u z1.heap.size):=zT_ HU.out.1 (Nat.le_refl _)
          replace HU:Hid (NoR (q+1) _ u∧u.x=nxt (o kk).x (true,C)∧u.su=(o kk).su∧u.un=(o kk).un++[zs_ (recT true C)]):=⟨HU.out.1.next (zb_ _ (.cells #[.int .i64 0,.int .i64 0] 41)),HU.out.2⟩
          replace BW:=ze_ BW (zb_ z1 (.cells #[.int .i64 0,.int .i64 0] 41))
          refine wHk hK (yc_ ((QS.out.below BW.out).nd kk hkk) (BS.out.next BW.out)) ?_
          clear hK K hH
          intro hH
          generalize z1.alloc (.cells #[.int .i64 0,.int .i64 0] 41)=z2 at *
          generalize z1.heap.size=g15 at *
          obtain ⟨a0,a1,a2,a3,a4,a5,a6⟩:=B14.out.c7
          obtain ⟨f0,f1,f2,f3,f4,f5,f6⟩:=B14.out.f7
          obtain ⟨b0,b1⟩:=B15.out.c2
          obtain ⟨d0,d1⟩:=B15.out.f2
          have hne:g14≠g15:=N1.out
         rotate_left
         focus
          refine wLy ?_
          go_simp
          (try simp only [])
          have B15:Hid (Box (z0.alloc (.cells #[.int .i64 0,.int .i64 0] 41)) z0.heap.size [.int .i64 0,.int .i64 0]):=zo_
          have G15:Hid (WS.heap.size≤z0.heap.size):=BW.out.size
          have NX15:Hid (NoX u z0.heap.size):=zT_ HU.out.1 (Nat.le_refl _)
          replace HU:Hid (NoR (q+1) _ u∧u.x=nxt (o kk).x (true,C)∧u.su=(o kk).su∧u.un=(o kk).un++[zs_ (recT true C)]):=⟨HU.out.1.next (zb_ _ (.cells #[.int .i64 0,.int .i64 0] 41)),HU.out.2⟩
          replace BW:=ze_ BW (zb_ z0 (.cells #[.int .i64 0,.int .i64 0] 41))
          refine wHk hK (yc_ ((QS.out.below BW.out).nd kk hkk) (BS.out.next BW.out)) ?_
          clear hK K hH
          intro hH
          generalize z0.alloc (.cells #[.int .i64 0,.int .i64 0] 41)=z1 at *
          generalize z0.heap.size=g15 at *
          refine wRd 13 (fun K hK=>?_)
          go_simp
          (try simp only [])
          have B14:Hid (Box (z1.alloc (.cells nZ.toArray 29)) z1.heap.size nZ):=zo_
          have G14:Hid (WS.heap.size≤z1.heap.size):=BW.out.size
          have N1:Hid (g15≠z1.heap.size):=Nat.ne_of_lt B15.out.lt
          replace B15:Hid _:=B15.out.alloc (ob:=(.cells nZ.toArray 29))
          have NX14:Hid (NoX u z1.heap.size):=zT_ HU.out.1 (Nat.le_refl _)
          replace HU:Hid (NoR (q+1) _ u∧u.x=nxt (o kk).x (true,C)∧u.su=(o kk).su∧u.un=(o kk).un++[zs_ (recT true C)]):=⟨HU.out.1.next (zb_ _ (.cells nZ.toArray 29)),HU.out.2⟩
          replace BW:=ze_ BW (zb_ z1 (.cells nZ.toArray 29))
          refine wHk hK (yc_ ((QS.out.below BW.out).nd kk hkk) (BS.out.next BW.out)) ?_
          clear hK K hH
          intro hH
          generalize z1.alloc (.cells nZ.toArray 29)=z2 at *
          generalize z1.heap.size=g14 at *
          obtain ⟨a0,a1,a2,a3,a4,a5,a6⟩:=B14.out.c7
          obtain ⟨f0,f1,f2,f3,f4,f5,f6⟩:=B14.out.f7
          obtain ⟨b0,b1⟩:=B15.out.c2
          obtain ⟨d0,d1⟩:=B15.out.f2
          have hne:g14≠g15:=N1.out.symm
         rotate_left
         all_goals
          have hne':g15≠g14:=hne.symm
          have hsw14:WS.heap.size≤g14:=G14.out
          have hsw15:WS.heap.size≤g15:=G15.out
          have BA:Hid (Below WS.heap.size WS (((((((z2.setCell ⟨g14,0,none⟩ (.int .i64 u.x.id)).setCell ⟨g14,1,none⟩ (.int .i64 u.x.n)).setCell ⟨g14,2,none⟩ (.int .i64 u.x.cut)).setCell ⟨g14,3,none⟩ (.slice u.p0 u.ms.length u.c0)).setCell ⟨g14,4,none⟩ (.slice u.p1 u.x.fd.length u.c1)).setCell ⟨g14,5,none⟩ (.slice u.p2 u.su.length u.c2)).setCell ⟨g14,6,none⟩ (.slice u.p3 u.un.length u.c3))):=by
           repeat (refine xp_ ?_ hsw14)
           exact BW.out
          have BB:Hid (Below WS.heap.size WS (((((((((z2.setCell ⟨g14,0,none⟩ (.int .i64 u.x.id)).setCell ⟨g14,1,none⟩ (.int .i64 u.x.n)).setCell ⟨g14,2,none⟩ (.int .i64 u.x.cut)).setCell ⟨g14,3,none⟩ (.slice u.p0 u.ms.length u.c0)).setCell ⟨g14,4,none⟩ (.slice u.p1 u.x.fd.length u.c1)).setCell ⟨g14,5,none⟩ (.slice u.p2 u.su.length u.c2)).setCell ⟨g14,6,none⟩ (.slice u.p3 u.un.length u.c3)).setCell ⟨g15,0,none⟩ (.int .i64 (o kk).x.id)).setCell ⟨g15,1,none⟩ (.int .i64 ((o kk).x.n+1)))):=xp_ (xp_ BA.out hsw15) hsw15
          refine wRd 15 (fun K hK=>?_)
          go_simp
          (try simp only [])
          refine wHk hK (yc_ ((QS.out.below BA.out).nd kk hkk) (BS.out.next BA.out)) ?_
          clear hK K hH
          intro hH
          refine wRd 16 (fun K hK=>?_)
          go_simp
          (try simp only [])
          refine wHk hK (yc_ ((QS.out.below BB.out).nd kk hkk) (BS.out.next BB.out)) ?_
          clear hK K hH
          intro hH
          refine wTk 17 ?_
          refine wDn ?_
          clear hH a0 a1 a2 a3 a4 a5 a6 f0 f1 f2 f3 f4 f5 f6 b0 b1 d0 d1
          go_wp2_with fail
          go_meet
          case rel=>exact ⟨g14,u,rfl,QS.out.below BB.out,(B14.out.s7).o2 hne,(((((((((HU.out.1.oth NX14.out).oth NX14.out).oth NX14.out).oth NX14.out).oth NX14.out).oth NX14.out).oth NX14.out).oth NX15.out).oth NX15.out),HU.out.2⟩
        ·refine wLy ?_
         go_simp
         (try simp only [])
         have B14:Hid (Box (wd.alloc (.cells nZ.toArray 29)) wd.heap.size nZ):=zo_
         have G14:Hid (WS.heap.size≤wd.heap.size):=BW.out.size
         replace BW:=ze_ BW (zb_ wd (.cells nZ.toArray 29))
         refine wHk hK (yc_ ((QS.out.below BW.out).nd kk hkk) (BS.out.next BW.out)) ?_
         clear hK K hH
         intro hH
         generalize wd.alloc (.cells nZ.toArray 29)=z0 at *
         generalize wd.heap.size=g14 at *
         refine wpAnyH_ready (rs:=[8,14]) (by kernel_rfl) (by simp) ?_
         refine AllReadyH.cons rfl (fun K hK=>?_) (AllReadyH.cons rfl (fun K hK=>?_) AllReadyH.nil)
         focus
          refine wLy ?_
          go_simp
          go_at_call 49
          refine (CP.out _ ((QS.out.below BW.out).nor kk hkk) (by have:=QS.out.lt; have:=BW.out.size; omega)).mono ?_
          rintro e z1 ⟨u,rfl,hN,hx,hs,hu,hX,hb⟩
          (try simp only [])
          have HU:Hid (NoR (q+1) z1 u∧u.x=nxt (o kk).x (true,C)∧u.su=(o kk).su∧u.un=(o kk).un++[zs_ (recT true C)]):=⟨hN,hx,hs,hu⟩
          have NX14:Hid (NoX u g14):=hX g14 B14.out.lt (zT_ (QS.out.nor kk hkk) G14.out)
          replace B14:Hid _:=B14.out.next hb
          replace BW:=ze_ BW hb
          clear hN hx hs hu hX hb
          refine wHk hK (yc_ ((QS.out.below BW.out).nd kk hkk) (BS.out.next BW.out)) ?_
          clear hK K hH
          intro hH
          refine wTk 9 ?_
          refine wTk 10 ?_
          refine wTk 11 ?_
          refine wTk 12 ?_
          refine wRd 14 (fun K hK=>?_)
          go_simp
          (try simp only [])
          have B15:Hid (Box (z1.alloc (.cells #[.int .i64 0,.int .i64 0] 41)) z1.heap.size [.int .i64 0,.int .i64 0]):=zo_
          have G15:Hid (WS.heap.size≤z1.heap.size):=BW.out.size
          have N1:Hid (g14≠z1.heap.size):=Nat.ne_of_lt B14.out.lt
          replace B14:Hid _:=B14.out.alloc (ob:=(.cells #[.int .i64 0,.int .i64 0] 41))
          have NX15:Hid (NoX u z1.heap.size):=zT_ HU.out.1 (Nat.le_refl _)
          replace HU:Hid (NoR (q+1) _ u∧u.x=nxt (o kk).x (true,C)∧u.su=(o kk).su∧u.un=(o kk).un++[zs_ (recT true C)]):=⟨HU.out.1.next (zb_ _ (.cells #[.int .i64 0,.int .i64 0] 41)),HU.out.2⟩
          replace BW:=ze_ BW (zb_ z1 (.cells #[.int .i64 0,.int .i64 0] 41))
          refine wHk hK (yc_ ((QS.out.below BW.out).nd kk hkk) (BS.out.next BW.out)) ?_
          clear hK K hH
          intro hH
          generalize z1.alloc (.cells #[.int .i64 0,.int .i64 0] 41)=z2 at *
          generalize z1.heap.size=g15 at *
         rotate_left
         focus
          refine wLy ?_
          go_simp
          (try simp only [])
          have B15:Hid (Box (z0.alloc (.cells #[.int .i64 0,.int .i64 0] 41)) z0.heap.size [.int .i64 0,.int .i64 0]):=zo_
          have G15:Hid (WS.heap.size≤z0.heap.size):=BW.out.size
          have N1:Hid (g14≠z0.heap.size):=Nat.ne_of_lt B14.out.lt
          replace B14:Hid _:=B14.out.alloc (ob:=(.cells #[.int .i64 0,.int .i64 0] 41))
          replace BW:=ze_ BW (zb_ z0 (.cells #[.int .i64 0,.int .i64 0] 41))
          refine wHk hK (yc_ ((QS.out.below BW.out).nd kk hkk) (BS.out.next BW.out)) ?_
          clear hK K hH
          intro hH
          generalize z0.alloc (.cells #[.int .i64 0,.int .i64 0] 41)=z1 at *
          generalize z0.heap.size=g15 at *
          refine wRd 8 (fun K hK=>?_)
          go_simp
          go_at_call 49
          refine (CP.out _ ((QS.out.below BW.out).nor kk hkk) (by have:=QS.out.lt; have:=BW.out.size; omega)).mono ?_
          rintro e z2 ⟨u,rfl,hN,hx,hs,hu,hX,hb⟩
          (try simp only [])
          have HU:Hid (NoR (q+1) z2 u∧u.x=nxt (o kk).x (true,C)∧u.su=(o kk).su∧u.un=(o kk).un++[zs_ (recT true C)]):=⟨hN,hx,hs,hu⟩
          have NX14:Hid (NoX u g14):=hX g14 B14.out.lt (zT_ (QS.out.nor kk hkk) G14.out)
          replace B14:Hid _:=B14.out.next hb
          have NX15:Hid (NoX u g15):=hX g15 B15.out.lt (zT_ (QS.out.nor kk hkk) G15.out)
          replace B15:Hid _:=B15.out.next hb
          replace BW:=ze_ BW hb
          clear hN hx hs hu hX hb
          refine wHk hK (yc_ ((QS.out.below BW.out).nd kk hkk) (BS.out.next BW.out)) ?_
          clear hK K hH
          intro hH
          refine wTk 9 ?_
          refine wTk 10 ?_
          refine wTk 11 ?_
          refine wTk 12 ?_
         rotate_left
         all_goals
          obtain ⟨a0,a1,a2,a3,a4,a5,a6⟩:=B14.out.c7
          obtain ⟨f0,f1,f2,f3,f4,f5,f6⟩:=B14.out.f7
          obtain ⟨b0,b1⟩:=B15.out.c2
          obtain ⟨d0,d1⟩:=B15.out.f2
          have hne:g14≠g15:=N1.out
          have hne':g15≠g14:=hne.symm
          have hsw14:WS.heap.size≤g14:=G14.out
          have hsw15:WS.heap.size≤g15:=G15.out
          have BA:Hid (Below WS.heap.size WS (((((((z2.setCell ⟨g14,0,none⟩ (.int .i64 u.x.id)).setCell ⟨g14,1,none⟩ (.int .i64 u.x.n)).setCell ⟨g14,2,none⟩ (.int .i64 u.x.cut)).setCell ⟨g14,3,none⟩ (.slice u.p0 u.ms.length u.c0)).setCell ⟨g14,4,none⟩ (.slice u.p1 u.x.fd.length u.c1)).setCell ⟨g14,5,none⟩ (.slice u.p2 u.su.length u.c2)).setCell ⟨g14,6,none⟩ (.slice u.p3 u.un.length u.c3))):=by
           repeat (refine xp_ ?_ hsw14)
           exact BW.out
          have BB:Hid (Below WS.heap.size WS (((((((((z2.setCell ⟨g14,0,none⟩ (.int .i64 u.x.id)).setCell ⟨g14,1,none⟩ (.int .i64 u.x.n)).setCell ⟨g14,2,none⟩ (.int .i64 u.x.cut)).setCell ⟨g14,3,none⟩ (.slice u.p0 u.ms.length u.c0)).setCell ⟨g14,4,none⟩ (.slice u.p1 u.x.fd.length u.c1)).setCell ⟨g14,5,none⟩ (.slice u.p2 u.su.length u.c2)).setCell ⟨g14,6,none⟩ (.slice u.p3 u.un.length u.c3)).setCell ⟨g15,0,none⟩ (.int .i64 (o kk).x.id)).setCell ⟨g15,1,none⟩ (.int .i64 ((o kk).x.n+1)))):=xp_ (xp_ BA.out hsw15) hsw15
          refine wRd 15 (fun K hK=>?_)
          go_simp
          (try simp only [])
          refine wHk hK (yc_ ((QS.out.below BA.out).nd kk hkk) (BS.out.next BA.out)) ?_
          clear hK K hH
          intro hH
          refine wRd 16 (fun K hK=>?_)
          go_simp
          (try simp only [])
          refine wHk hK (yc_ ((QS.out.below BB.out).nd kk hkk) (BS.out.next BB.out)) ?_
          clear hK K hH
          intro hH
          refine wTk 17 ?_
          refine wDn ?_
          clear hH a0 a1 a2 a3 a4 a5 a6 f0 f1 f2 f3 f4 f5 f6 b0 b1 d0 d1
          go_wp2_with fail
          go_meet
          case rel=>exact ⟨g14,u,rfl,QS.out.below BB.out,(B14.out.s7).o2 hne,(((((((((HU.out.1.oth NX14.out).oth NX14.out).oth NX14.out).oth NX14.out).oth NX14.out).oth NX14.out).oth NX14.out).oth NX15.out).oth NX15.out),HU.out.2⟩
        ·refine wLy ?_
         go_simp
         (try simp only [])
         have B15:Hid (Box (wd.alloc (.cells #[.int .i64 0,.int .i64 0] 41)) wd.heap.size [.int .i64 0,.int .i64 0]):=zo_
         have G15:Hid (WS.heap.size≤wd.heap.size):=BW.out.size
         replace BW:=ze_ BW (zb_ wd (.cells #[.int .i64 0,.int .i64 0] 41))
         refine wHk hK (yc_ ((QS.out.below BW.out).nd kk hkk) (BS.out.next BW.out)) ?_
         clear hK K hH
         intro hH
         generalize wd.alloc (.cells #[.int .i64 0,.int .i64 0] 41)=z0 at *
         generalize wd.heap.size=g15 at *
         refine wpAnyH_ready (rs:=[8,13]) (by kernel_rfl) (by simp) ?_
         refine AllReadyH.cons rfl (fun K hK=>?_) (AllReadyH.cons rfl (fun K hK=>?_) AllReadyH.nil)
         focus
          refine wLy ?_
          go_simp
          go_at_call 49
          refine (CP.out _ ((QS.out.below BW.out).nor kk hkk) (by have:=QS.out.lt; have:=BW.out.size; omega)).mono ?_
          rintro e z1 ⟨u,rfl,hN,hx,hs,hu,hX,hb⟩
          (try simp only [])
          have HU:Hid (NoR (q+1) z1 u∧u.x=nxt (o kk).x (true,C)∧u.su=(o kk).su∧u.un=(o kk).un++[zs_ (recT true C)]):=⟨hN,hx,hs,hu⟩
          have NX15:Hid (NoX u g15):=hX g15 B15.out.lt (zT_ (QS.out.nor kk hkk) G15.out)
          replace B15:Hid _:=B15.out.next hb
          replace BW:=ze_ BW hb
          clear hN hx hs hu hX hb
          refine wHk hK (yc_ ((QS.out.below BW.out).nd kk hkk) (BS.out.next BW.out)) ?_
          clear hK K hH
          intro hH
          refine wTk 9 ?_
          refine wTk 10 ?_
          refine wTk 11 ?_
          refine wTk 12 ?_
          refine wRd 13 (fun K hK=>?_)
          go_simp
          (try simp only [])
          have B14:Hid (Box (z1.alloc (.cells nZ.toArray 29)) z1.heap.size nZ):=zo_
          have G14:Hid (WS.heap.size≤z1.heap.size):=BW.out.size
          have N1:Hid (g15≠z1.heap.size):=Nat.ne_of_lt B15.out.lt
          replace B15:Hid _:=B15.out.alloc (ob:=(.cells nZ.toArray 29))
          have NX14:Hid (NoX u z1.heap.size):=zT_ HU.out.1 (Nat.le_refl _)
          replace HU:Hid (NoR (q+1) _ u∧u.x=nxt (o kk).x (true,C)∧u.su=(o kk).su∧u.un=(o kk).un++[zs_ (recT true C)]):=⟨HU.out.1.next (zb_ _ (.cells nZ.toArray 29)),HU.out.2⟩
          replace BW:=ze_ BW (zb_ z1 (.cells nZ.toArray 29))
          refine wHk hK (yc_ ((QS.out.below BW.out).nd kk hkk) (BS.out.next BW.out)) ?_
          clear hK K hH
          intro hH
          generalize z1.alloc (.cells nZ.toArray 29)=z2 at *
          generalize z1.heap.size=g14 at *
         rotate_left
         focus
          refine wLy ?_
          go_simp
          (try simp only [])
          have B14:Hid (Box (z0.alloc (.cells nZ.toArray 29)) z0.heap.size nZ):=zo_
          have G14:Hid (WS.heap.size≤z0.heap.size):=BW.out.size
          have N1:Hid (g15≠z0.heap.size):=Nat.ne_of_lt B15.out.lt
          replace B15:Hid _:=B15.out.alloc (ob:=(.cells nZ.toArray 29))
          replace BW:=ze_ BW (zb_ z0 (.cells nZ.toArray 29))
          refine wHk hK (yc_ ((QS.out.below BW.out).nd kk hkk) (BS.out.next BW.out)) ?_
          clear hK K hH
          intro hH
          generalize z0.alloc (.cells nZ.toArray 29)=z1 at *
          generalize z0.heap.size=g14 at *
          refine wRd 8 (fun K hK=>?_)
          go_simp
          go_at_call 49
          refine (CP.out _ ((QS.out.below BW.out).nor kk hkk) (by have:=QS.out.lt; have:=BW.out.size; omega)).mono ?_
          rintro e z2 ⟨u,rfl,hN,hx,hs,hu,hX,hb⟩
          (try simp only [])
          have HU:Hid (NoR (q+1) z2 u∧u.x=nxt (o kk).x (true,C)∧u.su=(o kk).su∧u.un=(o kk).un++[zs_ (recT true C)]):=⟨hN,hx,hs,hu⟩
          have NX14:Hid (NoX u g14):=hX g14 B14.out.lt (zT_ (QS.out.nor kk hkk) G14.out)
          replace B14:Hid _:=B14.out.next hb
          have NX15:Hid (NoX u g15):=hX g15 B15.out.lt (zT_ (QS.out.nor kk hkk) G15.out)
          replace B15:Hid _:=B15.out.next hb
          replace BW:=ze_ BW hb
          clear hN hx hs hu hX hb
          refine wHk hK (yc_ ((QS.out.below BW.out).nd kk hkk) (BS.out.next BW.out)) ?_
          clear hK K hH
          intro hH
          refine wTk 9 ?_
          refine wTk 10 ?_
          refine wTk 11 ?_
          refine wTk 12 ?_
         rotate_left
         all_goals
          obtain ⟨a0,a1,a2,a3,a4,a5,a6⟩:=B14.out.c7
          obtain ⟨f0,f1,f2,f3,f4,f5,f6⟩:=B14.out.f7
          obtain ⟨b0,b1⟩:=B15.out.c2
          obtain ⟨d0,d1⟩:=B15.out.f2
          have hne:g14≠g15:=N1.out.symm
          have hne':g15≠g14:=hne.symm
          have hsw14:WS.heap.size≤g14:=G14.out
          have hsw15:WS.heap.size≤g15:=G15.out
          have BA:Hid (Below WS.heap.size WS (((((((z2.setCell ⟨g14,0,none⟩ (.int .i64 u.x.id)).setCell ⟨g14,1,none⟩ (.int .i64 u.x.n)).setCell ⟨g14,2,none⟩ (.int .i64 u.x.cut)).setCell ⟨g14,3,none⟩ (.slice u.p0 u.ms.length u.c0)).setCell ⟨g14,4,none⟩ (.slice u.p1 u.x.fd.length u.c1)).setCell ⟨g14,5,none⟩ (.slice u.p2 u.su.length u.c2)).setCell ⟨g14,6,none⟩ (.slice u.p3 u.un.length u.c3))):=by
           repeat (refine xp_ ?_ hsw14)
           exact BW.out
          have BB:Hid (Below WS.heap.size WS (((((((((z2.setCell ⟨g14,0,none⟩ (.int .i64 u.x.id)).setCell ⟨g14,1,none⟩ (.int .i64 u.x.n)).setCell ⟨g14,2,none⟩ (.int .i64 u.x.cut)).setCell ⟨g14,3,none⟩ (.slice u.p0 u.ms.length u.c0)).setCell ⟨g14,4,none⟩ (.slice u.p1 u.x.fd.length u.c1)).setCell ⟨g14,5,none⟩ (.slice u.p2 u.su.length u.c2)).setCell ⟨g14,6,none⟩ (.slice u.p3 u.un.length u.c3)).setCell ⟨g15,0,none⟩ (.int .i64 (o kk).x.id)).setCell ⟨g15,1,none⟩ (.int .i64 ((o kk).x.n+1)))):=xp_ (xp_ BA.out hsw15) hsw15
          refine wRd 15 (fun K hK=>?_)
          go_simp
          (try simp only [])
          refine wHk hK (yc_ ((QS.out.below BA.out).nd kk hkk) (BS.out.next BA.out)) ?_
          clear hK K hH
          intro hH
          refine wRd 16 (fun K hK=>?_)
          go_simp
          (try simp only [])
          refine wHk hK (yc_ ((QS.out.below BB.out).nd kk hkk) (BS.out.next BB.out)) ?_
          clear hK K hH
          intro hH
          refine wTk 17 ?_
          refine wDn ?_
          clear hH a0 a1 a2 a3 a4 a5 a6 f0 f1 f2 f3 f4 f5 f6 b0 b1 d0 d1
          go_wp2_with fail
          go_meet
          case rel=>exact ⟨g14,u,rfl,QS.out.below BB.out,(B14.out.s7).o2 hne,(((((((((HU.out.1.oth NX14.out).oth NX14.out).oth NX14.out).oth NX14.out).oth NX14.out).oth NX14.out).oth NX14.out).oth NX15.out).oth NX15.out),HU.out.2⟩
       case rest=>
        obtain ⟨g14,u,rfl,hqe,hbe,hne,hue⟩:=hcut
        generalize wc=WE at *
        have QE:Hid _:=hqe
        have BE:Hid _:=hbe
        have HU:Hid (NoR (q+1) WE u∧u.x=nxt (o kk).x (true,C)∧u.su=(o kk).su∧u.un=(o kk).un++[zs_ (recT true C)]):=⟨hne,hue⟩
        clear hqe hbe hne hue QS BS CP
        obtain ⟨a0,a1,a2,a3,a4,a5,a6⟩:=BE.out.c7
        obtain ⟨t0,T0⟩:=isx (QE.out.th (kk * 7) (by omega)).1
        have f0:=(QE.out.th (kk * 7) (by omega)).2
        obtain ⟨t1,T1⟩:=isx (QE.out.th (kk * 7+1) (by omega)).1
        have f1:=(QE.out.th (kk * 7+1) (by omega)).2
        obtain ⟨t2,T2⟩:=isx (QE.out.th (kk * 7+2) (by omega)).1
        have f2:=(QE.out.th (kk * 7+2) (by omega)).2
        obtain ⟨t3,T3⟩:=isx (QE.out.th (kk * 7+3) (by omega)).1
        have f3:=(QE.out.th (kk * 7+3) (by omega)).2
        obtain ⟨t4,T4⟩:=isx (QE.out.th (kk * 7+4) (by omega)).1
        have f4:=(QE.out.th (kk * 7+4) (by omega)).2
        obtain ⟨t5,T5⟩:=isx (QE.out.th (kk * 7+5) (by omega)).1
        have f5:=(QE.out.th (kk * 7+5) (by omega)).2
        obtain ⟨t6,T6⟩:=isx (QE.out.th (kk * 7+6) (by omega)).1
        have f6:=(QE.out.th (kk * 7+6) (by omega)).2
        go_wp2
        go_roundw
        case rel=>
         refine ⟨i,(k+1+1+1+1+1+1),updV V kk (m kk+1) v d,updm m kk (m kk+1),updo o kk u,updr rs kk (rs kk++[(true,C)]),by go_num,fun j hj=>?_,by omega,?_⟩
         ·have:=BN.out j hj
          unfold updm updr
          split
          ·rename_i e
           subst e
           simp
           omega
          ·omega
         ·refine QE.out.store hkk HOLD.out HU.out.1 (fun j hj=>?_)
          have IV:=QE.out.inv kk hkk
          have hb:=BN.out kk hkk
          have HX2:=HX.out
          rw [HH.out] at HX2
          by_cases e:j=kk
          ·subst e
           rw [xr_,HU.out.2.1,HU.out.2.2.1,HU.out.2.2.2]
           unfold updr
           rw [if_pos rfl,HC.out,HH.out]
           exact IV.put hkk HM.out (by omega) key HKP.out HX2 HVD.out.1 HVD.out.2
          ·rw [yY_ o u e]
           unfold updr
           rw [if_neg e]
           exact (QE.out.inv j hj).more (vD_ m kk) (xU_ hkk) (by unfold updm; rw [if_neg e])
        case measure=>simp [intOf]
end Go.Proofs.YtiokjphefpicbaaGreatDoor
