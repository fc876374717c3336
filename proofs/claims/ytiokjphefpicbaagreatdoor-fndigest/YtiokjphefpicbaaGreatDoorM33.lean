/- Nodes and their buckets, part 33 of the law FnDigest. -/
import Derived.Test.YtiokjphefpicbaaGreatDoorM32
namespace Go.Proofs.YtiokjphefpicbaaGreatDoor
open Go.RowKit
set_option maxRecDepth 100000
set_option maxHeartbeats 16000000
set_option linter.unusedSimpArgs false
set_option linter.unusedVariables false
section
variable {W:World} {hi lo:Nat} {ru:List ByteArray} {v0 v1:Value}
theorem wQ_ {rs:List ByteArray} (h:Own2 W v0 v1 rs ru lo hi):OwnT W v0 rs lo∧OwnT W v1 ru lo:=⟨⟨h.r0,fun k hk=>(h.b0 k hk).1⟩,⟨h.r1,fun k hk=>(h.b1 k hk).1⟩⟩
theorem rw_ (lo:Nat) (o:No) (w:World) (hlo:lo≤w.heap.size) (hs:o.su.length+o.un.length≤100000) (h0:NoR lo w o) :
  Calls Tryz.prog 126 #[nV o] w fun e w'=>∃ u:No,e=.returned (nV u)∧NoR lo w' u∧u.x=o.x∧u.su=o.su++o.un∧u.un=[]∧Below w.heap.size w w':=by
 (try unfold nV)
 have h:Hid (NoR lo w o):=h0
 have HLO:=hm_ hlo
 clear h0 hlo
 have B0:Hid (Below w.heap.size w ((w.alloc (.cells (nL o).toArray 29)).alloc (.cells nZ.toArray 29))):=(zb_ _ _).trans ((zb_ _ _).mono (by simp))
 have X0:Hid (Box ((w.alloc (.cells (nL o).toArray 29)).alloc (.cells nZ.toArray 29)) w.heap.size (nL o)∧Box ((w.alloc (.cells (nL o).toArray 29)).alloc (.cells nZ.toArray 29)) (w.heap.size+1) nZ):=⟨zo_.alloc,by have:=zo_ (W:=w.alloc (.cells (nL o).toArray 29)) (t:=29) (vs:=nZ); simpa using this⟩
 have CS:Hid (∀ W,NoR lo W o→Calls Tryz.prog 119 #[.agg #[.slice o.p2 o.su.length o.c2,.slice o.p3 o.un.length o.c3]] W _):=fun W hW=>xR_ (.slice o.p2 o.su.length o.c2) (.slice o.p3 o.un.length o.c3) o.su o.un W (by omega) (by omega) hW.row.1 hW.row.2
 go_enter Tryz.func126,Tryz.ntmps126
 go_upto_region 2 with (first | (generalize hW0:((w.alloc (.cells (nL o).toArray 29)).alloc (.cells nZ.toArray 29))=W0 at *; go_at_call 119; refine (CS.out _ (h.out.next B0.out)).mono ?_; rintro e w1 ⟨p0,c0,p1,c1,rfl,hb1,hO1⟩; obtain ⟨b0,b1,b2,b3,b4,b5,b6⟩:=(X0.out.1.next hb1).c7; obtain ⟨f0,f1,f2,f3,f4,f5,f6⟩:=(X0.out.1.next hb1).f7))
 obtain ⟨a0,a1,a2,a3,a4,a5,a6⟩:=(X0.out.2.next hb1).c7
 obtain ⟨g0,g1,g2,g3,g4,g5,g6⟩:=(X0.out.2.next hb1).f7
 have HO:Hid (OwnT w1 (.slice p0 (o.su.length+o.un.length) c0) (o.su++o.un) (w.heap.size+2)∧OwnT w1 (.slice p1 0 c1) [] (w.heap.size+2)):=by
  have e:=wQ_ hO1
  have hz:=X0.out.2.lt
  exact ⟨⟨by simpa using e.1.own,fun k hk=>by have:=e.1.ge k hk; omega⟩,⟨e.2.own,fun k hk=>by have:=e.2.ge k hk; omega⟩⟩
 have HB:Hid (Below w.heap.size w w1):=B0.out.trans (hb1.mono B0.out.size)
 clear hO1 hb1 X0 B0 CS hW0
 go_wp2
 refine bodyPost_ret (v:=.agg #[.int .i64 o.x.id,.int .i64 o.x.n,.int .i64 o.x.cut,.slice o.p0 o.ms.length o.c0,.slice o.p1 o.x.fd.length o.c1,.slice p0 (o.su.length+o.un.length) c0,.slice p1 0 c1]) (by simp [results,Tryz.results126,go_sem, *]) rfl ?_
 obtain ⟨q0,d0,e0,hc0,hg0⟩:=yH_ HO.out.1
 obtain ⟨q1,d1,e1,hc1,hg1⟩:=yH_ HO.out.2
 have E0:q0=p0∧d0=c0:=by simp at e0; exact ⟨e0.1.symm,e0.2.symm⟩
 have E1:q1=p1∧d1=c1:=by simp at e1; exact ⟨e1.1.symm,e1.2.symm⟩
 obtain ⟨rfl,rfl⟩:=E0
 obtain ⟨rfl,rfl⟩:=E1
 have HBF:Below w.heap.size w w1:=HB.out
 refine ⟨⟨o.x,o.ms,o.p0,o.c0,o.p1,o.c1,q0,d0,q1,d1,o.su++o.un,[]⟩,by simp,?_,rfl,rfl,rfl,?_⟩
 ·refine ⟨h.out.cs,(h.out.next ?_).r0,(h.out.next ?_).r1,?_,.inl rfl,(h.out.next ?_).rs,h.out.le.1,h.out.le.2.1,hc0,Nat.zero_le _⟩
  ·repeat (refine zH_ ?_ (by omega))
   exact HBF
  ·repeat (refine zH_ ?_ (by omega))
   exact HBF
  ·refine GRow.weak (lo:=w.heap.size+2) ?_ (by have:=HLO.out; omega)
   repeat (refine GRow.keep ?_ (zh_ (by omega)))
   exact hg0
  ·repeat (refine zH_ ?_ (by omega))
   exact HBF
 ·repeat (refine zH_ ?_ (by omega))
  exact HBF
def xC_ (i:Nat):ByteArray:=if i=0 then ⟨#[97]⟩ else if i=1 then ⟨#[98]⟩ else if i=2 then ⟨#[99]⟩ else if i=3 then ⟨#[100,100]⟩ else ⟨#[107,101,121]⟩
theorem qA_ (i:Nat):keyP (xC_ i)∧(xC_ i).size≤6:=by
 have hp:∀ l:List UInt8,l.length≤6→1≤l.length→(∀ c ∈ l,97≤c.toNat∧c.toNat≤122)→keyP ⟨l.toArray⟩∧(⟨l.toArray⟩:ByteArray).size≤6:=fun l h1 h2 h3=>by
  have hs:=vF_ l
  refine ⟨⟨by omega,by omega,fun j hj _=>?_⟩,by omega⟩
  exact h3 _ (by
   have:(⟨l.toArray⟩:ByteArray)[j]=l[j]'(by omega):=by simp [ByteArray.getElem_eq_getElem_data]
   rw [this]
   exact List.getElem_mem _)
 unfold xC_
 split
 ·exact hp [97] (by decide) (by decide) (by decide)
 ·split
  ·exact hp [98] (by decide) (by decide) (by decide)
  ·split
   ·exact hp [99] (by decide) (by decide) (by decide)
   ·split
    ·exact hp [100,100] (by decide) (by decide) (by decide)
    ·exact hp [107,101,121] (by decide) (by decide) (by decide)
end
section
variable {V':Int→Int→Int × Bool} {W W':World} {j lo lo' n off q:Nat} {o:No}
theorem pp_ (g len cap:Nat) (ao:Option Addr) (zs:List Int) (k s:Int) (b:Nat) (w:World) (h:yo_ w g ao len cap k s) (hr:Gen.IsRow .u8 w ao len cap zs) (hn:∀ x,ao=some x→0 < cap→x.block≠g) (hl:(len:Int)≤1048576) (hk0:0≤k) (hk:k≤1000000000) (hb:∀ i,i < 5→w.cell? ⟨b,i,none⟩=some (.string (xC_ i))) (hbg:b≠g) :
  Calls Tryz.prog 85 #[.pointer (some ⟨g,0,none⟩),.slice (some ⟨b,0,none⟩) 5 5] w fun e w'=>∃ (i:Nat) (t:Int),e=.returned (.string (xC_ i))∧yo_ w' g ao len cap (k+1) t∧w.grownBy w' (some g):=by
 have CN:Hid _:=vX_ g len cap ao zs k s 5 (by omega) (by omega) w h hr hn hl hk0 hk
 have HB:=hm_ hb
 clear h hr hn hb
 go_enter Tryz.func85,Tryz.ntmps85
 go_wp2_with fail
 refine Calls.mono CN.out ?_
 rintro e w1 ⟨n,t,hn0,rfl,hS0,hG0⟩
 have hS:=hm_ hS0
 have hG:=hm_ hG0
 have hx:w1.cell? ⟨b,n.toNat,none⟩=some (.string (xC_ n.toNat)):=zl_ hG0 (HB.out n.toNat (by omega)) hbg
 obtain ⟨h0,h5⟩:=hn0
 obtain ⟨kk,hkk⟩:∃ kk,kk=xC_ n.toNat:=⟨_,rfl⟩
 rw [← hkk] at hx
 have HKK:=hm_ hkk
 clear hS0 hG0 CN HB hkk
 go_wp2
 go_ret
 exact ⟨n.toNat,t,by rw [← HKK.out]; first | rfl | simp,hS.out,by first | exact hG.out | (refine yE_ hG.out (yJ_ _ none _) (by simp))⟩
theorem qB_:∀ i,i < 5→(#[.string ⟨#[97]⟩,.string ⟨#[98]⟩,.string ⟨#[99]⟩,.string ⟨#[100,100]⟩,.string ⟨#[107,101,121]⟩]:Array Value)[i]? = some (.string (xC_ i)):=fun i hi=>by
 have:i=0∨i=1∨i=2∨i=3∨i=4:=by omega
 rcases this with rfl | rfl | rfl | rfl | rfl <;> rfl
theorem oJ_ (g len cap:Nat) (ao:Option Addr) (zs:List Int) (k s:Int) (w:World) (h:yo_ w g ao len cap k s) (hr:Gen.IsRow .u8 w ao len cap zs) (hn:∀ x,ao=some x→0 < cap→x.block≠g) (hl:(len:Int)≤1048576) (hk0:0≤k) (hk:k≤1000000000) :
  Calls Tryz.prog 36 #[.pointer (some ⟨g,0,none⟩)] w fun e w'=>∃ (i:Nat) (t:Int),e=.returned (.string (xC_ i))∧yo_ w' g ao len cap (k+1) t∧w.grownBy w' (some g):=by
 have hg:=h.2.2.2.2.2.1
 have CP:Hid _:=pp_ g len cap ao zs k s w.heap.size (w.alloc (.cells #[.string ⟨#[97]⟩,.string ⟨#[98]⟩,.string ⟨#[99]⟩,.string ⟨#[100,100]⟩,.string ⟨#[107,101,121]⟩] 9)) h.alloc (yF_ hr (zb_ _ _)) hn hl hk0 hk (fun i hi=>by rw [World.cell?_alloc_at _ _ _ _ rfl]; exact qB_ i hi) (by omega)
 clear h hr hn
 go_enter Tryz.func36,Tryz.ntmps36
 go_wp2_with fail
 refine Calls.mono CP.out ?_
 rintro e w1 ⟨i,t,rfl,hS0,hG0⟩
 have hS:=hm_ hS0
 have hA:w.grownBy (w.alloc (.cells #[.string ⟨#[97]⟩,.string ⟨#[98]⟩,.string ⟨#[99]⟩,.string ⟨#[100,100]⟩,.string ⟨#[107,101,121]⟩] 9)) (some g):=⟨rfl,rfl,rfl,by simp,fun b hb _=>Below.heap_alloc _ _ b hb⟩
 have hG:Hid (w.grownBy w1 (some g)):=yE_ hA hG0 (fun j hj=>.inr hj)
 clear hA
 obtain ⟨kk,hkk⟩:∃ kk,kk=xC_ i:=⟨_,rfl⟩
 rw [← hkk]
 have HKK:Hid (kk=xC_ i):=hkk
 clear hS0 hG0 CP hkk
 go_wp2
 go_ret
 exact ⟨i,t,by rw [← HKK.out]; first | rfl | simp,hS.out,hG.out⟩
def NdAt (W:World) (q off:Nat) (o:No):Prop:=W.cell? ⟨q,off,none⟩=some (.int .i64 o.x.id)∧W.cell? ⟨q,off+1,none⟩=some (.int .i64 o.x.n)∧W.cell? ⟨q,off+2,none⟩=some (.int .i64 o.x.cut)∧W.cell? ⟨q,off+3,none⟩=some (.slice o.p0 o.ms.length o.c0)∧W.cell? ⟨q,off+4,none⟩=some (.slice o.p1 o.x.fd.length o.c1)∧W.cell? ⟨q,off+5,none⟩=some (.slice o.p2 o.su.length o.c2)∧W.cell? ⟨q,off+6,none⟩=some (.slice o.p3 o.un.length o.c3)
theorem NdAt.keep (h:NdAt W q off o) (hk:Kept lo W W') (hl:lo≤q):NdAt W' q off o:=⟨hk.cell hl h.1,hk.cell hl h.2.1,hk.cell hl h.2.2.1,hk.cell hl h.2.2.2.1,hk.cell hl h.2.2.2.2.1,hk.cell hl h.2.2.2.2.2.1,hk.cell hl h.2.2.2.2.2.2⟩
structure QN (w W:World) (g q:Nat) (ao:Option Addr) (len cap:Nat) (zs:List Int) (k:Int) (V:Int→Int→Int × Bool) (m:Nat→Int) (o:Nat→No) (rs:Nat→List (Bool × Cl)):Prop where
 src:∃ s,yo_ W g ao len cap k s
 row:Gen.IsRow .u8 W ao len cap zs
 nd:∀ j,j < 3→NdAt W q (j * 7) (o j)
 th:zS_ W q 21
 nor:∀ j,j < 3→NoR (q+1) W (o j)
 inv:∀ j,j < 3→z1_ V m j (o j).x (o j).su (o j).un (rs j)
 lt:g < q∧q < W.heap.size∧w.heap.size≤q
 grown:w.grownBy W (some g)
section
variable {w W W':World} {g q:Nat} {ao:Option Addr} {len cap:Nat} {zs:List Int} {k k':Int} {V:Int→Int→Int × Bool} {m:Nat→Int} {o:Nat→No} {rs:Nat→List (Bool × Cl)}
theorem zS_.grown2 (h:zS_ W q n) (hG:W.grownBy W' (some g)) (hq:q < W.heap.size) (hne:q≠g):zS_ W' q n:=fun j hj=>by
 obtain ⟨v,hv⟩:=isx (h j hj).1
 exact ⟨by rw [zl_ hG hv hne]; rfl,ws_ hG (h j hj).2 hq hne⟩
theorem QN.by (h:QN w W g q ao len cap zs k V m o rs) (hS:∃ s,yo_ W' g ao len cap k' s) (hR:Gen.IsRow .u8 W' ao len cap zs) (hG:W.grownBy W' (some g)):QN w W' g q ao len cap zs k' V m o rs:=
 ⟨hS,hR,fun j hj=>(h.nd j hj).keep (lo:=q) (wh_ hG h.lt.1) (Nat.le_refl _),h.th.grown2 hG h.lt.2.1 (by have:=h.lt.1; omega),fun j hj=>(h.nor j hj).keep (wh_ hG (by have:=h.lt.1; omega)),h.inv,⟨h.lt.1,Nat.lt_of_lt_of_le h.lt.2.1 hG.size,h.lt.2.2⟩,yE_ h.grown hG (fun j hj=>.inr hj)⟩
theorem QN.below (h:QN w W g q ao len cap zs k V m o rs) (hb:Below W.heap.size W W'):QN w W' g q ao len cap zs k V m o rs:=by
 obtain ⟨s,hs⟩:=h.src
 exact ⟨⟨s,hs.below hb⟩,yF_ h.row hb,fun j hj=>(h.nd j hj).keep (lo:=q) (yt_ hb) (Nat.le_refl _),h.th.next hb h.lt.2.1,fun j hj=>(h.nor j hj).next hb,h.inv,⟨h.lt.1,Nat.lt_of_lt_of_le h.lt.2.1 hb.size,h.lt.2.2⟩,yE_ h.grown ⟨hb.os,hb.tape,hb.output,hb.size,fun b h' _=>hb.block b h'⟩ (row':=none) (by simp)⟩
def updo (o:Nat→No) (j:Nat) (u:No):Nat→No:=fun i=>if i=j then u else o i
def updr (rs:Nat→List (Bool × Cl)) (j:Nat) (l:List (Bool × Cl)):Nat→List (Bool × Cl):=fun i=>if i=j then l else rs i
theorem xr_ (o:Nat→No) (j:Nat) (u:No):updo o j u j=u:=if_pos rfl
theorem yY_ (o:Nat→No) {j i:Nat} (u:No) (h:i≠j):updo o j u i=o i:=if_neg h
theorem vT_ {u:No} {id:Int} (h:NoR lo W u) (hx:u.x=newN id) (hs:u.su=[]) (hu:u.un=[]):NoR lo' W' u:=by
 have hc:u.ms=[]:=by
  have:=h.cs
  rw [hx] at this
  exact List.map_eq_nil_iff.1 this.symm
 refine ⟨h.cs,?_,?_,?_,?_,fun m hm=>?_,h.le⟩
 ·rw [hc]; exact .inl rfl
 ·rw [hx]; exact .inl rfl
 ·rw [hs]; exact .inl rfl
 ·rw [hu]; exact .inl rfl
 ·rw [hc] at hm; cases hm
theorem QN.store {m':Nat→Int} {rs':Nat→List (Bool × Cl)} {u:No} (h:QN w W g q ao len cap zs k V m o rs) (hj:j < 3) (hold:∀ x,ao=some x→0 < cap→x.block < w.heap.size) (hu:NoR (q+1) W u) (hi:∀ i,i < 3→z1_ V' m' i (updo o j u i).x (updo o j u i).su (updo o j u i).un (rs' i)) :
  QN w (((((((W.setCell ⟨q,j * 7,none⟩ (.int .i64 u.x.id)).setCell ⟨q,j * 7+1,none⟩ (.int .i64 u.x.n)).setCell ⟨q,j * 7+2,none⟩ (.int .i64 u.x.cut)).setCell ⟨q,j * 7+3,none⟩ (.slice u.p0 u.ms.length u.c0)).setCell ⟨q,j * 7+4,none⟩ (.slice u.p1 u.x.fd.length u.c1)).setCell ⟨q,j * 7+5,none⟩ (.slice u.p2 u.su.length u.c2)).setCell ⟨q,j * 7+6,none⟩ (.slice u.p3 u.un.length u.c3)) g q ao len cap zs k V' m' (updo o j u) rs':=by
 have hgq:g≠q:=by have:=h.lt.1; omega
 have hrow:∀ (X:World) (i:Nat) (x:Value),Gen.IsRow .u8 X ao len cap zs→Gen.IsRow .u8 (X.setCell ⟨q,i,none⟩ x) ao len cap zs:=fun X i x hX=>xv_ hX (fun y hy hc=>by have:=hold y hy hc; have:=h.lt.2.2; omega) (ym_ X q i x)
 have hgr:∀ (X:World) (i:Nat) (x:Value),w.grownBy X (some g)→w.grownBy (X.setCell ⟨q,i,none⟩ x) (some g):=fun X i x hX=>yE_ hX (ym_ X q i x) (fun y hy=>.inl (by cases hy; exact h.lt.2.2))
 have hsz:∀ (X:World) (i:Nat) (x:Value),q < X.heap.size→q < (X.setCell ⟨q,i,none⟩ x).heap.size:=fun X i x hX=>by simpa [World.setCell] using hX
 obtain ⟨s,hs⟩:=h.src
 refine ⟨⟨s,((((((hs.set hgq).set hgq).set hgq).set hgq).set hgq).set hgq).set hgq⟩,hrow _ _ _ (hrow _ _ _ (hrow _ _ _ (hrow _ _ _ (hrow _ _ _ (hrow _ _ _ (hrow _ _ _ h.row)))))),fun i hi3=>?_,h.th.set.set.set.set.set.set.set,fun i hi3=>?_,hi,⟨h.lt.1,hsz _ _ _ (hsz _ _ _ (hsz _ _ _ (hsz _ _ _ (hsz _ _ _ (hsz _ _ _ (hsz _ _ _ h.lt.2.1)))))),h.lt.2.2⟩,hgr _ _ _ (hgr _ _ _ (hgr _ _ _ (hgr _ _ _ (hgr _ _ _ (hgr _ _ _ (hgr _ _ _ h.grown))))))⟩
 ·by_cases e:i=j
  ·subst e
   rw [xr_]
   refine ⟨?_,?_,?_,?_,?_,?_,?_⟩
   ·rw [zq_ (by omega),zq_ (by omega),zq_ (by omega),zq_ (by omega),zq_ (by omega),zq_ (by omega)]; exact z0_ (h.th _ (by omega)).1
   ·rw [zq_ (by omega),zq_ (by omega),zq_ (by omega),zq_ (by omega),zq_ (by omega)]; exact z0_ (h.th.set _ (by omega)).1
   ·rw [zq_ (by omega),zq_ (by omega),zq_ (by omega),zq_ (by omega)]; exact z0_ (h.th.set.set _ (by omega)).1
   ·rw [zq_ (by omega),zq_ (by omega),zq_ (by omega)]; exact z0_ (h.th.set.set.set _ (by omega)).1
   ·rw [zq_ (by omega),zq_ (by omega)]; exact z0_ (h.th.set.set.set.set _ (by omega)).1
   ·rw [zq_ (by omega)]; exact z0_ (h.th.set.set.set.set.set _ (by omega)).1
   ·exact z0_ (h.th.set.set.set.set.set.set _ (by omega)).1
  ·rw [yY_ o u e]
   obtain ⟨c0,c1,c2,c3,c4,c5,c6⟩:=h.nd i hi3
   have e2:i < j∨j < i:=by omega
   refine ⟨?_,?_,?_,?_,?_,?_,?_⟩ <;> (rw [zq_ (by omega),zq_ (by omega),zq_ (by omega),zq_ (by omega),zq_ (by omega),zq_ (by omega),zq_ (by omega)]; assumption)
 ·have key:∀ (X:World) (y:No) (i:Nat) (x:Value),NoR (q+1) X y→NoR (q+1) (X.setCell ⟨q,i,none⟩ x) y:=fun X y i x hX=>hX.keep (zh_ (by omega))
  by_cases e:i=j
  ·subst e
   rw [xr_]
   exact key _ _ _ _ (key _ _ _ _ (key _ _ _ _ (key _ _ _ _ (key _ _ _ _ (key _ _ _ _ (key _ _ _ _ hu))))))
  ·rw [yY_ o u e]
   exact key _ _ _ _ (key _ _ _ _ (key _ _ _ _ (key _ _ _ _ (key _ _ _ _ (key _ _ _ _ (key _ _ _ _ (h.nor i hi3)))))))
end
end
end Go.Proofs.YtiokjphefpicbaaGreatDoor
