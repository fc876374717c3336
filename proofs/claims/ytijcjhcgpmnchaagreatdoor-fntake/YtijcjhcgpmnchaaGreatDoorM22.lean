/- Nodes, part 22 of the law FnTake. -/
import Derived.Test.YtijcjhcgpmnchaaGreatDoorM11
import Derived.Test.YtijcjhcgpmnchaaGreatDoorM17
namespace Go.Proofs.YtijcjhcgpmnchaaGreatDoor
open Go.RowKit
set_option maxRecDepth 100000
set_option maxHeartbeats 16000000
set_option linter.unusedSimpArgs false
set_option linter.unusedVariables false
variable {W W' w w' wr':World} {b base g n n' ob vc:Nat} {m m':List Sib} {ok:Bool} {rest:List UInt8} {u u' v v' v0 v1 v2 v3:Value} {vo:Option Addr} {x y z:Int} {xs:List Value}
theorem yB_ {o:Nat} (h:W.cell? ⟨b,o,none⟩=some v) (hne:b≠g):((((W.setCell ⟨g,0,none⟩ v0).setCell ⟨g,1,none⟩ v1).setCell ⟨g,2,none⟩ v2).setCell ⟨g,3,none⟩ v3).cell? ⟨b,o,none⟩=some v:=zg_ (zg_ (zg_ (zg_ h hne) hne) hne) hne
theorem r4_ {e:TypeId} {size:Nat} (h:W.ownsRow base e size v n xs) (hG:W.grownBy W' (some g)) (hne:v.ownBlock≠some g):W'.ownsRow base e size v n xs:=by
 refine ⟨h.1,?_⟩;rcases h.2 with h' | ⟨k,cap,cur,rfl,hb,hh,r⟩
 ·exact .inl h'
 ·refine .inr ⟨k,cap,cur,rfl,hb,?_,r⟩
  rw [hG.block k (by
   rcases Nat.lt_or_ge k W.heap.size with h' | h'
   ·exact h'
   ·rw [Array.getElem?_eq_none h'] at hh; cases hh) (fun e=>hne (by simp [Value.ownBlock]; cases e; rfl))]
  exact hh
structure RO (w wr:World) (g ob:Nat) (vo:Option Addr) (n vc:Nat) (x y z:Int) (m:List Sib):Prop where
 own:wr.ownsRow 0 89 4 (.slice vo n vc) n (flat m)
 len:n=m.length
 box:OBx wr ob (.slice vo n vc) x y z
 ne:(Value.slice vo n vc).ownBlock≠some ob
 new:∀ k,(Value.slice vo n vc).ownBlock=some k->w.heap.size+1 < k
 rd:RBX w wr g
 obn:w.heap.size+1 < ob
theorem RO.below {wr:World} (h:RO w wr g ob vo n vc x y z m) (hb:Below wr.heap.size wr wr'):RO w wr' g ob vo n vc x y z m:=
 ⟨zP_ h.own hb,h.len,h.box.next hb,h.ne,h.new,h.rd.below hb,h.obn⟩
theorem RO.grown {wr:World} (h:RO w wr g ob vo n vc x y z m) (hg:g < w.heap.size) (hG:wr.grownBy wr' (some g)):RO w wr' g ob vo n vc x y z m:=by
 have hne:ob≠g:=by have:=h.obn; omega
 obtain ⟨⟨o0,o1,o2,o3⟩,hT,hz⟩:=h.box;refine ⟨r4_ h.own hG (fun e=>by have:=h.new _ e; omega),h.len,⟨⟨zm_ hG o0 hne,zm_ hG o1 hne,zm_ hG o2 hne,zm_ hG o3 hne⟩,fun j hj=>?_,Nat.lt_of_lt_of_le hz hG.size⟩,h.ne,h.new,h.rd.grown hg hG,h.obn⟩;obtain ⟨h1,h2⟩:=hT j hj;obtain ⟨u,hu⟩:=isx h1;exact ⟨by rw [zm_ hG hu hne]; rfl,zC_ hG h2 hz hne⟩
theorem RBX.gro {wr:World} (h:RBX w wr g) (hG:Gro wr wr' u u') (hne:∀ k,u.ownBlock=some k->w.heap.size+1 < k):RBX w wr' g:=by
 obtain ⟨⟨c0,c1,c2⟩,hT,hz,hw⟩:=h;have q0:u.ownBlock≠some w.heap.size:=fun e=>by have:=hne _ e; omega
 have q1:u.ownBlock≠some (w.heap.size+1):=fun e=>by have:=hne _ e; omega
 refine ⟨⟨hG.cell c0 q0,hG.cell c1 q0,hG.cell c2 q0⟩,xC_ hT hG hz q1,Nat.lt_of_lt_of_le hz hG.size,?_⟩;refine ⟨hG.grown.os.trans hw.os,hG.grown.tape.trans hw.tape,hG.grown.output.trans hw.output,Nat.le_trans hw.size hG.size,fun b hb hn=>?_⟩;exact (hG.grown.block b (Nat.lt_of_lt_of_le hb hw.size) (fun e=>by have:=hne b e.symm; omega)).trans (hw.block b hb hn)
theorem RBX.set {wr:World} {o:Nat} (h:RBX w wr g) (hb:w.heap.size+1 < b):RBX w (wr.setCell ⟨b,o,none⟩ u) g:=by
 obtain ⟨⟨c0,c1,c2⟩,hT,hz,hw⟩:=h;refine ⟨⟨zg_ c0 (by omega),zg_ c1 (by omega),zg_ c2 (by omega)⟩,hT.set,by simpa [World.setCell] using hz,⟨by simpa [World.setCell] using hw.os,by simpa [World.setCell] using hw.tape,by simpa [World.setCell] using hw.output,by simpa [World.setCell] using hw.size,fun k hk hn=>?_⟩⟩;exact (Below.heap_setCell wr ⟨b,o,none⟩ u k (fun e=>by simp at e; omega)).trans (hw.block k hk hn)
theorem RO.set {wr:World} {o:Nat} (h:RO w wr g ob vo n vc x y z m) (hb:w.heap.size+1 < b) (hob:ob≠b) (hn:(Value.slice vo n vc).ownBlock≠some b):RO w (wr.setCell ⟨b,o,none⟩ u) g ob vo n vc x y z m:=
 ⟨ownsRow_setCell_other h.own hn _,h.len,⟨⟨zg_ h.box.1.1 hob,zg_ h.box.1.2.1 hob,zg_ h.box.1.2.2.1 hob,zg_ h.box.1.2.2.2 hob⟩,h.box.2.1.set,by simpa [World.setCell] using h.box.2.2⟩,h.ne,h.new,h.rd.set hb,h.obn⟩
theorem RO.put {wr:World} (h:RO w wr g ob vo n vc x y z m) (ho:wr'.ownsRow 0 89 4 v' n' (flat m')) (hn:n'=m'.length) (hg:Gro wr wr' (.slice vo n vc) v'):∃ vo' vc',v'=.slice vo' n' vc'∧RO w (wr'.setCell ⟨ob,0,none⟩ v') g ob vo' n' vc' x y z m':=by
 have hvne:v'.ownBlock≠some ob:=hg.ne h.box.2.2 h.ne
 have hnew:∀ k,v'.ownBlock=some k->w.heap.size+1 < k:=fun k hk=>by
  rcases hg.fresh k hk with h' | h'
  ·exact h.new k h'
  ·have:=h.rd.2.2.1; omega
 obtain ⟨vo',vc',rfl⟩:∃ vo' vc',v'=.slice vo' n' vc':=by
  rcases ho.2 with ⟨rfl,hn0⟩ | ⟨k,cap,cur,rfl,_⟩
  ·exact ⟨none,0,by rw [hn0]⟩
  ·exact ⟨_,cap,rfl⟩
 exact ⟨vo',vc',rfl,⟨ownsRow_setCell_other ho hvne _,hn,(h.box.gro hg h.ne).set,hvne,hnew,(h.rd.gro hg h.new).set h.obn,h.obn⟩⟩
def meas (v:Value) (c:Option Value):Nat:=match v with
 | .bool true=>1+(match c with
  | some (.string q)=>q.size
  | _=>0)
 | _=>0
theorem oC_ (c:Option Value):meas (.bool false) c=0:=rfl
theorem sH_ (q:ByteArray):meas (.bool true) (some (.string q))=1+q.size:=rfl
theorem ph_ {s:Sib} (h:zQ_ W g 4):x9_ ((((W.setCell ⟨g,0,none⟩ (.int .i64 s.p)).setCell ⟨g,1,none⟩ (.int .i64 s.n)).setCell ⟨g,2,none⟩ (.int .i64 s.v)).setCell ⟨g,3,none⟩ (.bool s.d)) g 0 s:=by
 obtain ⟨v0,y0⟩:=isx (h 0 (by omega)).1;obtain ⟨v1,y1⟩:=isx (h 1 (by omega)).1;obtain ⟨v2,y2⟩:=isx (h 2 (by omega)).1;obtain ⟨v3,y3⟩:=isx (h 3 (by omega)).1;exact ⟨zw_ (zw_ (zw_ (zI_ y0) (by omega)) (by omega)) (by omega),zw_ (zw_ (zI_ (zw_ y1 (by omega))) (by omega)) (by omega),zw_ (zI_ (zw_ (zw_ y2 (by omega)) (by omega))) (by omega),zI_ (zw_ (zw_ (zw_ y3 (by omega)) (by omega)) (by omega))⟩
theorem tz_ (h:zQ_ W b 4) (hz:b < W.heap.size) (hG:W.grownBy W' (some g)) (hne:b≠g):zQ_ W' b 4:=fun j hj=>by
 obtain ⟨h1,h2⟩:=h j hj;obtain ⟨u,hu⟩:=isx h1;exact ⟨by rw [zm_ hG hu hne]; rfl,zC_ hG h2 hz hne⟩
theorem oj_ {l:List UInt8} {e:Ending} (h:SbP w g l e w'):∃ (ok:Bool) (s:Sib) (s2:ByteArray),e=.returned (.tuple #[.agg #[.int .i64 s.p,.int .i64 s.n,.int .i64 s.v,.bool s.d],.bool ok])∧w.grownBy w' (some g)∧(ok=true->Left w' g s2∧sibR l=some (s,bl s2))∧(ok=false->sibR l=none):=by
 rcases h with ⟨s,rest,h1,rfl,s2,hL,hb,hG⟩ | ⟨h1,s,rfl,hG⟩
 ·exact ⟨true,s,s2,rfl,hG,(fun _=>⟨hL,by rw [h1,hb]⟩),(fun h=>by cases h)⟩
 ·exact ⟨false,s,⟨#[]⟩,rfl,hG,(fun h=>by cases h),(fun _=>h1)⟩
def LI (l0:List UInt8) (ok:Bool) (m:List Sib) (l:List UInt8):Prop:=if ok=true then (∀ o,SbsR l o->SbsR l0 (o.map (m ++ ·))) else SbsR l0 none
def vv_ (l:List UInt8) (x y z:Int) (m:List Sib):Prop:=(∃ rest,rvS l 3=some ((x,y,z),rest)∧SbsR rest (some m))∧OkP m x y z
def wC_ (l:List UInt8):Prop:=∀ x y z m,¬ vv_ l x y z m
theorem n0_ {l:List UInt8} (h:Hid (∃ rest,rvS l 3=some ((x,y,z),rest)∧SbsR rest (some m))) (hn:¬ OkP m x y z):Hid (wC_ l):=by
 rintro x' y' z' m' ⟨⟨r',h1,h2⟩,h3⟩;obtain ⟨r,g1,g2⟩:=h.out;rw [g1] at h1;cases h1;cases g2.det h2;exact hn h3
theorem nv_ {l:List UInt8} (h:rvS l 3=some ((x,y,z),rest)) (hn:SbsR rest none):wC_ l:=by
 rintro x' y' z' m' ⟨⟨r',h1,h2⟩,_⟩;rw [h] at h1;cases h1;cases hn.det h2
theorem sn_ {l r:List UInt8} {s:Sib} (h:sibR l=some (s,r)):r.length+1<=l.length:=by
 obtain ⟨p,e,_,_⟩:=uN_ h;rw [e]
 first | (simp; done) | (simp; omega)
theorem oE_ {l0 l l2:List UInt8} {s:Sib} (hl:l≠[]) (h:∀ o,SbsR l o->SbsR l0 (o.map (m ++ ·))) (h1:ok=true->sibR l=some (s,l2)) (h2:ok=false->sibR l=none):LI l0 ok (m++[s]) l2:=by
 cases ok
 ·unfold LI;rw [if_neg (by simp)];exact h none (.no hl (h2 rfl))
 ·unfold LI;rw [if_pos rfl];intro o ho
  have:=h _ (.yes (h1 rfl) ho)
  cases o <;> simpa using this
def RoP (w:World) (g:Nat) (l:List UInt8) (e:Ending) (w':World):Prop:=
 (∃ (m:List Sib) (x y z:Int) (v:Value),vv_ l x y z m∧e=.returned (.tuple #[.agg #[v,.int .i64 x,.int .i64 y,.int .i64 z],.bool true])∧w'.ownsRow 0 89 4 v m.length (flat m)∧(∀ k,v.ownBlock=some k->w.heap.size<=k)∧(∃ s',Left w' g s'∧bl s'=[])∧w.grownBy w' (some g)) ∨
 (wC_ l∧∃ (vo:Option Addr) (n vc:Nat) (x y z:Int),e=.returned (.tuple #[.agg #[.slice vo n vc,.int .i64 x,.int .i64 y,.int .i64 z],.bool false])∧w.grownBy w' (some g))
theorem no_ {l:List UInt8} (h:rvS l 3=some ((x,y,z),rest)):rest.length<=l.length:=by
 obtain ⟨C,_,_,_,e,_⟩:=rR_ h;rw [e]; simp
theorem tO_ (g:Nat) (s:ByteArray) (w:World) (hg:g < w.heap.size) (hL0:Left w g s) (hs:s.size<=65536) :
  Calls Tryz.prog 195 #[.agg #[.func (.func 220) #[] #[.pointer (some ⟨g,0,none⟩)],.func (.func 221) #[] #[.pointer (some ⟨g,0,none⟩)],.func (.func 223) #[] #[.pointer (some ⟨g,0,none⟩)]]] w fun e w'=>RoP w g (bl s) e w':=by
 obtain ⟨i0,hi,hz0,hz1,hz2⟩:=info_parts yG_;have HI:Hid (Tryz.prog.info? 89=some i0∧i0.zero=some (.agg #[.int .i64 0,.int .i64 0,.int .i64 0,.bool false])∧i0.size=4∧i0.bytes=32):=⟨hi,hz0,hz1,hz2⟩;clear hi hz0 hz1 hz2;have B0:Hid (Below w.heap.size w ((w.alloc (.cells #[.func (.func 220) #[] #[.pointer (some ⟨g,0,none⟩)],.func (.func 221) #[] #[.pointer (some ⟨g,0,none⟩)],.func (.func 223) #[] #[.pointer (some ⟨g,0,none⟩)]] 195)).alloc (.cells #[.slice none 0 0,.int .i64 0,.int .i64 0,.int .i64 0] 37))):=((zb_ _ _).trans ((zb_ _ _).mono (by simp)))
 have RX:Hid (RBX w ((w.alloc (.cells #[.func (.func 220) #[] #[.pointer (some ⟨g,0,none⟩)],.func (.func 221) #[] #[.pointer (some ⟨g,0,none⟩)],.func (.func 223) #[] #[.pointer (some ⟨g,0,none⟩)]] 195)).alloc (.cells #[.slice none 0 0,.int .i64 0,.int .i64 0,.int .i64 0] 37)) g):=⟨⟨by go_simp,by go_simp,by go_simp⟩,fun j hj=>by
  have hj':j=0∨j=1∨j=2∨j=3:=by omega
  rcases hj' with rfl | rfl | rfl | rfl <;> exact ⟨by go_simp,by go_simp⟩,by simp,⟨B0.out.os,B0.out.tape,B0.out.output,B0.out.size,fun b hb _=>B0.out.block b hb⟩⟩
 have LX:Hid (Left ((w.alloc (.cells #[.func (.func 220) #[] #[.pointer (some ⟨g,0,none⟩)],.func (.func 221) #[] #[.pointer (some ⟨g,0,none⟩)],.func (.func 223) #[] #[.pointer (some ⟨g,0,none⟩)]] 195)).alloc (.cells #[.slice none 0 0,.int .i64 0,.int .i64 0,.int .i64 0] 37)) g s):=⟨za_ B0.out hL0.1 hg,zf_ B0.out hL0.2 hg⟩;have HG:=hm_ hg;have GZ0:Hid (g < ((w.alloc (.cells #[.func (.func 220) #[] #[.pointer (some ⟨g,0,none⟩)],.func (.func 221) #[] #[.pointer (some ⟨g,0,none⟩)],.func (.func 223) #[] #[.pointer (some ⟨g,0,none⟩)]] 195)).alloc (.cells #[.slice none 0 0,.int .i64 0,.int .i64 0,.int .i64 0] 37)).heap.size):=Nat.lt_of_lt_of_le hg B0.out.size;clear hL0 B0;go_enter Tryz.func195,Tryz.ntmps195;go_wp2_with fail;generalize ((w.alloc (.cells #[.func (.func 220) #[] #[.pointer (some ⟨g,0,none⟩)],.func (.func 221) #[] #[.pointer (some ⟨g,0,none⟩)],.func (.func 223) #[] #[.pointer (some ⟨g,0,none⟩)]] 195)).alloc (.cells #[.slice none 0 0,.int .i64 0,.int .i64 0,.int .i64 0] 37))=W0 at *;refine (rc_ g s _ GZ0.out LX.out hs).mono ?_;rintro e w1 hP;rcases hP with ⟨x,y,z,rest,hrv,rfl,s0,hL1,hbl,hG1⟩ | ⟨hrv,rfl,hG1⟩
 ·have HRV:Hid (rvS (bl s) 3=some ((x,y,z),bl s0)):=by show _=_; rw [hrv,hbl]
  have hs0:s0.size<=65536:=by have:=no_ HRV.out; rw [zF_,zF_] at this; omega
  replace RX:Hid (RBX w w1 g):=RX.out.grown HG.out hG1;have L1:Hid (Left w1 g s0):=hL1;have GZ1:Hid (g < w1.heap.size):=Nat.lt_of_lt_of_le GZ0.out hG1.size;clear hrv hbl hL1 hG1 LX GZ0
  have RI:Hid (RO w ((w1.alloc (.cells #[.int .i64 x,.int .i64 y,.int .i64 z] 35)).alloc (.cells #[.slice none 0 0,.int .i64 x,.int .i64 y,.int .i64 z] 37)) g (w1.heap.size+1) none 0 0 x y z []):=⟨World.ownsRow_nil _ 0 _ 4,rfl,⟨⟨by go_simp,by go_simp,by go_simp,by go_simp⟩,fun j hj=>by
   have hj':j=0∨j=1∨j=2∨j=3:=by omega
   rcases hj' with rfl | rfl | rfl | rfl <;> exact ⟨by go_simp,by go_simp⟩,by simp⟩,Gro.none_ne,fun k hk=>absurd hk Gro.none_ne,(RX.out.below (zb_ _ _)).below (zb_ _ _),by have:=RX.out.2.2.1; omega⟩
  have LI0:Hid (Left ((w1.alloc (.cells #[.int .i64 x,.int .i64 y,.int .i64 z] 35)).alloc (.cells #[.slice none 0 0,.int .i64 x,.int .i64 y,.int .i64 z] 37)) g s0):=xc_ (xc_ L1.out GZ1.out) (Nat.lt_of_lt_of_le GZ1.out (zb_ _ _).size);have GZ2:Hid (g < ((w1.alloc (.cells #[.int .i64 x,.int .i64 y,.int .i64 z] 35)).alloc (.cells #[.slice none 0 0,.int .i64 x,.int .i64 y,.int .i64 z] 37)).heap.size):=by have:=GZ1.out; show _ < _; simp; omega
  have HL0:Hid (LI (bl s0) true [] (bl s0)):=by
   show LI _ _ _ _
   unfold LI;rw [if_pos rfl];intro o h;cases o <;> simpa using h
  clear RX L1 GZ1;go_wp2;generalize ((w1.alloc (.cells #[.int .i64 x,.int .i64 y,.int .i64 z] 35)).alloc (.cells #[.slice none 0 0,.int .i64 x,.int .i64 y,.int .i64 z] 37))=W2 at *;generalize w1.heap.size+1=ob at *;go_loopw [5] (fun s5 wr=>∃ (ok:Bool) (m:List Sib) (s':ByteArray) (vo:Option Addr) (n vc:Nat),s5=.bool ok∧RO w wr g ob vo n vc x y z m∧g < wr.heap.size∧Hid (LI (bl s0) ok m (bl s'))∧Hid (ok=true->Left wr g s'∧s'.size+m.length<=65536)) (fun s5 wr=>meas s5 (wr.cell? ⟨g,0,none⟩))
  case atStart=>exact ⟨true,[],s0,none,0,0,rfl,RI.out,GZ2.out,HL0,fun _=>⟨LI0.out,by simp; omega⟩⟩
  case round=>
   clear RI LI0 GZ2 HL0;obtain ⟨ok,m,s',vo,n,vc,rfl,hRX,hGZ,HLI,HLL⟩:=hrel;have RX:=hm_ hRX;have GZ:=hm_ hGZ;clear hRX hGZ;cases ok
   ·have HN:Hid (wC_ (bl s)):=nv_ HRV.out (by have:=HLI.out; unfold LI at this; simpa using this);obtain ⟨⟨o0,o1,o2,o3⟩,_,hz9⟩:=RX.out.box;obtain ⟨_,hTr,_,hGr⟩:=RX.out.rd;have hobn:=RX.out.obn;obtain ⟨t0,T0⟩:=isx (hTr 0 (by omega)).1;have Z0:=(hTr 0 (by omega)).2;obtain ⟨t1,T1⟩:=isx (hTr 1 (by omega)).1;have Z1:=(hTr 1 (by omega)).2;obtain ⟨t2,T2⟩:=isx (hTr 2 (by omega)).1;have Z2:=(hTr 2 (by omega)).2;obtain ⟨t3,T3⟩:=isx (hTr 3 (by omega)).1;have Z3:=(hTr 3 (by omega)).2;clear hTr;have GR:=hm_ hGr;clear hGr;go_wp2_with fail;refine wp_region_held_drew (S:=(fun w'=>w'.cell? ⟨ob,0,none⟩=some (.slice vo n vc)∧w'.cell? ⟨ob,1,none⟩=some (.int .i64 x)∧w'.cell? ⟨ob,2,none⟩=some (.int .i64 y)∧w'.cell? ⟨ob,3,none⟩=some (.int .i64 z))) (by kernel_rfl) ?_ (fun hH=>?_)
    ·(try dsimp only);exact ⟨o0,o1,o2,o3⟩
    refine wTk 0 ?_;refine wTk 1 ?_;refine wTk 2 ?_;refine wTn 3 ?_;refine wTn 4 ?_;refine wTk 5 ?_;refine wRd 6 (fun K hK=>?_);go_simp;(try simp only []);refine wHk hK (⟨yB_ hH.1 (by omega),yB_ hH.2.1 (by omega),yB_ hH.2.2.1 (by omega),yB_ hH.2.2.2 (by omega)⟩) ?_;clear hK K hH;intro hH;refine wTk 7 ?_;refine wDn ?_;clear hH;go_wp2;refine bodyPost_ret (v:=.tuple #[.agg #[.slice vo n vc,.int .i64 x,.int .i64 y,.int .i64 z],.bool false]) (by simp [results,Tryz.results195,go_sem,T0,T1,T2,T3,Z0,Z1,Z2,Z3]) rfl ?_;have h9:=yA_ (b:=w.heap.size+1) (o1:=0) (o2:=1) (o3:=2) (o4:=3) (u1:=.slice vo n vc) (u2:=.int .i64 x) (u3:=.int .i64 y) (u4:=.int .i64 z) GR.out (by omega);exact .inr ⟨HN.out,_,_,_,_,_,_,rfl,⟨h9.os,h9.tape,h9.output,h9.size,h9.block⟩⟩
   have HLT:Hid (∀ o,SbsR (bl s') o->SbsR (bl s0) (o.map (m ++ ·))):=by
    show ∀ o,_
    have:=HLI.out
    unfold LI at this
    simpa using this
   have LX:Hid (Left wr g s'):=(HLL.out rfl).1;have HLM:Hid (s'.size+m.length<=65536):=(HLL.out rfl).2;clear HLL;clear HLI;obtain ⟨⟨c0,c1,c2⟩,_,hz1,_⟩:=RX.out.rd;by_cases hz0:s'.size=0
   ·have HY:Hid (∃ rest,rvS (bl s) 3=some ((x,y,z),rest)∧SbsR rest (some m)):=by
     have h1:=HLT.out (some []) (by rw [sD_ hz0]; exact .nil);exact ⟨_,HRV.out,by simpa using h1⟩
    go_wp2_with fail;refine (to_ g s' _ LX.out.1 hz0).mono ?_;rintro e w3 ⟨rfl,hw3⟩;obtain rfl:wr=w3:=hw3.symm;clear c0 c1 c2 hz1 HLT;obtain ⟨⟨o0,o1,o2,o3⟩,_,hz9⟩:=RX.out.box;have hobn:=RX.out.obn
    have RW:Hid (zk_ wr vo m):=by
     have hh:=RX.out.own;rw [RX.out.len] at hh;obtain ⟨o',c',e',hr',_⟩:=wf_ hh;cases e';exact hr'
    obtain ⟨kk,hkk⟩:=qX_ (OkP m x y z)
    have CK:Hid (∀ W,zk_ W vo m->Calls Tryz.prog 51 #[.agg #[.slice vo n vc,.int .i64 x,.int .i64 y,.int .i64 z]] W fun e w'=>e=.returned (.bool kk)∧Below W.heap.size W w'):=fun W h=>by
     have h1:=yJ_ vc vo m x y z kk hkk W (by have:=HLM.out; omega) h;rw [<- RX.out.len] at h1;exact h1
    go_wp2_with fail;refine wp_region_held_drew (S:=(fun w'=>w'.cell? ⟨ob,0,none⟩=some (.slice vo n vc)∧w'.cell? ⟨ob,1,none⟩=some (.int .i64 x)∧w'.cell? ⟨ob,2,none⟩=some (.int .i64 y)∧w'.cell? ⟨ob,3,none⟩=some (.int .i64 z))) (by kernel_rfl) ?_ (fun hH=>?_)
    ·(try dsimp only);exact ⟨o0,o1,o2,o3⟩
    refine wTk 0 ?_;refine wTk 1 ?_;refine wTk 2 ?_;refine wTk 3 ?_;refine wRd 4 (fun K hK=>?_);go_simp;refine Calls.mono (CK.out _ (RW.out.next (zd_ _))) ?_;rintro e w9 ⟨rfl,hb⟩;have RX9:Hid (RO w w9 g ob vo n vc x y z m):=(RX.out.below (zd_ _)).below hb;have L9:Hid (Left w9 g s'):=zu_ (zu_ LX.out (zd_ _) GZ.out) hb GZ.out;refine hK.out _ _ ?_ (fun hH'=>?_)
    ·(try dsimp only);exact ⟨za_ hb hH.1 (zh_ hH.1),za_ hb hH.2.1 (zh_ hH.2.1),za_ hb hH.2.2.1 (zh_ hH.2.2.1),za_ hb hH.2.2.2 (zh_ hH.2.2.2)⟩
    clear hK K hH hb;have hH:=hH';clear hH';refine wLy ?_;obtain ⟨_,hTr,_,hGr⟩:=RX9.out.rd;obtain ⟨t0,T0⟩:=isx (hTr 0 (by omega)).1;have Z0:=(hTr 0 (by omega)).2;obtain ⟨t1,T1⟩:=isx (hTr 1 (by omega)).1;have Z1:=(hTr 1 (by omega)).2;obtain ⟨t2,T2⟩:=isx (hTr 2 (by omega)).1;have Z2:=(hTr 2 (by omega)).2;obtain ⟨t3,T3⟩:=isx (hTr 3 (by omega)).1;have Z3:=(hTr 3 (by omega)).2;clear hTr;have GR:=hm_ hGr;clear hGr;refine wTk 5 ?_;refine wRd 6 (fun K hK=>?_);go_simp;(try simp only []);refine wHk hK (⟨yB_ hH.1 (by omega),yB_ hH.2.1 (by omega),yB_ hH.2.2.1 (by omega),yB_ hH.2.2.2 (by omega)⟩) ?_;clear hK K hH;intro hH;refine wTk 7 ?_;refine wDn ?_;clear hH;cases kk
    ·have HN:Hid (wC_ (bl s)):=n0_ HY (fun h=>by have:=hkk.out.2 h; cases this);go_wp2;refine bodyPost_ret (v:=.tuple #[.agg #[.slice vo n vc,.int .i64 x,.int .i64 y,.int .i64 z],.bool false]) (by simp [results,Tryz.results195,go_sem,T0,T1,T2,T3,Z0,Z1,Z2,Z3]) rfl ?_;exact .inr ⟨HN.out,_,_,_,_,_,_,rfl,yA_ (b:=w.heap.size+1) GR.out (by omega)⟩
    ·have HG2:Hid (vv_ (bl s) x y z m):=⟨HY.out,hkk.out.1 rfl⟩;go_wp2;refine bodyPost_ret (v:=.tuple #[.agg #[.slice vo n vc,.int .i64 x,.int .i64 y,.int .i64 z],.bool true]) (by simp [results,Tryz.results195,go_sem,T0,T1,T2,T3,Z0,Z1,Z2,Z3]) rfl ?_;refine .inl ⟨m,x,y,z,_,HG2.out,rfl,?_,fun k hk=>by have:=RX9.out.new k hk; omega,⟨s',wi_ L9.out (by have:=HG.out; omega),sD_ hz0⟩,yA_ (b:=w.heap.size+1) GR.out (by omega)⟩;have ho:=xQ_ (g:=w.heap.size+1) (v0:=.slice vo n vc) (v1:=.int .i64 x) (v2:=.int .i64 y) (v3:=.int .i64 z) RX9.out.own (fun e=>by have:=RX9.out.new _ e; omega);exact zA_ ho RX9.out.len rfl
   ·have hs1:0 < s'.size:=by omega
    have hmeas:wr.cell? ⟨g,0,none⟩=some (.string s'):=LX.out.1;have HME:=hm_ hmeas;clear hmeas;go_wp2_with fail;refine (pL_ g s' _ LX.out.1 hs1).mono ?_;rintro e w3 ⟨rfl,hw3⟩;obtain rfl:wr=w3:=hw3.symm;have e0:∀ o,(wr.alloc o).cell? ⟨w.heap.size,0,none⟩=_:=fun o=>zj_ c0 (by omega)
    have e1:∀ o,(wr.alloc o).cell? ⟨w.heap.size,1,none⟩=_:=fun o=>zj_ c1 (by omega)
    have e2:∀ o,(wr.alloc o).cell? ⟨w.heap.size,2,none⟩=_:=fun o=>zj_ c2 (by omega)
    clear c0 c1 c2;go_wp2_with fail;clear e0 e1 e2;refine (tN_ g s' _ (Nat.lt_of_lt_of_le GZ.out (zb_ _ _).size) (xc_ LX.out GZ.out) (by have:=HLM.out; omega)).mono ?_;rintro e w4 hP;obtain ⟨ok,s9,s2,rfl,hG4,hy4,hn4⟩:=oj_ hP
    have TZ:zQ_ (wr.alloc (.cells #[.int .i64 0,.int .i64 0,.int .i64 0,.bool false] 89)) wr.heap.size 4:=fun j hj=>by
     have hj':j=0∨j=1∨j=2∨j=3:=by omega
     rcases hj' with rfl | rfl | rfl | rfl <;> exact ⟨by go_simp,by go_simp⟩
    have hTr:=tz_ TZ (by simp) hG4 (fun e=>by have:=GZ.out; omega);have RX4:Hid (RO w w4 g ob vo n vc x y z m):=(RX.out.below (zb_ _ _)).grown HG.out hG4;have HLI:Hid (LI (bl s0) ok (m++[s9]) (bl s2)):=oE_ (fun e=>by have h1:=zF_ s'; rw [e] at h1; simp at h1; omega) HLT.out (fun h=>(hy4 h).2) hn4
    have HL4:Hid (ok=true->Left w4 g s2∧s2.size+(m++[s9]).length<=65536):=fun h=>⟨(hy4 h).1,by
     have h1:=sn_ (hy4 h).2;rw [zF_,zF_] at h1
     have:=HLM.out
     simp
     omega⟩
    have HSZ:Hid (ok=true->s2.size < s'.size):=fun h=>by
     have h1:=sn_ (hy4 h).2;rw [zF_,zF_] at h1;omega
    have HOB:Hid (ob < wr.heap.size):=RX.out.box.2.2;have HNB:Hid ((Value.slice vo n vc).ownBlock≠some wr.heap.size):=fun e=>by have:=(RX.out.own.lt _ e).2; omega
    have G4z:Hid (g < w4.heap.size):=Nat.lt_of_lt_of_le (Nat.lt_of_lt_of_le GZ.out (zb_ _ _).size) hG4.size;have TH:=hm_ hTr;obtain ⟨t0,T0⟩:=isx (hTr 0 (by omega)).1;have Z0:=(hTr 0 (by omega)).2;obtain ⟨t1,T1⟩:=isx (hTr 1 (by omega)).1;have Z1:=(hTr 1 (by omega)).2;obtain ⟨t2,T2⟩:=isx (hTr 2 (by omega)).1;have Z2:=(hTr 2 (by omega)).2;obtain ⟨t3,T3⟩:=isx (hTr 3 (by omega)).1;have Z3:=(hTr 3 (by omega)).2;clear hTr TZ hP hG4 hy4 hn4 HLT LX;go_upto_region 6 with fail;clear T0 T1 T2 T3 Z0 Z1 Z2 Z3;have hw2:w.heap.size+1 < wr.heap.size:=hz1;have RX5:Hid (RO w ((((w4.setCell ⟨wr.heap.size,0,none⟩ (.int .i64 s9.p)).setCell ⟨wr.heap.size,1,none⟩ (.int .i64 s9.n)).setCell ⟨wr.heap.size,2,none⟩ (.int .i64 s9.v)).setCell ⟨wr.heap.size,3,none⟩ (.bool s9.d)) g ob vo n vc x y z m):=(((RX4.out.set hw2 (by have:=HOB.out; omega) HNB.out).set hw2 (by have:=HOB.out; omega) HNB.out).set hw2 (by have:=HOB.out; omega) HNB.out).set hw2 (by have:=HOB.out; omega) HNB.out;have hSA:=ph_ (s:=s9) TH.out;have HL5:Hid (ok=true->Left ((((w4.setCell ⟨wr.heap.size,0,none⟩ (.int .i64 s9.p)).setCell ⟨wr.heap.size,1,none⟩ (.int .i64 s9.n)).setCell ⟨wr.heap.size,2,none⟩ (.int .i64 s9.v)).setCell ⟨wr.heap.size,3,none⟩ (.bool s9.d)) g s2):=fun h=>wi_ (HL4.out h).1 (by have:=GZ.out; omega)
    have G5z:Hid (g < ((((w4.setCell ⟨wr.heap.size,0,none⟩ (.int .i64 s9.p)).setCell ⟨wr.heap.size,1,none⟩ (.int .i64 s9.n)).setCell ⟨wr.heap.size,2,none⟩ (.int .i64 s9.v)).setCell ⟨wr.heap.size,3,none⟩ (.bool s9.d)).heap.size):=by have:=G4z.out; show _ < _; simpa [World.setCell] using this
    generalize ((((w4.setCell ⟨wr.heap.size,0,none⟩ (.int .i64 s9.p)).setCell ⟨wr.heap.size,1,none⟩ (.int .i64 s9.n)).setCell ⟨wr.heap.size,2,none⟩ (.int .i64 s9.v)).setCell ⟨wr.heap.size,3,none⟩ (.bool s9.d))=w5 at *;clear RX4 TH RX;obtain ⟨S0,S1,S2,S3⟩:=hSA;simp only [Nat.zero_add] at S0 S1 S2 S3;obtain ⟨⟨o0,_,_,_⟩,hTo,hzo⟩:=RX5.out.box;have hfo:=(hTo 0 (by omega)).2;clear hTo;have hn6:n<=65536:=by have:=HLM.out; have:=RX5.out.len; omega
    go_wp2_with (first | (at_builtin; refine yg_ rfl _ _ 33 rfl 89 i0 (.agg #[.int .i64 0,.int .i64 0,.int .i64 0,.bool false]) 32 Tryz.underlying33 HI.out.1 HI.out.2.1 HI.out.2.2.1 HI.out.2.2.2 rfl (.slice vo n vc) n _ rfl (RX5.out.below (zb_ _ _)).own _ _ _ [s9] rfl z7_ ?c3 ?c4 ?_) | go_in)
    case c3=>unfold maxLen; omega
    case c4=>omega
    intro v' w6 ho6 hg6;obtain ⟨vo',vc',rfl,hR6⟩:=(RX5.out.below (zb_ _ _)).put (m':=m++[s9]) (zA_ ho6 rfl (by rw [zz_])) (by have:=RX5.out.len; simp; omega) hg6;have o6:=hg6.cell (zj_ o0 hzo) RX5.out.ne;have f6:=(xC_ ((RX5.out.below (zb_ _ _)).box.2.1) hg6 ((RX5.out.below (zb_ _ _)).box.2.2) RX5.out.ne 0 (by omega)).2;have R6:Hid _:=hR6;have HNG:Hid ((Value.slice vo n vc).ownBlock≠some g):=fun e=>by have:=RX5.out.new _ e; have:=HG.out; omega
    have HOG:Hid (g≠ob):=by have:=RX5.out.obn; have:=HG.out; show _≠_; omega
    have HL6:Hid (ok=true->Left (w6.setCell ⟨ob,0,none⟩ (.slice vo' (n+1) vc')) g s2):=fun h=>by
     have h1:=xc_ (o:=.cells #[.int .i64 s9.p,.int .i64 s9.n,.int .i64 s9.v,.bool s9.d] 89) (HL5.out h) G5z.out;have h2:Left w6 g s2:=⟨hg6.cell h1.1 HNG.out,by rw [World.frozen?_of_block (hg6.grown.block g (Nat.lt_of_lt_of_le G5z.out (zb_ _ _).size) (fun e=>HNG.out e.symm))]; exact h1.2⟩;exact ⟨zg_ h2.1 HOG.out,by rw [World.frozen?_setCell]; exact h2.2⟩
    have G6z:Hid (g < (w6.setCell ⟨ob,0,none⟩ (.slice vo' (n+1) vc')).heap.size):=by
     have h1:=Nat.lt_of_lt_of_le (Nat.lt_of_lt_of_le G5z.out (zb_ w5 (.cells #[.int .i64 s9.p,.int .i64 s9.n,.int .i64 s9.v,.bool s9.d] 89)).size) hg6.size;show _ < _
     simpa [World.setCell] using h1
    clear ho6 hg6 hR6 S0 S1 S2 S3 o0 hfo;go_wp2
    go_roundw
    case rel=>first | exact ⟨ok,m++[s9],s2,vo',n+1,vc',rfl,R6.out,G6z.out,HLI,fun h=>⟨HL6.out h,(HL4.out h).2⟩⟩ | ((repeat apply Exists.intro); exact ⟨⟨ok,m++[s9],s2,vo',n+1,vc',rfl,R6.out,G6z.out,HLI,fun h=>⟨HL6.out h,(HL4.out h).2⟩⟩,rfl⟩)
    case measure=>
     rw [HME.out,sH_];cases ok
     ·rw [oC_]; omega
     ·rw [(HL6.out rfl).1,sH_]
      have:=HSZ.out rfl
      omega
 ·have HN:Hid (wC_ (bl s)):=by
   rintro x' y' z' m' ⟨⟨r',h1,h2⟩,_⟩;rw [hrv] at h1;cases h1
  replace RX:Hid (RBX w w1 g):=RX.out.grown HG.out hG1;have GZ1:Hid (g < w1.heap.size):=Nat.lt_of_lt_of_le GZ0.out hG1.size;clear hrv hG1 LX GZ0;obtain ⟨x,hx⟩:∃ x:Int,x=0:=⟨_,rfl⟩
  have RI:Hid (RO w ((w1.alloc (.cells #[.int .i64 0,.int .i64 0,.int .i64 0] 35)).alloc (.cells #[.slice none 0 0,.int .i64 0,.int .i64 0,.int .i64 0] 37)) g (w1.heap.size+1) none 0 0 0 0 0 []):=⟨World.ownsRow_nil _ 0 _ 4,rfl,⟨⟨by go_simp,by go_simp,by go_simp,by go_simp⟩,fun j hj=>by
   have hj':j=0∨j=1∨j=2∨j=3:=by omega
   rcases hj' with rfl | rfl | rfl | rfl <;> exact ⟨by go_simp,by go_simp⟩,by simp⟩,Gro.none_ne,fun k hk=>absurd hk Gro.none_ne,(RX.out.below (zb_ _ _)).below (zb_ _ _),by have:=RX.out.2.2.1; omega⟩
  clear RX hx x;go_wp2;generalize ((w1.alloc (.cells #[.int .i64 0,.int .i64 0,.int .i64 0] 35)).alloc (.cells #[.slice none 0 0,.int .i64 0,.int .i64 0,.int .i64 0] 37))=wr at *;generalize w1.heap.size+1=ob at *;refine wp_loop_rounds 1 ?_;rw [rounds_succ];obtain ⟨⟨o0,o1,o2,o3⟩,_,hz9⟩:=RI.out.box;obtain ⟨_,hTr,_,hGr⟩:=RI.out.rd;have hobn:=RI.out.obn;obtain ⟨t0,T0⟩:=isx (hTr 0 (by omega)).1;have Z0:=(hTr 0 (by omega)).2;obtain ⟨t1,T1⟩:=isx (hTr 1 (by omega)).1;have Z1:=(hTr 1 (by omega)).2;obtain ⟨t2,T2⟩:=isx (hTr 2 (by omega)).1;have Z2:=(hTr 2 (by omega)).2;obtain ⟨t3,T3⟩:=isx (hTr 3 (by omega)).1;have Z3:=(hTr 3 (by omega)).2;clear hTr;have GR:=hm_ hGr;clear hGr;go_wp2_with fail;refine wp_region_held_drew (S:=(fun w'=>w'.cell? ⟨ob,0,none⟩=some (.slice none 0 0)∧w'.cell? ⟨ob,1,none⟩=some (.int .i64 0)∧w'.cell? ⟨ob,2,none⟩=some (.int .i64 0)∧w'.cell? ⟨ob,3,none⟩=some (.int .i64 0))) (by kernel_rfl) ?_ (fun hH=>?_)
  ·(try dsimp only);exact ⟨o0,o1,o2,o3⟩
  refine wTk 0 ?_;refine wTk 1 ?_;refine wTk 2 ?_;refine wTn 3 ?_;refine wTn 4 ?_;refine wTk 5 ?_;refine wRd 6 (fun K hK=>?_);go_simp;(try simp only []);refine wHk hK (⟨yB_ hH.1 (by omega),yB_ hH.2.1 (by omega),yB_ hH.2.2.1 (by omega),yB_ hH.2.2.2 (by omega)⟩) ?_;clear hK K hH;intro hH;refine wTk 7 ?_;refine wDn ?_;clear hH;go_wp2;refine bodyPost_ret (v:=.tuple #[.agg #[.slice none 0 0,.int .i64 0,.int .i64 0,.int .i64 0],.bool false]) (by simp [results,Tryz.results195,go_sem,T0,T1,T2,T3,Z0,Z1,Z2,Z3]) rfl ?_;have h9:=yA_ (b:=w.heap.size+1) (o1:=0) (o2:=1) (o3:=2) (o4:=3) (u1:=.slice none 0 0) (u2:=.int .i64 0) (u3:=.int .i64 0) (u4:=.int .i64 0) GR.out (by omega);exact .inr ⟨HN.out,_,_,_,_,_,_,rfl,⟨h9.os,h9.tape,h9.output,h9.size,h9.block⟩⟩
end Go.Proofs.YtijcjhcgpmnchaaGreatDoor
