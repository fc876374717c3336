/- Nodes and their buckets, part 35 of the law FnDigest. -/
import Derived.Test.YtiokjphefpicbaaGreatDoorM34
namespace Go.Proofs.YtiokjphefpicbaaGreatDoor
open Go.RowKit
set_option maxRecDepth 100000
set_option maxHeartbeats 16000000
set_option linter.unusedSimpArgs false
set_option linter.unusedVariables false
section
variable {W W' w:World} {i:Nat} {o:No} {v v':Value}
structure CpI (w W:World) (v:Value) (i:Nat) (o:No) (ns:List Cm):Prop where
 own:OwnG W 91 5 v i (zn_ ns) (w.heap.size+2)
 cs:ns.map (·.c)=(o.ms.map (·.c)).take i
 rs:∀ n ∈ ns,GRow (w.heap.size+2) W n.p (flat n.c.l)∧n.c.l.length≤n.q
 av:∀ n ∈ ns,∀ x,n.p=some x→flat n.c.l≠[]→v.ownBlock≠some x.block
 x:Box W w.heap.size (nL o)
 r:Box W (w.heap.size+1) nZ
 b:Below w.heap.size w W
theorem CpI.next {ns:List Cm} (h:CpI w W v i o ns) (hb:Below W.heap.size W W'):CpI w W' v i o ns:=⟨h.own.next hb,h.cs,fun n hn=>⟨(h.rs n hn).1.next hb,(h.rs n hn).2⟩,h.av,h.x.next hb,h.r.next hb,h.b.trans (hb.mono h.b.size)⟩
theorem CpI.snoc {ns:List Cm} {m:Cm} (h:CpI w W v i o ns) (hi:i < o.ms.length) (hg:Gro W W' v v') (ho:OwnG W' 91 5 v' (i+1) (zn_ ns++zn_ [m]) (w.heap.size+2)) (hc:m.c=o.ms[i].c) (hr:GRow (w.heap.size+2) W m.p (flat m.c.l)) (hq:m.c.l.length≤m.q) (ha:∀ x,m.p=some x→flat m.c.l≠[]→v.ownBlock≠some x.block):CpI w W' v' (i+1) o (ns++[m]):=by
 have hv:∀ k,v.ownBlock=some k→w.heap.size+2≤k:=h.own.ge
 have row:∀ n:Cm,GRow (w.heap.size+2) W n.p (flat n.c.l)→(∀ x,n.p=some x→flat n.c.l≠[]→v.ownBlock≠some x.block)→GRow (w.heap.size+2) W' n.p (flat n.c.l):=fun n h1 h2=>h1.gro hg (fun k hk x hx hn e=>h2 x hx hn (by rw [hk,e]))
 have av:∀ n:Cm,GRow (w.heap.size+2) W n.p (flat n.c.l)→(∀ x,n.p=some x→flat n.c.l≠[]→v.ownBlock≠some x.block)→∀ x,n.p=some x→flat n.c.l≠[]→v'.ownBlock≠some x.block:=fun n h1 h2 x hx hn=>by
  have hlt:x.block < W.heap.size:=by
   rcases h1 with h' | ⟨b,off,e,_,h3⟩
   ·exact absurd h' hn
   ·rw [e] at hx
    cases hx
    exact GRow.lt (lo:=w.heap.size+2) h3 hn
  exact hg.ne hlt (h2 x hx hn)
 refine ⟨by rw [yL_]; exact ho,?_,fun n hn=>?_,fun n hn=>?_,h.x.gro hg (fun e=>by have:=hv _ e; omega),h.r.gro hg (fun e=>by have:=hv _ e; omega),h.b.trans (hg.below h.b.size (fun k hk=>by have:=hv k hk; omega))⟩
 ·rw [List.map_append,h.cs,List.take_succ_eq_append_getElem (by simpa using hi)]
  simp [hc]
 ·rcases List.mem_append.1 hn with hn | hn
  ·exact ⟨row n (h.rs n hn).1 (h.av n hn),(h.rs n hn).2⟩
  ·simp at hn
   subst hn
   exact ⟨row n hr ha,hq⟩
 ·rcases List.mem_append.1 hn with hn | hn
  ·exact av n (h.rs n hn).1 (h.av n hn)
  ·simp at hn
   subst hn
   exact av n hr ha
theorem vL_ (lo:Nat) (o:No) (w:World) (hm:o.ms.length≤1000) (hf:o.x.fd.length≤100000) (hs:o.su.length+o.un.length≤100000) (hl:∀ m ∈ o.ms,m.c.l.length≤1000) (h0:NoR lo w o) :
  Calls Tryz.prog 50 #[nV o] w fun e w'=>∃ u:No,e=.returned (nV u)∧NoR w.heap.size w' u∧u.x=o.x∧u.su=o.su∧u.un=o.un∧Below w.heap.size w w':=by
 (try unfold nV)
 have h:Hid (NoR lo w o):=h0
 have HL:=hm_ hl
 clear h0 hl
 have B0:Hid (Below w.heap.size w ((w.alloc (.cells (nL o).toArray 29)).alloc (.cells nZ.toArray 29))):=(zb_ _ _).trans ((zb_ _ _).mono (by simp))
 have X0:Hid (Box ((w.alloc (.cells (nL o).toArray 29)).alloc (.cells nZ.toArray 29)) w.heap.size (nL o)∧Box ((w.alloc (.cells (nL o).toArray 29)).alloc (.cells nZ.toArray 29)) (w.heap.size+1) nZ):=⟨zo_.alloc,by have:=zo_ (W:=w.alloc (.cells (nL o).toArray 29)) (t:=29) (vs:=nZ); simpa using this⟩
 have I0:Hid (CpI w (((w.alloc (.cells (nL o).toArray 29)).alloc (.cells nZ.toArray 29)).alloc (.cells #[] 91)) (.slice (some ⟨((w.alloc (.cells (nL o).toArray 29)).alloc (.cells nZ.toArray 29)).heap.size,0,none⟩) 0 0) 0 o []):=⟨OwnG.lit (by simp),by simp,fun n hn=>(by cases hn),fun n hn=>(by cases hn),X0.out.1.alloc,X0.out.2.alloc,B0.out.trans ((zb_ _ _).mono B0.out.size)⟩
 go_enter Tryz.func50,Tryz.ntmps50
 go_wp2
 go_loopw [3,4] (fun s3 s4 wr=>∃ (i:Nat) (vo:Option Addr) (vc:Nat) (ns:List Cm),i≤o.ms.length∧s3=.slice vo i vc∧s4=.int .i64 i∧CpI w wr (.slice vo i vc) i o ns) (fun _ s4 _=>o.ms.length - (intOf s4).toNat)
 case atStart=>exact ⟨0,_,_,[],by omega,rfl,rfl,by first | exact I0.out | simpa using I0.out⟩
 case round=>
  obtain ⟨i,vo,vc,ns,hi,rfl,rfl,hI⟩:=hrel
  have CI:=hm_ hI
  clear hI I0 X0 B0
  have kk:(0:Int)≤(i:Int):=by omega
  by_cases hil:i < o.ms.length
  ·have hil':(i:Int) < (o.ms.length:Int):=by omega
   obtain ⟨b0,b1,b2,b3,b4,b5,b6⟩:=CI.out.x.c7
   rcases (h.out.r0.next CI.out.b).cm with h' | ⟨b,off,hp,_,h2⟩
   ·rw [h'] at hil; simp at hil
   obtain ⟨x0,x1,x2,x3,x4⟩:=h2 i hil
   have h2w:∀ i (h:i < o.ms.length),CmAt w b (off+i * 5) o.ms[i]:=by
    rcases h.out.r0.cm with h' | ⟨b',off',hp',_,h3⟩
    ·rw [h'] at hil; simp at hil
    ·rw [hp] at hp'
     cases hp'
     exact h3
   have H2W:=hm_ h2w
   clear h2w
   rw [hp] at b3
   clear hp
   have CO:Hid (∀ W,Below w.heap.size w W→Calls Tryz.prog 105 #[.agg #[.slice o.ms[i].p o.ms[i].c.l.length o.ms[i].q,.int .i64 o.ms[i].c.a,.int .i64 o.ms[i].c.b,.int .i64 o.ms[i].c.c]] W _):=fun W hW=>s3_ o.ms[i].q o.ms[i].p o.ms[i].c.l o.ms[i].c.a o.ms[i].c.b o.ms[i].c.c W (by have:=HL.out _ (List.getElem_mem hil); omega) (((h.out.rs _ (List.getElem_mem hil)).1.next hW).sib)
   clear h2
   go_upto_region 5 with fail
   refine wp_region_held_drew (S:=(fun w'=>w'.cell? ⟨w.heap.size,3,none⟩=some (.slice (some ⟨b,off,none⟩) o.ms.length o.c0)∧w'.cell? ⟨b,off+i * 5,none⟩=some (.string o.ms[i].c.k)∧w'.cell? ⟨b,off+i * 5+1,none⟩=some (.slice o.ms[i].p o.ms[i].c.l.length o.ms[i].q)∧w'.cell? ⟨b,off+i * 5+2,none⟩=some (.int .i64 o.ms[i].c.a)∧w'.cell? ⟨b,off+i * 5+3,none⟩=some (.int .i64 o.ms[i].c.b)∧w'.cell? ⟨b,off+i * 5+4,none⟩=some (.int .i64 o.ms[i].c.c))) (by kernel_rfl) ?_ (fun hH=>?_)
   ·(try dsimp only)
    exact ⟨b3,x0,x1,x2,x3,x4⟩
   have CD:Hid _:=CI.out.next (zc_ wr)
   refine wTk 0 ?_
   refine wTk 1 ?_
   refine wTk 2 ?_
   refine wTk 3 ?_
   refine wTk 4 ?_
   refine wTk 5 ?_
   refine wTk 6 ?_
   refine wTk 7 ?_
   refine wTk 8 ?_
   refine wTk 9 ?_
   refine wTk 10 ?_
   refine wTk 11 ?_
   refine wTk 12 ?_
   generalize wr.drew=wd at *
   have HW:Hid (w.heap.size+2≤wd.heap.size):=by show _≤_; have:=CD.out.r.lt; omega
   refine wRd 13 (fun K hK=>?_)
   go_simp
   go_at_call 105
   refine (CO.out _ CD.out.b).mono ?_
   rintro e z0 ⟨v2,rfl,hG2,hO2⟩
   obtain ⟨po,co,rfl⟩:=yU_ hO2
   have hb2:=hG2.below (Nat.le_refl _) (fun k hk=>absurd hk Gro.none_ne)
   obtain ⟨pj,cj,ej,hcj,hgj⟩:=yl_ hO2 (fun k hk=>by rcases hG2.fresh k hk with e | e; exact absurd e Gro.none_ne; exact e)
   cases ej
   have HG:Hid (GRow wd.heap.size z0 po (flat o.ms[i].c.l)∧o.ms[i].c.l.length≤co):=⟨hgj,hcj⟩
   have HA:Hid (∀ x,po=some x→flat o.ms[i].c.l≠[]→(Value.slice vo i vc).ownBlock≠some x.block):=fun x hx hn e=>by
    have h1:=(CD.out.own.lt _ e).2
    exact yK_ hgj h1 x hx hn rfl
   (try simp only [])
   obtain ⟨y0,y1,y2,y3,y4,y5⟩:=hH
   replace CD:Hid _:=CD.out.next hb2
   refine hK.out _ _ ?_ (fun hH'=>?_)
   ·(try dsimp only)
    exact ⟨za_ hb2 y0 (zg_ y0),za_ hb2 y1 (zg_ y1),za_ hb2 y2 (zg_ y2),za_ hb2 y3 (zg_ y3),za_ hb2 y4 (zg_ y4),za_ hb2 y5 (zg_ y5)⟩
   clear hK K y0 y1 y2 y3 y4 y5 hG2 hO2 hb2 hgj hcj
   have hH:=hH'
   clear hH'
   refine wLy ?_
   refine wTk 14 ?_
   refine wRd 15 (fun K hK=>?_)
   go_simp
   (try simp only [])
   obtain ⟨y0,y1,y2,y3,y4,y5⟩:=hH
   have LR:Hid (GRow 0 (z0.alloc (.cells #[.string o.ms[i].c.k,.slice po o.ms[i].c.l.length co,.int .i64 o.ms[i].c.a,.int .i64 o.ms[i].c.b,.int .i64 o.ms[i].c.c] 91)) (some ⟨z0.heap.size,0,none⟩) (zn_ [⟨o.ms[i].c,po,co⟩])):=.inr ⟨z0.heap.size,0,rfl,Nat.zero_le _,fun j hj=>by
    have hj':j=0∨j=1∨j=2∨j=3∨j=4:=by simp [zn_] at hj; omega
    rcases hj' with rfl | rfl | rfl | rfl | rfl <;> first | (simp [zn_]; done) | (simp [zn_]; go_simp)⟩
   replace CD:Hid _:=CD.out.next (zb_ z0 (.cells #[.string o.ms[i].c.k,.slice po o.ms[i].c.l.length co,.int .i64 o.ms[i].c.a,.int .i64 o.ms[i].c.b,.int .i64 o.ms[i].c.c] 91))
   replace HG:Hid (GRow wd.heap.size (z0.alloc (.cells #[.string o.ms[i].c.k,.slice po o.ms[i].c.l.length co,.int .i64 o.ms[i].c.a,.int .i64 o.ms[i].c.b,.int .i64 o.ms[i].c.c] 91)) po (flat o.ms[i].c.l)∧o.ms[i].c.l.length≤co):=⟨HG.out.1.next (zb_ _ _),HG.out.2⟩
   refine hK.out _ _ ?_ (fun hH'=>?_)
   ·(try dsimp only)
    exact ⟨zj_ y0 (zg_ y0),zj_ y1 (zg_ y1),zj_ y2 (zg_ y2),zj_ y3 (zg_ y3),zj_ y4 (zg_ y4),zj_ y5 (zg_ y5)⟩
   clear hK K y0 y1 y2 y3 y4 y5
   have hH:=hH'
   clear hH'
   refine wLy ?_
   generalize z0.alloc (.cells #[.string o.ms[i].c.k,.slice po o.ms[i].c.l.length co,.int .i64 o.ms[i].c.a,.int .i64 o.ms[i].c.b,.int .i64 o.ms[i].c.c] 91)=z1 at *
   generalize z0.heap.size=gl at *
   refine wRd 16 (fun K hK=>?_)
   rw [if_pos (by rfl)]
   obtain ⟨y0,y1,y2,y3,y4,y5⟩:=hH
   refine zx_ elC (.tmp 13) (.tmp 28) rfl (.slice vo i vc) i (zn_ ns) (w.heap.size+2) (i+1) rfl CD.out.own (by have:=CD.out.r.lt; omega) (some ⟨gl,0,none⟩) 1 1 (zn_ [⟨o.ms[i].c,po,co⟩]) rfl rfl (yh_ _) 0 LR.out (by omega) rfl ?_
   intro v3 c3 z2 hO3 hG3 hS3
   have CE:Hid (CpI w z2 (.slice v3 (i+1) c3) (i+1) o (ns++[⟨o.ms[i].c,po,co⟩])):=CD.out.snoc hil hG3 hO3 rfl (HG.out.1.weak HW.out) HG.out.2 HA.out
   have hnb:∀ b',b' < w.heap.size+2→(Value.slice vo i vc).ownBlock≠some b':=fun b' hb' e=>by have:=CD.out.own.ge _ e; omega
   have hbl:b < w.heap.size+2:=by
    have:=zg_ (x:=⟨b,off+i * 5,none⟩) (H2W.out i hil).1
    have h9:b < w.heap.size:=this
    omega
   refine hK.out _ _ ?_ (fun hH'=>?_)
   ·(try dsimp only)
    exact ⟨hG3.cell y0 (hnb _ (by omega)),hG3.cell y1 (hnb _ hbl),hG3.cell y2 (hnb _ hbl),hG3.cell y3 (hnb _ hbl),hG3.cell y4 (hnb _ hbl),hG3.cell y5 (hnb _ hbl)⟩
   clear hK K y0 y1 y2 y3 y4 y5 hO3 hG3 hS3 hnb hbl
   have hH:=hH'
   clear hH'
   refine wLy ?_
   refine wTk 17 ?_
   refine wDn ?_
   clear hH x0 x1 x2 x3 x4 b0 b1 b2 b3 b4 b5 b6
   go_wp2
   go_roundw
   case rel=>exact ⟨i+1,v3,c3,_,by omega,rfl,by go_num,CE.out⟩
   case measure=>simp [intOf]; omega
  ·have hil':¬ (i:Int) < (o.ms.length:Int):=by omega
   have hie:i=o.ms.length:=by omega
   have HIE:=hm_ hie
   clear hie
   obtain ⟨b0,b1,b2,b3,b4,b5,b6⟩:=CI.out.x.c7
   obtain ⟨f0,f1,f2,f3,f4,f5,f6⟩:=CI.out.x.f7
   go_upto_region 7 with fail
   refine zQ_ (fun W=>Box W w.heap.size [.int .i64 o.x.id,.int .i64 o.x.n,.int .i64 o.x.cut,.slice vo i vc,.slice o.p1 o.x.fd.length o.c1,.slice o.p2 o.su.length o.c2,.slice o.p3 o.un.length o.c3]∧Box W (w.heap.size+1) nZ∧Below w.heap.size w W∧(GRow (w.heap.size+2) W vo (zn_ ns)∧i≤vc)∧∀ n ∈ ns,GRow (w.heap.size+2) W n.p (flat n.c.l)∧n.c.l.length≤n.q) ?_ (fun W1 hI=>?_)
   ·obtain ⟨pp,cc,ee,hcc,hgg⟩:=CI.out.own.grow
    cases ee
    exact ⟨by have:=CI.out.x.set (i:=3) (u:=.slice vo i vc) (by simp); simpa using this,CI.out.r.oth (by omega),zH_ CI.out.b (by omega),⟨hgg.keep (zh_ (by omega)),hcc⟩,fun n hn=>⟨(CI.out.rs n hn).1.keep (zh_ (by omega)),(CI.out.rs n hn).2⟩⟩
   have HCS:Hid (ns.map (·.c)=(o.ms.map (·.c)).take i):=CI.out.cs
   have X1:Hid _:=hI
   clear hI CI b0 b1 b2 b3 b4 b5 b6 f0 f1 f2 f3 f4 f5 f6
   obtain ⟨b0,b1,b2,b3,b4,b5,b6⟩:=(X1.out.1.alloc (ob:=.cells #[] 52)).c7
   obtain ⟨f0,f1,f2,f3,f4,f5,f6⟩:=X1.out.1.f7
   have OL:Hid (OwnG (W1.alloc (.cells #[] 52)) 52 3 (.slice (some ⟨W1.heap.size,0,none⟩) 0 0) 0 [] W1.heap.size):=OwnG.lit (Nat.le_refl _)
   have SRC:Hid (GRow lo (W1.alloc (.cells #[] 52)) o.p1 (zm_ o.x.fd)):=(h.out.r1.next X1.out.2.2.1).next (zb_ _ _)
   go_upto_region 8 with (first | (at_builtin; refine zB_ elE rfl _ _ rfl (.slice (some ⟨W1.heap.size,0,none⟩) 0 0) 0 [] W1.heap.size o.x.fd.length rfl OL.out (by simp) o.p1 o.x.fd.length o.c1 (zm_ o.x.fd) rfl (zO_ _) (zu_ _) lo SRC.out (by omega) (by omega) ?_; intro pf cf W2 hO2 hG2 hS2; obtain ⟨t0,t1,t2,t3,t4,t5,t6⟩:=((X1.out.1.alloc (ob:=.cells #[] 52)).gro hG2 (fun e=>by simp [Value.ownBlock] at e; have:=X1.out.1.lt; omega)).c7; obtain ⟨s0,s1,s2,s3,s4,s5,s6⟩:=((X1.out.1.alloc (ob:=.cells #[] 52)).gro hG2 (fun e=>by simp [Value.ownBlock] at e; have:=X1.out.1.lt; omega)).f7))
   have HB2:Hid (Below W1.heap.size W1 W2):=(zb_ _ _).trans (hG2.below (by simp) (fun k hk=>by simp [Value.ownBlock] at hk; omega))
   have O2:Hid (OwnG W2 52 3 (.slice pf o.x.fd.length cf) o.x.fd.length (zm_ o.x.fd) W1.heap.size):=by show OwnG _ _ _ _ _ _ _; simpa using hO2
   have hW1:Hid (w.heap.size+2≤W1.heap.size):=by show _≤_; have:=X1.out.2.1.lt; omega
   refine zQ_ (fun W=>Box W w.heap.size [.int .i64 o.x.id,.int .i64 o.x.n,.int .i64 o.x.cut,.slice vo i vc,.slice pf o.x.fd.length cf,.slice o.p2 o.su.length o.c2,.slice o.p3 o.un.length o.c3]∧Box W (w.heap.size+1) nZ∧Below w.heap.size w W∧(GRow (w.heap.size+2) W vo (zn_ ns)∧i≤vc)∧(∀ n ∈ ns,GRow (w.heap.size+2) W n.p (flat n.c.l)∧n.c.l.length≤n.q)∧(GRow (w.heap.size+2) W pf (zm_ o.x.fd)∧o.x.fd.length≤cf)) ?_ (fun W3 hI=>?_)
   ·obtain ⟨pp,cc,ee,hcc,hgg⟩:=O2.out.grow
    cases ee
    exact ⟨by have:=(X1.out.1.next HB2.out).set (i:=4) (u:=.slice pf o.x.fd.length cf) (by simp); simpa using this,(X1.out.2.1.next HB2.out).oth (by omega),zH_ (X1.out.2.2.1.trans (HB2.out.mono X1.out.2.2.1.size)) (by omega),⟨(X1.out.2.2.2.1.1.next HB2.out).keep (zh_ (by omega)),X1.out.2.2.2.1.2⟩,fun n hn=>⟨((X1.out.2.2.2.2 n hn).1.next HB2.out).keep (zh_ (by omega)),(X1.out.2.2.2.2 n hn).2⟩,(hgg.weak hW1.out).keep (zh_ (by omega)),hcc⟩
   have X3:Hid _:=hI
   clear hI X1 OL SRC hO2 hG2 hS2 HB2 O2 hW1 b0 b1 b2 b3 b4 b5 b6 f0 f1 f2 f3 f4 f5 f6 t0 t1 t2 t3 t4 t5 t6 s0 s1 s2 s3 s4 s5 s6
   obtain ⟨b0,b1,b2,b3,b4,b5,b6⟩:=X3.out.1.c7
   have CD:Hid (Calls Tryz.prog 106 #[.agg #[.slice o.p2 o.su.length o.c2,.slice o.p3 o.un.length o.c3]] W3 (DQ W3 o.su o.un)):=s1_ _ _ o.su o.un W3 (by omega) (by omega) (h.out.next X3.out.2.2.1).row.1 (h.out.next X3.out.2.2.1).row.2
   go_wp2_with (first | (go_at_call 106; refine CD.out.mono ?_; rintro e W4 ⟨p5,c5,p6,c6,rfl,hb4,hO4⟩; obtain ⟨t0,t1,t2,t3,t4,t5,t6⟩:=(X3.out.1.next hb4).c7; obtain ⟨s0,s1,s2,s3,s4,s5,s6⟩:=(X3.out.1.next hb4).f7; obtain ⟨a0,a1,a2,a3,a4,a5,a6⟩:=(X3.out.2.1.next hb4).c7; obtain ⟨g0,g1,g2,g3,g4,g5,g6⟩:=(X3.out.2.1.next hb4).f7))
   refine bodyPost_ret (v:=.agg #[.int .i64 o.x.id,.int .i64 o.x.n,.int .i64 o.x.cut,.slice vo i vc,.slice pf o.x.fd.length cf,.slice p5 o.su.length c5,.slice p6 o.un.length c6]) (by simp [results,Tryz.results50,go_sem, *]) rfl ?_
   have HB4:Below w.heap.size w W4:=X3.out.2.2.1.trans (hb4.mono X3.out.2.2.1.size)
   have hz:=X3.out.2.1.lt
   obtain ⟨q0,d0,e0,hc0,hg0⟩:=yH_ (wQ_ hO4).1
   obtain ⟨q1,d1,e1,hc1,hg1⟩:=yH_ (wQ_ hO4).2
   cases e0
   cases e1
   have hnl:ns.length=i:=by have:=congrArg List.length HCS.out; simp at this; omega
   refine ⟨⟨o.x,ns,vo,vc,pf,cf,p5,c5,p6,c6,o.su,o.un⟩,by simp [hnl],?_,rfl,rfl,rfl,?_⟩
   ·refine ⟨?_,?_,?_,?_,?_,fun n hn=>⟨?_,(X3.out.2.2.2.2.1 n hn).2⟩,by rw [hnl]; exact X3.out.2.2.2.1.2,X3.out.2.2.2.2.2.2,hc0,hc1⟩
    ·rw [h.out.cs,HCS.out,HIE.out,List.take_of_length_le (by simp)]
    ·refine GRow.weak (lo:=w.heap.size+2) ?_ (by omega)
     repeat (refine GRow.keep ?_ (zh_ (by omega)))
     exact X3.out.2.2.2.1.1.next hb4
    ·refine GRow.weak (lo:=w.heap.size+2) ?_ (by omega)
     repeat (refine GRow.keep ?_ (zh_ (by omega)))
     exact X3.out.2.2.2.2.2.1.next hb4
    ·refine GRow.weak (lo:=w.heap.size+2) ?_ (by omega)
     repeat (refine GRow.keep ?_ (zh_ (by omega)))
     exact hg0.weak (by omega)
    ·refine GRow.weak (lo:=w.heap.size+2) ?_ (by omega)
     repeat (refine GRow.keep ?_ (zh_ (by omega)))
     exact hg1.weak (by omega)
    ·refine GRow.weak (lo:=w.heap.size+2) ?_ (by omega)
     repeat (refine GRow.keep ?_ (zh_ (by omega)))
     exact (X3.out.2.2.2.2.1 n hn).1.next hb4
   ·repeat (refine zH_ ?_ (by omega))
    exact HB4
end
section
variable {W W' w:World} {o:No}
theorem eqe (p n:Int) (k:ByteArray) (w:World):Sem.run Tryz.prog (Op.equalIn 10000 52 (.agg #[.int .i64 p,.int .i64 n,.string k]) (.agg #[.int .i64 p,.int .i64 n,.string k])) w=.ok true w:=by
 have h29:=Tryz.underlying52
 have h3:=Tryz.underlying3
 have h9:=Tryz.underlying9
 rw [Op.equalIn]
 simp only [Sem.run_bind,run_underlying h29,Result.andThen_ok,Bool.false_eq_true,if_false]
 simp [go_sem,h3,h9,List.range',List.forIn_cons]
theorem wK_ (l:List Sib) (a b c:Int):Same l l a b c a b c:=⟨by simp,rfl,fun i h h2=>by simp [sibB]⟩
structure SmI (w W:World) (o u:No):Prop where
 x:Box W w.heap.size (nL o)
 y:Box W (w.heap.size+1) [.int .i64 o.x.id,.int .i64 o.x.n,.int .i64 o.x.cut,.slice u.p0 o.ms.length u.c0,.slice u.p1 o.x.fd.length u.c1,.slice u.p2 u.su.length u.c2,.slice u.p3 u.un.length u.c3]
 b:Below w.heap.size w W
theorem SmI.next {u:No} (h:SmI w W o u) (hb:Below W.heap.size W W'):SmI w W' o u:=⟨h.x.next hb,h.y.next hb,h.b.trans (hb.mono h.b.size)⟩
theorem rI_ (lo lo2:Nat) (o u:No) (w:World) (hm:o.ms.length≤100000) (hf:o.x.fd.length≤100000) (hl:∀ m ∈ o.ms,m.c.l.length≤1000) (hx:u.x=o.x) (h0:NoR lo w o) (g0:NoR lo2 w u) :
  Calls Tryz.prog 121 #[nV o,nV u] w fun e w'=>e=.returned (.bool true)∧Below w.heap.size w w':=by
 (try unfold nV)
 have hcs:o.ms.map (·.c)=u.ms.map (·.c):=by rw [← h0.cs,← g0.cs,hx]
 have hlen:u.ms.length=o.ms.length:=by have:=congrArg List.length hcs; simpa using this.symm
 have hat:∀ i (h:i < o.ms.length) (h':i < u.ms.length),u.ms[i].c=o.ms[i].c:=fun i h h'=>by
  have e1:(o.ms.map (·.c))[i]? = some o.ms[i].c:=by simp [h]
  have e2:(u.ms.map (·.c))[i]? = some u.ms[i].c:=by simp [h']
  rw [hcs,e2] at e1
  exact Option.some.inj e1
 have g1:=g0.r1
 rw [hx] at g1
 have h:Hid (NoR lo w o):=h0
 have g:Hid (NoR lo2 w u):=g0
 have G1:=hm_ g1
 have HL:=hm_ hl
 have HAT:=hm_ hat
 have HLEN:=hm_ hlen
 rw [hx,hlen]
 clear h0 g0 g1 hl hat hcs hx hlen
 have I0:Hid (SmI w ((w.alloc (.cells (nL o).toArray 29)).alloc (.cells #[.int .i64 o.x.id,.int .i64 o.x.n,.int .i64 o.x.cut,.slice u.p0 o.ms.length u.c0,.slice u.p1 o.x.fd.length u.c1,.slice u.p2 u.su.length u.c2,.slice u.p3 u.un.length u.c3] 29)) o u):=⟨zo_.alloc,by have:=zo_ (W:=w.alloc (.cells (nL o).toArray 29)) (t:=29) (vs:=[.int .i64 o.x.id,.int .i64 o.x.n,.int .i64 o.x.cut,.slice u.p0 o.ms.length u.c0,.slice u.p1 o.x.fd.length u.c1,.slice u.p2 u.su.length u.c2,.slice u.p3 u.un.length u.c3]); simpa using this,(zb_ _ _).trans ((zb_ _ _).mono (by simp))⟩
 go_enter Tryz.func121,Tryz.ntmps121
 go_wp2
 go_loopw [5] (fun s5 wr=>∃ i:Nat,i≤o.ms.length∧s5=.int .i64 i∧SmI w wr o u) (fun s5 _=>o.ms.length - (intOf s5).toNat)
 case atStart=>exact ⟨0,by omega,rfl,I0.out⟩
 case round=>
  obtain ⟨i,hi,rfl,hI⟩:=hrel
  have CI:Hid (SmI w wr o u):=hI
  clear hI I0
  have kk:(0:Int)≤(i:Int):=by omega
  by_cases hil:i < o.ms.length
  ·have hil':(i:Int) < (o.ms.length:Int):=by omega
   have hiu:i < u.ms.length:=by rw [HLEN.out]; exact hil
   have hcu:=HAT.out i hil hiu
   obtain ⟨b0,b1,b2,b3,b4,b5,b6⟩:=CI.out.x.c7
   obtain ⟨d0,d1,d2,d3,d4,d5,d6⟩:=CI.out.y.c7
   clear b0 b1 b2 b4 b5 b6 d0 d1 d2 d4 d5 d6
   have RO:Hid (GRow lo w o.ms[i].p (flat o.ms[i].c.l)):=(h.out.rs _ (List.getElem_mem hil)).1
   have RU:Hid (GRow lo2 w u.ms[i].p (flat o.ms[i].c.l)):=by show GRow _ _ _ _; rw [← hcu]; exact (g.out.rs _ (List.getElem_mem hiu)).1
   have hll:=HL.out _ (List.getElem_mem hil)
   rcases (h.out.r0.next CI.out.b).cm with h' | ⟨b,off,hp,_,h2⟩
   ·rw [h'] at hil; simp at hil
   rcases (g.out.r0.next CI.out.b).cm with h' | ⟨b',off',hp',_,h3⟩
   ·rw [h'] at hiu; simp at hiu
   obtain ⟨x0,x1,x2,x3,x4⟩:=h2 i hil
   obtain ⟨t0,t1,t2,t3,t4⟩:=h3 i hiu
   rw [hcu] at t0 t1 t2 t3 t4
   rw [hp] at b3
   rw [hp'] at d3
   clear h2 h3 hp hp' hcu
   generalize o.ms[i].p=po at *
   generalize o.ms[i].q=qo at *
   generalize u.ms[i].p=pu at *
   generalize u.ms[i].q=qu at *
   generalize o.ms[i].c=c at *
   obtain ⟨ck,cl,ca,cb,cc⟩:=c
   dsimp only at x0 x1 x2 x3 x4 t0 t1 t2 t3 t4 RO RU hll
   have CS:Hid (∀ W,Below w.heap.size w W→Calls Tryz.prog 132 #[.agg #[.slice po cl.length qo,.int .i64 ca,.int .i64 cb,.int .i64 cc],.agg #[.slice pu cl.length qu,.int .i64 ca,.int .i64 cb,.int .i64 cc]] W fun e w'=>e=.returned (.bool true)∧Below W.heap.size W w'):=fun W hW=>xh_ qo qu po pu cl cl ca cb cc ca cb cc true ⟨fun _=>wK_ _ _ _ _,fun _=>rfl⟩ W (by omega) (by omega) (RO.out.next hW).sib (RU.out.next hW).sib
   clear RO RU
   go_upto_region 6 with fail
   refine wp_region_held_drew (S:=(fun w'=>w'.cell? ⟨w.heap.size,3,none⟩=some (.slice (some ⟨b,off,none⟩) o.ms.length o.c0)∧w'.cell? ⟨w.heap.size+1,3,none⟩=some (.slice (some ⟨b',off',none⟩) o.ms.length u.c0)∧w'.cell? ⟨b,off+i * 5,none⟩=some (.string ck)∧w'.cell? ⟨b,off+i * 5+1,none⟩=some (.slice po cl.length qo)∧w'.cell? ⟨b,off+i * 5+2,none⟩=some (.int .i64 ca)∧w'.cell? ⟨b,off+i * 5+3,none⟩=some (.int .i64 cb)∧w'.cell? ⟨b,off+i * 5+4,none⟩=some (.int .i64 cc)∧w'.cell? ⟨b',off'+i * 5,none⟩=some (.string ck)∧w'.cell? ⟨b',off'+i * 5+1,none⟩=some (.slice pu cl.length qu)∧w'.cell? ⟨b',off'+i * 5+2,none⟩=some (.int .i64 ca)∧w'.cell? ⟨b',off'+i * 5+3,none⟩=some (.int .i64 cb)∧w'.cell? ⟨b',off'+i * 5+4,none⟩=some (.int .i64 cc))) (by kernel_rfl) ?_ (fun hH=>?_)
   ·(try dsimp only)
    exact ⟨b3,d3,x0,x1,x2,x3,x4,t0,t1,t2,t3,t4⟩
   have CD:Hid _:=CI.out.next (zc_ wr)
   generalize wr.drew=wd at *
   refine wTk 0 ?_
   refine wTk 1 ?_
   refine wTk 2 ?_
   refine wTk 3 ?_
   refine wTk 4 ?_
   refine wTk 5 ?_
   refine wTk 6 ?_
   refine wTk 7 ?_
   refine wTk 8 ?_
   refine wTk 9 ?_
   refine wTk 10 ?_
   refine wTk 11 ?_
   refine wTk 12 ?_
   refine wTk 13 ?_
   refine wTk 14 ?_
   refine wTk 15 ?_
   refine wTk 16 ?_
   refine wTk 17 ?_
   refine wTk 18 ?_
   refine wTk 19 ?_
   refine wTk 20 ?_
   refine wTk 21 ?_
   refine wTk 22 ?_
   refine wTk 23 ?_
   refine wTk 24 ?_
   refine wTk 25 ?_
   refine wRd 26 (fun K hK=>?_)
   go_simp
   go_at_call 132; refine (CS.out _ CD.out.b).mono ?_; rintro e z0 ⟨rfl,hb2⟩; replace CD:Hid _:=CD.out.next hb2; obtain ⟨y0,y1,y2,y3,y4,y5,y6,y7,y8,y9,y10,y11⟩:=hH
   (try simp only [])
   refine hK.out _ _ ?_ (fun hH'=>?_)
   ·(try dsimp only)
    exact ⟨za_ hb2 y0 (zg_ y0),za_ hb2 y1 (zg_ y1),za_ hb2 y2 (zg_ y2),za_ hb2 y3 (zg_ y3),za_ hb2 y4 (zg_ y4),za_ hb2 y5 (zg_ y5),za_ hb2 y6 (zg_ y6),za_ hb2 y7 (zg_ y7),za_ hb2 y8 (zg_ y8),za_ hb2 y9 (zg_ y9),za_ hb2 y10 (zg_ y10),za_ hb2 y11 (zg_ y11)⟩
   clear hK K
   have hH:=hH'
   clear hH'
   clear hb2 y0 y1 y2 y3 y4 y5 y6 y7 y8 y9 y10 y11
   refine wLy ?_
   refine wTk 27 ?_
   refine wTk 28 ?_
   refine wDn ?_
   clear hH b3 d3 x0 x1 x2 x3 x4 t0 t1 t2 t3 t4
   go_wp2
   go_roundw
   case rel=>exact ⟨i+1,by omega,by go_num,CD.out⟩
   case measure=>simp [intOf]; omega
  ·have hil':¬ (i:Int) < (o.ms.length:Int):=by omega
   obtain ⟨b0,b1,b2,b3,b4,b5,b6⟩:=CI.out.x.c7
   go_wp2
   clear b0 b1 b2 b3 b4 b5 b6
   go_loopw [6] (fun s6 wr=>∃ i:Nat,i≤o.x.fd.length∧s6=.int .i64 i∧SmI w wr o u) (fun s6 _=>o.x.fd.length - (intOf s6).toNat)
   case atStart=>exact ⟨0,by omega,rfl,CI.out⟩
   case round=>
    obtain ⟨j,hj,rfl,hI⟩:=hrel
    have CJ:Hid _:=hI
    clear hI CI
    have kj:(0:Int)≤(j:Int):=by omega
    obtain ⟨b0,b1,b2,b3,b4,b5,b6⟩:=CJ.out.x.c7
    obtain ⟨d0,d1,d2,d3,d4,d5,d6⟩:=CJ.out.y.c7
    clear b0 b1 b2 b3 b5 b6 d0 d1 d2 d3 d5 d6
    by_cases hjl:j < o.x.fd.length
    ·have hjl':(j:Int) < (o.x.fd.length:Int):=by omega
     rcases (h.out.r1.next CJ.out.b).en with h' | ⟨b,off,hp,_,h2⟩
     ·rw [h'] at hjl; simp at hjl
     rcases (G1.out.next CJ.out.b).en with h' | ⟨b',off',hp',_,h3⟩
     ·rw [h'] at hjl; simp at hjl
     obtain ⟨x0,x1,x2⟩:=h2 j hjl
     obtain ⟨t0,t1,t2⟩:=h3 j hjl
     rw [hp] at b4
     rw [hp'] at d4
     clear h2 h3 hp hp'
     generalize o.x.fd[j]=c at *
     obtain ⟨ep,en,ek⟩:=c
     dsimp only at x0 x1 x2 t0 t1 t2
     have ev:=eqe ep en ek
     go_wp2
     go_quiet (fail)
     go_wp2
     go_roundw
     case rel=>exact ⟨j+1,by omega,by go_num,by first | exact CJ.out | exact CJ.out.next (below_drewN (Below.refl _ _) _) | exact CJ.out.next (zc_ _)⟩
     case measure=>simp [intOf]; omega
    ·have hjl':¬ (j:Int) < (o.x.fd.length:Int):=by omega
     go_wp2
     go_ret
     exact ⟨rfl,CJ.out.b⟩
end
end Go.Proofs.YtiokjphefpicbaaGreatDoor
