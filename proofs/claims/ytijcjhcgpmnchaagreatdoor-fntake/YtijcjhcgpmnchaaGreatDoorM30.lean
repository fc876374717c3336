/- Nodes, part 30 of the law FnTake. -/
import Derived.Test.YtijcjhcgpmnchaaGreatDoorM29
namespace Go.Proofs.YtijcjhcgpmnchaaGreatDoor
open Go.RowKit
set_option maxRecDepth 100000
set_option maxHeartbeats 16000000
set_option linter.unusedSimpArgs false
set_option linter.unusedVariables false
section
variable {W W' w:World} {i:Nat} {ns:List Cm} {o:No} {v v':Value}
structure CpI (w W:World) (v:Value) (i:Nat) (o:No) (ns:List Cm):Prop where
 own:OwnG W 91 5 v i (zp_ ns) (w.heap.size+2)
 cs:ns.map (·.c)=(o.ms.map (·.c)).take i
 rs:∀ n ∈ ns,GRow (w.heap.size+2) W n.p (flat n.c.l)∧n.c.l.length<=n.q
 av:∀ n ∈ ns,∀ x,n.p=some x->flat n.c.l≠[]->v.ownBlock≠some x.block
 x:Box W w.heap.size (nL o)
 r:Box W (w.heap.size+1) nZ
 b:Below w.heap.size w W
theorem CpI.next (h:CpI w W v i o ns) (hb:Below W.heap.size W W'):CpI w W' v i o ns:=⟨h.own.next hb,h.cs,fun n hn=>⟨(h.rs n hn).1.next hb,(h.rs n hn).2⟩,h.av,h.x.next hb,h.r.next hb,h.b.trans (hb.mono h.b.size)⟩
theorem CpI.snoc {m:Cm} (h:CpI w W v i o ns) (hi:i < o.ms.length) (hg:Gro W W' v v') (ho:OwnG W' 91 5 v' (i+1) (zp_ ns++zp_ [m]) (w.heap.size+2)) (hc:m.c=o.ms[i].c) (hr:GRow (w.heap.size+2) W m.p (flat m.c.l)) (hq:m.c.l.length<=m.q) (ha:∀ x,m.p=some x->flat m.c.l≠[]->v.ownBlock≠some x.block):CpI w W' v' (i+1) o (ns++[m]):=by
 have hv:∀ k,v.ownBlock=some k->w.heap.size+2<=k:=h.own.ge;have row:∀ n:Cm,GRow (w.heap.size+2) W n.p (flat n.c.l)->(∀ x,n.p=some x->flat n.c.l≠[]->v.ownBlock≠some x.block)->GRow (w.heap.size+2) W' n.p (flat n.c.l):=fun n h1 h2=>h1.gro hg (fun k hk x hx hn e=>h2 x hx hn (by rw [hk,e]))
 have av:∀ n:Cm,GRow (w.heap.size+2) W n.p (flat n.c.l)->(∀ x,n.p=some x->flat n.c.l≠[]->v.ownBlock≠some x.block)->∀ x,n.p=some x->flat n.c.l≠[]->v'.ownBlock≠some x.block:=fun n h1 h2 x hx hn=>by
  have hlt:x.block < W.heap.size:=by
   rcases h1 with h' | ⟨b,off,e,_,h3⟩
   ·exact absurd h' hn
   ·rw [e] at hx;cases hx;exact GRow.lt (lo:=w.heap.size+2) h3 hn
  exact hg.ne hlt (h2 x hx hn)
 refine ⟨by rw [yQ_]; exact ho,?_,fun n hn=>?_,fun n hn=>?_,h.x.gro hg (fun e=>by have:=hv _ e; omega),h.r.gro hg (fun e=>by have:=hv _ e; omega),h.b.trans (hg.below h.b.size (fun k hk=>by have:=hv k hk; omega))⟩
 ·rw [List.map_append,h.cs,List.take_succ_eq_append_getElem (by simpa using hi)];simp [hc]
 ·rcases List.mem_append.1 hn with hn | hn
  ·exact ⟨row n (h.rs n hn).1 (h.av n hn),(h.rs n hn).2⟩
  ·simp at hn;subst hn;exact ⟨row n hr ha,hq⟩
 ·rcases List.mem_append.1 hn with hn | hn
  ·exact av n (h.rs n hn).1 (h.av n hn)
  ·simp at hn;subst hn;exact av n hr ha
theorem wM_ (lo:Nat) (o:No) (w:World) (hm:o.ms.length<=1000) (hf:o.x.fd.length<=100000) (hs:o.su.length+o.un.length<=100000) (hl:∀ m ∈ o.ms,m.c.l.length<=1000) (h0:NoR lo w o) :
  Calls Tryz.prog 50 #[nV o] w fun e w'=>∃ u:No,e=.returned (nV u)∧NoR w.heap.size w' u∧u.x=o.x∧u.su=o.su∧u.un=o.un∧Below w.heap.size w w':=by
 (try unfold nV);have h:Hid (NoR lo w o):=h0;have HL:=hm_ hl;clear h0 hl;have B0:Hid (Below w.heap.size w ((w.alloc (.cells (nL o).toArray 29)).alloc (.cells nZ.toArray 29))):=(zb_ _ _).trans ((zb_ _ _).mono (by simp));have X0:Hid (Box ((w.alloc (.cells (nL o).toArray 29)).alloc (.cells nZ.toArray 29)) w.heap.size (nL o)∧Box ((w.alloc (.cells (nL o).toArray 29)).alloc (.cells nZ.toArray 29)) (w.heap.size+1) nZ):=⟨zn_.alloc,by have:=zn_ (W:=w.alloc (.cells (nL o).toArray 29)) (t:=29) (vs:=nZ); simpa using this⟩;have I0:Hid (CpI w (((w.alloc (.cells (nL o).toArray 29)).alloc (.cells nZ.toArray 29)).alloc (.cells #[] 91)) (.slice (some ⟨((w.alloc (.cells (nL o).toArray 29)).alloc (.cells nZ.toArray 29)).heap.size,0,none⟩) 0 0) 0 o []):=⟨OwnG.lit (by simp),by simp,fun n hn=>(by cases hn),fun n hn=>(by cases hn),X0.out.1.alloc,X0.out.2.alloc,B0.out.trans ((zb_ _ _).mono B0.out.size)⟩;go_enter Tryz.func50,Tryz.ntmps50;go_wp2;go_loopw [3,4] (fun s3 s4 wr=>∃ (i:Nat) (vo:Option Addr) (vc:Nat) (ns:List Cm),i<=o.ms.length∧s3=.slice vo i vc∧s4=.int .i64 i∧CpI w wr (.slice vo i vc) i o ns) (fun _ s4 _=>o.ms.length - (intOf s4).toNat)
 case atStart=>exact ⟨0,_,_,[],by omega,rfl,rfl,by first | exact I0.out | simpa using I0.out⟩
 case round=>
  obtain ⟨i,vo,vc,ns,hi,rfl,rfl,hI⟩:=hrel;have CI:=hm_ hI;clear hI I0 X0 B0;have kk:(0:Int)<=(i:Int):=by omega
  by_cases hil:i < o.ms.length
  ·have hil':(i:Int) < (o.ms.length:Int):=by omega
   obtain ⟨b0,b1,b2,b3,b4,b5,b6⟩:=CI.out.x.c7;rcases (h.out.r0.next CI.out.b).cm with h' | ⟨b,off,hp,_,h2⟩
   ·rw [h'] at hil; simp at hil
   obtain ⟨x0,x1,x2,x3,x4⟩:=h2 i hil
   have h2w:∀ i (h:i < o.ms.length),CmAt w b (off+i * 5) o.ms[i]:=by
    rcases h.out.r0.cm with h' | ⟨b',off',hp',_,h3⟩
    ·rw [h'] at hil; simp at hil
    ·rw [hp] at hp';cases hp';exact h3
   have H2W:=hm_ h2w;clear h2w;rw [hp] at b3;clear hp;have CO:Hid (∀ W,Below w.heap.size w W->Calls Tryz.prog 106 #[.agg #[.slice o.ms[i].p o.ms[i].c.l.length o.ms[i].q,.int .i64 o.ms[i].c.a,.int .i64 o.ms[i].c.b,.int .i64 o.ms[i].c.c]] W _):=fun W hW=>rj_ o.ms[i].q o.ms[i].p o.ms[i].c.l o.ms[i].c.a o.ms[i].c.b o.ms[i].c.c W (by have:=HL.out _ (List.getElem_mem hil); omega) (((h.out.rs _ (List.getElem_mem hil)).1.next hW).sib)
   clear h2;go_upto_region 5 with fail;refine wp_region_held_drew (S:=(fun w'=>w'.cell? ⟨w.heap.size,3,none⟩=some (.slice (some ⟨b,off,none⟩) o.ms.length o.c0)∧w'.cell? ⟨b,off+i * 5,none⟩=some (.string o.ms[i].c.k)∧w'.cell? ⟨b,off+i * 5+1,none⟩=some (.slice o.ms[i].p o.ms[i].c.l.length o.ms[i].q)∧w'.cell? ⟨b,off+i * 5+2,none⟩=some (.int .i64 o.ms[i].c.a)∧w'.cell? ⟨b,off+i * 5+3,none⟩=some (.int .i64 o.ms[i].c.b)∧w'.cell? ⟨b,off+i * 5+4,none⟩=some (.int .i64 o.ms[i].c.c))) (by kernel_rfl) ?_ (fun hH=>?_)
   ·(try dsimp only);exact ⟨b3,x0,x1,x2,x3,x4⟩
   have CD:Hid _:=CI.out.next (zd_ wr);refine wTk 0 ?_;refine wTk 1 ?_;refine wTk 2 ?_;refine wTk 3 ?_;refine wTk 4 ?_;refine wTk 5 ?_;refine wTk 6 ?_;refine wTk 7 ?_;refine wTk 8 ?_;refine wTk 9 ?_;refine wTk 10 ?_;refine wTk 11 ?_;refine wTk 12 ?_;generalize wr.drew=wd at *;have HW:Hid (w.heap.size+2<=wd.heap.size):=by show _<=_; have:=CD.out.r.lt; omega
   refine wRd 13 (fun K hK=>?_);go_simp;go_at_call 106;refine (CO.out _ CD.out.b).mono ?_;rintro e z0 ⟨v2,rfl,hG2,hO2⟩;obtain ⟨po,co,rfl⟩:=y0_ hO2;have hb2:=hG2.below (Nat.le_refl _) (fun k hk=>absurd hk Gro.none_ne);obtain ⟨pj,cj,ej,hcj,hgj⟩:=yi_ hO2 (fun k hk=>by rcases hG2.fresh k hk with e | e; exact absurd e Gro.none_ne; exact e);cases ej;have HG:Hid (GRow wd.heap.size z0 po (flat o.ms[i].c.l)∧o.ms[i].c.l.length<=co):=⟨hgj,hcj⟩
   have HA:Hid (∀ x,po=some x->flat o.ms[i].c.l≠[]->(Value.slice vo i vc).ownBlock≠some x.block):=fun x hx hn e=>by
    have h1:=(CD.out.own.lt _ e).2;exact yO_ hgj h1 x hx hn rfl
   (try simp only []);obtain ⟨y0,y1,y2,y3,y4,y5⟩:=hH;replace CD:Hid _:=CD.out.next hb2;refine hK.out _ _ ?_ (fun hH'=>?_)
   ·(try dsimp only);exact ⟨za_ hb2 y0 (zh_ y0),za_ hb2 y1 (zh_ y1),za_ hb2 y2 (zh_ y2),za_ hb2 y3 (zh_ y3),za_ hb2 y4 (zh_ y4),za_ hb2 y5 (zh_ y5)⟩
   clear hK K y0 y1 y2 y3 y4 y5 hG2 hO2 hb2 hgj hcj;have hH:=hH';clear hH';refine wLy ?_;refine wTk 14 ?_;refine wRd 15 (fun K hK=>?_);go_simp;(try simp only []);obtain ⟨y0,y1,y2,y3,y4,y5⟩:=hH
   have LR:Hid (GRow 0 (z0.alloc (.cells #[.string o.ms[i].c.k,.slice po o.ms[i].c.l.length co,.int .i64 o.ms[i].c.a,.int .i64 o.ms[i].c.b,.int .i64 o.ms[i].c.c] 91)) (some ⟨z0.heap.size,0,none⟩) (zp_ [⟨o.ms[i].c,po,co⟩])):=.inr ⟨z0.heap.size,0,rfl,Nat.zero_le _,fun j hj=>by
    have hj':j=0∨j=1∨j=2∨j=3∨j=4:=by simp [zp_] at hj; omega
    rcases hj' with rfl | rfl | rfl | rfl | rfl <;> first | (simp [zp_]; done) | (simp [zp_]; go_simp)⟩
   replace CD:Hid _:=CD.out.next (zb_ z0 (.cells #[.string o.ms[i].c.k,.slice po o.ms[i].c.l.length co,.int .i64 o.ms[i].c.a,.int .i64 o.ms[i].c.b,.int .i64 o.ms[i].c.c] 91));replace HG:Hid (GRow wd.heap.size (z0.alloc (.cells #[.string o.ms[i].c.k,.slice po o.ms[i].c.l.length co,.int .i64 o.ms[i].c.a,.int .i64 o.ms[i].c.b,.int .i64 o.ms[i].c.c] 91)) po (flat o.ms[i].c.l)∧o.ms[i].c.l.length<=co):=⟨HG.out.1.next (zb_ _ _),HG.out.2⟩;refine hK.out _ _ ?_ (fun hH'=>?_)
   ·(try dsimp only);exact ⟨zj_ y0 (zh_ y0),zj_ y1 (zh_ y1),zj_ y2 (zh_ y2),zj_ y3 (zh_ y3),zj_ y4 (zh_ y4),zj_ y5 (zh_ y5)⟩
   clear hK K y0 y1 y2 y3 y4 y5;have hH:=hH';clear hH';refine wLy ?_;generalize z0.alloc (.cells #[.string o.ms[i].c.k,.slice po o.ms[i].c.l.length co,.int .i64 o.ms[i].c.a,.int .i64 o.ms[i].c.b,.int .i64 o.ms[i].c.c] 91)=z1 at *;generalize z0.heap.size=gl at *;refine wRd 16 (fun K hK=>?_);rw [if_pos (by rfl)];obtain ⟨y0,y1,y2,y3,y4,y5⟩:=hH;refine zx_ elC (.tmp 13) (.tmp 28) rfl (.slice vo i vc) i (zp_ ns) (w.heap.size+2) (i+1) rfl CD.out.own (by have:=CD.out.r.lt; omega) (some ⟨gl,0,none⟩) 1 1 (zp_ [⟨o.ms[i].c,po,co⟩]) rfl rfl (ya_ _) 0 LR.out (by omega) rfl ?_;intro v3 c3 z2 hO3 hG3 hS3;have CE:Hid (CpI w z2 (.slice v3 (i+1) c3) (i+1) o (ns++[⟨o.ms[i].c,po,co⟩])):=CD.out.snoc hil hG3 hO3 rfl (HG.out.1.weak HW.out) HG.out.2 HA.out;have hnb:∀ b',b' < w.heap.size+2->(Value.slice vo i vc).ownBlock≠some b':=fun b' hb' e=>by have:=CD.out.own.ge _ e; omega
   have hbl:b < w.heap.size+2:=by
    have:=zh_ (x:=⟨b,off+i * 5,none⟩) (H2W.out i hil).1
    have h9:b < w.heap.size:=this;omega
   refine hK.out _ _ ?_ (fun hH'=>?_)
   ·(try dsimp only);exact ⟨hG3.cell y0 (hnb _ (by omega)),hG3.cell y1 (hnb _ hbl),hG3.cell y2 (hnb _ hbl),hG3.cell y3 (hnb _ hbl),hG3.cell y4 (hnb _ hbl),hG3.cell y5 (hnb _ hbl)⟩
   clear hK K y0 y1 y2 y3 y4 y5 hO3 hG3 hS3 hnb hbl;have hH:=hH';clear hH';refine wLy ?_;refine wTk 17 ?_;refine wDn ?_;clear hH x0 x1 x2 x3 x4 b0 b1 b2 b3 b4 b5 b6;go_wp2
   go_roundw
   case rel=>exact ⟨i+1,v3,c3,_,by omega,rfl,by go_num,CE.out⟩
   case measure=>simp [intOf]; omega
  ·have hil':¬ (i:Int) < (o.ms.length:Int):=by omega
   have hie:i=o.ms.length:=by omega
   have HIE:=hm_ hie;clear hie;obtain ⟨b0,b1,b2,b3,b4,b5,b6⟩:=CI.out.x.c7;obtain ⟨f0,f1,f2,f3,f4,f5,f6⟩:=CI.out.x.f7;go_upto_region 7 with fail;refine zH_ (fun W=>Box W w.heap.size [.int .i64 o.x.id,.int .i64 o.x.n,.int .i64 o.x.cut,.slice vo i vc,.slice o.p1 o.x.fd.length o.c1,.slice o.p2 o.su.length o.c2,.slice o.p3 o.un.length o.c3]∧Box W (w.heap.size+1) nZ∧Below w.heap.size w W∧(GRow (w.heap.size+2) W vo (zp_ ns)∧i<=vc)∧∀ n ∈ ns,GRow (w.heap.size+2) W n.p (flat n.c.l)∧n.c.l.length<=n.q) ?_ (fun W1 hI=>?_)
   ·obtain ⟨pp,cc,ee,hcc,hgg⟩:=CI.out.own.grow;cases ee;exact ⟨by have:=CI.out.x.set (i:=3) (u:=.slice vo i vc) (by simp); simpa using this,CI.out.r.oth (by omega),zt_ CI.out.b (by omega),⟨hgg.keep (zc_ (by omega)),hcc⟩,fun n hn=>⟨(CI.out.rs n hn).1.keep (zc_ (by omega)),(CI.out.rs n hn).2⟩⟩
   have HCS:Hid (ns.map (·.c)=(o.ms.map (·.c)).take i):=CI.out.cs;have X1:Hid _:=hI;clear hI CI b0 b1 b2 b3 b4 b5 b6 f0 f1 f2 f3 f4 f5 f6;obtain ⟨b0,b1,b2,b3,b4,b5,b6⟩:=(X1.out.1.alloc (ob:=.cells #[] 52)).c7;obtain ⟨f0,f1,f2,f3,f4,f5,f6⟩:=X1.out.1.f7;have OL:Hid (OwnG (W1.alloc (.cells #[] 52)) 52 3 (.slice (some ⟨W1.heap.size,0,none⟩) 0 0) 0 [] W1.heap.size):=OwnG.lit (Nat.le_refl _);have SRC:Hid (GRow lo (W1.alloc (.cells #[] 52)) o.p1 (zl_ o.x.fd)):=(h.out.r1.next X1.out.2.2.1).next (zb_ _ _);go_upto_region 8 with (first | (at_builtin; refine yt_ elE rfl _ _ rfl (.slice (some ⟨W1.heap.size,0,none⟩) 0 0) 0 [] W1.heap.size o.x.fd.length rfl OL.out (by simp) o.p1 o.x.fd.length o.c1 (zl_ o.x.fd) rfl (zO_ _) (zv_ _) lo SRC.out (by omega) (by omega) ?_; intro pf cf W2 hO2 hG2 hS2; obtain ⟨t0,t1,t2,t3,t4,t5,t6⟩:=((X1.out.1.alloc (ob:=.cells #[] 52)).gro hG2 (fun e=>by simp [Value.ownBlock] at e; have:=X1.out.1.lt; omega)).c7; obtain ⟨s0,s1,s2,s3,s4,s5,s6⟩:=((X1.out.1.alloc (ob:=.cells #[] 52)).gro hG2 (fun e=>by simp [Value.ownBlock] at e; have:=X1.out.1.lt; omega)).f7));have HB2:Hid (Below W1.heap.size W1 W2):=(zb_ _ _).trans (hG2.below (by simp) (fun k hk=>by simp [Value.ownBlock] at hk; omega));have O2:Hid (OwnG W2 52 3 (.slice pf o.x.fd.length cf) o.x.fd.length (zl_ o.x.fd) W1.heap.size):=by show OwnG _ _ _ _ _ _ _; simpa using hO2
   have hW1:Hid (w.heap.size+2<=W1.heap.size):=by show _<=_; have:=X1.out.2.1.lt; omega
   refine zH_ (fun W=>Box W w.heap.size [.int .i64 o.x.id,.int .i64 o.x.n,.int .i64 o.x.cut,.slice vo i vc,.slice pf o.x.fd.length cf,.slice o.p2 o.su.length o.c2,.slice o.p3 o.un.length o.c3]∧Box W (w.heap.size+1) nZ∧Below w.heap.size w W∧(GRow (w.heap.size+2) W vo (zp_ ns)∧i<=vc)∧(∀ n ∈ ns,GRow (w.heap.size+2) W n.p (flat n.c.l)∧n.c.l.length<=n.q)∧(GRow (w.heap.size+2) W pf (zl_ o.x.fd)∧o.x.fd.length<=cf)) ?_ (fun W3 hI=>?_)
   ·obtain ⟨pp,cc,ee,hcc,hgg⟩:=O2.out.grow;cases ee;exact ⟨by have:=(X1.out.1.next HB2.out).set (i:=4) (u:=.slice pf o.x.fd.length cf) (by simp); simpa using this,(X1.out.2.1.next HB2.out).oth (by omega),zt_ (X1.out.2.2.1.trans (HB2.out.mono X1.out.2.2.1.size)) (by omega),⟨(X1.out.2.2.2.1.1.next HB2.out).keep (zc_ (by omega)),X1.out.2.2.2.1.2⟩,fun n hn=>⟨((X1.out.2.2.2.2 n hn).1.next HB2.out).keep (zc_ (by omega)),(X1.out.2.2.2.2 n hn).2⟩,(hgg.weak hW1.out).keep (zc_ (by omega)),hcc⟩
   have X3:Hid _:=hI;clear hI X1 OL SRC hO2 hG2 hS2 HB2 O2 hW1 b0 b1 b2 b3 b4 b5 b6 f0 f1 f2 f3 f4 f5 f6 t0 t1 t2 t3 t4 t5 t6 s0 s1 s2 s3 s4 s5 s6;obtain ⟨b0,b1,b2,b3,b4,b5,b6⟩:=X3.out.1.c7;have CD:Hid (Calls Tryz.prog 107 #[.agg #[.slice o.p2 o.su.length o.c2,.slice o.p3 o.un.length o.c3]] W3 (DQ W3 o.su o.un)):=rh_ _ _ o.su o.un W3 (by omega) (by omega) (h.out.next X3.out.2.2.1).row.1 (h.out.next X3.out.2.2.1).row.2;go_wp2_with (first | (go_at_call 107; refine CD.out.mono ?_; rintro e W4 ⟨p5,c5,p6,c6,rfl,hb4,hO4⟩; obtain ⟨t0,t1,t2,t3,t4,t5,t6⟩:=(X3.out.1.next hb4).c7; obtain ⟨s0,s1,s2,s3,s4,s5,s6⟩:=(X3.out.1.next hb4).f7; obtain ⟨a0,a1,a2,a3,a4,a5,a6⟩:=(X3.out.2.1.next hb4).c7; obtain ⟨g0,g1,g2,g3,g4,g5,g6⟩:=(X3.out.2.1.next hb4).f7));refine bodyPost_ret (v:=.agg #[.int .i64 o.x.id,.int .i64 o.x.n,.int .i64 o.x.cut,.slice vo i vc,.slice pf o.x.fd.length cf,.slice p5 o.su.length c5,.slice p6 o.un.length c6]) (by simp [results,Tryz.results50,go_sem, *]) rfl ?_;have HB4:Below w.heap.size w W4:=X3.out.2.2.1.trans (hb4.mono X3.out.2.2.1.size);have hz:=X3.out.2.1.lt;obtain ⟨q0,d0,e0,hc0,hg0⟩:=yL_ (w6_ hO4).1;obtain ⟨q1,d1,e1,hc1,hg1⟩:=yL_ (w6_ hO4).2;cases e0;cases e1;have hnl:ns.length=i:=by have:=congrArg List.length HCS.out; simp at this; omega
   refine ⟨⟨o.x,ns,vo,vc,pf,cf,p5,c5,p6,c6,o.su,o.un⟩,by simp [hnl],?_,rfl,rfl,rfl,?_⟩
   ·refine ⟨?_,?_,?_,?_,?_,fun n hn=>⟨?_,(X3.out.2.2.2.2.1 n hn).2⟩,by rw [hnl]; exact X3.out.2.2.2.1.2,X3.out.2.2.2.2.2.2,hc0,hc1⟩
    ·rw [h.out.cs,HCS.out,HIE.out,List.take_of_length_le (by simp)]
    ·refine GRow.weak (lo:=w.heap.size+2) ?_ (by omega)
     repeat (refine GRow.keep ?_ (zc_ (by omega)))
     exact X3.out.2.2.2.1.1.next hb4
    ·refine GRow.weak (lo:=w.heap.size+2) ?_ (by omega)
     repeat (refine GRow.keep ?_ (zc_ (by omega)))
     exact X3.out.2.2.2.2.2.1.next hb4
    ·refine GRow.weak (lo:=w.heap.size+2) ?_ (by omega)
     repeat (refine GRow.keep ?_ (zc_ (by omega)))
     exact hg0.weak (by omega)
    ·refine GRow.weak (lo:=w.heap.size+2) ?_ (by omega)
     repeat (refine GRow.keep ?_ (zc_ (by omega)))
     exact hg1.weak (by omega)
    ·refine GRow.weak (lo:=w.heap.size+2) ?_ (by omega)
     repeat (refine GRow.keep ?_ (zc_ (by omega)))
     exact (X3.out.2.2.2.2.1 n hn).1.next hb4
   ·repeat (refine zt_ ?_ (by omega))
    exact HB4
end
section
variable {W W' w:World} {o:No}
theorem eqe (p n:Int) (k:ByteArray) (w:World):Sem.run Tryz.prog (Op.equalIn 10000 52 (.agg #[.int .i64 p,.int .i64 n,.string k]) (.agg #[.int .i64 p,.int .i64 n,.string k])) w=.ok true w:=by
 have h29:=Tryz.underlying52;have h3:=Tryz.underlying3;have h9:=Tryz.underlying9;rw [Op.equalIn];simp only [Sem.run_bind,run_underlying h29,Result.andThen_ok,Bool.false_eq_true,if_false];simp [go_sem,h3,h9,List.range',List.forIn_cons]
theorem y5_ (l:List Sib) (a b c:Int):Same l l a b c a b c:=⟨by simp,rfl,fun i h h2=>by simp [sibB]⟩
structure SmI (w W:World) (o u:No):Prop where
 x:Box W w.heap.size (nL o)
 y:Box W (w.heap.size+1) [.int .i64 o.x.id,.int .i64 o.x.n,.int .i64 o.x.cut,.slice u.p0 o.ms.length u.c0,.slice u.p1 o.x.fd.length u.c1,.slice u.p2 u.su.length u.c2,.slice u.p3 u.un.length u.c3]
 b:Below w.heap.size w W
theorem SmI.next {u:No} (h:SmI w W o u) (hb:Below W.heap.size W W'):SmI w W' o u:=⟨h.x.next hb,h.y.next hb,h.b.trans (hb.mono h.b.size)⟩
theorem rO_ (lo lo2:Nat) (o u:No) (w:World) (hm:o.ms.length<=100000) (hf:o.x.fd.length<=100000) (hl:∀ m ∈ o.ms,m.c.l.length<=1000) (hx:u.x=o.x) (h0:NoR lo w o) (g0:NoR lo2 w u) :
  Calls Tryz.prog 122 #[nV o,nV u] w fun e w'=>e=.returned (.bool true)∧Below w.heap.size w w':=by
 (try unfold nV);have hcs:o.ms.map (·.c)=u.ms.map (·.c):=by rw [<- h0.cs,<- g0.cs,hx]
 have hlen:u.ms.length=o.ms.length:=by have:=congrArg List.length hcs; simpa using this.symm
 have hat:∀ i (h:i < o.ms.length) (h':i < u.ms.length),u.ms[i].c=o.ms[i].c:=fun i h h'=>by
  have e1:(o.ms.map (·.c))[i]? = some o.ms[i].c:=by simp [h]
  have e2:(u.ms.map (·.c))[i]? = some u.ms[i].c:=by simp [h']
  rw [hcs,e2] at e1;exact Option.some.inj e1
 have g1:=g0.r1;rw [hx] at g1;have h:Hid (NoR lo w o):=h0;have g:Hid (NoR lo2 w u):=g0;have G1:=hm_ g1;have HL:=hm_ hl;have HAT:=hm_ hat;have HLEN:=hm_ hlen;rw [hx,hlen];clear h0 g0 g1 hl hat hcs hx hlen;have I0:Hid (SmI w ((w.alloc (.cells (nL o).toArray 29)).alloc (.cells #[.int .i64 o.x.id,.int .i64 o.x.n,.int .i64 o.x.cut,.slice u.p0 o.ms.length u.c0,.slice u.p1 o.x.fd.length u.c1,.slice u.p2 u.su.length u.c2,.slice u.p3 u.un.length u.c3] 29)) o u):=⟨zn_.alloc,by have:=zn_ (W:=w.alloc (.cells (nL o).toArray 29)) (t:=29) (vs:=[.int .i64 o.x.id,.int .i64 o.x.n,.int .i64 o.x.cut,.slice u.p0 o.ms.length u.c0,.slice u.p1 o.x.fd.length u.c1,.slice u.p2 u.su.length u.c2,.slice u.p3 u.un.length u.c3]); simpa using this,(zb_ _ _).trans ((zb_ _ _).mono (by simp))⟩;go_enter Tryz.func122,Tryz.ntmps122;go_wp2;go_loopw [5] (fun s5 wr=>∃ i:Nat,i<=o.ms.length∧s5=.int .i64 i∧SmI w wr o u) (fun s5 _=>o.ms.length - (intOf s5).toNat)
 case atStart=>exact ⟨0,by omega,rfl,I0.out⟩
 case round=>
  obtain ⟨i,hi,rfl,hI⟩:=hrel;have CI:Hid (SmI w wr o u):=hI;clear hI I0;have kk:(0:Int)<=(i:Int):=by omega
  by_cases hil:i < o.ms.length
  ·have hil':(i:Int) < (o.ms.length:Int):=by omega
   have hiu:i < u.ms.length:=by rw [HLEN.out]; exact hil
   have hcu:=HAT.out i hil hiu;obtain ⟨b0,b1,b2,b3,b4,b5,b6⟩:=CI.out.x.c7;obtain ⟨d0,d1,d2,d3,d4,d5,d6⟩:=CI.out.y.c7;clear b0 b1 b2 b4 b5 b6 d0 d1 d2 d4 d5 d6;have RO:Hid (GRow lo w o.ms[i].p (flat o.ms[i].c.l)):=(h.out.rs _ (List.getElem_mem hil)).1;have RU:Hid (GRow lo2 w u.ms[i].p (flat o.ms[i].c.l)):=by show GRow _ _ _ _; rw [<- hcu]; exact (g.out.rs _ (List.getElem_mem hiu)).1
   have hll:=HL.out _ (List.getElem_mem hil);rcases (h.out.r0.next CI.out.b).cm with h' | ⟨b,off,hp,_,h2⟩
   ·rw [h'] at hil; simp at hil
   rcases (g.out.r0.next CI.out.b).cm with h' | ⟨b',off',hp',_,h3⟩
   ·rw [h'] at hiu; simp at hiu
   obtain ⟨x0,x1,x2,x3,x4⟩:=h2 i hil;obtain ⟨t0,t1,t2,t3,t4⟩:=h3 i hiu;rw [hcu] at t0 t1 t2 t3 t4;rw [hp] at b3;rw [hp'] at d3;clear h2 h3 hp hp' hcu;generalize o.ms[i].p=po at *;generalize o.ms[i].q=qo at *;generalize u.ms[i].p=pu at *;generalize u.ms[i].q=qu at *;generalize o.ms[i].c=c at *;obtain ⟨ck,cl,ca,cb,cc⟩:=c;dsimp only at x0 x1 x2 x3 x4 t0 t1 t2 t3 t4 RO RU hll;have CS:Hid (∀ W,Below w.heap.size w W->Calls Tryz.prog 131 #[.agg #[.slice po cl.length qo,.int .i64 ca,.int .i64 cb,.int .i64 cc],.agg #[.slice pu cl.length qu,.int .i64 ca,.int .i64 cb,.int .i64 cc]] W fun e w'=>e=.returned (.bool true)∧Below W.heap.size W w'):=fun W hW=>xt_ qo qu po pu cl cl ca cb cc ca cb cc true ⟨fun _=>y5_ _ _ _ _,fun _=>rfl⟩ W (by omega) (by omega) (RO.out.next hW).sib (RU.out.next hW).sib
   clear RO RU;go_upto_region 6 with fail;refine wp_region_held_drew (S:=(fun w'=>w'.cell? ⟨w.heap.size,3,none⟩=some (.slice (some ⟨b,off,none⟩) o.ms.length o.c0)∧w'.cell? ⟨w.heap.size+1,3,none⟩=some (.slice (some ⟨b',off',none⟩) o.ms.length u.c0)∧w'.cell? ⟨b,off+i * 5,none⟩=some (.string ck)∧w'.cell? ⟨b,off+i * 5+1,none⟩=some (.slice po cl.length qo)∧w'.cell? ⟨b,off+i * 5+2,none⟩=some (.int .i64 ca)∧w'.cell? ⟨b,off+i * 5+3,none⟩=some (.int .i64 cb)∧w'.cell? ⟨b,off+i * 5+4,none⟩=some (.int .i64 cc)∧w'.cell? ⟨b',off'+i * 5,none⟩=some (.string ck)∧w'.cell? ⟨b',off'+i * 5+1,none⟩=some (.slice pu cl.length qu)∧w'.cell? ⟨b',off'+i * 5+2,none⟩=some (.int .i64 ca)∧w'.cell? ⟨b',off'+i * 5+3,none⟩=some (.int .i64 cb)∧w'.cell? ⟨b',off'+i * 5+4,none⟩=some (.int .i64 cc))) (by kernel_rfl) ?_ (fun hH=>?_)
   ·(try dsimp only);exact ⟨b3,d3,x0,x1,x2,x3,x4,t0,t1,t2,t3,t4⟩
   have CD:Hid _:=CI.out.next (zd_ wr);generalize wr.drew=wd at *;refine wTk 0 ?_;refine wTk 1 ?_;refine wTk 2 ?_;refine wTk 3 ?_;refine wTk 4 ?_;refine wTk 5 ?_;refine wTk 6 ?_;refine wTk 7 ?_;refine wTk 8 ?_;refine wTk 9 ?_;refine wTk 10 ?_;refine wTk 11 ?_;refine wTk 12 ?_;refine wTk 13 ?_;refine wTk 14 ?_;refine wTk 15 ?_;refine wTk 16 ?_;refine wTk 17 ?_;refine wTk 18 ?_;refine wTk 19 ?_;refine wTk 20 ?_;refine wTk 21 ?_;refine wTk 22 ?_;refine wTk 23 ?_;refine wTk 24 ?_;refine wTk 25 ?_;refine wRd 26 (fun K hK=>?_);go_simp;go_at_call 131; refine (CS.out _ CD.out.b).mono ?_; rintro e z0 ⟨rfl,hb2⟩; replace CD:Hid _:=CD.out.next hb2; obtain ⟨y0,y1,y2,y3,y4,y5,y6,y7,y8,y9,y10,y11⟩:=hH;(try simp only []);refine hK.out _ _ ?_ (fun hH'=>?_)
   ·(try dsimp only);exact ⟨za_ hb2 y0 (zh_ y0),za_ hb2 y1 (zh_ y1),za_ hb2 y2 (zh_ y2),za_ hb2 y3 (zh_ y3),za_ hb2 y4 (zh_ y4),za_ hb2 y5 (zh_ y5),za_ hb2 y6 (zh_ y6),za_ hb2 y7 (zh_ y7),za_ hb2 y8 (zh_ y8),za_ hb2 y9 (zh_ y9),za_ hb2 y10 (zh_ y10),za_ hb2 y11 (zh_ y11)⟩
   clear hK K;have hH:=hH';clear hH';clear hb2 y0 y1 y2 y3 y4 y5 y6 y7 y8 y9 y10 y11;refine wLy ?_;refine wTk 27 ?_;refine wTk 28 ?_;refine wDn ?_;clear hH b3 d3 x0 x1 x2 x3 x4 t0 t1 t2 t3 t4;go_wp2
   go_roundw
   case rel=>exact ⟨i+1,by omega,by go_num,CD.out⟩
   case measure=>simp [intOf]; omega
  ·have hil':¬ (i:Int) < (o.ms.length:Int):=by omega
   obtain ⟨b0,b1,b2,b3,b4,b5,b6⟩:=CI.out.x.c7;go_wp2;clear b0 b1 b2 b3 b4 b5 b6;go_loopw [6] (fun s6 wr=>∃ i:Nat,i<=o.x.fd.length∧s6=.int .i64 i∧SmI w wr o u) (fun s6 _=>o.x.fd.length - (intOf s6).toNat)
   case atStart=>exact ⟨0,by omega,rfl,CI.out⟩
   case round=>
    obtain ⟨j,hj,rfl,hI⟩:=hrel;have CJ:Hid _:=hI;clear hI CI;have kj:(0:Int)<=(j:Int):=by omega
    obtain ⟨b0,b1,b2,b3,b4,b5,b6⟩:=CJ.out.x.c7;obtain ⟨d0,d1,d2,d3,d4,d5,d6⟩:=CJ.out.y.c7;clear b0 b1 b2 b3 b5 b6 d0 d1 d2 d3 d5 d6;by_cases hjl:j < o.x.fd.length
    ·have hjl':(j:Int) < (o.x.fd.length:Int):=by omega
     rcases (h.out.r1.next CJ.out.b).en with h' | ⟨b,off,hp,_,h2⟩
     ·rw [h'] at hjl; simp at hjl
     rcases (G1.out.next CJ.out.b).en with h' | ⟨b',off',hp',_,h3⟩
     ·rw [h'] at hjl; simp at hjl
     obtain ⟨x0,x1,x2⟩:=h2 j hjl;obtain ⟨t0,t1,t2⟩:=h3 j hjl;rw [hp] at b4;rw [hp'] at d4;clear h2 h3 hp hp';generalize o.x.fd[j]=c at *;obtain ⟨ep,en,ek⟩:=c;dsimp only at x0 x1 x2 t0 t1 t2;have ev:=eqe ep en ek;go_wp2
     go_quiet (fail)
     go_wp2
     go_roundw
     case rel=>exact ⟨j+1,by omega,by go_num,by first | exact CJ.out | exact CJ.out.next (below_drewN (Below.refl _ _) _) | exact CJ.out.next (zd_ _)⟩
     case measure=>simp [intOf]; omega
    ·have hjl':¬ (j:Int) < (o.x.fd.length:Int):=by omega
     go_wp2;go_ret;exact ⟨rfl,CJ.out.b⟩
end
theorem uP_ (k:ByteArray) (l:List Sib) (a b c:Int) (p pu:Option Addr) (q qu:Nat) (w:World) (hl:l.length<=1000) (h1:zk_ w p l) (h2:zk_ w pu l) :
  Calls Tryz.prog 112 #[.agg #[.string k,.slice p l.length q,.int .i64 a,.int .i64 b,.int .i64 c],.agg #[.string k,.slice pu l.length qu,.int .i64 a,.int .i64 b,.int .i64 c]] w fun e w'=>e=.returned (.bool true)∧Below w.heap.size w w':=by
 have B0:Hid (Below w.heap.size w ((w.alloc (.cells #[.string k,.slice p l.length q,.int .i64 a,.int .i64 b,.int .i64 c] 91)).alloc (.cells #[.string k,.slice pu l.length qu,.int .i64 a,.int .i64 b,.int .i64 c] 91))):=(zb_ _ _).trans ((zb_ _ _).mono (by simp));have CS:Hid (∀ W,Below w.heap.size w W->Calls Tryz.prog 69 #[.agg #[.slice p l.length q,.int .i64 a,.int .i64 b,.int .i64 c],.agg #[.slice pu l.length qu,.int .i64 a,.int .i64 b,.int .i64 c]] W fun e w'=>e=.returned (.bool true)∧Below W.heap.size W w'):=fun W hW=>y2_ q qu p pu l l a b c a b c true ⟨fun _=>y5_ _ _ _ _,fun _=>rfl⟩ W (by omega) (by omega) (zk_.next hW h1) (zk_.next hW h2)
 clear h1 h2;go_enter Tryz.func112,Tryz.ntmps112;go_wp2_with (first | (go_at_call 69; refine (CS.out _ B0.out).mono ?_; rintro e w1 ⟨rfl,hb⟩));go_ret;exact ⟨rfl,B0.out.trans (hb.mono B0.out.size)⟩
theorem vt_ (lo lo2:Nat) (ms us:List Cm) (p pu:Option Addr) (q qu:Nat) (w:World) (hm:ms.length<=100000) (hl:∀ m ∈ ms,m.c.l.length<=1000) (he:us.map (·.c)=ms.map (·.c)) (h0:GRow lo w p (zp_ ms)) (g0:GRow lo2 w pu (zp_ us)) (hr:∀ m ∈ ms,GRow lo w m.p (flat m.c.l)) (gr:∀ m ∈ us,GRow lo2 w m.p (flat m.c.l)) :
  Calls Tryz.prog 111 #[.slice p ms.length q,.slice pu ms.length qu,.func (.func 112) #[] #[]] w fun e w'=>e=.returned (.bool true)∧Below w.heap.size w w':=by
 have hlen:us.length=ms.length:=by have:=congrArg List.length he; simpa using this
 have hat:∀ i (h:i < ms.length) (h':i < us.length),us[i].c=ms[i].c:=fun i h h'=>by
  have e1:(ms.map (·.c))[i]? = some ms[i].c:=by simp [h]
  have e2:(us.map (·.c))[i]? = some us[i].c:=by simp [h']
  rw [<- he,e2] at e1;exact Option.some.inj e1
 have H0:Hid (GRow lo w p (zp_ ms)∧∀ m ∈ ms,GRow lo w m.p (flat m.c.l)):=⟨h0,hr⟩;have G0:Hid (GRow lo2 w pu (zp_ us)∧∀ m ∈ us,GRow lo2 w m.p (flat m.c.l)):=⟨g0,gr⟩;have HL:=hm_ hl;have HAT:=hm_ hat;have HLEN:=hm_ hlen;clear h0 g0 hr gr hl he hat hlen;go_enter Tryz.func111,Tryz.ntmps111;go_wp2;go_loopw [17] (fun s17 wr=>∃ i:Nat,i<=ms.length∧s17=.int .i64 i∧Below w.heap.size w wr) (fun s17 _=>ms.length - (intOf s17).toNat)
 case atStart=>exact ⟨0,by omega,rfl,Below.refl _ _⟩
 case round=>
  obtain ⟨i,hi,rfl,hI⟩:=hrel;have BW:=hm_ hI;clear hI;have kk:(0:Int)<=(i:Int):=by omega
  by_cases hil:i < ms.length
  ·have hil':(i:Int) < (ms.length:Int):=by omega
   have hiu:i < us.length:=by rw [HLEN.out]; exact hil
   have hcu:=HAT.out i hil hiu;have RO:Hid (GRow lo w ms[i].p (flat ms[i].c.l)):=H0.out.2 _ (List.getElem_mem hil);have RU:Hid (GRow lo2 w us[i].p (flat ms[i].c.l)):=by show GRow _ _ _ _; rw [<- hcu]; exact G0.out.2 _ (List.getElem_mem hiu)
   have hll:=HL.out _ (List.getElem_mem hil);rcases (H0.out.1.next BW.out).cm with h' | ⟨b,off,rfl,_,h2⟩
   ·rw [h'] at hil; simp at hil
   rcases (G0.out.1.next BW.out).cm with h' | ⟨b',off',rfl,_,h3⟩
   ·rw [h'] at hiu; simp at hiu
   obtain ⟨x0,x1,x2,x3,x4⟩:=h2 i hil;have h3':CmAt wr b' (off'+i * 5) us[i]:=h3 i hiu;obtain ⟨t0,t1,t2,t3,t4⟩:=h3';rw [hcu] at t0 t1 t2 t3 t4;clear h2 h3 hcu H0 G0 HAT;generalize ms[i].p=po at *;generalize ms[i].q=qo at *;generalize us[i].p=pq at *;generalize us[i].q=qq at *;generalize ms[i].c=cc at *;obtain ⟨k,l,a,bb,c⟩:=cc;dsimp only at x0 x1 x2 x3 x4 t0 t1 t2 t3 t4 RO RU hll;go_upto_region 6 with fail;refine zH_ (fun W=>Box W wr.heap.size [.string k,.slice po l.length qo,.int .i64 a,.int .i64 bb,.int .i64 c]∧(W.cell? ⟨b',off'+i * 5,none⟩=some (.string k)∧W.cell? ⟨b',off'+i * 5+1,none⟩=some (.slice pq l.length qq)∧W.cell? ⟨b',off'+i * 5+2,none⟩=some (.int .i64 a)∧W.cell? ⟨b',off'+i * 5+3,none⟩=some (.int .i64 bb)∧W.cell? ⟨b',off'+i * 5+4,none⟩=some (.int .i64 c))∧Below w.heap.size w W) ⟨zn_,⟨za_ (zb_ _ _) t0 (zh_ t0),za_ (zb_ _ _) t1 (zh_ t1),za_ (zb_ _ _) t2 (zh_ t2),za_ (zb_ _ _) t3 (zh_ t3),za_ (zb_ _ _) t4 (zh_ t4)⟩,BW.out.trans ((zb_ _ _).mono BW.out.size)⟩ (fun W1 hI=>?_);clear x0 x1 x2 x3 x4 t0 t1 t2 t3 t4 BW;generalize wr.heap.size=g8 at *;obtain ⟨hb8,⟨t0,t1,t2,t3,t4⟩,hB1⟩:=hI;have B8:=hm_ hb8;have BW:=hm_ hB1;clear hb8 hB1;go_upto_region 7 with fail;refine zH_ (fun W=>Box W g8 [.string k,.slice po l.length qo,.int .i64 a,.int .i64 bb,.int .i64 c]∧Box W W1.heap.size [.string k,.slice pq l.length qq,.int .i64 a,.int .i64 bb,.int .i64 c]∧Below w.heap.size w W) ⟨B8.out.alloc,zn_,BW.out.trans ((zb_ _ _).mono BW.out.size)⟩ (fun W2 hI=>?_);clear t0 t1 t2 t3 t4 B8 BW;generalize W1.heap.size=g9 at *;have BW:=hm_ hI.2.2;obtain ⟨x0,x1,x2,x3,x4⟩:=hI.1.c5;obtain ⟨t0,t1,t2,t3,t4⟩:=hI.2.1.c5;clear hI;have CC:Hid (Calls Tryz.prog 112 #[.agg #[.string k,.slice po l.length qo,.int .i64 a,.int .i64 bb,.int .i64 c],.agg #[.string k,.slice pq l.length qq,.int .i64 a,.int .i64 bb,.int .i64 c]] W2 fun e w'=>e=.returned (.bool true)∧Below W2.heap.size W2 w'):=uP_ k l a bb c po pq qo qq W2 (by omega) (RO.out.next BW.out).sib (RU.out.next BW.out).sib;clear RO RU;go_wp2_with (first | (go_at_call 112; refine CC.out.mono ?_; rintro e W3 ⟨rfl,hb⟩; clear x0 x1 x2 x3 x4 t0 t1 t2 t3 t4))
   go_roundw
   case rel=>exact ⟨i+1,by omega,by go_num,BW.out.trans (hb.mono BW.out.size)⟩
   case measure=>simp [intOf]; omega
  ·have hil':¬ (i:Int) < (ms.length:Int):=by omega
   go_wp2;go_ret;exact ⟨rfl,BW.out⟩
theorem uw_ (lo lo2:Nat) (es:List En) (p pu:Option Addr) (q qu:Nat) (w:World) (hm:es.length<=100000) (h0:GRow lo w p (zl_ es)) (g0:GRow lo2 w pu (zl_ es)) :
  Calls Tryz.prog 113 #[.slice p es.length q,.slice pu es.length qu] w fun e w'=>e=.returned (.bool true)∧Below w.heap.size w w':=by
 have H0:=hm_ h0;have G0:=hm_ g0;clear h0 g0;go_enter Tryz.func113,Tryz.ntmps113;go_wp2;go_loopw [13] (fun s13 wr=>∃ i:Nat,i<=es.length∧s13=.int .i64 i∧Below w.heap.size w wr) (fun s13 _=>es.length - (intOf s13).toNat)
 case atStart=>exact ⟨0,by omega,rfl,Below.refl _ _⟩
 case round=>
  obtain ⟨j,hj,rfl,hI⟩:=hrel;have BW:=hm_ hI;clear hI;have kk:(0:Int)<=(j:Int):=by omega
  by_cases hjl:j < es.length
  ·have hjl':(j:Int) < (es.length:Int):=by omega
   rcases (H0.out.next BW.out).en with h' | ⟨b,off,rfl,_,h2⟩
   ·rw [h'] at hjl; simp at hjl
   rcases (G0.out.next BW.out).en with h' | ⟨b',off',rfl,_,h3⟩
   ·rw [h'] at hjl; simp at hjl
   obtain ⟨x0,x1,x2⟩:=h2 j hjl;obtain ⟨t0,t1,t2⟩:=h3 j hjl;clear h2 h3 H0 G0;generalize es[j]=c at *;obtain ⟨ep,en,ek⟩:=c;dsimp only at x0 x1 x2 t0 t1 t2;have ev:=eqe ep en ek;go_wp2
   go_quiet (fail)
   go_wp2
   go_roundw
   case rel=>exact ⟨j+1,by omega,by go_num,by first | exact BW.out | exact BW.out.trans ((below_drewN (Below.refl _ _) _).mono BW.out.size) | exact BW.out.trans ((zd_ _).mono BW.out.size)⟩
   case measure=>simp [intOf]; omega
  ·have hjl':¬ (j:Int) < (es.length:Int):=by omega
   go_wp2;go_ret;exact ⟨rfl,BW.out⟩
theorem s5_ (lo lo2:Nat) (o u:No) (w:World) (hm:o.ms.length<=100000) (hf:o.x.fd.length<=100000) (hl:∀ m ∈ o.ms,m.c.l.length<=1000) (hx:u.x=o.x) (h0:NoR lo w o) (g0:NoR lo2 w u) :
  Calls Tryz.prog 58 #[nV o,nV u] w fun e w'=>e=.returned (.bool true)∧Below w.heap.size w w':=by
 (try unfold nV);have hcs:u.ms.map (·.c)=o.ms.map (·.c):=by rw [<- h0.cs,<- g0.cs,hx]
 have hlen:u.ms.length=o.ms.length:=by have:=congrArg List.length hcs; simpa using this
 have CE:Hid (∀ W,Below w.heap.size w W->Calls Tryz.prog 111 #[.slice o.p0 o.ms.length o.c0,.slice u.p0 o.ms.length u.c0,.func (.func 112) #[] #[]] W fun e w'=>e=.returned (.bool true)∧Below W.heap.size W w'):=fun W hW=>vt_ lo lo2 o.ms u.ms o.p0 u.p0 o.c0 u.c0 W hm hl hcs (h0.next hW).r0 (g0.next hW).r0 (fun m h=>((h0.next hW).rs m h).1) (fun m h=>((g0.next hW).rs m h).1)
 have CF:Hid (∀ W,Below w.heap.size w W->Calls Tryz.prog 113 #[.slice o.p1 o.x.fd.length o.c1,.slice u.p1 o.x.fd.length u.c1] W fun e w'=>e=.returned (.bool true)∧Below W.heap.size W w'):=fun W hW=>uw_ lo lo2 o.x.fd o.p1 u.p1 o.c1 u.c1 W hf (h0.next hW).r1 (by have:=(g0.next hW).r1; rw [hx] at this; exact this)
 rw [hx,hlen];have I0:Hid (SmI w ((w.alloc (.cells (nL o).toArray 29)).alloc (.cells #[.int .i64 o.x.id,.int .i64 o.x.n,.int .i64 o.x.cut,.slice u.p0 o.ms.length u.c0,.slice u.p1 o.x.fd.length u.c1,.slice u.p2 u.su.length u.c2,.slice u.p3 u.un.length u.c3] 29)) o u):=⟨zn_.alloc,by have:=zn_ (W:=w.alloc (.cells (nL o).toArray 29)) (t:=29) (vs:=[.int .i64 o.x.id,.int .i64 o.x.n,.int .i64 o.x.cut,.slice u.p0 o.ms.length u.c0,.slice u.p1 o.x.fd.length u.c1,.slice u.p2 u.su.length u.c2,.slice u.p3 u.un.length u.c3]); simpa using this,(zb_ _ _).trans ((zb_ _ _).mono (by simp))⟩;clear h0 g0 hl hcs hx hlen;go_enter Tryz.func58,Tryz.ntmps58;go_upto_region 1 with fail;generalize ((w.alloc (.cells (nL o).toArray 29)).alloc (.cells #[.int .i64 o.x.id,.int .i64 o.x.n,.int .i64 o.x.cut,.slice u.p0 o.ms.length u.c0,.slice u.p1 o.x.fd.length u.c1,.slice u.p2 u.su.length u.c2,.slice u.p3 u.un.length u.c3] 29))=W0 at *;obtain ⟨b0,b1,b2,b3,b4,b5,b6⟩:=I0.out.x.c7;obtain ⟨d0,d1,d2,d3,d4,d5,d6⟩:=I0.out.y.c7;go_wp2_with (first | (go_at_call 111; refine (CE.out _ I0.out.b).mono ?_; rintro e W1 ⟨rfl,hb1⟩; have I1:Hid _:=I0.out.next hb1; clear b0 b1 b2 b3 b4 b5 b6 d0 d1 d2 d3 d4 d5 d6 hb1 I0; obtain ⟨b0,b1,b2,b3,b4,b5,b6⟩:=I1.out.x.c7; obtain ⟨d0,d1,d2,d3,d4,d5,d6⟩:=I1.out.y.c7) | (go_at_call 113; refine (CF.out _ I1.out.b).mono ?_; rintro e W2 ⟨rfl,hb2⟩; have I2:Hid (SmI w W2 o u):=I1.out.next hb2));go_ret;exact ⟨rfl,I2.out.b⟩
theorem oO_ (s:Sib) (p n:Int) (g:Nat) (w:World) (d0:w.cell? ⟨g,0,none⟩=some (.int .i64 p)) (d1:w.cell? ⟨g,1,none⟩=some (.int .i64 n)) :
  Calls Tryz.prog 197 #[.agg #[.int .i64 s.p,.int .i64 s.n,.int .i64 s.v,.bool s.d],.pointer (some ⟨g,0,none⟩)] w fun e w'=>e=.returned (.bool (s.p == p && s.n == n))∧Below w.heap.size w w':=by
 have es:=eqd s.p s.n p n;have hg:=zh_ d0;have e0:(w.alloc (.cells #[.int .i64 s.p,.int .i64 s.n,.int .i64 s.v,.bool s.d] 89)).cell? ⟨g,0,none⟩=some (.int .i64 p):=za_ (zb_ _ _) d0 hg;have e1:(w.alloc (.cells #[.int .i64 s.p,.int .i64 s.n,.int .i64 s.v,.bool s.d] 89)).cell? ⟨g,1,none⟩=some (.int .i64 n):=za_ (zb_ _ _) d1 hg;go_enter Tryz.func197,Tryz.ntmps197;go_wp2;go_ret;exact ⟨rfl,zb_ _ _⟩
theorem tf_ (cap:Nat) (ao:Option Addr) (l:List Sib) (p n:Int) (g:Nat) (w:World) (hm:(l.length:Int)<=1048576) (hh:HasD l p n) (d0:w.cell? ⟨g,0,none⟩=some (.int .i64 p)) (d1:w.cell? ⟨g,1,none⟩=some (.int .i64 n)) (hr0:zk_ w ao l) :
  Calls Tryz.prog 219 #[.slice ao l.length cap,.func (.func 197) #[] #[.pointer (some ⟨g,0,none⟩)]] w fun e w'=>∃ k:Int,e=.returned (.int .i64 k)∧0<=k∧Below w.heap.size w w':=by
 have hr:Hid (zk_ w ao l):=hr0;have HH:Hid (HasD l p n):=hh;have HD:Hid (∀ W,Below w.heap.size w W->W.cell? ⟨g,0,none⟩=some (.int .i64 p)∧W.cell? ⟨g,1,none⟩=some (.int .i64 n)):=fun W hW=>⟨za_ hW d0 (zh_ d0),za_ hW d1 (zh_ d1)⟩
 clear hr0 hh d0 d1;go_enter Tryz.func219,Tryz.ntmps219;go_wp2;go_loopw [8] (fun s8 wr=>∃ k:Nat,k<=l.length∧s8=.int .i64 k∧Below w.heap.size w wr∧∀ i (h:i < l.length),i < k->¬ (l[i].p=p∧l[i].n=n)) (fun s8 _=>l.length - (intOf s8).toNat)
 case atStart=>exact ⟨0,by omega,rfl,Below.refl _ _,fun i h h'=>by omega⟩
 case round=>
  obtain ⟨k,hk,rfl,hB0,hG0⟩:=hrel;have hB:=hm_ hB0;have hG:=hm_ hG0;clear hB0 hG0;have kk:(0:Int)<=(k:Int):=by omega
  by_cases hkl:k < l.length
  ·have hkl':(k:Int) < (l.length:Int):=by omega
   rcases hr.out with h' | ⟨q,off,rfl,h2⟩
   ·rw [h'] at hkl; simp at hkl
   obtain ⟨x0,x1,x2,x3⟩:=(h2 k hkl).next hB.out (zh_ (x:=⟨q,off+k * 4,none⟩) (h2 k hkl).1);have CS:Hid (Calls Tryz.prog 197 #[.agg #[.int .i64 l[k].p,.int .i64 l[k].n,.int .i64 l[k].v,.bool l[k].d],.pointer (some ⟨g,0,none⟩)] wr fun e w'=>e=.returned (.bool (l[k].p == p && l[k].n == n))∧Below wr.heap.size wr w'):=oO_ l[k] p n g wr (HD.out _ hB.out).1 (HD.out _ hB.out).2;have HE:Hid ((l[k].p == p && l[k].n == n)=true↔(l[k].p=p∧l[k].n=n)):=by show _↔_; simp
   generalize (l[k].p == p && l[k].n == n)=r at *;clear h2;cases r
   ·go_wp2_with (first | (go_at_call 197; refine CS.out.mono ?_; rintro e w1 ⟨rfl,hb⟩; clear x0 x1 x2 x3))
    go_roundw
    case rel=>
     refine ⟨k+1,by omega,by go_num,hB.out.trans (hb.mono hB.out.size),fun i h h'=>?_⟩;by_cases e:i=k
     ·subst e;intro h3
      have:=HE.out.2 h3
      cases this
     ·exact hG.out i h (by omega)
    case measure=>simp [intOf]; omega
   ·go_wp2_with (first | (go_at_call 197; refine CS.out.mono ?_; rintro e w1 ⟨rfl,hb⟩; clear x0 x1 x2 x3));go_ret;exact ⟨_,rfl,kk,hB.out.trans (hb.mono hB.out.size)⟩
  ·obtain ⟨s,hs,h1⟩:=HH.out;obtain ⟨i,hi,rfl⟩:=List.getElem_of_mem hs;exact (hG.out i hi (by omega) h1).elim
theorem vl_ (cap:Nat) (ao:Option Addr) (l:List Sib) (p n:Int) (g:Nat) (w:World) (hm:(l.length:Int)<=1048576) (hh:HasD l p n) (d0:w.cell? ⟨g,0,none⟩=some (.int .i64 p)) (d1:w.cell? ⟨g,1,none⟩=some (.int .i64 n)) (hr0:zk_ w ao l) :
  Calls Tryz.prog 196 #[.slice ao l.length cap,.func (.func 197) #[] #[.pointer (some ⟨g,0,none⟩)]] w fun e w'=>e=.returned (.bool true)∧Below w.heap.size w w':=by
 have C:Hid _:=tf_ cap ao l p n g w hm hh d0 d1 hr0;clear hh d0 d1 hr0;go_enter Tryz.func196,Tryz.ntmps196;go_wp2_with fail;refine Calls.mono C.out ?_;rintro e w1 ⟨k,rfl,hk,hb⟩;go_wp2;go_ret;exact ⟨rfl,hb⟩
theorem vs_ (cap:Nat) (ao:Option Addr) (l:List Sib) (a b c p n:Int) (w:World) (hm:(l.length:Int)<=1048576) (hh:HasD l p n) (hr0:zk_ w ao l) :
  Calls Tryz.prog 170 #[.agg #[.slice ao l.length cap,.int .i64 a,.int .i64 b,.int .i64 c],.agg #[.int .i64 p,.int .i64 n]] w fun e w'=>e=.returned (.bool true)∧Below w.heap.size w w':=by
 have B0:Below w.heap.size w ((w.alloc (.cells #[.slice ao l.length cap,.int .i64 a,.int .i64 b,.int .i64 c] 37)).alloc (.cells #[.int .i64 p,.int .i64 n] 41)):=(zb_ _ _).trans ((zb_ _ _).mono (by simp));have X:Box ((w.alloc (.cells #[.slice ao l.length cap,.int .i64 a,.int .i64 b,.int .i64 c] 37)).alloc (.cells #[.int .i64 p,.int .i64 n] 41)) (w.heap.size+1) [.int .i64 p,.int .i64 n]:=by have:=zn_ (W:=w.alloc (.cells #[.slice ao l.length cap,.int .i64 a,.int .i64 b,.int .i64 c] 37)) (t:=41) (vs:=[.int .i64 p,.int .i64 n]); simpa using this
 have C:Hid _:=vl_ cap ao l p n (w.heap.size+1) ((w.alloc (.cells #[.slice ao l.length cap,.int .i64 a,.int .i64 b,.int .i64 c] 37)).alloc (.cells #[.int .i64 p,.int .i64 n] 41)) hm hh X.c2.1 X.c2.2 (zk_.next B0 hr0);have HB:=hm_ B0;clear hh hr0 X B0;go_enter Tryz.func170,Tryz.ntmps170;go_wp2_with fail;refine Calls.mono C.out ?_;rintro e w1 ⟨rfl,hb⟩;go_wp2;go_ret;exact ⟨rfl,HB.out.trans (hb.mono HB.out.size)⟩
theorem x3_ (o:No) (w:World) (h1:0<=o.x.n) (h2:o.x.n < 9999) :
  Calls Tryz.prog 45 #[nV o] w fun e w'=>e=.returned (.agg #[.int .i64 o.x.id,.int .i64 (o.x.n+1)])∧Below w.heap.size w w':=by
 (try unfold nV);have q0:IntKind.i64.wrap (o.x.n+1)=o.x.n+1:=by rw [IntKind.wrap_i64]; omega
 go_enter Tryz.func45,Tryz.ntmps45;go_wp2;refine bodyPost_ret (v:=.agg #[.int .i64 o.x.id,.int .i64 (o.x.n+1)]) (by simp [results,Tryz.results45,go_sem, *]) rfl ⟨rfl,?_⟩
 repeat (first | exact Below.refl _ _ | refine Below.drew ?_ | refine below_drewN ?_ _ | refine Below.alloc ?_ (by first | (simp; done) | (simp; omega)) _ | refine Below.setCell ?_ (by first | (simp; done) | (simp; omega)) _)
def N3 (w W:World) (q:Nat) (V:Int->Int->Int × Bool) (m:Nat->Int) (o:Nat->No) (rs:Nat->List (Bool × Cl)):Prop:=(∀ j,j < 3->NdAt W q (j * 7) (o j)∧NoR w.heap.size W (o j)∧zS_ V m j (o j).x (o j).su (o j).un (rs j)∧(0<=m j∧(rs j).length<=20∧m j<=20))∧w.heap.size<=q∧q < W.heap.size
def NfP (w:World) (e:Ending) (w':World):Prop:=∃ q V m o rs,e=.returned (.slice (some ⟨q,0,none⟩) 3 3)∧N3 w w' q V m o rs∧Below w.heap.size w w'
theorem tR_ (len cap:Nat) (ao:Option Addr) (zs:List Int) (w:World) (hr:Gen.IsRow .u8 w ao len cap zs) (hl:(len:Int)<=1048576) (hold:∀ x,ao=some x->0 < cap->x.block < w.heap.size) :
  Calls Tryz.prog 24 #[.slice ao len cap] w fun e w'=>NfP w e w':=by
 have CN:Hid (Calls Tryz.prog 65 #[.pointer (some ⟨w.heap.size,0,none⟩)] (w.alloc (.cells #[.slice ao len cap,.int .i64 0,.int .i64 ((len:Int) % 1000)] 117)) _):=qf_ w.heap.size len cap ao zs ((len:Int) % 1000) (w.alloc (.cells #[.slice ao len cap,.int .i64 0,.int .i64 ((len:Int) % 1000)] 117)) (uG_ len cap ao w) (ym_ hr (zb_ _ _)) (fun x hx hc=>by have:=hold x hx hc; omega) (fun x hx hc=>by have:=hold x hx hc; simp; omega) hl;clear hr hold;go_enter Tryz.func24,Tryz.ntmps24;go_wp2_with fail;refine Calls.mono (vA_ len cap ao w hl) ?_;rintro e w1 ⟨rfl,rfl⟩;go_upto_region 2 with (first | (go_at_call 65; refine CN.out.mono ?_; rintro e W ⟨q,k,V,m,o,rs,rfl,hQ,hk,hbd⟩));have HB0:Hid (Below w.heap.size w W):=(zb_ _ _).trans (vh_ hQ.grown (by simp) (Nat.le_refl _));have Q0:Hid _:=hQ;have BN:=hm_ hbd
 have ML:Hid (∀ j,j < 3->(o j).ms.length<=1000∧(o j).x.fd.length<=100000∧(o j).su.length+(o j).un.length<=100000∧∀ c ∈ (o j).ms,c.c.l.length<=1000):=fun j hj=>by
  have h1:=congrArg List.length (hQ.nor j hj).cs;have h2:=hbd j hj;have h3:=(hQ.inv j hj).len;simp at h1;refine ⟨by omega,by omega,by omega,fun c hc=>?_⟩;have h4:=((hQ.inv j hj).cells c.c (by rw [(hQ.nor j hj).cs]; exact List.mem_map_of_mem hc)).1
  have:=Rp.len24 h4 (by have:=hbd 0 (by omega); omega) (by have:=hbd 1 (by omega); omega) (by have:=hbd 2 (by omega); omega)
  omega
 clear hQ hbd CN;refine wp_region_held_drew (S:=(fun w'=>∀ j,j < 3->NdAt w' q (j * 7) (o j))) (by kernel_rfl) ?_ (fun hH=>?_)
 ·(try dsimp only);exact (Q0.out.below (zd_ _)).nd
 have QC:Hid _:=Q0.out.below (zd_ W);have HB:=ze_ HB0 (zd_ W);clear Q0 HB0;refine wTk 0 ?_;refine wTk 1 ?_;refine wpAnyH_take (i:=2) (v:=?_) rfl (by kernel_rfl) (by kernel_rfl) (by kernel_rfl) (fun _ _ _ h=>h) (Or.inl ⟨by rfl,?_⟩) (by assumption) ?_;rotate_left
 ·intro w' hSw;(try dsimp only at hSw);obtain ⟨y0,y1,y2,y3,y4,y5,y6⟩:=hSw 0 (by omega);(try simp only [Nat.zero_mul,Nat.one_mul,Nat.zero_add,Nat.reduceMul,Nat.reduceAdd] at y0 y1 y2 y3 y4 y5 y6);go_simp
  all_goals (try with_reducible rfl)
 refine wLy ?_;refine wTk 4 ?_;refine wTk 5 ?_;refine wpAnyH_take (i:=6) (v:=?_) rfl (by kernel_rfl) (by kernel_rfl) (by kernel_rfl) (fun _ _ _ h=>h) (Or.inl ⟨by rfl,?_⟩) (by assumption) ?_;rotate_left
 ·intro w' hSw;(try dsimp only at hSw);obtain ⟨y0,y1,y2,y3,y4,y5,y6⟩:=hSw 1 (by omega);(try simp only [Nat.zero_mul,Nat.one_mul,Nat.zero_add,Nat.reduceMul,Nat.reduceAdd] at y0 y1 y2 y3 y4 y5 y6);go_simp
  all_goals (try with_reducible rfl)
 refine wLy ?_;refine wTk 8 ?_;refine wTk 9 ?_;refine wpAnyH_take (i:=10) (v:=?_) rfl (by kernel_rfl) (by kernel_rfl) (by kernel_rfl) (fun _ _ _ h=>h) (Or.inl ⟨by rfl,?_⟩) (by assumption) ?_;rotate_left
 ·intro w' hSw;(try dsimp only at hSw);obtain ⟨y0,y1,y2,y3,y4,y5,y6⟩:=hSw 2 (by omega);(try simp only [Nat.zero_mul,Nat.one_mul,Nat.zero_add,Nat.reduceMul,Nat.reduceAdd] at y0 y1 y2 y3 y4 y5 y6);go_simp
  all_goals (try with_reducible rfl)
 refine wLy ?_;generalize W.drew=wd at *;refine wRd 3 (fun K hK=>?_);go_simp;go_at_call 50;refine (wM_ (q+1) (o 0) _ (ML.out 0 (by omega)).1 (ML.out 0 (by omega)).2.1 (ML.out 0 (by omega)).2.2.1 (ML.out 0 (by omega)).2.2.2 ((QC.out.nor 0 (by omega)))).mono ?_;rintro e z0 ⟨u0,rfl,hN,hx,hs,hu,hb⟩;(try simp only []);have U0:Hid (NoR w.heap.size z0 u0∧u0.x=(o 0).x∧u0.su=(o 0).su∧u0.un=(o 0).un):=⟨hN.weak (Nat.le_trans HB.out.size (Nat.le_refl _)),hx,hs,hu⟩;replace QC:Hid _:=QC.out.below hb;replace HB:=ze_ HB hb;clear hN hx hs hu hb;refine wHk hK (QC.out.nd) ?_;clear hK K hH;intro hH;refine wRd 7 (fun K hK=>?_);go_simp;go_at_call 50;refine (wM_ (q+1) (o 1) _ (ML.out 1 (by omega)).1 (ML.out 1 (by omega)).2.1 (ML.out 1 (by omega)).2.2.1 (ML.out 1 (by omega)).2.2.2 ((QC.out.nor 1 (by omega)))).mono ?_;rintro e z1 ⟨u1,rfl,hN,hx,hs,hu,hb⟩;(try simp only []);have U1:Hid (NoR w.heap.size z1 u1∧u1.x=(o 1).x∧u1.su=(o 1).su∧u1.un=(o 1).un):=⟨hN.weak (Nat.le_trans HB.out.size (Nat.le_refl _)),hx,hs,hu⟩;replace U0:Hid (NoR w.heap.size z1 u0∧u0.x=(o 0).x∧u0.su=(o 0).su∧u0.un=(o 0).un):=⟨U0.out.1.next hb,U0.out.2⟩;replace QC:Hid _:=QC.out.below hb;replace HB:=ze_ HB hb;clear hN hx hs hu hb;refine wHk hK (QC.out.nd) ?_;clear hK K hH;intro hH;refine wRd 11 (fun K hK=>?_);go_simp;go_at_call 50;refine (wM_ (q+1) (o 2) _ (ML.out 2 (by omega)).1 (ML.out 2 (by omega)).2.1 (ML.out 2 (by omega)).2.2.1 (ML.out 2 (by omega)).2.2.2 ((QC.out.nor 2 (by omega)))).mono ?_;rintro e z2 ⟨u2,rfl,hN,hx,hs,hu,hb⟩;(try simp only []);have U2:Hid (NoR w.heap.size z2 u2∧u2.x=(o 2).x∧u2.su=(o 2).su∧u2.un=(o 2).un):=⟨hN.weak (Nat.le_trans HB.out.size (Nat.le_refl _)),hx,hs,hu⟩;replace U0:Hid (NoR w.heap.size z2 u0∧u0.x=(o 0).x∧u0.su=(o 0).su∧u0.un=(o 0).un):=⟨U0.out.1.next hb,U0.out.2⟩;replace U1:Hid (NoR w.heap.size z2 u1∧u1.x=(o 1).x∧u1.su=(o 1).su∧u1.un=(o 1).un):=⟨U1.out.1.next hb,U1.out.2⟩;replace QC:Hid _:=QC.out.below hb;replace HB:=ze_ HB hb;clear hN hx hs hu hb;refine wHk hK (QC.out.nd) ?_;clear hK K hH;intro hH;refine wRd 12 (fun K hK=>?_);go_simp;(try simp only []);have QD:Hid _:=QC.out.below (zb_ z2 (.cells #[.int .i64 u0.x.id,.int .i64 u0.x.n,.int .i64 u0.x.cut,.slice u0.p0 u0.ms.length u0.c0,.slice u0.p1 u0.x.fd.length u0.c1,.slice u0.p2 u0.su.length u0.c2,.slice u0.p3 u0.un.length u0.c3,.int .i64 u1.x.id,.int .i64 u1.x.n,.int .i64 u1.x.cut,.slice u1.p0 u1.ms.length u1.c0,.slice u1.p1 u1.x.fd.length u1.c1,.slice u1.p2 u1.su.length u1.c2,.slice u1.p3 u1.un.length u1.c3,.int .i64 u2.x.id,.int .i64 u2.x.n,.int .i64 u2.x.cut,.slice u2.p0 u2.ms.length u2.c0,.slice u2.p1 u2.x.fd.length u2.c1,.slice u2.p2 u2.su.length u2.c2,.slice u2.p3 u2.un.length u2.c3] 29));refine wHk hK (QD.out.nd) ?_;clear hK K hH;intro hH;refine wTk 13 ?_;refine wDn ?_;clear hH;go_wp2;go_ret;refine ⟨z2.heap.size,V,m,o3 u0 u1 u2,rs,by first | rfl | simp,⟨fun j hj=>?_,HB.out.size,by simp⟩,HB.out.trans ((zb_ _ _).mono HB.out.size)⟩;have h3:j=0∨j=1∨j=2:=by omega
 have bn:=BN.out j hj;have iv:=QD.out.inv j hj;rcases h3 with rfl | rfl | rfl
 ·refine ⟨?_,U0.out.1.next (zb_ _ _),?_,bn⟩
  ·refine ⟨?_,?_,?_,?_,?_,?_,?_⟩ <;> (simp only [o3]; go_simp)
  ·show zS_ V m 0 u0.x u0.su u0.un _
   rw [U0.out.2.1,U0.out.2.2.1,U0.out.2.2.2];exact iv
 ·refine ⟨?_,U1.out.1.next (zb_ _ _),?_,bn⟩
  ·refine ⟨?_,?_,?_,?_,?_,?_,?_⟩ <;> (simp only [o3]; go_simp)
  ·show zS_ V m 1 u1.x u1.su u1.un _
   rw [U1.out.2.1,U1.out.2.2.1,U1.out.2.2.2];exact iv
 ·refine ⟨?_,U2.out.1.next (zb_ _ _),?_,bn⟩
  ·refine ⟨?_,?_,?_,?_,?_,?_,?_⟩ <;> (simp only [o3]; go_simp)
  ·show zS_ V m 2 u2.x u2.su u2.un _
   rw [U2.out.2.1,U2.out.2.2.1,U2.out.2.2.2];exact iv
section
variable {a c:Int} {l:List Sib}
def No32 (l:List UInt8):Prop:=∀ c ∈ l,c≠32
theorem uj_ {a b:List UInt8} (h:No32 a) (k:No32 b):No32 (a++b):=fun c hc=>by
 rcases List.mem_append.1 hc with hc | hc
 ·exact h c hc
 ·exact k c hc
theorem xL_ {d:UInt8} {b:List UInt8} (h:d≠32) (k:No32 b):No32 (d :: b):=fun c hc=>by
 rcases List.mem_cons.1 hc with rfl | hc
 ·exact h
 ·exact k c hc
theorem sB_:No32 []:=fun c hc=>by cases hc
theorem ui_ (n:Nat):No32 (dsN n):=fun c hc e=>by
 have h:=(wR_ n).2.1 c hc;rw [e] at h;exact absurd h (by decide)
theorem oB_ (a b c:Int):No32 (vvT a b c):=by
 unfold vvT vj;simp only [List.append_assoc]
 repeat (first | exact ui_ _ | refine uj_ (ui_ _) ?_ | refine xL_ (by decide) ?_ | exact sB_)
theorem pC_ (s:Sib) (h:zW_ s.p s.n s.v s.d=true):No32 (sibT s):=by
 have hp:=(uM_ h);have hl:=p7_ s.p ⟨hp.1,hp.2.1⟩;unfold sibT dotT;refine uj_ (xL_ (fun e=>?_) (ui_ _)) ?_
 ·rw [e] at hl
  have:((32:UInt8).toNat:Int)=32:=by decide
  omega
 ·split
  ·exact xL_ (by decide) sB_
  ·exact xL_ (by decide) (ui_ _)
theorem sA_ {b:Int} (h:OkP l a b c):No32 (objT (vvT a b c) l):=by
 unfold objT;refine uj_ (oB_ _ _ _) (fun d hd=>?_);obtain ⟨s,hs,hd⟩:=List.mem_flatMap.1 hd;obtain ⟨i,hi,rfl⟩:=List.mem_iff_getElem.1 hs;exact xL_ (by decide) (pC_ _ (h.2.2 i hi).1) d hd
theorem sC_ {k:ByteArray} (h:keyP k):No32 (bl k):=fun c hc e=>by
 obtain ⟨i,hi,rfl⟩:=List.mem_iff_getElem.1 hc;rw [zF_] at hi;have h1:=h.2.2 i hi hi;have h2:(bl k)[i]'(by rw [zF_]; exact hi)=k[i]:=by simp [bl,ByteArray.getElem_eq_getElem_data]
 rw [h2] at e;rw [e] at h1
 have:(32:UInt8).toNat=32:=by decide
 omega
def yj_ (p:Bool):List UInt8:=if p then [112,117,116] else [106,111,105,110]
theorem rZ_ (p:Bool) (c:Cl):bl (recT p c)=yj_ p++32 :: (bl c.k++32 :: objT (vvT c.a c.b c.c) c.l):=by
 unfold recT yj_ bl;cases p <;> simp
theorem rY_ (p:Bool) (c:Cl) (hk:keyP c.k) (h:OkP c.l c.a c.b c.c):cutL 32 (bl (recT p c))=[yj_ p,bl c.k,objT (vvT c.a c.b c.c) c.l]:=by
 rw [rZ_,yH_ _ _ _ (by cases p <;> (unfold yj_; decide)),yH_ _ _ _ (sC_ hk),yT_ _ _ (sA_ h)]
end
end Go.Proofs.YtijcjhcgpmnchaaGreatDoor
