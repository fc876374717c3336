/- Nodes and their buckets, part 12 of the law FnDigest. -/
import Derived.Test.YtiokjphefpicbaaGreatDoorM11
namespace Go.Proofs.YtiokjphefpicbaaGreatDoor
open Go.RowKit
set_option maxRecDepth 100000
set_option maxHeartbeats 16000000
set_option linter.unusedSimpArgs false
set_option linter.unusedVariables false
section
variable {W W' W0 w:World} {a c r x y z:Int} {ao vo:Option Addr} {cap g i n n' ob vc:Nat} {l l2 m m':List Sib} {t:TypeId} {u u' v v':Value}
def OBx (W:World) (ob:Nat) (v:Value) (p q r:Int):Prop:=(W.cell? ⟨ob,0,none⟩=some v∧W.cell? ⟨ob,1,none⟩=some (.int .i64 p)∧W.cell? ⟨ob,2,none⟩=some (.int .i64 q)∧W.cell? ⟨ob,3,none⟩=some (.int .i64 r))∧zS_ W ob 4∧ob < W.heap.size
theorem OBx.next {p q:Int} (h:OBx W ob v p q r) (hb:Below W.heap.size W W'):OBx W' ob v p q r:=
 ⟨⟨za_ hb h.1.1 h.2.2,za_ hb h.1.2.1 h.2.2,za_ hb h.1.2.2.1 h.2.2,za_ hb h.1.2.2.2 h.2.2⟩,h.2.1.next hb h.2.2,Nat.lt_of_lt_of_le h.2.2 hb.size⟩
theorem OBx.gro {p q:Int} (h:OBx W ob v p q r) (hg:Gro W W' u u') (hne:u.ownBlock≠some ob):OBx W' ob v p q r:=
 ⟨⟨hg.cell h.1.1 hne,hg.cell h.1.2.1 hne,hg.cell h.1.2.2.1 hne,hg.cell h.1.2.2.2 hne⟩,xq_ h.2.1 hg h.2.2 hne,Nat.lt_of_lt_of_le h.2.2 hg.size⟩
theorem OBx.set {p q:Int} (h:OBx W ob v p q r):OBx (W.setCell ⟨ob,0,none⟩ u) ob u p q r:=
 ⟨⟨zI_ h.1.1,zw_ h.1.2.1 (by omega),zw_ h.1.2.2.1 (by omega),zw_ h.1.2.2.2 (by omega)⟩,h.2.1.set,by simpa [World.setCell] using h.2.2⟩
structure JS (W0 W:World) (ob:Nat) (vo:Option Addr) (n vc:Nat) (p q r:Int) (m:List Sib):Prop where
 own:Own W0 W 89 (.slice vo n vc) n (flat m)
 len:n=m.length
 cap:n≤vc
 box:OBx W ob (.slice vo n vc) p q r
 ne:(Value.slice vo n vc).ownBlock≠some ob
 old:W0.heap.size≤ob
theorem JS.next {p q:Int} (h:JS W0 W ob vo n vc p q r m) (hb:Below W.heap.size W W'):JS W0 W' ob vo n vc p q r m:=⟨h.own.step hb,h.len,h.cap,h.box.next hb,h.ne,h.old⟩
theorem JS.put {p q:Int} (h:JS W0 W ob vo n vc p q r m) (hu:u=.slice vo n vc∨u=.slice none 0 0) (ho:W'.ownsRow 0 89 4 v' n' (flat m')) (hn:n'=m'.length) (hg:Gro W W' u v'):∃ vo' vc',v'=.slice vo' n' vc'∧JS W0 (W'.setCell ⟨ob,0,none⟩ v') ob vo' n' vc' p q r m':=by
 have hune:u.ownBlock≠some ob:=by
  rcases hu with rfl | rfl
  ·exact h.ne
  ·exact Gro.none_ne
 have huold:∀ k,u.ownBlock=some k→W0.heap.size≤k:=by
  rcases hu with rfl | rfl
  ·exact h.own.2.2
  ·exact fun k hk=>absurd hk Gro.none_ne
 have hvne:v'.ownBlock≠some ob:=hg.ne h.box.2.2 hune
 have hO:Own W0 W' 89 v' n' (flat m'):=by
  refine ⟨ho,h.own.2.1.trans (hg.below h.own.2.1.size huold),fun k hk=>?_⟩
  rcases hg.fresh k hk with h' | h'
  ·exact huold k h'
  ·exact Nat.le_trans h.own.2.1.size h'
 obtain ⟨vo',vc',rfl,hc⟩:=hO.shape
 refine ⟨vo',vc',rfl,⟨⟨ownsRow_setCell_other hO.1 hvne _,hO.2.1.setCell (by simpa using h.old) _,hO.2.2⟩,hn,hc,(h.box.gro hg hune).set,hvne,h.old⟩⟩
theorem JS.row {p q:Int} (h:JS W0 W ob vo n vc p q r m):zk_ W vo m:=by
 have hh:=h.own.1
 rw [h.len] at hh
 obtain ⟨o,c,e,hr,_⟩:=x0_ hh
 cases e
 exact hr
theorem tW_ (h:i < l.length) (hd:vz_ l2 l[i]=true∨decide (l[i].n≤comp x y z l[i].p)=false):stay x y z (l.take (i+1)) l2=stay x y z (l.take i) l2++[l[i]]:=by
 unfold stay
 rw [List.take_succ_eq_append_getElem h,List.filter_append,List.filter_cons_of_pos (by rcases hd with h | h <;> simp [h]),List.filter_nil]
theorem ry_ (h:i < l.length) (hd:vz_ l2 l[i]=false) (he:decide (l[i].n≤comp x y z l[i].p)=true):stay x y z (l.take (i+1)) l2=stay x y z (l.take i) l2:=by
 unfold stay
 rw [List.take_succ_eq_append_getElem h,List.filter_append,List.filter_cons_of_neg (by simp [hd,he]),List.filter_nil,List.append_nil]
theorem q8_ (x y z:Int) (l l2:List Sib) (i:Nat):(stay x y z (l.take i) l2).length≤i:=Nat.le_trans (List.length_filter_le _ _) (by simp; omega)
theorem w4_ {s:Sib}:vz_ l s=true↔HasD l s.p s.n:=vy_
def JB4 (g:Nat) (W:World) (v u:Value) (a b c x y z:Int):Prop:=wd_ W g v a b c∧wd_ W (g+1) u x y z∧zS_ W (g+1+1) 4∧g+1+1 < W.heap.size
theorem JB4.next {b:Int} (h:JB4 g W v u a b c x y z) (hb:Below W.heap.size W W'):JB4 g W' v u a b c x y z:=
 ⟨yQ_ h.1 hb (Nat.lt_trans (by omega) h.2.2.2),yQ_ h.2.1 hb (Nat.lt_trans (by omega) h.2.2.2),h.2.2.1.next hb h.2.2.2,Nat.lt_of_lt_of_le h.2.2.2 hb.size⟩
theorem JB4.new {bo:Option Addr} {m cp:Nat} {b:Int}:JB4 w.heap.size (((w.alloc (.cells #[.slice ao n cap,.int .i64 a,.int .i64 b,.int .i64 c] t)).alloc (.cells #[.slice bo m cp,.int .i64 x,.int .i64 y,.int .i64 z] t)).alloc (.cells #[.slice none 0 0,.int .i64 0,.int .i64 0,.int .i64 0] t)) (.slice ao n cap) (.slice bo m cp) a b c x y z:=by
 refine ⟨⟨by go_simp,by go_simp,by go_simp,by go_simp⟩,⟨by go_simp,by go_simp,by go_simp,by go_simp⟩,fun j hj=>?_,by simp⟩
 have hj':j=0∨j=1∨j=2∨j=3:=by omega
 rcases hj' with rfl | rfl | rfl | rfl <;> exact ⟨by go_simp,by go_simp⟩
theorem yT_ (h:Hid (zk_ w ao l)) (hb:Hid (Below w.heap.size w W)):zk_ W ao l:=h.out.next hb.out
theorem rV_ (n cap:Nat) (ao:Option Addr) (l:List Sib) (x:Sib) (w:World) (hn:n=l.length) (hm:(l.length:Int)≤1048576) (hcap:n≤cap) (hr0:zk_ w ao l) :
  Calls Tryz.prog 151 #[.slice ao n cap,.agg #[.int .i64 x.p,.int .i64 x.n,.int .i64 x.v,.bool x.d]] w fun e w'=>∃ v',e=.returned v'∧w'.ownsRow 0 89 4 v' (pt x l).length (flat (pt x l))∧Gro w w' (.slice none 0 0) v':=by
 subst hn
 exact on_ cap ao l x w hm hcap hr0
theorem tw_ (cap cp:Nat) (ao bo:Option Addr) (l l2:List Sib) (a b c x y z:Int) (w:World) (hm:(l.length:Int)≤100000) (hm2:(l2.length:Int)≤100000) (hn1:∀ i (h:i < l.length),0≤l[i].p∧l[i].p < 3) (hn2:∀ i (h:i < l2.length),0≤l2[i].p∧l2[i].p < 3) (hr0:zk_ w ao l) (hs0:zk_ w bo l2) :
  Calls Tryz.prog 131 #[.agg #[.slice ao l.length cap,.int .i64 a,.int .i64 b,.int .i64 c],.agg #[.slice bo l2.length cp,.int .i64 x,.int .i64 y,.int .i64 z]] w fun e w'=>∃ v,e=.returned (.agg #[v,.int .i64 (max a x),.int .i64 (max b y),.int .i64 (max c z)])∧Gro w w' (.slice none 0 0) v∧w'.ownsRow 0 89 4 v (sj a b c x y z l l2).length (flat (sj a b c x y z l l2)):=by
 have RA:Hid (zk_ (((w.alloc (.cells #[.slice ao l.length cap,.int .i64 a,.int .i64 b,.int .i64 c] 37)).alloc (.cells #[.slice bo l2.length cp,.int .i64 x,.int .i64 y,.int .i64 z] 37)).alloc (.cells #[.slice none 0 0,.int .i64 0,.int .i64 0,.int .i64 0] 37)) ao l):=zM_ (zM_ (zM_ hr0 (zb_ _ _)) (zb_ _ _)) (zb_ _ _)
 have RB:Hid (zk_ (((w.alloc (.cells #[.slice ao l.length cap,.int .i64 a,.int .i64 b,.int .i64 c] 37)).alloc (.cells #[.slice bo l2.length cp,.int .i64 x,.int .i64 y,.int .i64 z] 37)).alloc (.cells #[.slice none 0 0,.int .i64 0,.int .i64 0,.int .i64 0] 37)) bo l2):=zM_ (zM_ (zM_ hs0 (zb_ _ _)) (zb_ _ _)) (zb_ _ _)
 have JB1:Hid (JB4 w.heap.size (((w.alloc (.cells #[.slice ao l.length cap,.int .i64 a,.int .i64 b,.int .i64 c] 37)).alloc (.cells #[.slice bo l2.length cp,.int .i64 x,.int .i64 y,.int .i64 z] 37)).alloc (.cells #[.slice none 0 0,.int .i64 0,.int .i64 0,.int .i64 0] 37)) (.slice ao l.length cap) (.slice bo l2.length cp) a b c x y z):=JB4.new
 have GW:Hid (Gro w (((w.alloc (.cells #[.slice ao l.length cap,.int .i64 a,.int .i64 b,.int .i64 c] 37)).alloc (.cells #[.slice bo l2.length cp,.int .i64 x,.int .i64 y,.int .i64 z] 37)).alloc (.cells #[.slice none 0 0,.int .i64 0,.int .i64 0,.int .i64 0] 37)) (.slice none 0 0) (.slice none 0 0)):=(Gro.of_below (zb_ _ _)).trans ((Gro.of_below (zb_ _ _)).trans (Gro.of_below (zb_ _ _)))
 have HN1:=hm_ hn1
 have HN2:=hm_ hn2
 have hzW:(((w.alloc (.cells #[.slice ao l.length cap,.int .i64 a,.int .i64 b,.int .i64 c] 37)).alloc (.cells #[.slice bo l2.length cp,.int .i64 x,.int .i64 y,.int .i64 z] 37)).alloc (.cells #[.slice none 0 0,.int .i64 0,.int .i64 0,.int .i64 0] 37)).heap.size=w.heap.size+3:=by simp
 clear hr0 hs0 hn1 hn2
 obtain ⟨i0,hi,hz0,hz1,hz2⟩:=info_parts yV_
 have HI:Hid (Tryz.prog.info? 89=some i0∧i0.zero=some (.agg #[.int .i64 0,.int .i64 0,.int .i64 0,.bool false])∧i0.size=4∧i0.bytes=32):=⟨hi,hz0,hz1,hz2⟩
 clear hi hz0 hz1 hz2
 go_enter Tryz.func131,Tryz.ntmps131
 go_wp2_with fail
 refine (tY_ a b c x y z (max a x) (max b y) (max c z) _ (by omega) (by omega) (by omega)).mono ?_
 rintro e w2 ⟨rfl,hb⟩
 have O2:Own (((w.alloc (.cells #[.slice ao l.length cap,.int .i64 a,.int .i64 b,.int .i64 c] 37)).alloc (.cells #[.slice bo l2.length cp,.int .i64 x,.int .i64 y,.int .i64 z] 37)).alloc (.cells #[.slice none 0 0,.int .i64 0,.int .i64 0,.int .i64 0] 37)) w2 89 (.slice (some ⟨w.heap.size+1+1+1,0,none⟩) 0 0) 0 []:=by
  have:=(Own.lit (wr:=(((w.alloc (.cells #[.slice ao l.length cap,.int .i64 a,.int .i64 b,.int .i64 c] 37)).alloc (.cells #[.slice bo l2.length cp,.int .i64 x,.int .i64 y,.int .i64 z] 37)).alloc (.cells #[.slice none 0 0,.int .i64 0,.int .i64 0,.int .i64 0] 37))) (e:=89) (Below.refl _ _)).step hb
  simpa using this
 have hz2:=hb.size
 simp at hz2
 have J2:Hid (JS (((w.alloc (.cells #[.slice ao l.length cap,.int .i64 a,.int .i64 b,.int .i64 c] 37)).alloc (.cells #[.slice bo l2.length cp,.int .i64 x,.int .i64 y,.int .i64 z] 37)).alloc (.cells #[.slice none 0 0,.int .i64 0,.int .i64 0,.int .i64 0] 37)) (w2.alloc (.cells #[.slice (some ⟨w.heap.size+1+1+1,0,none⟩) 0 0,.int .i64 (max a x),.int .i64 (max b y),.int .i64 (max c z)] 37)) w2.heap.size (some ⟨w.heap.size+1+1+1,0,none⟩) 0 0 (max a x) (max b y) (max c z) []):=by
  refine ⟨O2.step (zb_ _ _),rfl,Nat.le_refl _,⟨⟨by go_simp,by go_simp,by go_simp,by go_simp⟩,fun j hj=>?_,by simp⟩,fun e=>by simp [Value.ownBlock] at e; omega,by simp; omega⟩
  have hj':j=0∨j=1∨j=2∨j=3:=by omega
  rcases hj' with rfl | rfl | rfl | rfl <;> exact ⟨by go_simp,by go_simp⟩
 clear hb O2 hz2
 have HZW:Hid (_=w.heap.size+3):=hzW
 clear hzW
 go_wp2
 generalize (w2.alloc (.cells #[.slice (some ⟨w.heap.size+1+1+1,0,none⟩) 0 0,.int .i64 (max a x),.int .i64 (max b y),.int .i64 (max c z)] 37))=W1 at *
 generalize w2.heap.size=ob at *
 clear w2
 generalize (((w.alloc (.cells #[.slice ao l.length cap,.int .i64 a,.int .i64 b,.int .i64 c] 37)).alloc (.cells #[.slice bo l2.length cp,.int .i64 x,.int .i64 y,.int .i64 z] 37)).alloc (.cells #[.slice none 0 0,.int .i64 0,.int .i64 0,.int .i64 0] 37))=W0 at *
 go_loopw [6] (fun s6 wr=>∃ (i:Nat) (vo:Option Addr) (n vc:Nat) (m:List Sib),i≤l.length∧s6=.int .i64 i∧m=stay x y z (l.take i) l2∧JS W0 wr ob vo n vc (max a x) (max b y) (max c z) m) (fun s6 _=>l.length - (intOf s6).toNat)
 case atStart=>exact ⟨0,_,_,_,[],by omega,rfl,by simp [stay],J2.out⟩
 case round=>
  obtain ⟨i,vo,n,vc,m,hil,rfl,hM0,hJ0⟩:=hrel
  have hM:=hm_ hM0
  have hN:Hid (m.length≤i):=by show _≤_; rw [hM0]; exact q8_ x y z l l2 i
  clear hM0
  have hJ:=hm_ hJ0
  have hL:Hid (n=m.length):=hJ0.len
  have hb0:=hm_ hJ0.own.2.1
  obtain ⟨⟨ca0,ca1,ca2,ca3⟩,⟨cb0,cb1,cb2,cb3⟩,_,hz⟩:=JB1.out.next hb0.out
  clear hJ0
  by_cases hkl:i < l.length
  ·have hkl':(i:Int) < (l.length:Int):=by omega
   have kk:(0:Int)≤(i:Int):=by omega
   rcases yT_ RA hb0 with h' | ⟨p,off,rfl,h2⟩
   ·rw [h'] at hkl; simp at hkl
   obtain ⟨x0,x1,x2,x3⟩:=h2 i hkl
   obtain ⟨nd0,nd3⟩:=HN1.out i hkl
   clear h2
   have E0:∀ o,(wr.alloc o).cell? ⟨w.heap.size+1,0,none⟩=_:=fun o=>zj_ cb0 (by omega)
   have E1:∀ o,(wr.alloc o).cell? ⟨w.heap.size+1,1,none⟩=_:=fun o=>zj_ cb1 (by omega)
   have E2:∀ o,(wr.alloc o).cell? ⟨w.heap.size+1,2,none⟩=_:=fun o=>zj_ cb2 (by omega)
   have E3:∀ o,(wr.alloc o).cell? ⟨w.heap.size+1,3,none⟩=_:=fun o=>zj_ cb3 (by omega)
   clear cb0 cb1 cb2 cb3 ca1 ca2 ca3
   go_wp2_with fail
   refine (sx_ cp bo l2 x y z l[i].p l[i].n _ (by omega) (zM_ (yT_ RB hb0) (zb_ _ _)).out).mono ?_
   rintro e w3 ⟨k,rfl,hK1,hK2,hb⟩
   have D0:=za_ hb (b:=wr.heap.size) (o:=0) (v:=.int .i64 l[i].p) (by go_simp) (by simp)
   have D1:=za_ hb (b:=wr.heap.size) (o:=1) (v:=.int .i64 l[i].n) (by go_simp) (by simp)
   have D2:=za_ hb (b:=wr.heap.size) (o:=2) (v:=.int .i64 l[i].v) (by go_simp) (by simp)
   have D3:=za_ hb (b:=wr.heap.size) (o:=3) (v:=.bool l[i].d) (by go_simp) (by simp)
   have hb3:Hid (Below wr.heap.size wr w3):=(zb_ _ _).trans (hb.mono (by simp))
   have JX:Hid (JS W0 w3 ob vo n vc (max a x) (max b y) (max c z) m):=hJ.out.next hb3.out
   have hbW:Hid (Below W0.heap.size W0 w3):=ze_ hb0 hb3.out
   clear hb E0 E1 E2 E3 x0 x1 x2 x3 ca0 hz hb3
   by_cases hy:HasD l2 l[i].p l[i].n
   ·have k0:=hK1.out hy
    have HM':Hid (m++[l[i]]=stay x y z (l.take (i+1)) l2):=by show _=_; rw [hM.out]; exact (tW_ hkl (.inl (w4_.2 hy))).symm
    clear hK1 hK2 hy
    have hB9:=JX.out.box
    obtain ⟨⟨o0,o1,o2,o3⟩,hT9,hz9⟩:=hB9
    have hf9:=(hT9 0 (by omega)).2
    clear o1 o2 o3 hT9
    go_wp2_with (first | (at_builtin; refine yf_ rfl _ _ 33 rfl 89 i0 (.agg #[.int .i64 0,.int .i64 0,.int .i64 0,.bool false]) 32 Tryz.underlying33 HI.out.1 HI.out.2.1 HI.out.2.2.1 HI.out.2.2.2 rfl (.slice vo n vc) n _ rfl (JX.out.next (zb_ _ _)).own.1 _ _ _ [l[i]] rfl z6_ ?c3 ?c4 ?_) | go_in)
    case c3=>have:=hL.out; have:=hN.out; unfold maxLen; omega
    case c4=>have:=hL.out; have:=hN.out; omega
    intro v' w6 ho6 hg6
    obtain ⟨vo',vc',rfl,hJ6⟩:=(JX.out.next (zb_ _ _)).put (m':=m++[l[i]]) (.inl rfl) (zA_ ho6 rfl (by rw [zz_])) (by have:=hL.out; simp; omega) hg6
    have o6:=hg6.cell (zj_ o0 hz9) JX.out.ne
    have f6:=(xq_ ((JX.out.next (zb_ _ _)).box.2.1) hg6 ((JX.out.next (zb_ _ _)).box.2.2) JX.out.ne 0 (by omega)).2
    have J6:Hid _:=hJ6
    clear ho6 hg6 hJ6 o0 hf9
    go_wp2
    go_roundw
    case rel=>first | exact ⟨i+1,_,_,_,m++[l[i]],by omega,by go_num,HM'.out,J6.out⟩ | ((repeat apply Exists.intro); exact ⟨⟨i+1,_,_,_,m++[l[i]],by omega,by go_num,HM'.out,J6.out⟩,rfl⟩)
    case measure=>simp [intOf]; omega
   ·obtain rfl:=hK2.out hy
    obtain ⟨_,⟨cb0,cb1,cb2,cb3⟩,_,hz⟩:=JB1.out.next hbW.out
    clear cb0
    go_wp2_with fail
    refine (yj_ x y z l[i].p l[i].n _ nd0 nd3).mono ?_
    rintro e w4 ⟨rfl,hb⟩
    replace D0:=za_ hb D0 (zg_ (x:=⟨wr.heap.size,0,none⟩) D0)
    replace D1:=za_ hb D1 (zg_ (x:=⟨wr.heap.size,1,none⟩) D1)
    replace D2:=za_ hb D2 (zg_ (x:=⟨wr.heap.size,2,none⟩) D2)
    replace D3:=za_ hb D3 (zg_ (x:=⟨wr.heap.size,3,none⟩) D3)
    replace JX:=hm_ (JX.out.next hb)
    clear hb cb1 cb2 cb3 hz hbW
    cases hd:decide (l[i].n≤comp x y z l[i].p)
    ·have HM':Hid (m++[l[i]]=stay x y z (l.take (i+1)) l2):=by show _=_; rw [hM.out]; exact (tW_ hkl (.inr hd)).symm
     clear hK1 hK2
     have hB9:=JX.out.box
     obtain ⟨⟨o0,o1,o2,o3⟩,hT9,hz9⟩:=hB9
     have hf9:=(hT9 0 (by omega)).2
     clear o1 o2 o3 hT9
     go_wp2_with (first | (at_builtin; refine yf_ rfl _ _ 33 rfl 89 i0 (.agg #[.int .i64 0,.int .i64 0,.int .i64 0,.bool false]) 32 Tryz.underlying33 HI.out.1 HI.out.2.1 HI.out.2.2.1 HI.out.2.2.2 rfl (.slice vo n vc) n _ rfl (JX.out.next (zb_ _ _)).own.1 _ _ _ [l[i]] rfl z6_ ?c3 ?c4 ?_) | go_in)
     case c3=>have:=hL.out; have:=hN.out; unfold maxLen; omega
     case c4=>have:=hL.out; have:=hN.out; omega
     intro v' w6 ho6 hg6
     obtain ⟨vo',vc',rfl,hJ6⟩:=(JX.out.next (zb_ _ _)).put (m':=m++[l[i]]) (.inl rfl) (zA_ ho6 rfl (by rw [zz_])) (by have:=hL.out; simp; omega) hg6
     have o6:=hg6.cell (zj_ o0 hz9) JX.out.ne
     have f6:=(xq_ ((JX.out.next (zb_ _ _)).box.2.1) hg6 ((JX.out.next (zb_ _ _)).box.2.2) JX.out.ne 0 (by omega)).2
     have J6:Hid _:=hJ6
     clear ho6 hg6 hJ6 o0 hf9
     go_wp2
     go_roundw
     case rel=>first | exact ⟨i+1,_,_,_,m++[l[i]],by omega,by go_num,HM'.out,J6.out⟩ | ((repeat apply Exists.intro); exact ⟨⟨i+1,_,_,_,m++[l[i]],by omega,by go_num,HM'.out,J6.out⟩,rfl⟩)
     case measure=>simp [intOf]; omega
    ·have HM':Hid (m=stay x y z (l.take (i+1)) l2):=by show _=_; rw [hM.out]; exact (ry_ hkl (by rw [Bool.eq_false_iff]; exact fun h=>hy (w4_.1 h)) hd).symm
     clear hK1 hK2 hy D0 D1 D2 D3
     go_wp2
     go_roundw
     case rel=>first | exact ⟨i+1,_,_,_,m,by omega,by go_num,HM'.out,JX.out⟩ | ((repeat apply Exists.intro); exact ⟨⟨i+1,_,_,_,m,by omega,by go_num,HM'.out,JX.out⟩,rfl⟩)
     case measure=>simp [intOf]; omega
  ·have hkl':¬ (i:Int) < (l.length:Int):=by omega
   have hM1:Hid (m=stay x y z l l2):=by have:=hM.out; rw [List.take_of_length_le (by omega)] at this; exact this
   have hS0:Hid (m.length≤l.length):=by have:=hN.out; show _≤_; omega
   clear ca1 ca2 ca3 cb0 cb1 cb2 cb3 J2 hM hN hb0 hL
   go_wp2
   go_loopw [8] (fun s8 wr=>∃ (i:Nat) (vo:Option Addr) (n vc:Nat) (m:List Sib),i≤l2.length∧s8=.int .i64 i∧m=pts (stay x y z l l2) (fil a b c (l2.take i))∧JS W0 wr ob vo n vc (max a x) (max b y) (max c z) m) (fun s8 _=>l2.length - (intOf s8).toNat)
   case atStart=>exact ⟨0,_,_,_,m,by omega,rfl,by rw [hM1.out]; simp [fil,pts],hJ.out⟩
   case round=>
    clear hJ ca0 hz
    have hS1:Hid ((stay x y z l l2).length≤l.length):=by have h1:=hM1.out; have h2:=hS0.out; rw [h1] at h2; exact h2
    clear hM1 hS0
    obtain ⟨i,vo,n,vc,m,hil2,rfl,hM0,hJ0⟩:=hrel
    have hM:=hm_ hM0
    have hN:Hid (m.length≤l.length+i):=by
     show _≤_
     rw [hM0,tq_]
     have h1:=qw_ a b c l2 i
     have h2:=hS1.out
     omega
    clear hM0
    have hJ:=hm_ hJ0
    have hL:Hid (n=m.length):=hJ0.len
    have hb0:=hm_ hJ0.own.2.1
    obtain ⟨⟨ca0,ca1,ca2,ca3⟩,⟨cb0,cb1,cb2,cb3⟩,_,hz⟩:=JB1.out.next hb0.out
    clear hJ0
    by_cases hkl2:i < l2.length
    ·have hkl2':(i:Int) < (l2.length:Int):=by omega
     have kk:(0:Int)≤(i:Int):=by omega
     rcases yT_ RB hb0 with h' | ⟨p,off,rfl,h2⟩
     ·rw [h'] at hkl2; simp at hkl2
     obtain ⟨x0,x1,x2,x3⟩:=h2 i hkl2
     obtain ⟨nd0,nd3⟩:=HN2.out i hkl2
     clear h2
     have E0:∀ o,(wr.alloc o).cell? ⟨w.heap.size,0,none⟩=_:=fun o=>zj_ ca0 (by omega)
     have E1:∀ o,(wr.alloc o).cell? ⟨w.heap.size,1,none⟩=_:=fun o=>zj_ ca1 (by omega)
     have E2:∀ o,(wr.alloc o).cell? ⟨w.heap.size,2,none⟩=_:=fun o=>zj_ ca2 (by omega)
     have E3:∀ o,(wr.alloc o).cell? ⟨w.heap.size,3,none⟩=_:=fun o=>zj_ ca3 (by omega)
     clear cb1 cb2 cb3 ca0 ca1 ca2 ca3
     go_wp2_with fail
     refine (yj_ a b c l2[i].p l2[i].n _ nd0 nd3).mono ?_
     rintro e w3 ⟨rfl,hb⟩
     have D0:=za_ hb (b:=wr.heap.size) (o:=0) (v:=.int .i64 l2[i].p) (by go_simp) (by simp)
     have D1:=za_ hb (b:=wr.heap.size) (o:=1) (v:=.int .i64 l2[i].n) (by go_simp) (by simp)
     have D2:=za_ hb (b:=wr.heap.size) (o:=2) (v:=.int .i64 l2[i].v) (by go_simp) (by simp)
     have D3:=za_ hb (b:=wr.heap.size) (o:=3) (v:=.bool l2[i].d) (by go_simp) (by simp)
     have JX:Hid (JS W0 w3 ob vo n vc (max a x) (max b y) (max c z) m):=hJ.out.next ((zb_ _ _).trans (hb.mono (by simp)))
     clear hb E0 E1 E2 E3 x0 x1 x2 x3 cb0 hz hJ
     cases hd:decide (l2[i].n≤comp a b c l2[i].p)
     ·have HM':Hid (pt l2[i] m=pts (stay x y z l l2) (fil a b c (l2.take (i+1)))):=by show _=_; rw [v9_ hkl2 hd,sX_,hM.out]
      have HL':Hid ((pt l2[i] m).length=(pt l2[i] m).length):=rfl
      have hB9:=JX.out.box
      obtain ⟨⟨o0,o1,o2,o3⟩,hT9,hz9⟩:=hB9
      clear o1 o2 o3 hT9
      go_wp2_with fail
      refine (rV_ n vc vo m l2[i] _ hL.out (by have:=hN.out; omega) JX.out.cap JX.out.row).mono ?_
      rintro e w6 ⟨v',rfl,ho6,hg6⟩
      obtain ⟨vo',vc',rfl,hJ6⟩:=JX.out.put (m':=pt l2[i] m) (.inr rfl) ho6 rfl hg6
      have o6:=hg6.cell o0 Gro.none_ne
      have f6:=(xq_ JX.out.box.2.1 hg6 JX.out.box.2.2 Gro.none_ne 0 (by omega)).2
      have J6:Hid _:=hJ6
      clear ho6 hg6 hJ6 o0 hd D0 D1 D2 D3
      go_wp2
      go_roundw
      case rel=>first | exact ⟨i+1,_,_,_,pt l2[i] m,by omega,by go_num,HM'.out,J6.out⟩ | ((repeat apply Exists.intro); exact ⟨⟨i+1,_,_,_,pt l2[i] m,by omega,by go_num,HM'.out,J6.out⟩,rfl⟩)
      case measure=>simp [intOf]; omega
     ·have HM':Hid (m=pts (stay x y z l l2) (fil a b c (l2.take (i+1)))):=by show _=_; rw [v8_ hkl2 hd]; exact hM.out
      clear hd D0 D1 D2 D3
      go_wp2
      go_roundw
      case rel=>first | exact ⟨i+1,_,_,_,m,by omega,by go_num,HM'.out,JX.out⟩ | ((repeat apply Exists.intro); exact ⟨⟨i+1,_,_,_,m,by omega,by go_num,HM'.out,JX.out⟩,rfl⟩)
      case measure=>simp [intOf]; omega
    ·have hkl2':¬ (i:Int) < (l2.length:Int):=by omega
     have hM1:Hid (m=sj a b c x y z l l2):=by have:=hM.out; rw [List.take_of_length_le (by omega)] at this; exact this
     obtain ⟨⟨o0,o1,o2,o3⟩,hT9,hz9⟩:=hJ.out.box
     obtain ⟨_,_,hTr,_⟩:=JB1.out.next hb0.out
     obtain ⟨t0,T0⟩:=isx (hTr 0 (by omega)).1
     obtain ⟨t1,T1⟩:=isx (hTr 1 (by omega)).1
     obtain ⟨t2,T2⟩:=isx (hTr 2 (by omega)).1
     obtain ⟨t3,T3⟩:=isx (hTr 3 (by omega)).1
     have Z0:=(hTr 0 (by omega)).2
     have Z1:=(hTr 1 (by omega)).2
     have Z2:=(hTr 2 (by omega)).2
     have Z3:=(hTr 3 (by omega)).2
     have O5:=hm_ hJ.out.own.1
     have G5:=hm_ hJ.out.own.gro
     clear hTr hT9 hz9 ca1 ca2 ca3 cb1 cb2 cb3 ca0
     go_wp2
     refine bodyPost_ret (v:=.agg #[.slice vo n vc,.int .i64 (max a x),.int .i64 (max b y),.int .i64 (max c z)]) (by simp [results,Tryz.results131,go_sem,T0,T1,T2,T3,Z0,Z1,Z2,Z3]) rfl ⟨_,rfl,?_,?_⟩
     ·exact Gro.set4 (GW.out.trans G5.out) (by omega)
     ·have hne:(Value.slice vo n vc).ownBlock≠some (w.heap.size+1+1):=nb G5.out JB1.out.2.2.2
      exact zA_ (ownsRow_setCell_other (ownsRow_setCell_other (ownsRow_setCell_other (ownsRow_setCell_other O5.out hne _) hne _) hne _) hne _) (by rw [← hM1.out]; exact hL.out) (by rw [hM1.out])
end
section
variable {a c:Int} {l:List Sib}
theorem rR_:∀ {l:List Sib},(∀ i (h:i+1 < l.length),Bef l[i] l[i+1])→Rise l
 | [],_=>by simp [Rise]
 | [s],_=>by simp [Rise]
 | s :: t :: l,h=>by
  have h1:Rise (t :: l):=rR_ (fun i hi=>by have:=h (i+1) (by simpa using hi); simpa using this)
  have h0:=h 0 (by simp)
  refine List.pairwise_cons.2 ⟨fun u hu=>?_,h1⟩
  rcases List.mem_cons.1 hu with e | e
  ·subst e; simpa using h0
  ·exact Bef.trans (by simpa using h0) (h1.head u e)
theorem pw_ {b:Int} (h:OkP l a b c):∀ s ∈ l,s.n≤comp a b c s.p:=fun s hs=>by
 obtain ⟨i,hi,rfl⟩:=List.mem_iff_getElem.1 hs
 exact of_decide_eq_true (h.2.2 i hi).2.1
theorem r0_ {b:Int} (h:OkP l a b c):Rise l:=rR_ (fun i hi=>wF_.1 (by have:=(h.2.2 (i+1) hi).2.2 (by omega); simpa using this))
theorem x2_ {b:Int} (h:OkP l a b c):∀ i (hi:i < l.length),0≤l[i].p∧l[i].p < 3:=fun i hi=>vG_ (h.2.2 i hi).1
theorem qp_ (cap cp:Nat) (ao bo:Option Addr) (l l2:List Sib) (a b c x y z:Int) (w:World) (hO:OkP l a b c) (hP:OkP l2 x y z) (hc2:l2.length≤cp) (hr0:zk_ w ao l) (hs0:zk_ w bo l2) :
  Calls Tryz.prog 67 #[.agg #[.slice ao l.length cap,.int .i64 a,.int .i64 b,.int .i64 c],.agg #[.slice bo l2.length cp,.int .i64 x,.int .i64 y,.int .i64 z]] w fun e w'=>∃ v,e=.returned (.agg #[v,.int .i64 (max a x),.int .i64 (max b y),.int .i64 (max c z)])∧Gro w w' (.slice none 0 0) v∧w'.ownsRow 0 89 4 v (sj a b c x y z l l2).length (flat (sj a b c x y z l l2)):=by
 have e:=jn_sj (a:=a) (b:=b) (c:=c) (x:=x) (y:=y) (z:=z) (r0_ hO) (r0_ hP) (pw_ hO)
 have:=s7_ cap cp ao bo l l2 a b c x y z w (by have:=hO.1; omega) (by have:=hP.1; omega) hc2 (x2_ hO) (x2_ hP) hr0 hs0
 rw [e] at this
 exact this
theorem vs_ (cap cp:Nat) (ao bo:Option Addr) (l l2:List Sib) (a b c x y z:Int) (w:World) (hO:OkP l a b c) (hP:OkP l2 x y z) (hc2:l2.length≤cp) (hr0:zk_ w ao l) (hs0:zk_ w bo l2) :
  Calls Tryz.prog 131 #[.agg #[.slice ao l.length cap,.int .i64 a,.int .i64 b,.int .i64 c],.agg #[.slice bo l2.length cp,.int .i64 x,.int .i64 y,.int .i64 z]] w fun e w'=>∃ v,e=.returned (.agg #[v,.int .i64 (max a x),.int .i64 (max b y),.int .i64 (max c z)])∧Gro w w' (.slice none 0 0) v∧w'.ownsRow 0 89 4 v (sj a b c x y z l l2).length (flat (sj a b c x y z l l2)):=tw_ cap cp ao bo l l2 a b c x y z w (by have:=hO.1; omega) (by have:=hP.1; omega) (x2_ hO) (x2_ hP) hr0 hs0
end
theorem nm_ (a b c x y z:Int) (l l2:List Sib):(sj a b c x y z l l2).length≤l.length+l2.length:=by
 unfold sj
 rw [tq_]
 have h1:(stay x y z l l2).length≤l.length:=List.length_filter_le _ _
 have h2:(fil a b c l2).length≤l2.length:=List.length_filter_le _ _
 omega
def CR (k0 k1:Bool) (l l2:List Sib) (a b c x y z:Int) (r:Bool) (code:Int):Prop:=
 (¬ (k0=true∧k1=true)→r=false∧code=1)∧(k0=true→k1=true→code=0∧(r=true↔Same (sj a b c x y z l l2) l (max a x) (max b y) (max c z) a b c))
theorem vh_ (cap cp:Nat) (ao bo:Option Addr) (l l2:List Sib) (a b c x y z:Int) (k0 k1:Bool) (hO:Hid (k0=true↔OkP l a b c)) (hP:Hid (k1=true↔OkP l2 x y z)) (r:Bool) (code:Int) (hJ:Hid (CR k0 k1 l l2 a b c x y z r code)) (w:World) (hm:(l.length:Int)≤1048576) (hm2:(l2.length:Int)≤1048576) (hc2:l2.length≤cp) (hr0:zk_ w ao l) (hs0:zk_ w bo l2) :
  Calls Tryz.prog 27 #[.agg #[.slice ao l.length cap,.int .i64 a,.int .i64 b,.int .i64 c],.agg #[.slice bo l2.length cp,.int .i64 x,.int .i64 y,.int .i64 z]] w fun e w'=>e=.returned (.tuple #[.bool r,.int .i64 code])∧Below w.heap.size w w':=by
 have RW:Hid (zk_ w ao l):=hr0
 have SW:Hid (zk_ w bo l2):=hs0
 clear hr0 hs0
 have HB0:Hid (Below w.heap.size w ((w.alloc (.cells #[.slice ao l.length cap,.int .i64 a,.int .i64 b,.int .i64 c] 37)).alloc (.cells #[.slice bo l2.length cp,.int .i64 x,.int .i64 y,.int .i64 z] 37))):=(zb_ _ _).trans ((zb_ _ _).mono (by simp))
 have BA0:Hid (wd_ ((w.alloc (.cells #[.slice ao l.length cap,.int .i64 a,.int .i64 b,.int .i64 c] 37)).alloc (.cells #[.slice bo l2.length cp,.int .i64 x,.int .i64 y,.int .i64 z] 37)) w.heap.size (.slice ao l.length cap) a b c):=⟨by go_simp,by go_simp,by go_simp,by go_simp⟩
 have BB0:Hid (wd_ ((w.alloc (.cells #[.slice ao l.length cap,.int .i64 a,.int .i64 b,.int .i64 c] 37)).alloc (.cells #[.slice bo l2.length cp,.int .i64 x,.int .i64 y,.int .i64 z] 37)) (w.heap.size+1) (.slice bo l2.length cp) x y z):=⟨by go_simp,by go_simp,by go_simp,by go_simp⟩
 have LA0:Hid (w.heap.size < ((w.alloc (.cells #[.slice ao l.length cap,.int .i64 a,.int .i64 b,.int .i64 c] 37)).alloc (.cells #[.slice bo l2.length cp,.int .i64 x,.int .i64 y,.int .i64 z] 37)).heap.size):=by show _ < _; simp; omega
 have LB0:Hid (w.heap.size+1 < ((w.alloc (.cells #[.slice ao l.length cap,.int .i64 a,.int .i64 b,.int .i64 c] 37)).alloc (.cells #[.slice bo l2.length cp,.int .i64 x,.int .i64 y,.int .i64 z] 37)).heap.size):=by show _ < _; simp
 go_enter Tryz.func27,Tryz.ntmps27
 go_wp2_with fail
 generalize ((w.alloc (.cells #[.slice ao l.length cap,.int .i64 a,.int .i64 b,.int .i64 c] 37)).alloc (.cells #[.slice bo l2.length cp,.int .i64 x,.int .i64 y,.int .i64 z] 37))=W0 at *
 refine (xL_ cap ao l a b c k0 hO _ hm (RW.out.next HB0.out)).mono ?_
 rintro e w1 ⟨rfl,hb⟩
 replace HB0:=ze_ HB0 hb
 replace BA0:=yQ_ BA0 hb LA0
 replace BB0:=yQ_ BB0 hb LB0
 replace LA0:=zY_ LA0 hb
 replace LB0:=zY_ LB0 hb
 obtain ⟨cb0,cb1,cb2,cb3⟩:=BB0.out
 clear hb
 cases k0
 ·obtain ⟨rfl,rfl⟩:=hJ.out.1 (fun h=>by cases h.1)
  go_wp2
  go_ret2
  exact ⟨rfl,HB0.out⟩
 have HOK:Hid (OkP l a b c):=hO.out.1 rfl
 clear hO
 go_wp2_with fail
 refine (xL_ cp bo l2 x y z k1 hP _ hm2 (SW.out.next HB0.out)).mono ?_
 rintro e w2 ⟨rfl,hb⟩
 have HB2:=ze_ HB0 hb
 replace BA0:=yQ_ BA0 hb LA0
 replace BB0:=yQ_ BB0 hb LB0
 replace LB0:=zY_ LB0 hb
 clear cb0 cb1 cb2 cb3 hb HB0 LA0
 cases k1
 ·obtain ⟨rfl,rfl⟩:=hJ.out.1 (fun h=>by cases h.2)
  go_wp2
  go_ret2
  exact ⟨rfl,HB2.out⟩
 have HPK:Hid (OkP l2 x y z):=hP.out.1 rfl
 obtain ⟨rfl,HR0⟩:=hJ.out.2 rfl rfl
 have HR:=hm_ HR0
 have HSL:((sj a b c x y z l l2).length:Int)≤1048576:=by
  have h1:=nm_ a b c x y z l l2
  have h2:=HOK.out.1
  have h3:=HPK.out.1
  omega
 obtain ⟨ca0,ca1,ca2,ca3⟩:=BA0.out
 obtain ⟨cc0,cc1,cc2,cc3⟩:=BB0.out
 have hz2:=LB0.out
 clear hP hJ HR0 BA0 BB0 LB0
 go_wp2
 refine wp_region_held_drew (S:=(fun w'=>(w'.cell? ⟨w.heap.size,0,none⟩=some (.slice ao l.length cap)∧w'.cell? ⟨w.heap.size,1,none⟩=some (.int .i64 a)∧w'.cell? ⟨w.heap.size,2,none⟩=some (.int .i64 b)∧w'.cell? ⟨w.heap.size,3,none⟩=some (.int .i64 c))∧(w'.cell? ⟨w.heap.size+1,0,none⟩=some (.slice bo l2.length cp)∧w'.cell? ⟨w.heap.size+1,1,none⟩=some (.int .i64 x)∧w'.cell? ⟨w.heap.size+1,2,none⟩=some (.int .i64 y)∧w'.cell? ⟨w.heap.size+1,3,none⟩=some (.int .i64 z))∧w.heap.size+1 < w'.heap.size∧Below w.heap.size w w')) (by kernel_rfl) ?_ (fun hH=>?_)
 ·(try dsimp only)
  exact ⟨⟨ca0,ca1,ca2,ca3⟩,⟨cc0,cc1,cc2,cc3⟩,hz2,(ze_ HB2 (zc_ _)).out⟩
 refine wTk 0 ?_
 refine wTk 1 ?_
 refine wTk 3 ?_
 refine wRd 2 (fun K hK=>?_)
 go_simp
 (go_at_call 67; refine (qp_ cap cp ao bo l l2 a b c x y z _ HOK.out HPK.out hc2 (RW.out.next hH.2.2.2) (SW.out.next hH.2.2.2)).mono ?_; rintro e w4 ⟨v,rfl,hg,ho⟩; obtain ⟨vo,vc,rfl,hrow,_⟩:=x0_ ho; have hb:=hg.below (Nat.le_refl _) (fun k hk=>absurd hk Gro.none_ne); have R4:Hid (zk_ w4 vo (sj a b c x y z l l2)):=hrow)
 (try simp only [])
 refine hK.out _ _ ?_ (fun hH'=>?_)
 ·(try dsimp only)
  exact ⟨yQ_ hH.1 hb (Nat.lt_trans (by omega) hH.2.2.1),yQ_ hH.2.1 hb hH.2.2.1,Nat.lt_of_lt_of_le hH.2.2.1 hb.size,ze_ hH.2.2.2 hb⟩
 clear hK K
 clear hH
 have hH:=hH'
 clear hH'
 clear hb ho hg hrow
 refine wLy ?_
 refine wRd 4 (fun K hK=>?_)
 go_simp
 (go_at_call 68; refine (xB_ vc cap vo ao (sj a b c x y z l l2) l (max a x) (max b y) (max c z) a b c r HR _ HSL hm R4.out (RW.out.next hH.2.2.2)).mono ?_; rintro e w5 ⟨rfl,hb⟩)
 (try simp only [])
 refine hK.out _ _ ?_ (fun hH'=>?_)
 ·(try dsimp only)
  exact ⟨yQ_ hH.1 hb (Nat.lt_trans (by omega) hH.2.2.1),yQ_ hH.2.1 hb hH.2.2.1,Nat.lt_of_lt_of_le hH.2.2.1 hb.size,ze_ hH.2.2.2 hb⟩
 clear hK K
 clear hH
 have hH:=hH'
 clear hH'
 clear hb
 refine wLy ?_
 refine wTk 5 ?_
 refine wTk 6 ?_
 refine wDn ?_
 have HB5:=hm_ hH.2.2.2
 clear hH ca0 ca1 ca2 ca3 cc0 cc1 cc2 cc3 R4 HR HSL
 go_wp2
 go_ret2
 exact ⟨rfl,HB5.out⟩
end Go.Proofs.YtiokjphefpicbaaGreatDoor
