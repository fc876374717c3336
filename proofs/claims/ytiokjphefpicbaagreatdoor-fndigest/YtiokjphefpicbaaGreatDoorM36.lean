/- Nodes and their buckets, part 36 of the law FnDigest. -/
import Derived.Test.YtiokjphefpicbaaGreatDoorM35
namespace Go.Proofs.YtiokjphefpicbaaGreatDoor
open Go.RowKit
set_option maxRecDepth 100000
set_option maxHeartbeats 16000000
set_option linter.unusedSimpArgs false
set_option linter.unusedVariables false
theorem ut_ (k:ByteArray) (l:List Sib) (a b c:Int) (p pu:Option Addr) (q qu:Nat) (w:World) (hl:l.length≤1000) (h1:zk_ w p l) (h2:zk_ w pu l) :
  Calls Tryz.prog 111 #[.agg #[.string k,.slice p l.length q,.int .i64 a,.int .i64 b,.int .i64 c],.agg #[.string k,.slice pu l.length qu,.int .i64 a,.int .i64 b,.int .i64 c]] w fun e w'=>e=.returned (.bool true)∧Below w.heap.size w w':=by
 have B0:Hid (Below w.heap.size w ((w.alloc (.cells #[.string k,.slice p l.length q,.int .i64 a,.int .i64 b,.int .i64 c] 91)).alloc (.cells #[.string k,.slice pu l.length qu,.int .i64 a,.int .i64 b,.int .i64 c] 91))):=(zb_ _ _).trans ((zb_ _ _).mono (by simp))
 have CS:Hid (∀ W,Below w.heap.size w W→Calls Tryz.prog 68 #[.agg #[.slice p l.length q,.int .i64 a,.int .i64 b,.int .i64 c],.agg #[.slice pu l.length qu,.int .i64 a,.int .i64 b,.int .i64 c]] W fun e w'=>e=.returned (.bool true)∧Below W.heap.size W w'):=fun W hW=>xB_ q qu p pu l l a b c a b c true ⟨fun _=>wK_ _ _ _ _,fun _=>rfl⟩ W (by omega) (by omega) (zk_.next hW h1) (zk_.next hW h2)
 clear h1 h2
 go_enter Tryz.func111,Tryz.ntmps111
 go_wp2_with (first | (go_at_call 68; refine (CS.out _ B0.out).mono ?_; rintro e w1 ⟨rfl,hb⟩))
 go_ret
 exact ⟨rfl,B0.out.trans (hb.mono B0.out.size)⟩
theorem vj_ (lo lo2:Nat) (ms us:List Cm) (p pu:Option Addr) (q qu:Nat) (w:World) (hm:ms.length≤100000) (hl:∀ m ∈ ms,m.c.l.length≤1000) (he:us.map (·.c)=ms.map (·.c)) (h0:GRow lo w p (zn_ ms)) (g0:GRow lo2 w pu (zn_ us)) (hr:∀ m ∈ ms,GRow lo w m.p (flat m.c.l)) (gr:∀ m ∈ us,GRow lo2 w m.p (flat m.c.l)) :
  Calls Tryz.prog 110 #[.slice p ms.length q,.slice pu ms.length qu,.func (.func 111) #[] #[]] w fun e w'=>e=.returned (.bool true)∧Below w.heap.size w w':=by
 have hlen:us.length=ms.length:=by have:=congrArg List.length he; simpa using this
 have hat:∀ i (h:i < ms.length) (h':i < us.length),us[i].c=ms[i].c:=fun i h h'=>by
  have e1:(ms.map (·.c))[i]? = some ms[i].c:=by simp [h]
  have e2:(us.map (·.c))[i]? = some us[i].c:=by simp [h']
  rw [← he,e2] at e1
  exact Option.some.inj e1
 have H0:Hid (GRow lo w p (zn_ ms)∧∀ m ∈ ms,GRow lo w m.p (flat m.c.l)):=⟨h0,hr⟩
 have G0:Hid (GRow lo2 w pu (zn_ us)∧∀ m ∈ us,GRow lo2 w m.p (flat m.c.l)):=⟨g0,gr⟩
 have HL:=hm_ hl
 have HAT:=hm_ hat
 have HLEN:=hm_ hlen
 clear h0 g0 hr gr hl he hat hlen
 go_enter Tryz.func110,Tryz.ntmps110
 go_wp2
 go_loopw [17] (fun s17 wr=>∃ i:Nat,i≤ms.length∧s17=.int .i64 i∧Below w.heap.size w wr) (fun s17 _=>ms.length - (intOf s17).toNat)
 case atStart=>exact ⟨0,by omega,rfl,Below.refl _ _⟩
 case round=>
  obtain ⟨i,hi,rfl,hI⟩:=hrel
  have BW:=hm_ hI
  clear hI
  have kk:(0:Int)≤(i:Int):=by omega
  by_cases hil:i < ms.length
  ·have hil':(i:Int) < (ms.length:Int):=by omega
   have hiu:i < us.length:=by rw [HLEN.out]; exact hil
   have hcu:=HAT.out i hil hiu
   have RO:Hid (GRow lo w ms[i].p (flat ms[i].c.l)):=H0.out.2 _ (List.getElem_mem hil)
   have RU:Hid (GRow lo2 w us[i].p (flat ms[i].c.l)):=by show GRow _ _ _ _; rw [← hcu]; exact G0.out.2 _ (List.getElem_mem hiu)
   have hll:=HL.out _ (List.getElem_mem hil)
   rcases (H0.out.1.next BW.out).cm with h' | ⟨b,off,rfl,_,h2⟩
   ·rw [h'] at hil; simp at hil
   rcases (G0.out.1.next BW.out).cm with h' | ⟨b',off',rfl,_,h3⟩
   ·rw [h'] at hiu; simp at hiu
   obtain ⟨x0,x1,x2,x3,x4⟩:=h2 i hil
   have h3':CmAt wr b' (off'+i * 5) us[i]:=h3 i hiu
   obtain ⟨t0,t1,t2,t3,t4⟩:=h3'
   rw [hcu] at t0 t1 t2 t3 t4
   clear h2 h3 hcu H0 G0 HAT
   generalize ms[i].p=po at *
   generalize ms[i].q=qo at *
   generalize us[i].p=pq at *
   generalize us[i].q=qq at *
   generalize ms[i].c=cc at *
   obtain ⟨k,l,a,bb,c⟩:=cc
   dsimp only at x0 x1 x2 x3 x4 t0 t1 t2 t3 t4 RO RU hll
   go_upto_region 6 with fail
   refine zQ_ (fun W=>Box W wr.heap.size [.string k,.slice po l.length qo,.int .i64 a,.int .i64 bb,.int .i64 c]∧(W.cell? ⟨b',off'+i * 5,none⟩=some (.string k)∧W.cell? ⟨b',off'+i * 5+1,none⟩=some (.slice pq l.length qq)∧W.cell? ⟨b',off'+i * 5+2,none⟩=some (.int .i64 a)∧W.cell? ⟨b',off'+i * 5+3,none⟩=some (.int .i64 bb)∧W.cell? ⟨b',off'+i * 5+4,none⟩=some (.int .i64 c))∧Below w.heap.size w W) ⟨zo_,⟨za_ (zb_ _ _) t0 (zg_ t0),za_ (zb_ _ _) t1 (zg_ t1),za_ (zb_ _ _) t2 (zg_ t2),za_ (zb_ _ _) t3 (zg_ t3),za_ (zb_ _ _) t4 (zg_ t4)⟩,BW.out.trans ((zb_ _ _).mono BW.out.size)⟩ (fun W1 hI=>?_)
   clear x0 x1 x2 x3 x4 t0 t1 t2 t3 t4 BW
   generalize wr.heap.size=g8 at *
   obtain ⟨hb8,⟨t0,t1,t2,t3,t4⟩,hB1⟩:=hI
   have B8:=hm_ hb8
   have BW:=hm_ hB1
   clear hb8 hB1
   go_upto_region 7 with fail
   refine zQ_ (fun W=>Box W g8 [.string k,.slice po l.length qo,.int .i64 a,.int .i64 bb,.int .i64 c]∧Box W W1.heap.size [.string k,.slice pq l.length qq,.int .i64 a,.int .i64 bb,.int .i64 c]∧Below w.heap.size w W) ⟨B8.out.alloc,zo_,BW.out.trans ((zb_ _ _).mono BW.out.size)⟩ (fun W2 hI=>?_)
   clear t0 t1 t2 t3 t4 B8 BW
   generalize W1.heap.size=g9 at *
   have BW:=hm_ hI.2.2
   obtain ⟨x0,x1,x2,x3,x4⟩:=hI.1.c5
   obtain ⟨t0,t1,t2,t3,t4⟩:=hI.2.1.c5
   clear hI
   have CC:Hid (Calls Tryz.prog 111 #[.agg #[.string k,.slice po l.length qo,.int .i64 a,.int .i64 bb,.int .i64 c],.agg #[.string k,.slice pq l.length qq,.int .i64 a,.int .i64 bb,.int .i64 c]] W2 fun e w'=>e=.returned (.bool true)∧Below W2.heap.size W2 w'):=ut_ k l a bb c po pq qo qq W2 (by omega) (RO.out.next BW.out).sib (RU.out.next BW.out).sib
   clear RO RU
   go_wp2_with (first | (go_at_call 111; refine CC.out.mono ?_; rintro e W3 ⟨rfl,hb⟩; clear x0 x1 x2 x3 x4 t0 t1 t2 t3 t4))
   go_roundw
   case rel=>exact ⟨i+1,by omega,by go_num,BW.out.trans (hb.mono BW.out.size)⟩
   case measure=>simp [intOf]; omega
  ·have hil':¬ (i:Int) < (ms.length:Int):=by omega
   go_wp2
   go_ret
   exact ⟨rfl,BW.out⟩
theorem ua_ (lo lo2:Nat) (es:List En) (p pu:Option Addr) (q qu:Nat) (w:World) (hm:es.length≤100000) (h0:GRow lo w p (zm_ es)) (g0:GRow lo2 w pu (zm_ es)) :
  Calls Tryz.prog 112 #[.slice p es.length q,.slice pu es.length qu] w fun e w'=>e=.returned (.bool true)∧Below w.heap.size w w':=by
 have H0:=hm_ h0
 have G0:=hm_ g0
 clear h0 g0
 go_enter Tryz.func112,Tryz.ntmps112
 go_wp2
 go_loopw [13] (fun s13 wr=>∃ i:Nat,i≤es.length∧s13=.int .i64 i∧Below w.heap.size w wr) (fun s13 _=>es.length - (intOf s13).toNat)
 case atStart=>exact ⟨0,by omega,rfl,Below.refl _ _⟩
 case round=>
  obtain ⟨j,hj,rfl,hI⟩:=hrel
  have BW:=hm_ hI
  clear hI
  have kk:(0:Int)≤(j:Int):=by omega
  by_cases hjl:j < es.length
  ·have hjl':(j:Int) < (es.length:Int):=by omega
   rcases (H0.out.next BW.out).en with h' | ⟨b,off,rfl,_,h2⟩
   ·rw [h'] at hjl; simp at hjl
   rcases (G0.out.next BW.out).en with h' | ⟨b',off',rfl,_,h3⟩
   ·rw [h'] at hjl; simp at hjl
   obtain ⟨x0,x1,x2⟩:=h2 j hjl
   obtain ⟨t0,t1,t2⟩:=h3 j hjl
   clear h2 h3 H0 G0
   generalize es[j]=c at *
   obtain ⟨ep,en,ek⟩:=c
   dsimp only at x0 x1 x2 t0 t1 t2
   have ev:=eqe ep en ek
   go_wp2
   go_quiet (fail)
   go_wp2
   go_roundw
   case rel=>exact ⟨j+1,by omega,by go_num,by first | exact BW.out | exact BW.out.trans ((below_drewN (Below.refl _ _) _).mono BW.out.size) | exact BW.out.trans ((zc_ _).mono BW.out.size)⟩
   case measure=>simp [intOf]; omega
  ·have hjl':¬ (j:Int) < (es.length:Int):=by omega
   go_wp2
   go_ret
   exact ⟨rfl,BW.out⟩
theorem sI_ (lo lo2:Nat) (o u:No) (w:World) (hm:o.ms.length≤100000) (hf:o.x.fd.length≤100000) (hl:∀ m ∈ o.ms,m.c.l.length≤1000) (hx:u.x=o.x) (h0:NoR lo w o) (g0:NoR lo2 w u) :
  Calls Tryz.prog 58 #[nV o,nV u] w fun e w'=>e=.returned (.bool true)∧Below w.heap.size w w':=by
 (try unfold nV)
 have hcs:u.ms.map (·.c)=o.ms.map (·.c):=by rw [← h0.cs,← g0.cs,hx]
 have hlen:u.ms.length=o.ms.length:=by have:=congrArg List.length hcs; simpa using this
 have CE:Hid (∀ W,Below w.heap.size w W→Calls Tryz.prog 110 #[.slice o.p0 o.ms.length o.c0,.slice u.p0 o.ms.length u.c0,.func (.func 111) #[] #[]] W fun e w'=>e=.returned (.bool true)∧Below W.heap.size W w'):=fun W hW=>vj_ lo lo2 o.ms u.ms o.p0 u.p0 o.c0 u.c0 W hm hl hcs (h0.next hW).r0 (g0.next hW).r0 (fun m h=>((h0.next hW).rs m h).1) (fun m h=>((g0.next hW).rs m h).1)
 have CF:Hid (∀ W,Below w.heap.size w W→Calls Tryz.prog 112 #[.slice o.p1 o.x.fd.length o.c1,.slice u.p1 o.x.fd.length u.c1] W fun e w'=>e=.returned (.bool true)∧Below W.heap.size W w'):=fun W hW=>ua_ lo lo2 o.x.fd o.p1 u.p1 o.c1 u.c1 W hf (h0.next hW).r1 (by have:=(g0.next hW).r1; rw [hx] at this; exact this)
 rw [hx,hlen]
 have I0:Hid (SmI w ((w.alloc (.cells (nL o).toArray 29)).alloc (.cells #[.int .i64 o.x.id,.int .i64 o.x.n,.int .i64 o.x.cut,.slice u.p0 o.ms.length u.c0,.slice u.p1 o.x.fd.length u.c1,.slice u.p2 u.su.length u.c2,.slice u.p3 u.un.length u.c3] 29)) o u):=⟨zo_.alloc,by have:=zo_ (W:=w.alloc (.cells (nL o).toArray 29)) (t:=29) (vs:=[.int .i64 o.x.id,.int .i64 o.x.n,.int .i64 o.x.cut,.slice u.p0 o.ms.length u.c0,.slice u.p1 o.x.fd.length u.c1,.slice u.p2 u.su.length u.c2,.slice u.p3 u.un.length u.c3]); simpa using this,(zb_ _ _).trans ((zb_ _ _).mono (by simp))⟩
 clear h0 g0 hl hcs hx hlen
 go_enter Tryz.func58,Tryz.ntmps58
 go_upto_region 1 with fail
 generalize ((w.alloc (.cells (nL o).toArray 29)).alloc (.cells #[.int .i64 o.x.id,.int .i64 o.x.n,.int .i64 o.x.cut,.slice u.p0 o.ms.length u.c0,.slice u.p1 o.x.fd.length u.c1,.slice u.p2 u.su.length u.c2,.slice u.p3 u.un.length u.c3] 29))=W0 at *
 obtain ⟨b0,b1,b2,b3,b4,b5,b6⟩:=I0.out.x.c7
 obtain ⟨d0,d1,d2,d3,d4,d5,d6⟩:=I0.out.y.c7
 go_wp2_with (first | (go_at_call 110; refine (CE.out _ I0.out.b).mono ?_; rintro e W1 ⟨rfl,hb1⟩; have I1:Hid _:=I0.out.next hb1; clear b0 b1 b2 b3 b4 b5 b6 d0 d1 d2 d3 d4 d5 d6 hb1 I0; obtain ⟨b0,b1,b2,b3,b4,b5,b6⟩:=I1.out.x.c7; obtain ⟨d0,d1,d2,d3,d4,d5,d6⟩:=I1.out.y.c7) | (go_at_call 112; refine (CF.out _ I1.out.b).mono ?_; rintro e W2 ⟨rfl,hb2⟩; have I2:Hid (SmI w W2 o u):=I1.out.next hb2))
 go_ret
 exact ⟨rfl,I2.out.b⟩
theorem oO_ (s:Sib) (p n:Int) (g:Nat) (w:World) (d0:w.cell? ⟨g,0,none⟩=some (.int .i64 p)) (d1:w.cell? ⟨g,1,none⟩=some (.int .i64 n)) :
  Calls Tryz.prog 196 #[.agg #[.int .i64 s.p,.int .i64 s.n,.int .i64 s.v,.bool s.d],.pointer (some ⟨g,0,none⟩)] w fun e w'=>e=.returned (.bool (s.p == p && s.n == n))∧Below w.heap.size w w':=by
 have es:=eqd s.p s.n p n
 have hg:=zg_ d0
 have e0:(w.alloc (.cells #[.int .i64 s.p,.int .i64 s.n,.int .i64 s.v,.bool s.d] 89)).cell? ⟨g,0,none⟩=some (.int .i64 p):=za_ (zb_ _ _) d0 hg
 have e1:(w.alloc (.cells #[.int .i64 s.p,.int .i64 s.n,.int .i64 s.v,.bool s.d] 89)).cell? ⟨g,1,none⟩=some (.int .i64 n):=za_ (zb_ _ _) d1 hg
 go_enter Tryz.func196,Tryz.ntmps196
 go_wp2
 go_ret
 exact ⟨rfl,zb_ _ _⟩
theorem uQ_ (cap:Nat) (ao:Option Addr) (l:List Sib) (p n:Int) (g:Nat) (w:World) (hm:(l.length:Int)≤1048576) (hh:HasD l p n) (d0:w.cell? ⟨g,0,none⟩=some (.int .i64 p)) (d1:w.cell? ⟨g,1,none⟩=some (.int .i64 n)) (hr0:zk_ w ao l) :
  Calls Tryz.prog 218 #[.slice ao l.length cap,.func (.func 196) #[] #[.pointer (some ⟨g,0,none⟩)]] w fun e w'=>∃ k:Int,e=.returned (.int .i64 k)∧0≤k∧Below w.heap.size w w':=by
 have hr:Hid (zk_ w ao l):=hr0
 have HH:Hid (HasD l p n):=hh
 have HD:Hid (∀ W,Below w.heap.size w W→W.cell? ⟨g,0,none⟩=some (.int .i64 p)∧W.cell? ⟨g,1,none⟩=some (.int .i64 n)):=fun W hW=>⟨za_ hW d0 (zg_ d0),za_ hW d1 (zg_ d1)⟩
 clear hr0 hh d0 d1
 go_enter Tryz.func218,Tryz.ntmps218
 go_wp2
 go_loopw [8] (fun s8 wr=>∃ k:Nat,k≤l.length∧s8=.int .i64 k∧Below w.heap.size w wr∧∀ i (h:i < l.length),i < k→¬ (l[i].p=p∧l[i].n=n)) (fun s8 _=>l.length - (intOf s8).toNat)
 case atStart=>exact ⟨0,by omega,rfl,Below.refl _ _,fun i h h'=>by omega⟩
 case round=>
  obtain ⟨k,hk,rfl,hB0,hG0⟩:=hrel
  have hB:=hm_ hB0
  have hG:=hm_ hG0
  clear hB0 hG0
  have kk:(0:Int)≤(k:Int):=by omega
  by_cases hkl:k < l.length
  ·have hkl':(k:Int) < (l.length:Int):=by omega
   rcases hr.out with h' | ⟨q,off,rfl,h2⟩
   ·rw [h'] at hkl; simp at hkl
   obtain ⟨x0,x1,x2,x3⟩:=(h2 k hkl).next hB.out (zg_ (x:=⟨q,off+k * 4,none⟩) (h2 k hkl).1)
   have CS:Hid (Calls Tryz.prog 196 #[.agg #[.int .i64 l[k].p,.int .i64 l[k].n,.int .i64 l[k].v,.bool l[k].d],.pointer (some ⟨g,0,none⟩)] wr fun e w'=>e=.returned (.bool (l[k].p == p && l[k].n == n))∧Below wr.heap.size wr w'):=oO_ l[k] p n g wr (HD.out _ hB.out).1 (HD.out _ hB.out).2
   have HE:Hid ((l[k].p == p && l[k].n == n)=true↔(l[k].p=p∧l[k].n=n)):=by show _↔_; simp
   generalize (l[k].p == p && l[k].n == n)=r at *
   clear h2
   cases r
   ·go_wp2_with (first | (go_at_call 196; refine CS.out.mono ?_; rintro e w1 ⟨rfl,hb⟩; clear x0 x1 x2 x3))
    go_roundw
    case rel=>
     refine ⟨k+1,by omega,by go_num,hB.out.trans (hb.mono hB.out.size),fun i h h'=>?_⟩
     by_cases e:i=k
     ·subst e
      intro h3
      have:=HE.out.2 h3
      cases this
     ·exact hG.out i h (by omega)
    case measure=>simp [intOf]; omega
   ·go_wp2_with (first | (go_at_call 196; refine CS.out.mono ?_; rintro e w1 ⟨rfl,hb⟩; clear x0 x1 x2 x3))
    go_ret
    exact ⟨_,rfl,kk,hB.out.trans (hb.mono hB.out.size)⟩
  ·obtain ⟨s,hs,h1⟩:=HH.out
   obtain ⟨i,hi,rfl⟩:=List.getElem_of_mem hs
   exact (hG.out i hi (by omega) h1).elim
theorem va_ (cap:Nat) (ao:Option Addr) (l:List Sib) (p n:Int) (g:Nat) (w:World) (hm:(l.length:Int)≤1048576) (hh:HasD l p n) (d0:w.cell? ⟨g,0,none⟩=some (.int .i64 p)) (d1:w.cell? ⟨g,1,none⟩=some (.int .i64 n)) (hr0:zk_ w ao l) :
  Calls Tryz.prog 195 #[.slice ao l.length cap,.func (.func 196) #[] #[.pointer (some ⟨g,0,none⟩)]] w fun e w'=>e=.returned (.bool true)∧Below w.heap.size w w':=by
 have C:Hid _:=uQ_ cap ao l p n g w hm hh d0 d1 hr0
 clear hh d0 d1 hr0
 go_enter Tryz.func195,Tryz.ntmps195
 go_wp2_with fail
 refine Calls.mono C.out ?_
 rintro e w1 ⟨k,rfl,hk,hb⟩
 go_wp2
 go_ret
 exact ⟨rfl,hb⟩
theorem vi_ (cap:Nat) (ao:Option Addr) (l:List Sib) (a b c p n:Int) (w:World) (hm:(l.length:Int)≤1048576) (hh:HasD l p n) (hr0:zk_ w ao l) :
  Calls Tryz.prog 169 #[.agg #[.slice ao l.length cap,.int .i64 a,.int .i64 b,.int .i64 c],.agg #[.int .i64 p,.int .i64 n]] w fun e w'=>e=.returned (.bool true)∧Below w.heap.size w w':=by
 have B0:Below w.heap.size w ((w.alloc (.cells #[.slice ao l.length cap,.int .i64 a,.int .i64 b,.int .i64 c] 37)).alloc (.cells #[.int .i64 p,.int .i64 n] 41)):=(zb_ _ _).trans ((zb_ _ _).mono (by simp))
 have X:Box ((w.alloc (.cells #[.slice ao l.length cap,.int .i64 a,.int .i64 b,.int .i64 c] 37)).alloc (.cells #[.int .i64 p,.int .i64 n] 41)) (w.heap.size+1) [.int .i64 p,.int .i64 n]:=by have:=zo_ (W:=w.alloc (.cells #[.slice ao l.length cap,.int .i64 a,.int .i64 b,.int .i64 c] 37)) (t:=41) (vs:=[.int .i64 p,.int .i64 n]); simpa using this
 have C:Hid _:=va_ cap ao l p n (w.heap.size+1) ((w.alloc (.cells #[.slice ao l.length cap,.int .i64 a,.int .i64 b,.int .i64 c] 37)).alloc (.cells #[.int .i64 p,.int .i64 n] 41)) hm hh X.c2.1 X.c2.2 (zk_.next B0 hr0)
 have HB:=hm_ B0
 clear hh hr0 X B0
 go_enter Tryz.func169,Tryz.ntmps169
 go_wp2_with fail
 refine Calls.mono C.out ?_
 rintro e w1 ⟨rfl,hb⟩
 go_wp2
 go_ret
 exact ⟨rfl,HB.out.trans (hb.mono HB.out.size)⟩
theorem wX_ (o:No) (w:World) (h1:0≤o.x.n) (h2:o.x.n < 9999) :
  Calls Tryz.prog 45 #[nV o] w fun e w'=>e=.returned (.agg #[.int .i64 o.x.id,.int .i64 (o.x.n+1)])∧Below w.heap.size w w':=by
 (try unfold nV)
 have q0:IntKind.i64.wrap (o.x.n+1)=o.x.n+1:=by rw [IntKind.wrap_i64]; omega
 go_enter Tryz.func45,Tryz.ntmps45
 go_wp2
 refine bodyPost_ret (v:=.agg #[.int .i64 o.x.id,.int .i64 (o.x.n+1)]) (by simp [results,Tryz.results45,go_sem, *]) rfl ⟨rfl,?_⟩
 repeat (first | exact Below.refl _ _ | refine Below.drew ?_ | refine below_drewN ?_ _ | refine Below.alloc ?_ (by first | (simp; done) | (simp; omega)) _ | refine Below.setCell ?_ (by first | (simp; done) | (simp; omega)) _)
def N3 (w W:World) (q:Nat) (V:Int→Int→Int × Bool) (m:Nat→Int) (o:Nat→No) (rs:Nat→List (Bool × Cl)):Prop:=(∀ j,j < 3→NdAt W q (j * 7) (o j)∧NoR w.heap.size W (o j)∧z1_ V m j (o j).x (o j).su (o j).un (rs j)∧(0≤m j∧(rs j).length≤20∧m j≤20))∧w.heap.size≤q∧q < W.heap.size
def NfP (w:World) (e:Ending) (w':World):Prop:=∃ q V m o rs,e=.returned (.slice (some ⟨q,0,none⟩) 3 3)∧N3 w w' q V m o rs∧Below w.heap.size w w'
theorem tr_ (len cap:Nat) (ao:Option Addr) (zs:List Int) (w:World) (hr:Gen.IsRow .u8 w ao len cap zs) (hl:(len:Int)≤1048576) (hold:∀ x,ao=some x→0 < cap→x.block < w.heap.size) :
  Calls Tryz.prog 24 #[.slice ao len cap] w fun e w'=>NfP w e w':=by
 have CN:Hid (Calls Tryz.prog 65 #[.pointer (some ⟨w.heap.size,0,none⟩)] (w.alloc (.cells #[.slice ao len cap,.int .i64 0,.int .i64 ((len:Int) % 1000)] 118)) _):=r8_ w.heap.size len cap ao zs ((len:Int) % 1000) (w.alloc (.cells #[.slice ao len cap,.int .i64 0,.int .i64 ((len:Int) % 1000)] 118)) (rz_ len cap ao w) (yF_ hr (zb_ _ _)) (fun x hx hc=>by have:=hold x hx hc; omega) (fun x hx hc=>by have:=hold x hx hc; simp; omega) hl
 clear hr hold
 go_enter Tryz.func24,Tryz.ntmps24
 go_wp2_with fail
 refine Calls.mono (sO_ len cap ao w hl) ?_
 rintro e w1 ⟨rfl,rfl⟩
 go_upto_region 2 with (first | (go_at_call 65; refine CN.out.mono ?_; rintro e W ⟨q,k,V,m,o,rs,rfl,hQ,hk,hbd⟩))
 have HB0:Hid (Below w.heap.size w W):=(zb_ _ _).trans (tH_ hQ.grown (by simp) (Nat.le_refl _))
 have Q0:Hid _:=hQ
 have BN:=hm_ hbd
 have ML:Hid (∀ j,j < 3→(o j).ms.length≤1000∧(o j).x.fd.length≤100000∧(o j).su.length+(o j).un.length≤100000∧∀ c ∈ (o j).ms,c.c.l.length≤1000):=fun j hj=>by
  have h1:=congrArg List.length (hQ.nor j hj).cs
  have h2:=hbd j hj
  have h3:=(hQ.inv j hj).len
  simp at h1
  refine ⟨by omega,by omega,by omega,fun c hc=>?_⟩
  have h4:=((hQ.inv j hj).cells c.c (by rw [(hQ.nor j hj).cs]; exact List.mem_map_of_mem hc)).1
  have:=Rp.len24 h4 (by have:=hbd 0 (by omega); omega) (by have:=hbd 1 (by omega); omega) (by have:=hbd 2 (by omega); omega)
  omega
 clear hQ hbd CN
 refine wp_region_held_drew (S:=(fun w'=>∀ j,j < 3→NdAt w' q (j * 7) (o j))) (by kernel_rfl) ?_ (fun hH=>?_)
 ·(try dsimp only)
  exact (Q0.out.below (zc_ _)).nd
 have QC:Hid _:=Q0.out.below (zc_ W)
 have HB:=ze_ HB0 (zc_ W)
 clear Q0 HB0
 refine wTk 0 ?_
 refine wTk 1 ?_
 refine wpAnyH_take (i:=2) (v:=?_) rfl (by kernel_rfl) (by kernel_rfl) (by kernel_rfl) (fun _ _ _ h=>h) (Or.inl ⟨by rfl,?_⟩) (by assumption) ?_
 rotate_left
 ·intro w' hSw
  (try dsimp only at hSw)
  obtain ⟨y0,y1,y2,y3,y4,y5,y6⟩:=hSw 0 (by omega)
  (try simp only [Nat.zero_mul,Nat.one_mul,Nat.zero_add,Nat.reduceMul,Nat.reduceAdd] at y0 y1 y2 y3 y4 y5 y6)
  go_simp
  all_goals (try with_reducible rfl)
 refine wLy ?_
 refine wTk 4 ?_
 refine wTk 5 ?_
 refine wpAnyH_take (i:=6) (v:=?_) rfl (by kernel_rfl) (by kernel_rfl) (by kernel_rfl) (fun _ _ _ h=>h) (Or.inl ⟨by rfl,?_⟩) (by assumption) ?_
 rotate_left
 ·intro w' hSw
  (try dsimp only at hSw)
  obtain ⟨y0,y1,y2,y3,y4,y5,y6⟩:=hSw 1 (by omega)
  (try simp only [Nat.zero_mul,Nat.one_mul,Nat.zero_add,Nat.reduceMul,Nat.reduceAdd] at y0 y1 y2 y3 y4 y5 y6)
  go_simp
  all_goals (try with_reducible rfl)
 refine wLy ?_
 refine wTk 8 ?_
 refine wTk 9 ?_
 refine wpAnyH_take (i:=10) (v:=?_) rfl (by kernel_rfl) (by kernel_rfl) (by kernel_rfl) (fun _ _ _ h=>h) (Or.inl ⟨by rfl,?_⟩) (by assumption) ?_
 rotate_left
 ·intro w' hSw
  (try dsimp only at hSw)
  obtain ⟨y0,y1,y2,y3,y4,y5,y6⟩:=hSw 2 (by omega)
  (try simp only [Nat.zero_mul,Nat.one_mul,Nat.zero_add,Nat.reduceMul,Nat.reduceAdd] at y0 y1 y2 y3 y4 y5 y6)
  go_simp
  all_goals (try with_reducible rfl)
 refine wLy ?_
 generalize W.drew=wd at *
 refine wRd 3 (fun K hK=>?_)
 go_simp
 go_at_call 50
 refine (vL_ (q+1) (o 0) _ (ML.out 0 (by omega)).1 (ML.out 0 (by omega)).2.1 (ML.out 0 (by omega)).2.2.1 (ML.out 0 (by omega)).2.2.2 ((QC.out.nor 0 (by omega)))).mono ?_
 rintro e z0 ⟨u0,rfl,hN,hx,hs,hu,hb⟩
 (try simp only [])
 have U0:Hid (NoR w.heap.size z0 u0∧u0.x=(o 0).x∧u0.su=(o 0).su∧u0.un=(o 0).un):=⟨hN.weak (Nat.le_trans HB.out.size (Nat.le_refl _)),hx,hs,hu⟩
 replace QC:Hid _:=QC.out.below hb
 replace HB:=ze_ HB hb
 clear hN hx hs hu hb
 refine wHk hK (QC.out.nd) ?_
 clear hK K hH
 intro hH
 refine wRd 7 (fun K hK=>?_)
 go_simp
 go_at_call 50
 refine (vL_ (q+1) (o 1) _ (ML.out 1 (by omega)).1 (ML.out 1 (by omega)).2.1 (ML.out 1 (by omega)).2.2.1 (ML.out 1 (by omega)).2.2.2 ((QC.out.nor 1 (by omega)))).mono ?_
 rintro e z1 ⟨u1,rfl,hN,hx,hs,hu,hb⟩
 (try simp only [])
 have U1:Hid (NoR w.heap.size z1 u1∧u1.x=(o 1).x∧u1.su=(o 1).su∧u1.un=(o 1).un):=⟨hN.weak (Nat.le_trans HB.out.size (Nat.le_refl _)),hx,hs,hu⟩
 replace U0:Hid (NoR w.heap.size z1 u0∧u0.x=(o 0).x∧u0.su=(o 0).su∧u0.un=(o 0).un):=⟨U0.out.1.next hb,U0.out.2⟩
 replace QC:Hid _:=QC.out.below hb
 replace HB:=ze_ HB hb
 clear hN hx hs hu hb
 refine wHk hK (QC.out.nd) ?_
 clear hK K hH
 intro hH
 refine wRd 11 (fun K hK=>?_)
 go_simp
 go_at_call 50
 refine (vL_ (q+1) (o 2) _ (ML.out 2 (by omega)).1 (ML.out 2 (by omega)).2.1 (ML.out 2 (by omega)).2.2.1 (ML.out 2 (by omega)).2.2.2 ((QC.out.nor 2 (by omega)))).mono ?_
 rintro e z2 ⟨u2,rfl,hN,hx,hs,hu,hb⟩
 (try simp only [])
 have U2:Hid (NoR w.heap.size z2 u2∧u2.x=(o 2).x∧u2.su=(o 2).su∧u2.un=(o 2).un):=⟨hN.weak (Nat.le_trans HB.out.size (Nat.le_refl _)),hx,hs,hu⟩
 replace U0:Hid (NoR w.heap.size z2 u0∧u0.x=(o 0).x∧u0.su=(o 0).su∧u0.un=(o 0).un):=⟨U0.out.1.next hb,U0.out.2⟩
 replace U1:Hid (NoR w.heap.size z2 u1∧u1.x=(o 1).x∧u1.su=(o 1).su∧u1.un=(o 1).un):=⟨U1.out.1.next hb,U1.out.2⟩
 replace QC:Hid _:=QC.out.below hb
 replace HB:=ze_ HB hb
 clear hN hx hs hu hb
 refine wHk hK (QC.out.nd) ?_
 clear hK K hH
 intro hH
 refine wRd 12 (fun K hK=>?_)
 go_simp
 (try simp only [])
 have QD:Hid _:=QC.out.below (zb_ z2 (.cells #[.int .i64 u0.x.id,.int .i64 u0.x.n,.int .i64 u0.x.cut,.slice u0.p0 u0.ms.length u0.c0,.slice u0.p1 u0.x.fd.length u0.c1,.slice u0.p2 u0.su.length u0.c2,.slice u0.p3 u0.un.length u0.c3,.int .i64 u1.x.id,.int .i64 u1.x.n,.int .i64 u1.x.cut,.slice u1.p0 u1.ms.length u1.c0,.slice u1.p1 u1.x.fd.length u1.c1,.slice u1.p2 u1.su.length u1.c2,.slice u1.p3 u1.un.length u1.c3,.int .i64 u2.x.id,.int .i64 u2.x.n,.int .i64 u2.x.cut,.slice u2.p0 u2.ms.length u2.c0,.slice u2.p1 u2.x.fd.length u2.c1,.slice u2.p2 u2.su.length u2.c2,.slice u2.p3 u2.un.length u2.c3] 29))
 refine wHk hK (QD.out.nd) ?_
 clear hK K hH
 intro hH
 refine wTk 13 ?_
 refine wDn ?_
 clear hH
 go_wp2
 go_ret
 refine ⟨z2.heap.size,V,m,o3 u0 u1 u2,rs,by first | rfl | simp,⟨fun j hj=>?_,HB.out.size,by simp⟩,HB.out.trans ((zb_ _ _).mono HB.out.size)⟩
 have h3:j=0∨j=1∨j=2:=by omega
 have bn:=BN.out j hj
 have iv:=QD.out.inv j hj
 rcases h3 with rfl | rfl | rfl
 ·refine ⟨?_,U0.out.1.next (zb_ _ _),?_,bn⟩
  ·refine ⟨?_,?_,?_,?_,?_,?_,?_⟩ <;> (simp only [o3]; go_simp)
  ·show z1_ V m 0 u0.x u0.su u0.un _
   rw [U0.out.2.1,U0.out.2.2.1,U0.out.2.2.2]
   exact iv
 ·refine ⟨?_,U1.out.1.next (zb_ _ _),?_,bn⟩
  ·refine ⟨?_,?_,?_,?_,?_,?_,?_⟩ <;> (simp only [o3]; go_simp)
  ·show z1_ V m 1 u1.x u1.su u1.un _
   rw [U1.out.2.1,U1.out.2.2.1,U1.out.2.2.2]
   exact iv
 ·refine ⟨?_,U2.out.1.next (zb_ _ _),?_,bn⟩
  ·refine ⟨?_,?_,?_,?_,?_,?_,?_⟩ <;> (simp only [o3]; go_simp)
  ·show z1_ V m 2 u2.x u2.su u2.un _
   rw [U2.out.2.1,U2.out.2.2.1,U2.out.2.2.2]
   exact iv
section
variable {a c:Int} {l:List Sib}
def No32 (l:List UInt8):Prop:=∀ c ∈ l,c≠32
theorem vW_ {a b:List UInt8} (h:No32 a) (k:No32 b):No32 (a++b):=fun c hc=>by
 rcases List.mem_append.1 hc with hc | hc
 ·exact h c hc
 ·exact k c hc
theorem xz_ {d:UInt8} {b:List UInt8} (h:d≠32) (k:No32 b):No32 (d :: b):=fun c hc=>by
 rcases List.mem_cons.1 hc with rfl | hc
 ·exact h
 ·exact k c hc
theorem sc_:No32 []:=fun c hc=>by cases hc
theorem vV_ (n:Nat):No32 (dsN n):=fun c hc e=>by
 have h:=(wD_ n).2.1 c hc
 rw [e] at h
 exact absurd h (by decide)
theorem oA_ (a b c:Int):No32 (vvT a b c):=by
 unfold vvT vj
 simp only [List.append_assoc]
 repeat (first | exact vV_ _ | refine vW_ (vV_ _) ?_ | refine xz_ (by decide) ?_ | exact sc_)
theorem pA_ (s:Sib) (h:zV_ s.p s.n s.v s.d=true):No32 (sibT s):=by
 have hp:=(rD_ h)
 have hl:=p4_ s.p ⟨hp.1,hp.2.1⟩
 unfold sibT dotT
 refine vW_ (xz_ (fun e=>?_) (vV_ _)) ?_
 ·rw [e] at hl
  have:((32:UInt8).toNat:Int)=32:=by decide
  omega
 ·split
  ·exact xz_ (by decide) sc_
  ·exact xz_ (by decide) (vV_ _)
theorem sb_ {b:Int} (h:OkP l a b c):No32 (objT (vvT a b c) l):=by
 unfold objT
 refine vW_ (oA_ _ _ _) (fun d hd=>?_)
 obtain ⟨s,hs,hd⟩:=List.mem_flatMap.1 hd
 obtain ⟨i,hi,rfl⟩:=List.mem_iff_getElem.1 hs
 exact xz_ (by decide) (pA_ _ (h.2.2 i hi).1) d hd
theorem sd_ {k:ByteArray} (h:keyP k):No32 (bl k):=fun c hc e=>by
 obtain ⟨i,hi,rfl⟩:=List.mem_iff_getElem.1 hc
 rw [zF_] at hi
 have h1:=h.2.2 i hi hi
 have h2:(bl k)[i]'(by rw [zF_]; exact hi)=k[i]:=by simp [bl,ByteArray.getElem_eq_getElem_data]
 rw [h2] at e
 rw [e] at h1
 have:(32:UInt8).toNat=32:=by decide
 omega
def yq_ (p:Bool):List UInt8:=if p then [112,117,116] else [106,111,105,110]
theorem rT_ (p:Bool) (c:Cl):bl (recT p c)=yq_ p++32 :: (bl c.k++32 :: objT (vvT c.a c.b c.c) c.l):=by
 unfold recT yq_ bl
 cases p <;> simp
theorem rS_ (p:Bool) (c:Cl) (hk:keyP c.k) (h:OkP c.l c.a c.b c.c):cutL 32 (bl (recT p c))=[yq_ p,bl c.k,objT (vvT c.a c.b c.c) c.l]:=by
 rw [rT_,yD_ _ _ _ (by cases p <;> (unfold yq_; decide)),yD_ _ _ _ (sd_ hk),yO_ _ _ (sb_ h)]
end
end Go.Proofs.YtiokjphefpicbaaGreatDoor
