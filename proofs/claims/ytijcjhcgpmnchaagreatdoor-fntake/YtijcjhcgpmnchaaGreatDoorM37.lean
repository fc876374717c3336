/- Nodes, part 37 of the law FnTake. -/
import Derived.Test.YtijcjhcgpmnchaaGreatDoorM36
import Derived.Test.YtijcjhcgpmnchaaGreatDoorIter
namespace Go.Proofs.YtijcjhcgpmnchaaGreatDoor
open Go.RowKit
set_option maxRecDepth 100000
set_option maxHeartbeats 16000000
set_option linter.unusedSimpArgs false
set_option linter.unusedVariables false
section
variable {M:ByteArray->Option Value} {W w:World} {base e mb n:Nat} {v:Value} {xs:List Value}
theorem pv_ {size:Nat} (h:W.ownsRow base e size v n xs):W.ownsRow 0 e size v n xs∧∀ k,v.ownBlock=some k->base<=k:=by
 refine ⟨⟨h.1,?_⟩,fun k hk=>?_⟩
 ·rcases h.2 with h' | ⟨g,cap,cur,h1,h2,r⟩
  ·exact .inl h'
  ·exact .inr ⟨g,cap,cur,h1,Nat.zero_le _,r⟩
 ·rcases h.2 with ⟨h',_⟩ | ⟨g,cap,cur,h1,h2,r⟩
  ·rw [h'] at hk; cases hk
  ·rw [h1] at hk; cases hk; exact h2
theorem pY_ {ms:List Cm} (hm:MapF w Tryz.prog 9 mb n M) (hM:∀ s,M s=(getM s ms).map vu_) (hu:Up (ms.map (·.c))) (hl:ms.length<=100000):SKs mb ms w:=fun W hW=>by
 obtain ⟨D,hown,hkeys⟩:=t1_ (hm.next hW) hM hu
 have hlen:Maps.size D=ms.length:=by
  have h1:=congrArg List.length (hkeys _ (List.Perm.refl _));rw [List.length_mergeSort,List.length_map] at h1;rw [<- h1];obtain ⟨es,clock,_,_,_,hD⟩:=hown;rw [hD];simp [strKeys,Maps.size]
 refine ⟨callsIn_wide.1 (Tryz.maps_Keys_146 (some mb) W),?_⟩;refine (callsIn_wide.1 (Tryz.slices_Sorted_keys_145_146 mb n D rawE W hown (by rw [hlen]; unfold maxLen; omega) (by rw [hlen]; omega))).mono ?_;rintro e w' ⟨v,ss,rfl,hp,ho,_,hb⟩;have hs:=hkeys ss hp
 have hl2:ss.length=ms.length:=by
  have h1:=congrArg List.length hs;rw [List.length_mergeSort,List.length_map] at h1;exact h1
 rw [hs,hl2] at ho
 have hv:(ms.map (fun m=>bl m.c.k)).map encStr=V (ms.map (·.c.k)):=by
  simp only [V,List.map_map];refine List.map_congr_left (fun m _=>?_);simp [encStr,bl]
 rw [hv] at ho;obtain ⟨h0,hge⟩:=pv_ ho;obtain ⟨p,c,rfl,_,hG⟩:=yi_ (lo:=W.heap.size) h0 (fun k hk=>by have:=hge k hk; simp at this; omega);exact ⟨p,c,rfl,hG,hb⟩
end
section
variable {C:Cl} {M:ByteArray->Option Value} {W W' w:World} {g k mb:Nat} {o:No} {rs:List (Bool × Cl)}
theorem wo_:∀ {ms:List Cm} {x:Cm} {k:ByteArray},Up (ms.map (·.c))->getM k (setM x ms)=if x.c.k=k then some x else getM k ms
 | [],x,k,_=>by simp [setM,getM]
 | y :: ys,x,k,h=>by
  have h':=List.pairwise_cons.1 h;unfold setM;split
  ·rename_i hlt
   unfold getM;rw [wo_ h'.2];by_cases e:y.c.k=k
   ·rw [if_pos e,if_pos e,if_neg (fun e2=>by rw [e,e2] at hlt; exact List.lt_irrefl _ hlt)]
   ·rw [if_neg e,if_neg e]
  ·split
   ·rename_i he
    by_cases e:x.c.k=k
    ·simp [getM,e]
    ·simp [getM,e,he]
   ·by_cases e:x.c.k=k
    ·simp [getM,e]
    ·simp [getM,e]
structure RpI (w W:World) (j:Int) (rs:List (Bool × Cl)) (k g mb:Nat) (o:No) (M:ByteArray->Option Value):Prop where
 z:Box W w.heap.size nZ
 x:Box W g [.int .i64 o.x.id,.int .i64 o.x.n,.int .i64 o.x.cut,.slice none 0 0,.slice o.p1 o.x.fd.length o.c1,.slice o.p2 o.su.length o.c2,.slice o.p3 o.un.length o.c3,.map (some mb)]
 m:MapF W Tryz.prog 9 mb k M
 v:∀ s,M s=(getM s o.ms).map vu_
 e:o.x=mkN j (rs.take k)
 cs:o.x.cs=o.ms.map (·.c)
 r:∀ y ∈ o.ms,GRow (w.heap.size+1) W y.p (flat y.c.l)∧y.c.l.length<=y.q
 f:OwnG W 52 3 (Value.slice o.p1 o.x.fd.length o.c1) o.x.fd.length (zl_ o.x.fd) (g+1)
 s:OwnT W (Value.slice o.p2 o.su.length o.c2) o.su (w.heap.size+1)
 un:o.un=[]
 ns:∀ b,(Value.slice o.p2 o.su.length o.c2).ownBlock=some b->b≠g∧b≠mb∧(Value.slice o.p1 o.x.fd.length o.c1).ownBlock≠some b
 nr:∀ y ∈ o.ms,∀ x,y.p=some x->flat y.c.l≠[]->(Value.slice o.p1 o.x.fd.length o.c1).ownBlock≠some x.block∧(Value.slice o.p2 o.su.length o.c2).ownBlock≠some x.block∧x.block≠g∧x.block≠mb
 l:w.heap.size < mb∧mb < g
 b:Below w.heap.size w W
theorem RpI.up {j:Int} (h:RpI w W j rs k g mb o M):Up (o.ms.map (·.c)):=by rw [<- h.cs,h.e]; exact Gds.up
theorem RpI.had {j:Int} (h:RpI w W j rs k g mb o M) (C:Cl):∃ kk p1 q1,(M C.k).getD (.agg #[.string ⟨#[]⟩,.slice none 0 0,.int .i64 0,.int .i64 0,.int .i64 0])=.agg #[.string kk,.slice p1 (atC C.k o.x.cs).l.length q1,.int .i64 (atC C.k o.x.cs).a,.int .i64 (atC C.k o.x.cs).b,.int .i64 (atC C.k o.x.cs).c]∧zk_ W p1 (atC C.k o.x.cs).l∧(atC C.k o.x.cs).l.length<=q1:=by
 have h1:=xX_ C.k o.ms;rw [<- h.cs] at h1;rw [h.v];unfold atC;cases hg:getM C.k o.ms with
 | none=>
  rw [hg] at h1;rw [<- h1];exact ⟨⟨#[]⟩,none,0,rfl,.inl rfl,Nat.le_refl _⟩
 | some y=>
  rw [hg] at h1;rw [<- h1];have hy:=h.r y (xi_ hg).1;exact ⟨y.c.k,y.p,y.q,rfl,hy.1.sib,hy.2⟩
theorem RpI.ds {j:Int} (h:RpI w W j rs k g mb o M) (hj:j=0∨j=1∨j=2) (hk:k < 100) (C:Cl):∃ kk p1 q1,DS W o C (atC C.k o.x.cs) kk p1 q1 (g+1) g mb k M:=by
 obtain ⟨kk,p1,q1,h1,h2,h3⟩:=h.had C;have hfd:=oU_ j (rs.take k);rw [<- h.e] at hfd;have hl:=h.l;exact ⟨kk,p1,q1,⟨by omega,⟨h.x.lt,h.x.lt,by have:=h.x.lt; omega,fun k hk=>by have:=h.f.ge k hk; omega⟩,hk,h3,by rw [h.e,(sE_ _ _).1]; exact hj,by simp at hfd; omega,h.f,h1,h.x,h.m,h2⟩⟩
theorem RpI.put {j:Int} (h:RpI w W j rs k g mb o M) (hk:k < rs.length) (hr:rs[k]=(true,C)) (hP:DpP W o (g+1) g mb k M C W'):∃ o' M',RpI w W' j rs (k+1) g mb o' M'∧o'.su=o.su:=by
 obtain ⟨vo,vc,pf,cf,h1,h2,h3,h4,h5,h6,h7⟩:=hP;have hl:=h.l;have hsz:=h.b.size;have hx:nxt o.x (true,C)=mkN j (rs.take (k+1)):=by rw [wP_ _ _ _ hk,hr,h.e]
 have hgl:=h.x.lt;have hfW:∀ b,(Value.slice o.p1 o.x.fd.length o.c1).ownBlock=some b->g+1<=b∧b < W.heap.size:=fun b hb=>h.f.lt b hb
 refine ⟨⟨nxt o.x (true,C),setM ⟨C,vo,vc⟩ o.ms,none,0,pf,cf,o.p2,o.c2,o.p3,o.c3,o.su,o.un⟩,mset M C.k (yx_ C vo vc),⟨?_,?_,h1,fun s=>?_,hx,?_,fun y hy=>?_,?_,?_,h.un,fun b hb=>?_,fun y hy x hyp hne=>?_,hl,?_⟩,rfl⟩
 ·exact h.z.kp h5 (fun e=>by rcases e with e | e | e; omega; omega; have:=hfW _ e; omega)
 ·have e:(nxt o.x (true,C)).fd.length=o.x.fd.length+1:=by simp [nxt]
  show Box W' g [.int .i64 (nxt o.x (true,C)).id,.int .i64 (nxt o.x (true,C)).n,.int .i64 (nxt o.x (true,C)).cut,.slice none 0 0,.slice pf (nxt o.x (true,C)).fd.length cf,.slice o.p2 o.su.length o.c2,.slice o.p3 o.un.length o.c3,.map (some mb)]
  rw [e];exact h3
 ·unfold mset;rw [wo_ h.up];by_cases e:s=C.k
  ·rw [if_pos e,if_pos e.symm]; rfl
  ·rw [if_neg e,if_neg (fun e2=>e e2.symm)]; exact h.v s
 ·show setC C o.x.cs=_
  rw [xn_,h.cs]
 ·rcases yd_ hy with rfl | hy
  ·exact ⟨h2.1.weak (by omega),h2.2⟩
  ·refine ⟨(h.r y hy).1.kp h5 (fun x hx hv e=>?_),(h.r y hy).2⟩;obtain ⟨n1,n2,n3,n4⟩:=h.nr y hy x hx hv;rcases e with e | e | e
   ·exact n3 e
   ·exact n4 e
   ·exact n1 e
 ·have e:(nxt o.x (true,C)).fd=o.x.fd++[⟨o.x.id,o.x.n+1,C.k⟩]:=by simp [nxt]
  show OwnG W' 52 3 (.slice pf (nxt o.x (true,C)).fd.length cf) (nxt o.x (true,C)).fd.length (zl_ (nxt o.x (true,C)).fd) (g+1)
  rw [e]
  simpa using h4
 ·have hG:OwnG W 9 1 (Value.slice o.p2 o.su.length o.c2) o.su.length (V o.su) (w.heap.size+1):=⟨h.s.own,h.s.ge⟩
  have hG':=hG.kp h5 (fun b hb e=>by
   obtain ⟨n1,n2,n3⟩:=h.ns b hb;rcases e with e | e | e
   ·exact n1 e
   ·exact n2 e
   ·exact n3 e)
  exact ⟨hG'.own,hG'.ge⟩
 ·obtain ⟨n1,n2,n3⟩:=h.ns b hb;refine ⟨n1,n2,fun e=>?_⟩;have e':(Value.slice pf (o.x.fd.length+1) cf).ownBlock=some b:=by simpa [nxt] using e
  rcases h6 b e' with e2 | e2
  ·exact n3 e2
  ·have:=(h.s.lt b hb).2
   omega
 ·have efd:(nxt o.x (true,C)).fd.length=o.x.fd.length+1:=by simp [nxt]
  show (Value.slice pf (nxt o.x (true,C)).fd.length cf).ownBlock≠some x.block∧(Value.slice o.p2 o.su.length o.c2).ownBlock≠some x.block∧x.block≠g∧x.block≠mb
  rw [efd];rcases yd_ hy with rfl | hy
  ·have hb:W.heap.size<=x.block:=by
    rcases h2.1 with h' | ⟨b,off,q1,q2,_⟩
    ·exact (hne h').elim
    ·rw [q1] at hyp; cases hyp; exact q2
   refine ⟨h7 x hyp hne,fun e=>?_,by omega,by omega⟩
   have:=(h.s.lt _ e).2
   omega
  ·obtain ⟨n1,n2,n3,n4⟩:=h.nr y hy x hyp hne;refine ⟨fun e=>?_,n2,n3,n4⟩;rcases h6 _ e with e2 | e2
   ·exact n1 e2
   ·have:=xg_ (h.r y hy).1 hyp hne
    omega
 ·exact h.b.trans (h5.below hsz (fun b hb e=>by rcases e with e | e | e; omega; omega; have:=hfW _ e; omega))
end
section
variable {C:Cl} {M:ByteArray->Option Value} {W W' w:World} {cf g k mb:Nat} {o:No} {pf:Option Addr} {rs:List (Bool × Cl)}
theorem RpI.next {j:Int} (h:RpI w W j rs k g mb o M) (hb:Below W.heap.size W W'):RpI w W' j rs k g mb o M:=
 ⟨h.z.next hb,h.x.next hb,h.m.next hb,h.v,h.e,h.cs,fun y hy=>⟨(h.r y hy).1.next hb,(h.r y hy).2⟩,h.f.next hb,h.s.next hb,h.un,h.ns,h.nr,h.l,h.b.trans (hb.mono h.b.size)⟩
theorem RpI.join {j:Int} (h:RpI w W j rs k g mb o M) (hk:k < rs.length) (hr:rs[k]=(false,C)) (hP:DjP W mb k M C W'):∃ o' M',RpI w W' j rs (k+1) g mb o' M'∧o'.su=o.su:=by
 obtain ⟨vo,vc,W5,h1,h2,h3,h4,h5⟩:=hP;have hK:Kp (· = mb) W W':=(Kp.of_below (E:=fun _=>False) h4).trans (Kp.of_grown h5) (fun _ _ h=>h.elim) (fun _ _ h=>h);have hl:=h.l;have hsz:=h.b.size;have hgl:=h.x.lt;have hx:nxt o.x (false,C)=mkN j (rs.take (k+1)):=by rw [wP_ _ _ _ hk,hr,h.e]
 refine ⟨⟨nxt o.x (false,C),setM ⟨C,vo,vc⟩ o.ms,none,0,o.p1,o.c1,o.p2,o.c2,o.p3,o.c3,o.su,o.un⟩,mset M C.k (yx_ C vo vc),⟨h.z.kp hK (by omega),h.x.kp hK (by omega),h1,fun s=>?_,hx,?_,fun y hy=>?_,h.f.kp hK (fun b hb e=>by have:=h.f.ge b hb; omega),?_,h.un,h.ns,fun y hy x hyp hne=>?_,hl,?_⟩,rfl⟩
 ·unfold mset;rw [wo_ h.up];by_cases e:s=C.k
  ·rw [if_pos e,if_pos e.symm]; rfl
  ·rw [if_neg e,if_neg (fun e2=>e e2.symm)]; exact h.v s
 ·show setC C o.x.cs=_
  rw [xn_,h.cs]
 ·rcases yd_ hy with rfl | hy
  ·exact ⟨h2.weak (by omega),h3⟩
  ·exact ⟨(h.r y hy).1.kp hK (fun x hx hv e=>(h.nr y hy x hx hv).2.2.2 e),(h.r y hy).2⟩
 ·have hG:OwnG W 9 1 (Value.slice o.p2 o.su.length o.c2) o.su.length (V o.su) (w.heap.size+1):=⟨h.s.own,h.s.ge⟩;have hG':=hG.kp hK (fun b hb e=>(h.ns b hb).2.1 e);exact ⟨hG'.own,hG'.ge⟩
 ·rcases yd_ hy with rfl | hy
  ·have hb:W.heap.size<=x.block:=by
    rcases h2 with h' | ⟨b,off,q1,q2,_⟩
    ·exact (hne h').elim
    ·rw [q1] at hyp; cases hyp; exact q2
   exact ⟨fun e=>by have:=(h.f.lt _ e).2; omega,fun e=>by have:=(h.s.lt _ e).2; omega,by omega,by omega⟩
  ·exact h.nr y hy x hyp hne
 ·exact h.b.trans (hK.below hsz (fun b hb e=>by omega))
theorem RpI.app {j:Int} {X:World} {t:ByteArray} (h:RpI w W j rs k g mb o M) (hO:OwnT X (Value.slice pf (o.su.length+1) cf) (o.su++[t]) (w.heap.size+1)) (hG:Gro W X (Value.slice o.p2 o.su.length o.c2) (Value.slice pf (o.su.length+1) cf)):RpI w (X.setCell ⟨g,5,none⟩ (Value.slice pf (o.su.length+1) cf)) j rs k g mb { o with p2:=pf,c2:=cf,su:=o.su++[t] } M:=by
 have hl:=h.l;have hgl:=h.x.lt;have hsz:=h.b.size;have hK:Kp (fun b=>b=g∨(Value.slice o.p2 o.su.length o.c2).ownBlock=some b) W (X.setCell ⟨g,5,none⟩ (Value.slice pf (o.su.length+1) cf)):=(Kp.of_gro hG).trans Kp.set (fun _ _ h=>.inr h) (fun _ _ h=>.inl h);have hsn:∀ b,(Value.slice pf (o.su.length+1) cf).ownBlock=some b->(Value.slice o.p2 o.su.length o.c2).ownBlock=some b∨W.heap.size<=b:=hG.fresh;have hX:Box X g [.int .i64 o.x.id,.int .i64 o.x.n,.int .i64 o.x.cut,.slice none 0 0,.slice o.p1 o.x.fd.length o.c1,.slice o.p2 o.su.length o.c2,.slice o.p3 o.un.length o.c3,.map (some mb)]:=h.x.kp (Kp.of_gro hG) (fun e=>(h.ns _ e).1 rfl);have hlen:(o.su++[t]).length=o.su.length+1:=by simp
 refine ⟨h.z.kp hK (fun e=>by rcases e with e | e; omega; have:=h.s.ge _ e; omega),?_,h.m.kp hK (fun e=>by rcases e with e | e; omega; exact (h.ns _ e).2.1 rfl),h.v,h.e,h.cs,fun y hy=>⟨(h.r y hy).1.kp hK (fun x hx hv e=>by rcases e with e | e; exact (h.nr y hy x hx hv).2.2.1 e; exact (h.nr y hy x hx hv).2.1 e),(h.r y hy).2⟩,h.f.kp hK (fun b hb e=>by rcases e with e | e; have:=h.f.ge b hb; omega; exact (h.ns _ e).2.2 hb),?_,h.un,fun b hb=>?_,fun y hy x hyp hne=>?_,hl,?_⟩
 ·show Box _ g [.int .i64 o.x.id,.int .i64 o.x.n,.int .i64 o.x.cut,.slice none 0 0,.slice o.p1 o.x.fd.length o.c1,.slice pf (o.su++[t]).length cf,.slice o.p3 o.un.length o.c3,.map (some mb)]
  rw [hlen]
  have:=hX.set (i:=5) (u:=(Value.slice pf (o.su.length+1) cf)) (by simp)
  simpa using this
 ·show OwnT _ (.slice pf (o.su++[t]).length cf) (o.su++[t]) _
  rw [hlen];have hG2:OwnG X 9 1 (Value.slice pf (o.su.length+1) cf) (o.su++[t]).length (V (o.su++[t])) (w.heap.size+1):=⟨hO.own,hO.ge⟩
  have hG':=hG2.kp (Kp.set (g:=g) (i:=5) (u:=(Value.slice pf (o.su.length+1) cf))) (fun b hb e=>by
   rcases hsn b hb with e2 | e2
   ·exact (h.ns b e2).1 e
   ·omega)
  exact ⟨hG'.own,hG'.ge⟩
 ·have hb':(Value.slice pf (o.su.length+1) cf).ownBlock=some b:=by simpa [hlen] using hb
  rcases hsn b hb' with e2 | e2
  ·exact h.ns b e2
  ·exact ⟨by omega,by omega,fun e=>by have:=(h.f.lt b e).2; omega⟩
 ·obtain ⟨n1,n2,n3,n4⟩:=h.nr y hy x hyp hne;refine ⟨n1,fun e=>?_,n3,n4⟩;have e':(Value.slice pf (o.su.length+1) cf).ownBlock=some x.block:=by simpa [hlen] using e
  rcases hsn _ e' with e2 | e2
  ·exact n2 e2
  ·have:=xg_ (h.r y hy).1 hyp hne
   omega
 ·exact h.b.trans (hK.below hsz (fun b hb e=>by rcases e with e | e; omega; have:=h.s.ge _ e; omega))
theorem u2_ (x:Cl):∀ cs:List Cl,(setC x cs).length<=cs.length+1
 | []=>by simp [setC]
 | y :: ys=>by
  have:=u2_ x ys
  unfold setC;split
  ·simp; omega
  ·split <;> simp
theorem nQ_ (rs:List (Bool × Cl)):∀ x:Nd,(rs.foldl nxt x).cs.length<=x.cs.length+rs.length:=by
 induction rs with
 | nil=>intro x; simp
 | cons r rs ih=>
  intro x;have h:=ih (nxt x r);have h2:(nxt x r).cs.length<=x.cs.length+1:=u2_ _ _;simp only [List.foldl_cons,List.length_cons];omega
theorem nP_ (id:Int) (rs:List (Bool × Cl)):(mkN id rs).cs.length<=rs.length:=by have:=nQ_ rs (newN id); simpa [mkN,newN] using this
theorem u0_ {x c:Cl}:∀ {cs:List Cl},c ∈ setC x cs->c=x∨c ∈ cs
 | [],h=>by simp [setC] at h; exact .inl h
 | y :: ys,h=>by
  unfold setC at h;split at h
  ·rcases List.mem_cons.1 h with h | h
   ·exact .inr (by simp [h])
   ·exact (u0_ h).imp id (List.mem_cons_of_mem _)
  ·split at h
   ·rcases List.mem_cons.1 h with h | h
    ·exact .inl h
    ·exact .inr (List.mem_cons_of_mem _ h)
   ·rcases List.mem_cons.1 h with h | h
    ·exact .inl h
    ·exact .inr h
theorem nA_ {id:Int} {rs:List (Bool × Cl)} (h:Gds id rs):∀ k,k<=rs.length->∀ c ∈ (mkN id (rs.take k)).cs,c.k.size<=6
 | 0,_,c,hc=>by simp [mkN,newN] at hc
 | k+1,hk,c,hc=>by
  rw [wP_ _ _ _ hk] at hc;rcases u0_ (show c ∈ setC _ _ from hc) with rfl | hc
  ·exact (h k hk).key.2.1
  ·exact nA_ h k (by omega) c hc
theorem n1_ {id:Int} (h:Gds id rs) (c:Cl) (hc:c ∈ (mkN id rs).cs):c.k.size<=6:=nA_ h rs.length (Nat.le_refl _) c (by rw [List.take_length]; exact hc)
theorem sa_:∀ {ms:List Cm} {y:Cm},Up (ms.map (·.c))->y ∈ ms->getM y.c.k ms=some y
 | z :: zs,y,h,hy=>by
  have h':=List.pairwise_cons.1 h;unfold getM;rcases List.mem_cons.1 hy with rfl | hy
  ·rw [if_pos rfl]
  ·have hlt:=h'.1 y.c (List.mem_map_of_mem hy);rw [if_neg (fun e=>by rw [e] at hlt; exact List.lt_irrefl _ hlt)];exact sa_ h'.2 hy
theorem uU_ (j:Int) (rs:List (Bool × Cl)) (p:Option Addr) (c:Nat) (w:World) (hj:j=0∨j=1∨j=2) (hG:Gds j rs) (hn:rs.length < 100) (hT:TRow w p (zy_ rs)) (hc:(zy_ rs).length<=c) (ht:TB w) (hmx:MX w) :
  Calls Tryz.prog 57 #[.int .i64 j,.slice p (zy_ rs).length c] w fun e w'=>∃ u:No,e=.returned (.tuple #[nV u,.bool true])∧NoR w.heap.size w' u∧u.x=mkN j rs∧Below w.heap.size w w':=by
 (try unfold nV);have HT:=hm_ hT;have HJ:=hm_ hj;have HGD:Hid (Gds j rs):=hG;have HTM:Hid (TB w∧MX w):=⟨ht,hmx⟩;clear hT hj hG hc ht hmx;have hl:(zy_ rs).length=rs.length:=by simp [zy_]
 rw [hl];clear hl;obtain ⟨n,hn'⟩:∃ n,n=rs.length:=⟨_,rfl⟩;rw [<- hn'] at hn ⊢;have HLN:Hid (n=rs.length):=hn';clear hn';have Z0:Hid (Box (w.alloc (.cells nZ.toArray 29)) w.heap.size nZ∧Below w.heap.size w (w.alloc (.cells nZ.toArray 29))∧(w.alloc (.cells nZ.toArray 29)).heap.size=w.heap.size+1):=⟨zn_,zb_ _ _,by simp⟩;go_enter Tryz.func57,Tryz.ntmps57;go_wp2_with fail;generalize w.alloc (.cells nZ.toArray 29)=W0 at *;refine Calls.mono (qJ_ j W0) ?_;rintro e W1 ⟨g,mb,p2,c2,p3,c3,rfl,hx,hm,hs,hs2,hl,hb⟩
 have Q0:Hid (RpI w W1 j rs 0 g mb ⟨newN j,[],none,0,none,0,p2,c2,p3,c3,[],[]⟩ (fun _=>none)):=by
  have hz:=Z0.out.2.2;exact ⟨Z0.out.1.next hb,hx,hm,fun s=>rfl,by simp [mkN],rfl,fun y hy=>by simp at hy,OwnG.nil _ _ _ _,⟨hs.own,fun k hk=>by have:=hs.ge k hk; omega⟩,rfl,fun b hb=>⟨by have:=hs2 b hb; omega,by have:=hs2 b hb; omega,fun e=>by cases e⟩,fun y hy=>by simp at hy,by omega,Z0.out.2.1.trans (hb.mono Z0.out.2.1.size)⟩
 clear hx hm hs hs2 hl hb Z0;go_wp2;go_loopw [14] (fun s14 wr=>∃ (k:Nat) (o:No) (M:ByteArray->Option Value),k<=n∧s14=.int .i64 k∧RpI w wr j rs k g mb o M∧o.su.length=k) (fun s14 _=>n - (intOf s14).toNat)
 case atStart=>exact ⟨0,_,_,by omega,rfl,Q0.out,rfl⟩
 case round=>
  obtain ⟨k,o1,M1,hkn,rfl,hq,hsu⟩:=hrel;have Q1:=hm_ hq;have HSU:=hm_ hsu;clear hq Q0 hsu;have hk0:(0:Int)<=(k:Int):=by omega
  by_cases hlt:k < n
  ·have hlt':(k:Int) < (n:Int):=by omega
   have hkr:k < rs.length:=by have:=HLN.out; omega
   obtain ⟨pb,C,hr⟩:∃ pb C,rs[k]=(pb,C):=⟨_,_,rfl⟩;have FO:Hid (Fol o1.x (pb,C)):=by rw [Q1.out.e,<- hr]; exact HGD.out k hkr
   have HR:=hm_ hr;rcases HT.out with h' | ⟨b,off,rfl,hcl⟩
   ·rw [zy_,List.map_eq_nil_iff] at h';rw [h'] at hkr;simp at hkr
   have x0:wr.cell? ⟨b,off+k,none⟩=some (.string (recT pb C)):=by
    have h1:=hcl k (by simpa [zy_] using hkr);have h2:(zy_ rs)[k]'(by simpa [zy_] using hkr)=recT pb C:=by simp [zy_,HR.out]
    rw [h2] at h1;exact za_ Q1.out.b h1 (zh_ h1)
   clear hcl HT hr;go_wp2_with fail;obtain ⟨kk,p1,q1,hDS⟩:=Q1.out.ds HJ.out (by omega) C;refine Calls.mono (vU_ pb o1 C _ kk p1 q1 (g+1) g mb k M1 wr FO.out rfl hDS (HTM.out.2.next Q1.out.b)) ?_;rintro e W1 ⟨rfl,hP⟩
   have Q2:∃ o' M',RpI w W1 j rs (k+1) g mb o' M'∧o'.su=o1.su:=by
    cases pb
    ·exact Q1.out.join hkr HR.out hP
    ·exact Q1.out.put hkr HR.out hP
   obtain ⟨o,M,hq2,hsu2⟩:=Q2;have HSU2:Hid (o.su.length=k):=by rw [show o.su=o1.su from hsu2]; exact HSU.out
   have CSE:Hid (∀ W,Below w.heap.size w W->Calls Tryz.prog 96 #[.string (recT pb C)] W fun e w'=>e=.returned (.string (zq_ (recT pb C)))∧Below W.heap.size W w'):=fun W hW=>xM_ _ W (HTM.out.1.next hW) (by have:=yn_ pb C FO.out.key.2.1 FO.out.ok; omega)
   clear hP hDS x0 Q1 HSU FO hsu2;have Q1:=hm_ hq2;have HSU:Hid (o.su.length=k):=HSU2.out;clear hq2 HSU2;have hsm:o.su.length<=100:=by rw [HSU.out]; omega
   go_upto_region 7 with fail;refine wp_region_held_drew (S:=fun _=>True) (by kernel_rfl) ?_ (fun hH=>?_)
   ·trivial
   have BW:Hid (Below W1.heap.size W1 W1.drew):=zd_ _;refine wTk 0 ?_;refine wTk 1 ?_;refine wTk 2 ?_;refine wTk 3 ?_;refine wTk 4 ?_;refine wTk 5 ?_;refine wTk 7 ?_;generalize W1.drew=wd at *;refine wpAnyH_ready (rs:=[6,8]) (by kernel_rfl) (by simp) ?_;refine .cons rfl (fun K hK=>?_) (.cons rfl (fun K hK=>?_) .nil)
   ·obtain ⟨b0,b1,b2,b3,b4,b5,b6,b7⟩:=(Q1.out.next BW.out).x.c8;refine wLy ?_;go_simp;(try simp only []);refine hK.out _ _ ?_ (fun hH'=>?_)
    ·(try dsimp only)
     all_goals trivial
    clear hK K hH;have hH:=hH';clear hH';refine wLy ?_;clear b0 b1 b2 b3 b4 b5 b6 b7;refine wRd 8 (fun K hK=>?_);go_simp;go_at_call 96;refine (CSE.out _ (Q1.out.next BW.out).b).mono ?_;rintro e x0 ⟨rfl,hb⟩;(try simp only []);replace BW:=ze_ BW hb;clear hb;refine hK.out _ _ ?_ (fun hH'=>?_)
    ·(try dsimp only)
     all_goals trivial
    clear hK K hH;have hH:=hH';clear hH';refine wLy ?_;refine wRd 9 (fun K hK=>?_);go_simp;(try simp only []);have LT:Hid (TRow (x0.alloc (.cells #[.string (zq_ (recT pb C))] 9)) (some ⟨x0.heap.size,0,none⟩) [zq_ (recT pb C)]):=y1_;replace BW:=ze_ BW (zb_ x0 (.cells #[.string (zq_ (recT pb C))] 9));refine hK.out _ _ ?_ (fun hH'=>?_)
    ·(try dsimp only)
     all_goals trivial
    clear hK K hH;have hH:=hH';clear hH';refine wLy ?_;generalize x0.alloc (.cells #[.string (zq_ (recT pb C))] 9)=x1 at *;generalize x0.heap.size=gl at *;refine wRd 10 (fun K hK=>?_);rw [if_pos (by rfl)];refine yf_ (.tmp 29) (.tmp 32) rfl rfl (Value.slice o.p2 o.su.length o.c2) o.su.length o.su (w.heap.size+1) (o.su.length+1) rfl rfl (Q1.out.next BW.out).s (by have h1:=(Q1.out.next BW.out).x.lt; have h2:=Q1.out.l; omega) (some ⟨gl,0,none⟩) 1 1 [zq_ (recT pb C)] rfl rfl LT.out (by omega) rfl ?_;intro pf cf x2 hO8 hG8;have OW:Hid (OwnT x2 (Value.slice pf (o.su.length+1) cf) (o.su++[zq_ (recT pb C)]) (w.heap.size+1)∧Gro x1 x2 (Value.slice o.p2 o.su.length o.c2) (Value.slice pf (o.su.length+1) cf)):=⟨hO8,hG8⟩;clear hO8 hG8;refine hK.out _ _ ?_ (fun hH'=>?_)
    ·(try dsimp only)
     all_goals trivial
    clear hK K hH;have hH:=hH';clear hH';refine wLy ?_;refine wTk 11 ?_;refine wTk 12 ?_;refine wTk 13 ?_;refine wTk 14 ?_;have PX:Hid (RpI w (x2.setCell ⟨g,5,none⟩ (.slice pf (o.su.length+1) cf)) j rs (k+1) g mb { o with p2:=pf,c2:=cf,su:=o.su++[zq_ (recT pb C)] } M):=(Q1.out.next BW.out).app OW.out.1 OW.out.2;have DX:Hid (Box x2 g [.int .i64 o.x.id,.int .i64 o.x.n,.int .i64 o.x.cut,.slice none 0 0,.slice o.p1 o.x.fd.length o.c1,.slice o.p2 o.su.length o.c2,.slice o.p3 o.un.length o.c3,.map (some mb)]):=(Q1.out.next BW.out).x.kp (Kp.of_gro OW.out.2) (fun e=>((Q1.out.next BW.out).ns _ e).1 rfl);obtain ⟨b0,b1,b2,b3,b4,b5,b6,b7⟩:=DX.out.c8;obtain ⟨f0,f1,f2,f3,f4,f5,f6,f7⟩:=DX.out.f8;refine wRd 15 (fun K hK=>?_);go_simp;(try simp only []);refine hK.out _ _ ?_ (fun hH'=>?_)
    ·(try dsimp only)
     all_goals trivial
    clear hK K hH;have hH:=hH';clear hH';refine wLy ?_;refine wDn ?_;clear hH b0 b1 b2 b3 b4 b5 b6 b7 f0 f1 f2 f3 f4 f5 f6 f7;go_wp2
    go_roundw
    case rel=>exact ⟨k+1,_,M,by omega,by go_num,PX.out,by simp [HSU.out]⟩
    case measure=>simp [intOf]; omega
   ·refine wLy ?_;go_simp;go_at_call 96;refine (CSE.out _ (Q1.out.next BW.out).b).mono ?_;rintro e x0 ⟨rfl,hb⟩;(try simp only []);replace BW:=ze_ BW hb;clear hb;refine hK.out _ _ ?_ (fun hH'=>?_)
    ·(try dsimp only)
     all_goals trivial
    clear hK K hH;have hH:=hH';clear hH';refine wLy ?_;refine wpAnyH_ready (rs:=[6,9]) (by kernel_rfl) (by simp) ?_;refine .cons rfl (fun K hK=>?_) (.cons rfl (fun K hK=>?_) .nil)
    focus
     obtain ⟨b0,b1,b2,b3,b4,b5,b6,b7⟩:=(Q1.out.next BW.out).x.c8;refine wLy ?_;go_simp;(try simp only []);refine hK.out _ _ ?_ (fun hH'=>?_)
     ·(try dsimp only)
      all_goals trivial
     clear hK K hH;have hH:=hH';clear hH';refine wLy ?_;clear b0 b1 b2 b3 b4 b5 b6 b7;refine wRd 9 (fun K hK=>?_);go_simp;(try simp only []);have LT:Hid (TRow (x0.alloc (.cells #[.string (zq_ (recT pb C))] 9)) (some ⟨x0.heap.size,0,none⟩) [zq_ (recT pb C)]):=y1_;replace BW:=ze_ BW (zb_ x0 (.cells #[.string (zq_ (recT pb C))] 9));refine hK.out _ _ ?_ (fun hH'=>?_)
     ·(try dsimp only)
      all_goals trivial
     clear hK K hH;have hH:=hH';clear hH';refine wLy ?_;generalize x0.alloc (.cells #[.string (zq_ (recT pb C))] 9)=x1 at *;generalize x0.heap.size=gl at *
    rotate_left
    focus
     refine wLy ?_;go_simp;(try simp only []);have LT:Hid (TRow (x0.alloc (.cells #[.string (zq_ (recT pb C))] 9)) (some ⟨x0.heap.size,0,none⟩) [zq_ (recT pb C)]):=y1_;replace BW:=ze_ BW (zb_ x0 (.cells #[.string (zq_ (recT pb C))] 9));refine hK.out _ _ ?_ (fun hH'=>?_)
     ·(try dsimp only)
      all_goals trivial
     clear hK K hH;have hH:=hH';clear hH';refine wLy ?_;generalize x0.alloc (.cells #[.string (zq_ (recT pb C))] 9)=x1 at *;generalize x0.heap.size=gl at *;refine wpAnyH_ready (rs:=[6]) (by kernel_rfl) (by simp) ?_;refine .cons rfl (fun K hK=>?_) .nil;obtain ⟨b0,b1,b2,b3,b4,b5,b6,b7⟩:=(Q1.out.next BW.out).x.c8;refine wLy ?_;go_simp;(try simp only []);refine hK.out _ _ ?_ (fun hH'=>?_)
     ·(try dsimp only)
      all_goals trivial
     clear hK K hH;have hH:=hH';clear hH';refine wLy ?_;clear b0 b1 b2 b3 b4 b5 b6 b7
    rotate_left
    all_goals
     refine wRd 10 (fun K hK=>?_);rw [if_pos (by rfl)];refine yf_ (.tmp 29) (.tmp 32) rfl rfl (Value.slice o.p2 o.su.length o.c2) o.su.length o.su (w.heap.size+1) (o.su.length+1) rfl rfl (Q1.out.next BW.out).s (by have h1:=(Q1.out.next BW.out).x.lt; have h2:=Q1.out.l; omega) (some ⟨gl,0,none⟩) 1 1 [zq_ (recT pb C)] rfl rfl LT.out (by omega) rfl ?_;intro pf cf x2 hO8 hG8;have OW:Hid (OwnT x2 (Value.slice pf (o.su.length+1) cf) (o.su++[zq_ (recT pb C)]) (w.heap.size+1)∧Gro x1 x2 (Value.slice o.p2 o.su.length o.c2) (Value.slice pf (o.su.length+1) cf)):=⟨hO8,hG8⟩;clear hO8 hG8;refine hK.out _ _ ?_ (fun hH'=>?_)
     ·(try dsimp only)
      all_goals trivial
     clear hK K hH;have hH:=hH';clear hH';refine wLy ?_;refine wTk 11 ?_;refine wTk 12 ?_;refine wTk 13 ?_;refine wTk 14 ?_;have PX:Hid (RpI w (x2.setCell ⟨g,5,none⟩ (.slice pf (o.su.length+1) cf)) j rs (k+1) g mb { o with p2:=pf,c2:=cf,su:=o.su++[zq_ (recT pb C)] } M):=(Q1.out.next BW.out).app OW.out.1 OW.out.2;have DX:Hid (Box x2 g [.int .i64 o.x.id,.int .i64 o.x.n,.int .i64 o.x.cut,.slice none 0 0,.slice o.p1 o.x.fd.length o.c1,.slice o.p2 o.su.length o.c2,.slice o.p3 o.un.length o.c3,.map (some mb)]):=(Q1.out.next BW.out).x.kp (Kp.of_gro OW.out.2) (fun e=>((Q1.out.next BW.out).ns _ e).1 rfl);obtain ⟨b0,b1,b2,b3,b4,b5,b6,b7⟩:=DX.out.c8;obtain ⟨f0,f1,f2,f3,f4,f5,f6,f7⟩:=DX.out.f8;refine wRd 15 (fun K hK=>?_);go_simp;(try simp only []);refine hK.out _ _ ?_ (fun hH'=>?_)
     ·(try dsimp only)
      all_goals trivial
     clear hK K hH;have hH:=hH';clear hH';refine wLy ?_;refine wDn ?_;clear hH b0 b1 b2 b3 b4 b5 b6 b7 f0 f1 f2 f3 f4 f5 f6 f7;go_wp2
     go_roundw
     case rel=>exact ⟨k+1,_,M,by omega,by go_num,PX.out,by simp [HSU.out]⟩
     case measure=>simp [intOf]; omega
  ·obtain rfl:k=n:=by omega
   have hnl:¬ (k:Int) < (k:Int):=by omega
   have hfl:(rs.take k)=rs:=List.take_of_length_le (by have:=HLN.out; omega)
   have hcl:o1.ms.length<=300:=by
    have h1:=congrArg List.length Q1.out.cs;have h2:=nP_ j (rs.take k);rw [<- Q1.out.e] at h2;simp at h1 h2;omega
   have HMD:Hid (∀ W,Below wr.heap.size wr W->Calls Tryz.prog 97 #[.pointer (some ⟨g,0,none⟩)] W fun e w'=>∃ p c,e=.returned (.agg #[.int .i64 o1.x.id,.int .i64 o1.x.n,.int .i64 o1.x.cut,.slice p o1.ms.length c,.slice o1.p1 o1.x.fd.length o1.c1,.slice o1.p2 o1.su.length o1.c2,.slice o1.p3 o1.un.length o1.c3])∧GRow W.heap.size w' p (zp_ o1.ms)∧o1.ms.length<=c∧Below W.heap.size W w'):=fun W hW=>sI_ o1 g mb k M1 o1.ms W (by omega) (fun y hy=>n1_ HGD.out y.c (by rw [<- hfl,<- Q1.out.e,Q1.out.cs]; exact List.mem_map_of_mem hy)) (Q1.out.next hW).x (Q1.out.next hW).m (fun y hy=>by rw [Q1.out.v,sa_ Q1.out.up hy]; rfl) (pY_ (Q1.out.next hW).m Q1.out.v Q1.out.up (by omega))
   go_wp2_with fail;refine Calls.mono (HMD.out _ (Below.refl _ _)) ?_;rintro e W2 ⟨p9,c9,rfl,hg9,hc9,hb⟩;have Q3:Hid (RpI w W2 j rs k g mb o1 M1∧GRow (w.heap.size+1) W2 p9 (zp_ o1.ms)∧o1.ms.length<=c9):=⟨Q1.out.next hb,hg9.weak (by have:=Q1.out.z.lt; omega),hc9⟩;clear hg9 hc9 hb HMD Q1;obtain ⟨a0,a1,a2,a3,a4,a5,a6⟩:=Q3.out.1.z.c7;obtain ⟨f0,f1,f2,f3,f4,f5,f6⟩:=Q3.out.1.z.f7;go_wp2;refine bodyPost_ret (v:=.tuple #[.agg #[.int .i64 o1.x.id,.int .i64 o1.x.n,.int .i64 o1.x.cut,.slice p9 o1.ms.length c9,.slice o1.p1 o1.x.fd.length o1.c1,.slice o1.p2 o1.su.length o1.c2,.slice o1.p3 o1.un.length o1.c3],.bool true]) (by simp [results,Tryz.results57,go_sem, *]) rfl ?_;have hun:=Q3.out.1.un;refine ⟨⟨o1.x,o1.ms,p9,c9,o1.p1,o1.c1,o1.p2,o1.c2,o1.p3,o1.c3,o1.su,o1.un⟩,rfl,?_,by rw [<- hfl]; exact Q3.out.1.e,yq_ Q3.out.1.b (Nat.le_refl _)⟩;obtain ⟨_,_,e1,hc1,hg1⟩:=Q3.out.1.f.grow;cases e1;obtain ⟨_,_,e2,hc2,hg2⟩:=yL_ Q3.out.1.s;cases e2;have hl:=Q3.out.1.l;have N1:NoR (w.heap.size+1) W2 ⟨o1.x,o1.ms,p9,c9,o1.p1,o1.c1,o1.p2,o1.c2,o1.p3,o1.c3,o1.su,o1.un⟩:=⟨Q3.out.1.cs,Q3.out.2.1,hg1.weak (by omega),hg2,by show GRow _ _ _ (V o1.un); rw [hun]; exact .inl rfl,Q3.out.1.r,Q3.out.2.2,hc1,hc2,by show o1.un.length<=o1.c3; rw [hun]; exact Nat.zero_le _⟩;refine NoR.weak (lo:=w.heap.size+1) ?_ (by omega);exact ((((((N1.keep (zc_ (by omega))).keep (zc_ (by omega))).keep (zc_ (by omega))).keep (zc_ (by omega))).keep (zc_ (by omega))).keep (zc_ (by omega))).keep (zc_ (by omega))
end
theorem rn_ (n:Int) (w:World) (h1:0<=n) (h2:n < 3):Calls Tryz.prog 56 #[.int .i64 n] w fun e w'=>e=.returned (.bool true)∧w'=w:=by
 go_enter Tryz.func56,Tryz.ntmps56;go_wp2;go_ret;exact ⟨rfl,rfl⟩
theorem vR_ (lo:Nat) (o:No) (rs:List (Bool × Cl)) (w:World) (hx:o.x=mkN o.x.id rs) (h1:0<=o.x.id) (h2:o.x.id < 3) (hG:Gds o.x.id rs) (hd:o.su++o.un=(zy_ rs).map zq_) (hn:rs.length < 100) (hz:∀ s ∈ o.su++o.un,s.size<=1048576) (hl:∀ m ∈ o.ms,m.c.l.length<=1000) (h0:NoR lo w o) (ht:TB w) (hmx:MX w) :
  Calls Tryz.prog 17 #[nV o] w fun e w'=>e=.returned (.bool true)∧Below w.heap.size w w':=by
 (try unfold nV);have hfd:o.x.fd.length<=100000:=by have:=oU_ o.x.id rs; rw [<- hx] at this; omega
 have hml:o.ms.length<=100000:=by
  have q1:=congrArg List.length h0.cs;have q2:=nP_ o.x.id rs;rw [<- hx] at q2;simp at q1;omega
 have CR:Hid (∀ W,Below w.heap.size w W->Calls Tryz.prog 55 #[nV o] W fun e w'=>∃ p c,e=.returned (.tuple #[.slice p (zy_ rs).length c,.bool true])∧TRow w' p (zy_ rs)∧(zy_ rs).length<=c∧Below W.heap.size W w'):=fun W hW=>tL_ lo o rs W hd (by omega) hz (h0.next hW) (ht.next hW) (hmx.next hW)
 have CP:Hid (∀ W p c,Below w.heap.size w W->TRow W p (zy_ rs)->(zy_ rs).length<=c->Calls Tryz.prog 57 #[.int .i64 o.x.id,.slice p (zy_ rs).length c] W fun e w'=>∃ u:No,e=.returned (.tuple #[nV u,.bool true])∧NoR W.heap.size w' u∧u.x=mkN o.x.id rs∧Below W.heap.size W w'):=fun W p c hW hT hc=>uU_ o.x.id rs p c W (by omega) hG hn hT hc (ht.next hW) (hmx.next hW)
 have CE:Hid (∀ W (u:No) lo2,Below w.heap.size w W->NoR lo2 W u->u.x=mkN o.x.id rs->Calls Tryz.prog 58 #[nV o,nV u] W fun e w'=>e=.returned (.bool true)∧Below W.heap.size W w'):=fun W u lo2 hW hu hux=>s5_ lo lo2 o u W hml hfd hl (by rw [hux,<- hx]) (h0.next hW) hu
 have CI:Hid (∀ W,Calls Tryz.prog 56 #[.int .i64 o.x.id] W fun e w'=>e=.returned (.bool true)∧w'=W):=fun W=>rn_ _ _ h1 h2
 have X:Hid (Box (w.alloc (.cells (nL o).toArray 29)) w.heap.size (nL o)∧Below w.heap.size w (w.alloc (.cells (nL o).toArray 29))):=⟨zn_,zb_ _ _⟩;clear hx hd hz hl h0 ht hmx hG hn;generalize hmn:(zy_ rs).length=m at *;go_enter Tryz.func17,Tryz.ntmps17;go_upto_region 1 with fail;generalize w.alloc (.cells (nL o).toArray 29)=W0 at *;obtain ⟨b0,b1,b2,b3,b4,b5,b6⟩:=X.out.1.c7;go_wp2_with fail;refine Calls.mono (CR.out _ X.out.2) ?_;rintro e W1 ⟨p,c,rfl,hT,hc,hb⟩;have HT:Hid (TRow W1 p (zy_ rs)∧m<=c):=⟨hT,hc⟩;replace X:Hid (Box W1 w.heap.size (nL o)∧Below w.heap.size w W1):=⟨X.out.1.next hb,X.out.2.trans (hb.mono X.out.2.size)⟩;clear hT hc hb b0 b1 b2 b3 b4 b5 b6 CR;obtain ⟨b0,b1,b2,b3,b4,b5,b6⟩:=X.out.1.c7;go_wp2_with fail;refine Calls.mono (CI.out _) ?_;rintro e W9 ⟨rfl,rfl⟩;go_wp2_with fail;refine Calls.mono (CP.out _ _ _ X.out.2 HT.out.1 HT.out.2) ?_;rintro e W2 ⟨u,rfl,hN,hu,hb⟩;have HU:Hid (NoR _ W2 u∧u.x=mkN o.x.id rs):=⟨hN,hu⟩;replace X:Hid (Box W2 w.heap.size (nL o)∧Below w.heap.size w W2):=⟨X.out.1.next hb,X.out.2.trans (hb.mono X.out.2.size)⟩;clear hN hu hb b0 b1 b2 b3 b4 b5 b6 CP HT;go_upto_region 5 with fail;refine zH_ (fun W=>Box W w.heap.size (nL o)∧Box W W2.heap.size (nL u)∧Below w.heap.size w W∧Below W2.heap.size W2 W) ⟨X.out.1.alloc,zn_,X.out.2.trans ((zb_ _ _).mono X.out.2.size),zb_ _ _⟩ (fun W3 hI=>?_);have CE3:Hid (Calls Tryz.prog 58 #[nV o,nV u] W3 fun e w'=>e=.returned (.bool true)∧Below W3.heap.size W3 w'):=CE.out W3 u _ hI.2.2.1 (HU.out.1.next hI.2.2.2) HU.out.2;generalize W2.heap.size=g5 at *;obtain ⟨b0,b1,b2,b3,b4,b5,b6⟩:=hI.1.c7;obtain ⟨d0,d1,d2,d3,d4,d5,d6⟩:=hI.2.1.c7;have HB:=hm_ hI.2.2.1;clear hI X HU CE;go_wp2_with fail;refine Calls.mono CE3.out ?_;rintro e W4 ⟨rfl,hb⟩;go_wp2;go_ret;exact ⟨rfl,HB.out.trans (hb.mono HB.out.size)⟩
section
variable {M:ByteArray->Option Value} {W W' w w':World} {k mb:Nat} {ns:List Cm} {o:No}
theorem tl_ {m:Cm} {s:ByteArray}:∀ {ns:List Cm},(∀ y ∈ ns,y.c.k≠m.c.k)->getM s (ns++[m])=if m.c.k=s then some m else getM s ns
 | [],_=>by simp [getM]
 | y :: ys,h=>by
  have ih:=tl_ (m:=m) (s:=s) (ns:=ys) (fun z hz=>h z (List.mem_cons_of_mem _ hz));simp only [List.cons_append,getM];rw [ih];by_cases e:y.c.k=s
  ·have:¬ m.c.k=s:=fun e2=>h y (List.mem_cons_self ..) (by rw [e,e2])
   simp [e,this]
  ·simp [e]
structure KyI (w W:World) (mb k:Nat) (o:No) (ns:List Cm) (M:ByteArray->Option Value):Prop where
 x:Box W w.heap.size [.int .i64 o.x.id,.int .i64 o.x.n,.int .i64 o.x.cut,.slice o.p0 o.ms.length o.c0,.slice o.p1 o.x.fd.length o.c1,.slice o.p2 o.su.length o.c2,.slice o.p3 o.un.length o.c3]
 m:MapF W Tryz.prog 9 mb k M
 v:∀ s,M s=(getM s ns).map vu_
 cs:ns.map (·.c)=(o.ms.map (·.c)).take k
 r:∀ y ∈ ns,GRow (mb+1) W y.p (flat y.c.l)∧y.c.l.length<=y.q
 l:w.heap.size < mb
 b:Below w.heap.size w W
theorem KyI.next (h:KyI w W mb k o ns M) (hb:Below W.heap.size W W'):KyI w W' mb k o ns M:=⟨h.x.next hb,h.m.next hb,h.v,h.cs,fun y hy=>⟨(h.r y hy).1.next hb,(h.r y hy).2⟩,h.l,h.b.trans (hb.mono h.b.size)⟩
theorem KyI.snoc (h:KyI w W mb k o ns M) (hu:Up (o.ms.map (·.c))) (hk:k < o.ms.length) {p:Option Addr} {q:Nat} (hg:W.grownBy W' (some mb)) (hM:MapF W' Tryz.prog 9 mb (k+1) (mset M o.ms[k].c.k (yx_ o.ms[k].c p q))) (hr:GRow (mb+1) W p (flat o.ms[k].c.l)) (hq:o.ms[k].c.l.length<=q):KyI w W' mb (k+1) o (ns++[⟨o.ms[k].c,p,q⟩]) (mset M o.ms[k].c.k (yx_ o.ms[k].c p q)):=by
 have hl:=h.l
 have hne:∀ y ∈ ns,y.c.k≠o.ms[k].c.k:=fun y hy e=>by
  have h1:y.c ∈ (o.ms.map (·.c)).take k:=by rw [<- h.cs]; exact List.mem_map_of_mem hy
  obtain ⟨i,hi,e2⟩:=List.getElem_of_mem h1;have hi':i < k:=by simp at hi; omega
  rw [List.getElem_take,List.getElem_map] at e2;have h3:=List.pairwise_iff_getElem.1 hu i k (by simp; omega) (by simpa using hk) hi';rw [List.getElem_map,List.getElem_map,e2,e] at h3;exact List.lt_irrefl _ h3
 refine ⟨h.x.grown hg (by omega),hM,fun s=>?_,?_,fun y hy=>?_,hl,h.b.trans ⟨hg.os,hg.tape,hg.output,hg.size,fun b hb=>hg.block b (Nat.lt_of_lt_of_le hb h.b.size) (fun e=>by cases e; omega)⟩⟩
 ·rw [tl_ (m:=⟨o.ms[k].c,p,q⟩) hne];unfold mset;by_cases e:s=o.ms[k].c.k
  ·simp [e,vu_]
  ·rw [if_neg e,if_neg (fun e2=>e e2.symm)]; exact h.v s
 ·rw [List.map_append,h.cs,List.take_succ_eq_append_getElem (by simpa using hk)];simp
 ·rcases List.mem_append.1 hy with hy | hy
  ·exact ⟨(h.r y hy).1.keep (xf_ hg (by omega)),(h.r y hy).2⟩
  ·simp at hy;subst hy;exact ⟨hr.keep (xf_ hg (by omega)),hq⟩
structure ByK (w w':World) (mb:Nat) (o:No) (ns:List Cm) (M:ByteArray->Option Value):Prop where
 m:MapF w' Tryz.prog 9 mb o.ms.length M
 v:∀ s,M s=(getM s ns).map vu_
 cs:ns.map (·.c)=o.ms.map (·.c)
 r:∀ y ∈ ns,GRow (mb+1) w' y.p (flat y.c.l)∧y.c.l.length<=y.q
 l:w.heap.size < mb
 b:Below w.heap.size w w'
theorem KyI.done (h:KyI w W mb k o ns M) (hk:k=o.ms.length):ByK w W mb o ns M:=by
 subst hk;exact ⟨h.m,h.v,by rw [h.cs,List.take_of_length_le (by simp)],h.r,h.l,h.b⟩
theorem vm_ (lo:Nat) (o:No) (w:World) (hm:o.ms.length<=1000) (hl:∀ m ∈ o.ms,m.c.l.length<=1000) (hk:∀ m ∈ o.ms,m.c.k.size<=6) (hu:Up (o.ms.map (·.c))) (h0:NoR lo w o) :
  Calls Tryz.prog 86 #[.agg #[.int .i64 o.x.id,.int .i64 o.x.n,.int .i64 o.x.cut,.slice o.p0 o.ms.length o.c0,.slice o.p1 o.x.fd.length o.c1,.slice o.p2 o.su.length o.c2,.slice o.p3 o.un.length o.c3]] w fun e w'=>∃ mb ns M,e=.returned (.map (some mb))∧ByK w w' mb o ns M:=by
 have H0:Hid (NoR lo w o∧(∀ m ∈ o.ms,m.c.l.length<=1000)∧(∀ m ∈ o.ms,m.c.k.size<=6)∧Up (o.ms.map (·.c))):=⟨h0,hl,hk,hu⟩;have I0:Hid (KyI w ((w.alloc (.cells #[.int .i64 o.x.id,.int .i64 o.x.n,.int .i64 o.x.cut,.slice o.p0 o.ms.length o.c0,.slice o.p1 o.x.fd.length o.c1,.slice o.p2 o.su.length o.c2,.slice o.p3 o.un.length o.c3] 29)).alloc (.map #[] 0)) (w.heap.size+1) 0 o [] (fun _=>none)):=⟨zn_.alloc,by have:=u1_ (w.alloc (.cells #[.int .i64 o.x.id,.int .i64 o.x.n,.int .i64 o.x.cut,.slice o.p0 o.ms.length o.c0,.slice o.p1 o.x.fd.length o.c1,.slice o.p2 o.su.length o.c2,.slice o.p3 o.un.length o.c3] 29)) Tryz.prog 9; simpa using this,fun s=>rfl,by simp,fun y hy=>(by cases hy),by omega,(zb_ _ _).trans ((zb_ _ _).mono (by simp))⟩;have X0:Hid (Box (w.alloc (.cells #[.int .i64 o.x.id,.int .i64 o.x.n,.int .i64 o.x.cut,.slice o.p0 o.ms.length o.c0,.slice o.p1 o.x.fd.length o.c1,.slice o.p2 o.su.length o.c2,.slice o.p3 o.un.length o.c3] 29)) w.heap.size [.int .i64 o.x.id,.int .i64 o.x.n,.int .i64 o.x.cut,.slice o.p0 o.ms.length o.c0,.slice o.p1 o.x.fd.length o.c1,.slice o.p2 o.su.length o.c2,.slice o.p3 o.un.length o.c3]):=zn_;have RM:=fun (W:World)=>run_makeMap (P:=Tryz.prog) 124 W
 clear h0 hl hk hu;obtain ⟨a0,a1,a2,a3,a4,a5,a6⟩:=I0.out.x.c7;obtain ⟨p0,hp0⟩:∃ p0,p0=o.p0:=⟨_,rfl⟩;rw [<- hp0] at I0 a0 a1 a2 a3 a4 a5 a6;rw [<- hp0];have HP0:Hid (p0=o.p0):=hp0;clear hp0;go_enter Tryz.func86,Tryz.ntmps86;go_wp2;go_loopw [10] (fun s10 wr=>∃ (k:Nat) (ns:List Cm) (M:ByteArray->Option Value),k<=o.ms.length∧s10=.int .i64 k∧KyI w wr (w.heap.size+1) k o ns M) (fun s10 _=>o.ms.length - (intOf s10).toNat)
 case atStart=>exact ⟨0,[],_,by omega,rfl,I0.out⟩
 case round=>
  obtain ⟨k,ns,M,hk,rfl,hI⟩:=hrel;have KI:=hm_ hI;clear hI I0 X0 RM a0 a1 a2 a3 a4 a5 a6;have kk:(0:Int)<=(k:Int):=by omega
  by_cases hkl:k < o.ms.length
  ·have hkl':(k:Int) < (o.ms.length:Int):=by omega
   rcases (H0.out.1.r0.next KI.out.b).cm with h' | ⟨b,off,hp,_,h2⟩
   ·rw [h'] at hkl; simp at hkl
   obtain ⟨x0,x1,x2,x3,x4⟩:=h2 k hkl;have CO:Hid (∀ W,Below w.heap.size w W->Calls Tryz.prog 91 #[.agg #[.slice o.ms[k].p o.ms[k].c.l.length o.ms[k].q,.int .i64 o.ms[k].c.a,.int .i64 o.ms[k].c.b,.int .i64 o.ms[k].c.c]] W fun e w'=>∃ po co,e=.returned (.agg #[.slice po o.ms[k].c.l.length co,.int .i64 o.ms[k].c.a,.int .i64 o.ms[k].c.b,.int .i64 o.ms[k].c.c])∧GRow W.heap.size w' po (flat o.ms[k].c.l)∧o.ms[k].c.l.length<=co∧Below W.heap.size W w'):=fun W hW=>vk_ lo _ _ _ _ _ _ W (by have:=H0.out.2.1 _ (List.getElem_mem hkl); omega) ((H0.out.1.rs _ (List.getElem_mem hkl)).1.next hW)
   have HK6:Hid (o.ms[k].c.k.size<=maxLen):=by show _<=_; have:=H0.out.2.2.1 _ (List.getElem_mem hkl); unfold maxLen; omega
   have SN:Hid (∀ W W' (p:Option Addr) (q:Nat),KyI w W (w.heap.size+1) k o ns M->W.grownBy W' (some (w.heap.size+1))->MapF W' Tryz.prog 9 (w.heap.size+1) (k+1) (mset M o.ms[k].c.k (yx_ o.ms[k].c p q))->GRow (w.heap.size+1+1) W p (flat o.ms[k].c.l)->o.ms[k].c.l.length<=q->KyI w W' (w.heap.size+1) (k+1) o (ns++[⟨o.ms[k].c,p,q⟩]) (mset M o.ms[k].c.k (yx_ o.ms[k].c p q))):=fun W W' p q h1 h2 h3 h4 h5=>h1.snoc H0.out.2.2.2 hkl h2 h3 h4 h5
   obtain rfl:p0=some ⟨b,off,none⟩:=HP0.out.trans hp;clear h2 hp HP0;generalize o.ms[k]=m at *;have HKL:=hm_ hkl;clear hkl H0;go_upto_region 5 with fail;refine zH_ (fun W=>Box W wr.heap.size [.string m.c.k,.slice m.p m.c.l.length m.q,.int .i64 m.c.a,.int .i64 m.c.b,.int .i64 m.c.c]∧KyI w W (w.heap.size+1) k o ns M∧w.heap.size+1 < wr.heap.size) ⟨zn_,KI.out.next (zb_ _ _),KI.out.m.lt⟩ (fun W1 hI=>?_);clear KI x0 x1 x2 x3 x4;have Q1:=hm_ hI;clear hI;generalize wr.heap.size=gc at *;refine wp_region_held_drew (S:=(fun w'=>w'.cell? ⟨gc,0,none⟩=some (.string m.c.k)∧w'.cell? ⟨gc,1,none⟩=some (.slice m.p m.c.l.length m.q)∧w'.cell? ⟨gc,2,none⟩=some (.int .i64 m.c.a)∧w'.cell? ⟨gc,3,none⟩=some (.int .i64 m.c.b)∧w'.cell? ⟨gc,4,none⟩=some (.int .i64 m.c.c))) (by kernel_rfl) ?_ (fun hH=>?_)
   ·(try dsimp only);exact (Q1.out.1.next (zd_ _)).c5
   replace Q1:Hid (Box W1.drew gc [.string m.c.k,.slice m.p m.c.l.length m.q,.int .i64 m.c.a,.int .i64 m.c.b,.int .i64 m.c.c]∧KyI w W1.drew (w.heap.size+1) k o ns M∧w.heap.size+1 < gc):=⟨Q1.out.1.next (zd_ _),Q1.out.2.1.next (zd_ _),Q1.out.2.2⟩;generalize W1.drew=W2 at *;refine wTk 0 ?_;refine wTk 1 ?_;refine wTk 2 ?_;refine wTk 3 ?_;refine wTk 4 ?_;refine wTk 5 ?_;refine wTk 6 ?_;refine wRd 7 (fun K hK=>?_);go_simp;go_at_call 91;refine (CO.out _ Q1.out.2.1.b).mono ?_;rintro e W3 ⟨po,co,rfl,hg,hc,hb⟩;(try simp only []);have R3:Hid (GRow W2.heap.size W3 po (flat m.c.l)∧m.c.l.length<=co∧w.heap.size+1 < W2.heap.size):=⟨hg,hc,Q1.out.2.1.m.lt⟩;replace Q1:Hid (Box W3 gc [.string m.c.k,.slice m.p m.c.l.length m.q,.int .i64 m.c.a,.int .i64 m.c.b,.int .i64 m.c.c]∧KyI w W3 (w.heap.size+1) k o ns M∧w.heap.size+1 < gc):=⟨Q1.out.1.next hb,Q1.out.2.1.next hb,Q1.out.2.2⟩;refine wHk hK (Q1.out.1.c5) ?_;clear hK K hH hg hc hb CO;intro hH;refine wTk 8 ?_;obtain ⟨w9,hrun,hM9,hg9⟩:=Q1.out.2.1.m.store (t:=124) Tryz.underlying9 Tryz.underlying124 (by have:=HKL.out; unfold maxLen; omega) m.c.k HK6.out (yx_ m.c po co);unfold yx_ at hrun;refine wRd 9 (fun K hK=>?_);go_simp;(try simp only []);refine hK.out _ _ ?_ (fun hH'=>?_)
   ·(try dsimp only);exact (Q1.out.1.grown hg9 (by have:=Q1.out.2.2; omega)).c5
   clear hK K hH hH';refine wLy ?_;refine wDn ?_;have Q9:Hid (KyI w w9 (w.heap.size+1) (k+1) o (ns++[⟨m.c,po,co⟩]) (mset M m.c.k (yx_ m.c po co))):=SN.out _ _ po co Q1.out.2.1 hg9 hM9 (R3.out.1.weak (by have:=R3.out.2.2; omega)) R3.out.2.1;clear hrun hM9 hg9 Q1 R3 SN HK6;go_wp2
   go_roundw
   case rel=>exact ⟨k+1,_,_,HKL.out,by go_num,Q9.out⟩
   case measure=>simp [intOf]; have:=HKL.out; omega
  ·have hkl':¬ (k:Int) < (o.ms.length:Int):=by omega
   go_wp2;go_ret
   first | exact ⟨w.heap.size+1,ns,M,rfl,KI.out.done (by omega)⟩ | exact ⟨w.heap.size+1,rfl,ns,M,KI.out.done (by omega)⟩
theorem oT_ (k:ByteArray) (v:Value) (a b c:Int) (w:World):(Instr.field 91 (.agg #[.string k,v,.int .i64 a,.int .i64 b,.int .i64 c]) 1).run Tryz.prog w=.ok (.agg #[v,.int .i64 a,.int .i64 b,.int .i64 c]) w:=by kernel_rfl
theorem ByK.had (h:ByK w w' mb o ns M) (hx:o.x.cs=o.ms.map (·.c)) (s:ByteArray):∃ kk p q,(M s).getD (.agg #[.string ⟨#[]⟩,.slice none 0 0,.int .i64 0,.int .i64 0,.int .i64 0])=.agg #[.string kk,.slice p (atC s o.x.cs).l.length q,.int .i64 (atC s o.x.cs).a,.int .i64 (atC s o.x.cs).b,.int .i64 (atC s o.x.cs).c]∧GRow (mb+1) w' p (flat (atC s o.x.cs).l)∧(atC s o.x.cs).l.length<=q:=by
 have h1:=xX_ s ns;rw [h.cs,<- hx] at h1;rw [h.v];unfold atC;cases hg:getM s ns with
 | none=>
  rw [hg] at h1;rw [<- h1];exact ⟨⟨#[]⟩,none,0,rfl,.inl rfl,Nat.le_refl _⟩
 | some y=>
  rw [hg] at h1;rw [<- h1];have hy:=h.r y (xi_ hg).1;exact ⟨y.c.k,y.p,y.q,rfl,hy.1,hy.2⟩
def ObP (w:World) (C:Cl) (e:Ending) (w':World):Prop:=∃ p q,e=.returned (.agg #[.slice p C.l.length q,.int .i64 C.a,.int .i64 C.b,.int .i64 C.c])∧GRow w.heap.size w' p (flat C.l)∧C.l.length<=q∧Below w.heap.size w w'
theorem uZ_ (lo:Nat) (o:No) (s:ByteArray) (w:World) (hs:s.size<=6) (hm:o.ms.length<=1000) (hl:∀ m ∈ o.ms,m.c.l.length<=1000) (hk:∀ m ∈ o.ms,m.c.k.size<=6) (hu:Up (o.ms.map (·.c))) (h0:NoR lo w o) :
  Calls Tryz.prog 38 #[.agg #[.int .i64 o.x.id,.int .i64 o.x.n,.int .i64 o.x.cut,.slice o.p0 o.ms.length o.c0,.slice o.p1 o.x.fd.length o.c1,.slice o.p2 o.su.length o.c2,.slice o.p3 o.un.length o.c3],.string s] w (ObP w (atC s o.x.cs)):=by
 have X:Hid (Box ((w.alloc (.cells #[.int .i64 o.x.id,.int .i64 o.x.n,.int .i64 o.x.cut,.slice o.p0 o.ms.length o.c0,.slice o.p1 o.x.fd.length o.c1,.slice o.p2 o.su.length o.c2,.slice o.p3 o.un.length o.c3] 29)).alloc (.cells #[.slice none 0 0,.int .i64 0,.int .i64 0,.int .i64 0] 37)) w.heap.size [.int .i64 o.x.id,.int .i64 o.x.n,.int .i64 o.x.cut,.slice o.p0 o.ms.length o.c0,.slice o.p1 o.x.fd.length o.c1,.slice o.p2 o.su.length o.c2,.slice o.p3 o.un.length o.c3]∧Box ((w.alloc (.cells #[.int .i64 o.x.id,.int .i64 o.x.n,.int .i64 o.x.cut,.slice o.p0 o.ms.length o.c0,.slice o.p1 o.x.fd.length o.c1,.slice o.p2 o.su.length o.c2,.slice o.p3 o.un.length o.c3] 29)).alloc (.cells #[.slice none 0 0,.int .i64 0,.int .i64 0,.int .i64 0] 37)) (w.heap.size+1) [.slice none 0 0,.int .i64 0,.int .i64 0,.int .i64 0]∧Below w.heap.size w ((w.alloc (.cells #[.int .i64 o.x.id,.int .i64 o.x.n,.int .i64 o.x.cut,.slice o.p0 o.ms.length o.c0,.slice o.p1 o.x.fd.length o.c1,.slice o.p2 o.su.length o.c2,.slice o.p3 o.un.length o.c3] 29)).alloc (.cells #[.slice none 0 0,.int .i64 0,.int .i64 0,.int .i64 0] 37))):=⟨zn_.alloc,by have:=zn_ (W:=(w.alloc (.cells #[.int .i64 o.x.id,.int .i64 o.x.n,.int .i64 o.x.cut,.slice o.p0 o.ms.length o.c0,.slice o.p1 o.x.fd.length o.c1,.slice o.p2 o.su.length o.c2,.slice o.p3 o.un.length o.c3] 29))) (t:=37) (vs:=[.slice none 0 0,.int .i64 0,.int .i64 0,.int .i64 0]); simpa using this,(zb_ _ _).trans ((zb_ _ _).mono (by simp))⟩;have CB:Hid (∀ W,Below w.heap.size w W->Calls Tryz.prog 86 #[.agg #[.int .i64 o.x.id,.int .i64 o.x.n,.int .i64 o.x.cut,.slice o.p0 o.ms.length o.c0,.slice o.p1 o.x.fd.length o.c1,.slice o.p2 o.su.length o.c2,.slice o.p3 o.un.length o.c3]] W fun e w'=>∃ mb ns M,e=.returned (.map (some mb))∧ByK W w' mb o ns M):=fun W hW=>vm_ lo o W hm hl hk hu (h0.next hW)
 have HX:=hm_ h0.cs;have hsz:s.size<=maxLen:=by unfold maxLen; omega
 clear hm hl hk hu h0 hs;go_enter Tryz.func38,Tryz.ntmps38;go_upto_region 1 with fail;generalize ((w.alloc (.cells #[.int .i64 o.x.id,.int .i64 o.x.n,.int .i64 o.x.cut,.slice o.p0 o.ms.length o.c0,.slice o.p1 o.x.fd.length o.c1,.slice o.p2 o.su.length o.c2,.slice o.p3 o.un.length o.c3] 29)).alloc (.cells #[.slice none 0 0,.int .i64 0,.int .i64 0,.int .i64 0] 37))=W1 at *;obtain ⟨a0,a1,a2,a3,a4,a5,a6⟩:=X.out.1.c7;go_wp2_with fail;refine Calls.mono (CB.out _ X.out.2.2) ?_;rintro e W2 ⟨mb,ns,M,rfl,hK⟩;obtain ⟨kk,p,q,hM,hg,hq⟩:=hK.had HX.out s;have LK:=hK.m.look (t:=124) Tryz.underlying9 Tryz.underlying124 (wJ_ _) false s hsz;rw [hM] at LK;simp only [Bool.false_eq_true,if_false] at LK;generalize atC s o.x.cs=C at *;have X2:Hid (Box W2 (w.heap.size+1) [.slice none 0 0,.int .i64 0,.int .i64 0,.int .i64 0]∧Below w.heap.size w W2∧GRow (mb+1) W2 p (flat C.l)∧C.l.length<=q∧w.heap.size+1 < mb):=⟨X.out.2.1.next hK.b,X.out.2.2.trans (hK.b.mono X.out.2.2.size),hg,hq,by have:=hK.l; have:=X.out.2.1.lt; omega⟩;clear a0 a1 a2 a3 a4 a5 a6 X hK hM hg hq CB HX;obtain ⟨b0,b1,b2,b3⟩:=X2.out.1.c4;obtain ⟨g0,g1,g2,g3⟩:=X2.out.1.f4;have FO:=fun (W:World)=>oT_ kk (.slice p C.l.length q) C.a C.b C.c W
 go_wp2;refine bodyPost_ret (v:=.agg #[.slice p C.l.length q,.int .i64 C.a,.int .i64 C.b,.int .i64 C.c]) (by simp [results,Tryz.results38,go_sem, *]) rfl ?_;have hlt:=X2.out.2.2.2.2;refine ⟨p,q,rfl,?_,X2.out.2.2.2.1,zt_ (zt_ (zt_ (zt_ X2.out.2.1 (by omega)) (by omega)) (by omega)) (by omega)⟩;exact ((((X2.out.2.2.1.keep (zc_ (by omega))).keep (zc_ (by omega))).keep (zc_ (by omega))).keep (zc_ (by omega))).weak (by omega)
end
section
variable {C:Cl} {M:ByteArray->Option Value} {W W' w:World} {cf g mb n:Nat} {o:No} {pf:Option Addr}
structure DfI (w W:World) (g mb n:Nat) (o:No) (M:ByteArray->Option Value):Prop where
 x:Box W g [.int .i64 o.x.id,.int .i64 o.x.n,.int .i64 o.x.cut,.slice none 0 0,.slice o.p1 o.x.fd.length o.c1,.slice o.p2 o.su.length o.c2,.slice o.p3 o.un.length o.c3,.map (some mb)]
 m:MapF W Tryz.prog 9 mb n M
 v:∀ s,M s=(getM s o.ms).map vu_
 cs:o.x.cs=o.ms.map (·.c)
 up:Up o.x.cs
 r:∀ y ∈ o.ms,GRow w.heap.size W y.p (flat y.c.l)∧y.c.l.length<=y.q
 f:OwnG W 52 3 (Value.slice o.p1 o.x.fd.length o.c1) o.x.fd.length (zl_ o.x.fd) w.heap.size
 s:OwnG W 9 1 (Value.slice o.p2 o.su.length o.c2) o.su.length (V o.su) w.heap.size
 t:OwnG W 9 1 (Value.slice o.p3 o.un.length o.c3) o.un.length (V o.un) w.heap.size
 nf:∀ b,(Value.slice o.p1 o.x.fd.length o.c1).ownBlock=some b->b≠g∧b≠mb∧(Value.slice o.p2 o.su.length o.c2).ownBlock≠some b∧(Value.slice o.p3 o.un.length o.c3).ownBlock≠some b
 ns:∀ b,(Value.slice o.p2 o.su.length o.c2).ownBlock=some b->b≠g∧b≠mb∧(Value.slice o.p3 o.un.length o.c3).ownBlock≠some b
 nt:∀ b,(Value.slice o.p3 o.un.length o.c3).ownBlock=some b->b≠g∧b≠mb
 nr:∀ y ∈ o.ms,∀ x,y.p=some x->flat y.c.l≠[]->((Value.slice o.p1 o.x.fd.length o.c1).ownBlock≠some x.block∧(Value.slice o.p2 o.su.length o.c2).ownBlock≠some x.block∧(Value.slice o.p3 o.un.length o.c3).ownBlock≠some x.block)∧x.block≠g∧x.block≠mb
 l:w.heap.size<=mb∧mb < g
 b:Below w.heap.size w W
theorem DfI.next (h:DfI w W g mb n o M) (hb:Below W.heap.size W W'):DfI w W' g mb n o M:=
 ⟨h.x.next hb,h.m.next hb,h.v,h.cs,h.up,fun y hy=>⟨(h.r y hy).1.next hb,(h.r y hy).2⟩,h.f.next hb,h.s.next hb,h.t.next hb,h.nf,h.ns,h.nt,h.nr,h.l,h.b.trans (hb.mono h.b.size)⟩
theorem DfI.ds (h:DfI w W g mb n o M) (hj:o.x.id=0∨o.x.id=1∨o.x.id=2) (hn:n < 100) (hf:o.x.fd.length<=100000) (C:Cl):∃ kk p1 q1,DS W o C (atC C.k o.x.cs) kk p1 q1 w.heap.size g mb n M:=by
 have hl:=h.l;have hlt:=h.x.lt;have h1:=xX_ C.k o.ms;rw [<- h.cs] at h1
 have had:∃ kk p1 q1,(M C.k).getD (.agg #[.string ⟨#[]⟩,.slice none 0 0,.int .i64 0,.int .i64 0,.int .i64 0])=.agg #[.string kk,.slice p1 (atC C.k o.x.cs).l.length q1,.int .i64 (atC C.k o.x.cs).a,.int .i64 (atC C.k o.x.cs).b,.int .i64 (atC C.k o.x.cs).c]∧zk_ W p1 (atC C.k o.x.cs).l∧(atC C.k o.x.cs).l.length<=q1:=by
  rw [h.v];unfold atC;cases hg:getM C.k o.ms with
  | none=>
   rw [hg] at h1;rw [<- h1];exact ⟨⟨#[]⟩,none,0,rfl,.inl rfl,Nat.le_refl _⟩
  | some y=>
   rw [hg] at h1;rw [<- h1];have hy:=h.r y (xi_ hg).1;exact ⟨y.c.k,y.p,y.q,rfl,hy.1.sib,hy.2⟩
 obtain ⟨kk,p1,q1,e1,e2,e3⟩:=had;exact ⟨kk,p1,q1,⟨by omega,⟨h.b.size,hlt,by omega,fun k hk=>⟨(h.nf k hk).1,(h.nf k hk).2.1⟩⟩,hn,e3,hj,hf,h.f,e1,h.x,h.m,e2⟩⟩
theorem DfI.fol {pb:Bool} (h:DfI w W g mb n o M) (hP:FoP pb W o w.heap.size g mb n M C W'):∃ o' M',DfI w W' g mb (n+1) o' M'∧o'.x=nxt o.x (pb,C)∧o'.su=o.su∧o'.un=o.un:=by
 have hl:=h.l;have hsz:=h.b.size;have hgl:=h.x.lt;have hup:Up (o.ms.map (·.c)):=by rw [<- h.cs]; exact h.up
 have hv:∀ vo vc s,mset M C.k (yx_ C vo vc) s=(getM s (setM ⟨C,vo,vc⟩ o.ms)).map vu_:=fun vo vc s=>by
  unfold mset;rw [wo_ hup];by_cases e:s=C.k
  ·rw [if_pos e,if_pos e.symm]; rfl
  ·rw [if_neg e,if_neg (fun e2=>e e2.symm)]; exact h.v s
 have hnew:∀ {vo:Option Addr} {X:World} {x:Addr},GRow W.heap.size X vo (flat C.l)->vo=some x->flat C.l≠[]->W.heap.size<=x.block:=fun {vo X x} hg hx hn=>by
  rcases hg with h' | ⟨b,off,q1,q2,_⟩
  ·exact (hn h').elim
  ·rw [q1] at hx; cases hx; exact q2
 cases pb with
 | false=>
  obtain ⟨vo,vc,W5,h1,h2,h3,h4,h5⟩:=(show DjP W mb n M C W' from hP)
  have hK:Kp (· = mb) W W':=(Kp.of_below (E:=fun _=>False) h4).trans (Kp.of_grown h5) (fun _ _ h=>h.elim) (fun _ _ h=>h);refine ⟨⟨nxt o.x (false,C),setM ⟨C,vo,vc⟩ o.ms,none,0,o.p1,o.c1,o.p2,o.c2,o.p3,o.c3,o.su,o.un⟩,mset M C.k (yx_ C vo vc),⟨h.x.kp hK (by omega),h1,hv vo vc,?_,v1_ h.up,fun y hy=>?_,h.f.kp hK (fun b hb e=>(h.nf b hb).2.1 e),h.s.kp hK (fun b hb e=>(h.ns b hb).2.1 e),h.t.kp hK (fun b hb e=>(h.nt b hb).2 e),h.nf,h.ns,h.nt,fun y hy x hyp hne=>?_,hl,h.b.trans (hK.below hsz (fun b hb e=>by omega))⟩,rfl,rfl,rfl⟩
  ·show setC C o.x.cs=_
   rw [xn_,h.cs]
  ·rcases yd_ hy with rfl | hy
   ·exact ⟨h2.weak hsz,h3⟩
   ·exact ⟨(h.r y hy).1.kp hK (fun x hx hv e=>(h.nr y hy x hx hv).2.2 e),(h.r y hy).2⟩
  ·rcases yd_ hy with rfl | hy
   ·have hb:=hnew h2 hyp hne;exact ⟨⟨fun e=>by have:=(h.f.lt _ e).2; omega,fun e=>by have:=(h.s.lt _ e).2; omega,fun e=>by have:=(h.t.lt _ e).2; omega⟩,by omega,by omega⟩
   ·exact h.nr y hy x hyp hne
 | true=>
  obtain ⟨vo,vc,pf,cf,h1,h2,h3,h4,h5,h6,h7⟩:=(show DpP W o w.heap.size g mb n M C W' from hP)
  have efd:(nxt o.x (true,C)).fd=o.x.fd++[⟨o.x.id,o.x.n+1,C.k⟩]:=by simp [nxt]
  have efl:(nxt o.x (true,C)).fd.length=o.x.fd.length+1:=by simp [nxt]
  have hold:∀ b,b < W.heap.size->(Value.slice o.p1 o.x.fd.length o.c1).ownBlock≠some b->(Value.slice pf (o.x.fd.length+1) cf).ownBlock≠some b:=fun b hb hn e=>by
   rcases h6 b e with e2 | e2
   ·exact hn e2
   ·omega
  refine ⟨⟨nxt o.x (true,C),setM ⟨C,vo,vc⟩ o.ms,none,0,pf,cf,o.p2,o.c2,o.p3,o.c3,o.su,o.un⟩,mset M C.k (yx_ C vo vc),⟨?_,h1,hv vo vc,?_,v1_ h.up,fun y hy=>?_,?_,h.s.kp h5 (fun b hb e=>?_),h.t.kp h5 (fun b hb e=>?_),fun b hb=>?_,h.ns,h.nt,fun y hy x hyp hne=>?_,hl,h.b.trans (h5.below hsz (fun b hb e=>?_))⟩,rfl,rfl,rfl⟩
  ·show Box W' g [.int .i64 (nxt o.x (true,C)).id,.int .i64 (nxt o.x (true,C)).n,.int .i64 (nxt o.x (true,C)).cut,.slice none 0 0,.slice pf (nxt o.x (true,C)).fd.length cf,.slice o.p2 o.su.length o.c2,.slice o.p3 o.un.length o.c3,.map (some mb)]
   rw [efl];exact h3
  ·show setC C o.x.cs=_
   rw [xn_,h.cs]
  ·rcases yd_ hy with rfl | hy
   ·exact ⟨h2.1.weak hsz,h2.2⟩
   ·refine ⟨(h.r y hy).1.kp h5 (fun x hx hv e=>?_),(h.r y hy).2⟩;obtain ⟨⟨n1,n2,n3⟩,n4,n5⟩:=h.nr y hy x hx hv;rcases e with e | e | e
    ·exact n4 e
    ·exact n5 e
    ·exact n1 e
  ·show OwnG W' 52 3 (.slice pf (nxt o.x (true,C)).fd.length cf) (nxt o.x (true,C)).fd.length (zl_ (nxt o.x (true,C)).fd) w.heap.size
   rw [efd]
   simpa using h4
  ·rcases e with e | e | e
   ·exact (h.ns b hb).1 e
   ·exact (h.ns b hb).2.1 e
   ·exact (h.nf b e).2.2.1 hb
  ·rcases e with e | e | e
   ·exact (h.nt b hb).1 e
   ·exact (h.nt b hb).2 e
   ·exact (h.nf b e).2.2.2 hb
  ·have hb':(Value.slice pf (o.x.fd.length+1) cf).ownBlock=some b:=by rw [<- efl]; exact hb
   rcases h6 b hb' with e2 | e2
   ·exact h.nf b e2
   ·exact ⟨by omega,by omega,fun e=>by have:=(h.s.lt _ e).2; omega,fun e=>by have:=(h.t.lt _ e).2; omega⟩
  ·show ((Value.slice pf (nxt o.x (true,C)).fd.length cf).ownBlock≠some x.block∧(Value.slice o.p2 o.su.length o.c2).ownBlock≠some x.block∧(Value.slice o.p3 o.un.length o.c3).ownBlock≠some x.block)∧x.block≠g∧x.block≠mb
   rw [efl];rcases yd_ hy with rfl | hy
   ·have hb:=hnew h2.1 hyp hne;exact ⟨⟨h7 x hyp hne,fun e=>by have:=(h.s.lt _ e).2; omega,fun e=>by have:=(h.t.lt _ e).2; omega⟩,by omega,by omega⟩
   ·obtain ⟨⟨n1,n2,n3⟩,n4,n5⟩:=h.nr y hy x hyp hne;exact ⟨⟨hold _ (xg_ (h.r y hy).1 hyp hne) n1,n2,n3⟩,n4,n5⟩
  ·rcases e with e | e | e
   ·omega
   ·omega
   ·have:=h.f.ge _ e; omega
theorem DfI.app {X:World} {t:ByteArray} (h:DfI w W g mb n o M) (hO:OwnG X 9 1 (Value.slice pf (o.un.length+1) cf) (o.un.length+1) (V (o.un++[t])) w.heap.size) (hG:Gro W X (Value.slice o.p3 o.un.length o.c3) (Value.slice pf (o.un.length+1) cf)):DfI w (X.setCell ⟨g,6,none⟩ (Value.slice pf (o.un.length+1) cf)) g mb n { o with p3:=pf,c3:=cf,un:=o.un++[t] } M:=by
 have hl:=h.l;have hgl:=h.x.lt;have hsz:=h.b.size;have hK:Kp (fun b=>b=g∨(Value.slice o.p3 o.un.length o.c3).ownBlock=some b) W (X.setCell ⟨g,6,none⟩ (Value.slice pf (o.un.length+1) cf)):=(Kp.of_gro hG).trans Kp.set (fun _ _ h=>.inr h) (fun _ _ h=>.inl h);have hsn:∀ b,(Value.slice pf (o.un.length+1) cf).ownBlock=some b->(Value.slice o.p3 o.un.length o.c3).ownBlock=some b∨W.heap.size<=b:=hG.fresh;have hX:Box X g [.int .i64 o.x.id,.int .i64 o.x.n,.int .i64 o.x.cut,.slice none 0 0,.slice o.p1 o.x.fd.length o.c1,.slice o.p2 o.su.length o.c2,.slice o.p3 o.un.length o.c3,.map (some mb)]:=h.x.kp (Kp.of_gro hG) (fun e=>(h.nt _ e).1 rfl);have hlen:(o.un++[t]).length=o.un.length+1:=by simp
 have hold:∀ b,b < W.heap.size->(Value.slice o.p3 o.un.length o.c3).ownBlock≠some b->(Value.slice pf (o.un.length+1) cf).ownBlock≠some b:=fun b hb hn e=>by
  rcases hsn b e with e2 | e2
  ·exact hn e2
  ·omega
 refine ⟨?_,h.m.kp hK (fun e=>by rcases e with e | e; omega; exact (h.nt _ e).2 rfl),h.v,h.cs,h.up,fun y hy=>⟨(h.r y hy).1.kp hK (fun x hx hv e=>by rcases e with e | e; exact (h.nr y hy x hx hv).2.1 e; exact (h.nr y hy x hx hv).1.2.2 e),(h.r y hy).2⟩,h.f.kp hK (fun b hb e=>by rcases e with e | e; exact (h.nf b hb).1 e; exact (h.nf b hb).2.2.2 e),h.s.kp hK (fun b hb e=>by rcases e with e | e; exact (h.ns b hb).1 e; exact (h.ns b hb).2.2 e),?_,fun b hb=>?_,fun b hb=>?_,fun b hb=>?_,fun y hy x hyp hne=>?_,hl,h.b.trans (hK.below hsz (fun b hb e=>by rcases e with e | e; omega; have:=h.t.ge _ e; omega))⟩
 ·show Box _ g [.int .i64 o.x.id,.int .i64 o.x.n,.int .i64 o.x.cut,.slice none 0 0,.slice o.p1 o.x.fd.length o.c1,.slice o.p2 o.su.length o.c2,.slice pf (o.un++[t]).length cf,.map (some mb)]
  rw [hlen]
  have:=hX.set (i:=6) (u:=(Value.slice pf (o.un.length+1) cf)) (by simp)
  simpa using this
 ·show OwnG _ 9 1 (.slice pf (o.un++[t]).length cf) (o.un++[t]).length (V (o.un++[t])) _
  rw [hlen]
  exact hO.kp (Kp.set (g:=g) (i:=6) (u:=(Value.slice pf (o.un.length+1) cf))) (fun b hb e=>by
   rcases hsn b hb with e2 | e2
   ·exact (h.nt b e2).1 e
   ·omega)
 ·obtain ⟨n1,n2,n3,n4⟩:=h.nf b hb;refine ⟨n1,n2,n3,?_⟩;show (Value.slice pf (o.un++[t]).length cf).ownBlock≠some b
  rw [hlen];exact hold b (h.f.lt b hb).2 n4
 ·obtain ⟨n1,n2,n3⟩:=h.ns b hb;refine ⟨n1,n2,?_⟩;show (Value.slice pf (o.un++[t]).length cf).ownBlock≠some b
  rw [hlen];exact hold b (h.s.lt b hb).2 n3
 ·have hb':(Value.slice pf (o.un.length+1) cf).ownBlock=some b:=by rw [<- hlen]; exact hb
  rcases hsn b hb' with e2 | e2
  ·exact h.nt b e2
  ·exact ⟨by omega,by omega⟩
 ·obtain ⟨⟨n1,n2,n3⟩,n4,n5⟩:=h.nr y hy x hyp hne;refine ⟨⟨n1,n2,?_⟩,n4,n5⟩;show (Value.slice pf (o.un++[t]).length cf).ownBlock≠some x.block
  rw [hlen];exact hold _ (xg_ (h.r y hy).1 hyp hne) n3
theorem qK_ (lo:Nat) (o:No) (w:World) (hm:o.ms.length<=1000) (hf:o.x.fd.length<=100000) (hs:o.su.length+o.un.length<=100000) (hl:∀ m ∈ o.ms,m.c.l.length<=1000) (hk:∀ m ∈ o.ms,m.c.k.size<=6) (hu:Up o.x.cs) (h0:NoR lo w o) :
  Calls Tryz.prog 94 #[nV o] w fun e w'=>∃ g mb u M,e=.returned (.pointer (some ⟨g,0,none⟩))∧DfI w w' g mb o.ms.length u M∧u.x=o.x∧u.su=o.su∧u.un=o.un:=by
 (try unfold nV);have hup:Up (o.ms.map (·.c)):=by rw [<- h0.cs]; exact hu
 have CC:Hid (∀ W,Below w.heap.size w W->Calls Tryz.prog 42 #[nV o] W fun e w'=>∃ u:No,e=.returned (nV u)∧CpN W w' o u):=fun W hW=>vX_ lo o W hm hf hs hl (h0.next hW)
 have CB:Hid (∀ W,Below w.heap.size w W->Calls Tryz.prog 86 #[nV o] W fun e w'=>∃ mb ns M,e=.returned (.map (some mb))∧ByK W w' mb o ns M):=fun W hW=>vm_ lo o W hm hl hk hup (h0.next hW)
 have HX:Hid (o.x.cs=o.ms.map (·.c)∧Up o.x.cs):=⟨h0.cs,hu⟩;have X0:Hid (Box (w.alloc (.cells (nL o).toArray 29)) w.heap.size (nL o)∧Below w.heap.size w (w.alloc (.cells (nL o).toArray 29))):=⟨zn_,zb_ _ _⟩;clear hm hf hs hl hk hu h0 hup;go_enter Tryz.func94,Tryz.ntmps94;go_upto_region 1 with fail;generalize (w.alloc (.cells (nL o).toArray 29))=W0 at *;refine wp_region_held_drew (S:=(fun w'=>(w'.cell? ⟨w.heap.size,0,none⟩=some (.int .i64 o.x.id)∧w'.cell? ⟨w.heap.size,1,none⟩=some (.int .i64 o.x.n)∧w'.cell? ⟨w.heap.size,2,none⟩=some (.int .i64 o.x.cut)∧w'.cell? ⟨w.heap.size,3,none⟩=some (.slice o.p0 o.ms.length o.c0)∧w'.cell? ⟨w.heap.size,4,none⟩=some (.slice o.p1 o.x.fd.length o.c1)∧w'.cell? ⟨w.heap.size,5,none⟩=some (.slice o.p2 o.su.length o.c2)∧w'.cell? ⟨w.heap.size,6,none⟩=some (.slice o.p3 o.un.length o.c3)))) (by kernel_rfl) ?_ (fun hH=>?_)
 ·(try dsimp only);exact (X0.out.1.next (zd_ _)).c7
 replace X0:Hid (Box W0.drew w.heap.size (nL o)∧Below w.heap.size w W0.drew):=⟨X0.out.1.next (zd_ _),X0.out.2.trans ((zd_ _).mono X0.out.2.size)⟩;refine wTk 0 ?_;refine wTk 2 ?_;generalize W0.drew=wd at *;refine wRd 1 (fun K hK=>?_);go_simp;go_at_call 42;refine (CC.out _ X0.out.2).mono ?_;rintro e x0 ⟨⟨ux,us,p0,c0,p1,c1,p2,c2,p3,c3,usu,uun⟩,rfl,hC⟩;obtain rfl:ux=o.x:=hC.x;obtain rfl:usu=o.su:=hC.su;obtain rfl:uun=o.un:=hC.un;(try simp only []);have QC:=hm_ hC;replace X0:Hid (Box x0 w.heap.size (nL o)∧Below w.heap.size w x0∧w.heap.size<=wd.heap.size):=⟨X0.out.1.next hC.b,X0.out.2.trans (hC.b.mono X0.out.2.size),X0.out.2.size⟩;clear hC;refine wHk hK (X0.out.1.c7) ?_;clear hK K hH CC;intro hH;refine wRd 3 (fun K hK=>?_);go_simp;go_at_call 86;refine (CB.out _ X0.out.2.1).mono ?_;rintro e x1 ⟨mb,ns,M,rfl,hB⟩;(try simp only []);have QB:=hm_ hB;replace X0:Hid (Box x1 w.heap.size (nL o)∧Below w.heap.size w x1∧w.heap.size<=wd.heap.size):=⟨X0.out.1.next hB.b,X0.out.2.1.trans (hB.b.mono X0.out.2.1.size),X0.out.2.2⟩;clear hB;refine wHk hK (X0.out.1.c7) ?_;clear hK K hH CB;intro hH;refine wTk 4 ?_;refine wRd 5 (fun K hK=>?_);go_simp;(try simp only []);have QD:Hid (Box (x1.alloc (.cells #[.int .i64 o.x.id,.int .i64 o.x.n,.int .i64 o.x.cut,.slice p0 us.length c0,.slice p1 o.x.fd.length c1,.slice p2 o.su.length c2,.slice p3 o.un.length c3,.map (some mb)] 136)) x1.heap.size [.int .i64 o.x.id,.int .i64 o.x.n,.int .i64 o.x.cut,.slice p0 us.length c0,.slice p1 o.x.fd.length c1,.slice p2 o.su.length c2,.slice p3 o.un.length c3,.map (some mb)]∧Below w.heap.size w (x1.alloc (.cells #[.int .i64 o.x.id,.int .i64 o.x.n,.int .i64 o.x.cut,.slice p0 us.length c0,.slice p1 o.x.fd.length c1,.slice p2 o.su.length c2,.slice p3 o.un.length c3,.map (some mb)] 136))∧Below x1.heap.size x1 (x1.alloc (.cells #[.int .i64 o.x.id,.int .i64 o.x.n,.int .i64 o.x.cut,.slice p0 us.length c0,.slice p1 o.x.fd.length c1,.slice p2 o.su.length c2,.slice p3 o.un.length c3,.map (some mb)] 136))):=⟨zn_,X0.out.2.1.trans ((zb_ _ _).mono X0.out.2.1.size),zb_ _ _⟩;refine wHk hK (X0.out.1.alloc.c7) ?_;clear hK K hH;intro hH;refine wTk 6 ?_;refine wDn ?_;clear hH;have HXL:Hid (mb < x1.heap.size):=QB.out.m.lt
 have QZ:Hid (∀ W,Below x1.heap.size x1 W->DfI w (W.setCell ⟨x1.heap.size,3,none⟩ (.slice none 0 0)) x1.heap.size mb o.ms.length ⟨o.x,ns,none,0,p1,c1,p2,c2,p3,c3,o.su,o.un⟩ M∨¬ Box W x1.heap.size [.int .i64 o.x.id,.int .i64 o.x.n,.int .i64 o.x.cut,.slice p0 us.length c0,.slice p1 o.x.fd.length c1,.slice p2 o.su.length c2,.slice p3 o.un.length c3,.map (some mb)]∨¬ Below w.heap.size w W):=fun W hW=>by
  by_cases hbx:Box W x1.heap.size [.int .i64 o.x.id,.int .i64 o.x.n,.int .i64 o.x.cut,.slice p0 us.length c0,.slice p1 o.x.fd.length c1,.slice p2 o.su.length c2,.slice p3 o.un.length c3,.map (some mb)]
  case neg=>exact .inr (.inl hbx)
  by_cases hbw:Below w.heap.size w W
  case neg=>exact .inr (.inr hbw)
  have hc:=QC.out;have hb:=QB.out;have h1:=hb.l;have h2:=X0.out.2.2;have h3:=hb.b.size;have h4:=hb.m.lt;have h5:wd.heap.size<=x0.heap.size:=hc.b.size;have lt1:∀ b,(Value.slice p1 o.x.fd.length c1).ownBlock=some b->b < x0.heap.size:=fun b e=>(hc.f.lt b e).2
  have lt2:∀ b,(Value.slice p2 o.su.length c2).ownBlock=some b->b < x0.heap.size:=fun b e=>(hc.d.b0 b e).2
  have lt3:∀ b,(Value.slice p3 o.un.length c3).ownBlock=some b->b < x0.heap.size:=fun b e=>(hc.d.b1 b e).2
  have rlt:∀ y ∈ ns,∀ x,y.p=some x->flat y.c.l≠[]->mb < x.block∧x.block < x1.heap.size:=fun y hy x hx hn=>⟨by
   rcases (hb.r y hy).1 with h' | ⟨b,off,e,h6,_⟩
   ·exact (hn h').elim
   ·rw [e] at hx; cases hx; exact h6,xg_ (hb.r y hy).1 hx hn⟩
  have own:∀ {e size n:Nat} {v:Value} {xs:List Value},OwnG x0 e size v n xs wd.heap.size->(∀ b,v.ownBlock=some b->b < x0.heap.size)->OwnG (W.setCell ⟨x1.heap.size,3,none⟩ (.slice none 0 0)) e size v n xs w.heap.size:=fun h hlt=>((((h.next hb.b).next hW).kp Kp.set (fun k hk e=>by have:=hlt k hk; omega))).weak h2
  refine .inl ⟨?_,(hb.m.next hW).kp Kp.set (by omega),hb.v,by rw [hb.cs]; exact HX.out.1,HX.out.2,fun y hy=>⟨((hb.r y hy).1.next hW).kp Kp.set (fun x hx hn e=>by have:=rlt y hy x hx hn; omega) |>.weak (by omega),(hb.r y hy).2⟩,own hc.f lt1,own ⟨hc.d.r0,fun k hk=>(hc.d.b0 k hk).1⟩ lt2,own ⟨hc.d.r1,fun k hk=>(hc.d.b1 k hk).1⟩ lt3,fun b e=>⟨by have:=lt1 b e; omega,by have:=lt1 b e; omega,hc.ne b e⟩,fun b e=>⟨by have:=lt2 b e; omega,by have:=lt2 b e; omega,hc.d.ne b e⟩,fun b e=>⟨by have:=lt3 b e; omega,by have:=lt3 b e; omega⟩,fun y hy x hx hn=>⟨⟨fun e=>by have:=lt1 _ e; have:=rlt y hy x hx hn; omega,fun e=>by have:=lt2 _ e; have:=rlt y hy x hx hn; omega,fun e=>by have:=lt3 _ e; have:=rlt y hy x hx hn; omega⟩,by have:=rlt y hy x hx hn; omega,by have:=rlt y hy x hx hn; omega⟩,⟨by omega,by omega⟩,zt_ hbw (by omega)⟩
  have:=hbx.set (i:=3) (u:=.slice none 0 0) (by simp)
  simpa using this
 generalize x1.alloc (.cells #[.int .i64 o.x.id,.int .i64 o.x.n,.int .i64 o.x.cut,.slice p0 us.length c0,.slice p1 o.x.fd.length c1,.slice p2 o.su.length c2,.slice p3 o.un.length c3,.map (some mb)] 136)=x2 at *;have QY:=QZ.out x2 QD.out.2.2;generalize x1.heap.size=g at *;obtain ⟨b0,b1,b2,b3,b4,b5,b6,b7⟩:=QD.out.1.c8;obtain ⟨f0,f1,f2,f3,f4,f5,f6,f7⟩:=QD.out.1.f8;have HY:Hid _:=QY;clear QZ QY QC QB X0 HX;go_wp2;go_ret;rcases HY.out with h | h | h
 ·exact ⟨g,mb,_,M,rfl,h,rfl,rfl,rfl⟩
 ·exact (h QD.out.1).elim
 ·exact (h QD.out.2.1).elim
end
section
variable {W:World} {p:Option Addr} {ss:List ByteArray}
def NtP (pb:Bool) (o:No) (C:Cl) (w:World) (e:Ending) (w':World):Prop:=∃ u:No,e=.returned (nV u)∧NoR w.heap.size w' u∧u.x=nxt o.x (pb,C)∧u.su=o.su∧u.un=o.un++[zq_ (recT pb C)]∧Below w.heap.size w w'
theorem q4_ (l:List ByteArray) (t:ByteArray):V l++[.string t]=V (l++[t]):=by simp [V]
theorem q3_ (t:ByteArray):∀ u ∈ ([.string t]:List Value),u.oneCell'=true:=fun u hu=>by simp at hu; subst hu; rfl
theorem TRow.grw (h:TRow W p ss):GRow 0 W p (V ss):=by
 rcases h with h | ⟨b,off,h1,h2⟩
 ·exact .inl (by rw [h]; rfl)
 ·refine .inr ⟨b,off,h1,Nat.zero_le _,fun j hj=>?_⟩
  have:=h2 j (by simpa [V] using hj)
  rw [this];simp [V]
theorem qe_ (pb:Bool) (lo:Nat) (o:No) (C:Cl) (w:World) (hF:Fol o.x (pb,C)) (hid:o.x.id=0∨o.x.id=1∨o.x.id=2) (hm:o.ms.length < 100) (hf:o.x.fd.length<=100000) (hs:o.su.length+o.un.length<=100000) (hl:∀ m ∈ o.ms,m.c.l.length<=1000) (hk:∀ m ∈ o.ms,m.c.k.size<=6) (hu:Up o.x.cs) (h0:NoR lo w o) (ht:TB w) (hx:MX w) :
  Calls Tryz.prog 43 #[nV o,.string (recT pb C)] w (NtP pb o C w):=by
 (try unfold nV);have X0:Hid (Box ((w.alloc (.cells (nL o).toArray 29)).alloc (.cells nZ.toArray 29)) w.heap.size (nL o)∧Box ((w.alloc (.cells (nL o).toArray 29)).alloc (.cells nZ.toArray 29)) (w.heap.size+1) nZ∧Below w.heap.size w ((w.alloc (.cells (nL o).toArray 29)).alloc (.cells nZ.toArray 29))):=⟨zn_.alloc,by have:=zn_ (W:=(w.alloc (.cells (nL o).toArray 29))) (t:=29) (vs:=nZ); simpa using this,x1_⟩;have CD:Hid (∀ W,Below w.heap.size w W->Calls Tryz.prog 94 #[nV o] W fun e w'=>∃ g mb u M,e=.returned (.pointer (some ⟨g,0,none⟩))∧DfI W w' g mb o.ms.length u M∧u.x=o.x∧u.su=o.su∧u.un=o.un):=fun W hW=>qK_ lo o W (by omega) hf hs hl hk hu (h0.next hW)
 have HT:Hid (TB w∧MX w):=⟨ht,hx⟩;have HF:=hm_ hF
 have HB:Hid (∀ o1:No,o1.x=nxt o.x (pb,C)->o1.x.cs=o1.ms.map (·.c)->o1.ms.length<=300∧∀ m ∈ o1.ms,m.c.k.size<=6):=fun o1 e1 e2=>by
  have e3:o1.x.cs=setC C o.x.cs:=by rw [e1]; rfl
  have q1:=wQ_ o.x.cs C;have q2:=congrArg List.length h0.cs;have q3:=congrArg List.length e2;rw [e3] at q3;simp at q2 q3;refine ⟨by omega,fun m hm=>?_⟩;have hc:m.c ∈ setC C o.x.cs:=by rw [<- e3,e2]; exact List.mem_map_of_mem hm
  rcases xT_ hc with e | e
  ·rw [e]; exact hF.key.2.1
  ·rw [h0.cs] at e;obtain ⟨y,hy,e4⟩:=List.mem_map.1 e;rw [<- e4]; exact hk y hy
 have HLN:Hid (o.ms.length < 100∧o.x.fd.length<=100000∧o.su.length+o.un.length<=100000):=⟨hm,hf,hs⟩;have HID:=hm_ hid;clear hF hid hl hk hu h0 ht hx hm hf hs;go_enter Tryz.func43,Tryz.ntmps43;go_upto_region 1 with fail;generalize ((w.alloc (.cells (nL o).toArray 29)).alloc (.cells nZ.toArray 29))=W1 at *;obtain ⟨a0,a1,a2,a3,a4,a5,a6⟩:=X0.out.1.c7;go_wp2_with fail;refine Calls.mono (CD.out _ X0.out.2.2) ?_;rintro e W2 ⟨g,mb,u,M,rfl,hD,e1,e2,e3⟩;have QD:Hid (DfI W1 W2 g mb o.ms.length u M∧u.x=o.x∧u.su=o.su∧u.un=o.un):=⟨hD,e1,e2,e3⟩;clear hD e1 e2 e3 a0 a1 a2 a3 a4 a5 a6 CD
 have CF:Hid (Calls Tryz.prog 95 #[.pointer (some ⟨g,0,none⟩),.string (recT pb C)] W2 fun e w'=>e=.returned (.bool true)∧FoP pb W2 u W1.heap.size g mb o.ms.length M C w'):=by
  obtain ⟨kk,p1,q1,hds⟩:=QD.out.1.ds (by rw [QD.out.2.1]; exact HID.out) HLN.out.1 (by rw [QD.out.2.1]; exact HLN.out.2.1) C;exact vU_ pb u C _ kk p1 q1 _ g mb _ M W2 (by rw [QD.out.2.1]; exact HF.out) rfl hds (HT.out.2.next (X0.out.2.2.trans (QD.out.1.b.mono X0.out.2.2.size)))
 go_wp2_with fail;refine Calls.mono CF.out ?_;rintro e W3 ⟨rfl,hP⟩;have Q2:=QD.out.1.fol hP;obtain ⟨o1,M1,hq,e1,e2,e3⟩:=Q2;have Q1:=hm_ hq;have HO1:Hid (o1.x=nxt o.x (pb,C)∧o1.su=o.su∧o1.un=o.un):=⟨by rw [e1,QD.out.2.1],by rw [e2,QD.out.2.2.1],by rw [e3,QD.out.2.2.2]⟩;have hum:o1.un.length<=100000:=by rw [HO1.out.2.2]; have:=HLN.out; omega
 have CSE:Hid (∀ W,Below W1.heap.size W1 W->Calls Tryz.prog 96 #[.string (recT pb C)] W fun e w'=>e=.returned (.string (zq_ (recT pb C)))∧Below W.heap.size W w'):=fun W hW=>xM_ _ W (HT.out.1.next (X0.out.2.2.trans (hW.mono X0.out.2.2.size))) (by have:=yn_ pb C HF.out.key.2.1 HF.out.ok; omega)
 have HMD:Hid (∀ W (pf:Option Addr) (cf:Nat) ,DfI W1 W g mb (o.ms.length+1) { o1 with p3:=pf,c3:=cf,un:=o1.un++[zq_ (recT pb C)] } M1->Calls Tryz.prog 97 #[.pointer (some ⟨g,0,none⟩)] W fun e w'=>∃ p c,e=.returned (.agg #[.int .i64 o1.x.id,.int .i64 o1.x.n,.int .i64 o1.x.cut,.slice p o1.ms.length c,.slice o1.p1 o1.x.fd.length o1.c1,.slice o1.p2 o1.su.length o1.c2,.slice pf (o1.un++[zq_ (recT pb C)]).length cf])∧GRow W.heap.size w' p (zp_ o1.ms)∧o1.ms.length<=c∧Below W.heap.size W w'):=fun W pf cf h=>by
  obtain ⟨b1,b2⟩:=HB.out o1 HO1.out.1 h.cs;have hup:Up (o1.ms.map (·.c)):=by rw [<- show o1.x.cs=o1.ms.map (·.c) from h.cs]; exact h.up
  exact sI_ { o1 with p3:=pf,c3:=cf,un:=o1.un++[zq_ (recT pb C)] } g mb (o.ms.length+1) M1 o1.ms W (by omega) b2 h.x h.m (fun y hy=>by rw [h.v,sa_ hup hy]; rfl) (pY_ h.m h.v hup (by have:=HLN.out.1; omega))
 clear hP hq e1 e2 e3 QD CF HB HID HF HLN HT;go_upto_region 3 with fail;refine wp_region_held_drew (S:=fun _=>True) (by kernel_rfl) ?_ (fun hH=>?_)
 ·trivial
 have BW:Hid (Below W3.heap.size W3 W3.drew):=zd_ _;refine wTk 0 ?_;refine wTk 1 ?_;refine wTk 2 ?_;refine wTk 3 ?_;refine wTk 4 ?_;refine wTk 5 ?_;refine wTk 7 ?_;generalize W3.drew=wd at *;refine wpAnyH_ready (rs:=[6,8]) (by kernel_rfl) (by simp) ?_;refine .cons rfl (fun K hK=>?_) (.cons rfl (fun K hK=>?_) .nil);rotate_left
 ·refine wLy ?_;go_simp;go_at_call 96;refine (CSE.out _ (Q1.out.next BW.out).b).mono ?_;rintro e x0 ⟨rfl,hb⟩;replace BW:=ze_ BW hb;clear hb;(try simp only []);refine hK.out _ _ ?_ (fun hH'=>?_)
  ·(try dsimp only)
   all_goals trivial
  clear hK K hH;have hH:=hH';clear hH';refine wLy ?_;refine wpAnyH_ready (rs:=[6,9]) (by kernel_rfl) (by simp) ?_;refine .cons rfl (fun K hK=>?_) (.cons rfl (fun K hK=>?_) .nil);rotate_left
  ·refine wLy ?_;go_simp;have LT:Hid (GRow 0 (x0.alloc (.cells #[.string (zq_ (recT pb C))] 9)) (some ⟨x0.heap.size,0,none⟩) [.string (zq_ (recT pb C))]):=(y1_ (W:=x0)).grw;replace BW:=ze_ BW (zb_ x0 (.cells #[.string (zq_ (recT pb C))] 9));(try simp only []);refine hK.out _ _ ?_ (fun hH'=>?_)
   ·(try dsimp only)
    all_goals trivial
   clear hK K hH;have hH:=hH';clear hH';refine wLy ?_;generalize x0.alloc (.cells #[.string (zq_ (recT pb C))] 9)=x1 at *;generalize x0.heap.size=gl at *;refine wpAnyH_ready (rs:=[6]) (by kernel_rfl) (by simp) ?_;refine .cons rfl (fun K hK=>?_) .nil;obtain ⟨b0,b1,b2,b3,b4,b5,b6,b7⟩:=(Q1.out.next BW.out).x.c8;refine wLy ?_;go_simp;(try simp only []);refine hK.out _ _ ?_ (fun hH'=>?_)
   ·(try dsimp only)
    all_goals trivial
   clear hK K hH;have hH:=hH';clear hH';refine wLy ?_;clear b0 b1 b2 b3 b4 b5 b6 b7;refine wRd 10 (fun K hK=>?_);rw [if_pos (by rfl)];refine zx_ elT (.tmp 17) (.tmp 20) rfl (Value.slice o1.p3 o1.un.length o1.c3) o1.un.length (V o1.un) W1.heap.size (o1.un.length+1) rfl (Q1.out.next BW.out).t (by have h1:=(Q1.out.next BW.out).b.size; omega) (some ⟨gl,0,none⟩) 1 1 [.string (zq_ (recT pb C))] rfl rfl (q3_ _) 0 LT.out (by omega) rfl ?_;intro pf cf x2 hO8 hG8 _;rw [q4_] at hO8;have OW:Hid (OwnG x2 9 1 (Value.slice pf (o1.un.length+1) cf) (o1.un.length+1) (V (o1.un++[zq_ (recT pb C)])) W1.heap.size∧Gro x1 x2 (Value.slice o1.p3 o1.un.length o1.c3) (Value.slice pf (o1.un.length+1) cf)):=⟨hO8,hG8⟩;clear hO8 hG8;(try simp only []);refine hK.out _ _ ?_ (fun hH'=>?_)
   ·(try dsimp only)
    all_goals trivial
   clear hK K hH;have hH:=hH';clear hH';refine wLy ?_;refine wTk 11 ?_;refine wTk 12 ?_;refine wTk 13 ?_;refine wTk 14 ?_;have PX:Hid (DfI W1 (x2.setCell ⟨g,6,none⟩ (.slice pf (o1.un.length+1) cf)) g mb (o.ms.length+1) { o1 with p3:=pf,c3:=cf,un:=o1.un++[zq_ (recT pb C)] } M1):=(Q1.out.next BW.out).app OW.out.1 OW.out.2;have DX:Hid (Box x2 g [.int .i64 o1.x.id,.int .i64 o1.x.n,.int .i64 o1.x.cut,.slice none 0 0,.slice o1.p1 o1.x.fd.length o1.c1,.slice o1.p2 o1.su.length o1.c2,.slice o1.p3 o1.un.length o1.c3,.map (some mb)]):=(Q1.out.next BW.out).x.kp (Kp.of_gro OW.out.2) (fun e=>((Q1.out.next BW.out).nt _ e).1 rfl);obtain ⟨b0,b1,b2,b3,b4,b5,b6,b7⟩:=DX.out.c8;obtain ⟨f0,f1,f2,f3,f4,f5,f6,f7⟩:=DX.out.f8;refine wRd 15 (fun K hK=>?_);go_simp;(try simp only []);refine hK.out _ _ ?_ (fun hH'=>?_)
   ·(try dsimp only)
    all_goals trivial
   clear hK K hH;have hH:=hH';clear hH';refine wLy ?_;refine wDn ?_;clear hH b0 b1 b2 b3 b4 b5 b6 b7 f0 f1 f2 f3 f4 f5 f6 f7 DX OW LT Q1 BW CSE;generalize x2.setCell ⟨g,6,none⟩ (.slice pf (o1.un.length+1) cf)=x3 at *;have MD:Hid _:=HMD.out x3 _ _ PX.out;go_wp2_with fail;refine Calls.mono MD.out ?_;rintro e W2 ⟨p9,c9,rfl,hg9,hc9,hb⟩;have Q3:Hid (DfI W1 W2 g mb (o.ms.length+1) { o1 with p3:=pf,c3:=cf,un:=o1.un++[zq_ (recT pb C)] } M1∧GRow W1.heap.size W2 p9 (zp_ o1.ms)∧o1.ms.length<=c9):=⟨PX.out.next hb,hg9.weak PX.out.b.size,hc9⟩;clear hg9 hc9 hb HMD MD PX;have ZX:Hid (Box W2 (w.heap.size+1) nZ):=X0.out.2.1.next Q3.out.1.b;obtain ⟨a0,a1,a2,a3,a4,a5,a6⟩:=ZX.out.c7;obtain ⟨f0,f1,f2,f3,f4,f5,f6⟩:=ZX.out.f7;go_wp2;refine bodyPost_ret (v:=.agg #[.int .i64 o1.x.id,.int .i64 o1.x.n,.int .i64 o1.x.cut,.slice p9 o1.ms.length c9,.slice o1.p1 o1.x.fd.length o1.c1,.slice o1.p2 o1.su.length o1.c2,.slice pf (o1.un++[zq_ (recT pb C)]).length cf]) (by simp [results,Tryz.results43,go_sem, *]) rfl ?_;obtain ⟨D3,hg9,hc9⟩:=Q3.out;have hz:=X0.out.2.1.lt;obtain ⟨_,_,e1,hc1,hg1⟩:=D3.f.grow;cases e1;obtain ⟨_,_,e2,hc2,hg2⟩:=D3.s.grow;cases e2;obtain ⟨_,_,e3,hc3,hg3⟩:=D3.t.grow;cases e3;refine ⟨⟨o1.x,o1.ms,p9,c9,o1.p1,o1.c1,o1.p2,o1.c2,pf,cf,o1.su,o1.un++[zq_ (recT pb C)]⟩,rfl,?_,HO1.out.1,HO1.out.2.1,by show o1.un++_=_; rw [HO1.out.2.2],?_⟩
   ·have N1:NoR W1.heap.size W2 ⟨o1.x,o1.ms,p9,c9,o1.p1,o1.c1,o1.p2,o1.c2,pf,cf,o1.su,o1.un++[zq_ (recT pb C)]⟩:=⟨D3.cs,hg9,hg1,hg2,hg3,D3.r,hc9,hc1,hc2,hc3⟩;refine NoR.weak (lo:=W1.heap.size) ?_ X0.out.2.2.size;exact ((((((N1.keep (zc_ (by omega))).keep (zc_ (by omega))).keep (zc_ (by omega))).keep (zc_ (by omega))).keep (zc_ (by omega))).keep (zc_ (by omega))).keep (zc_ (by omega))
   ·exact yq_ (X0.out.2.2.trans (D3.b.mono X0.out.2.2.size)) (by omega)
  obtain ⟨b0,b1,b2,b3,b4,b5,b6,b7⟩:=(Q1.out.next BW.out).x.c8;refine wLy ?_;go_simp;(try simp only []);refine hK.out _ _ ?_ (fun hH'=>?_)
  ·(try dsimp only)
   all_goals trivial
  clear hK K hH;have hH:=hH';clear hH';refine wLy ?_;clear b0 b1 b2 b3 b4 b5 b6 b7;refine wRd 9 (fun K hK=>?_);go_simp;have LT:Hid (GRow 0 (x0.alloc (.cells #[.string (zq_ (recT pb C))] 9)) (some ⟨x0.heap.size,0,none⟩) [.string (zq_ (recT pb C))]):=(y1_ (W:=x0)).grw;replace BW:=ze_ BW (zb_ x0 (.cells #[.string (zq_ (recT pb C))] 9));(try simp only []);refine hK.out _ _ ?_ (fun hH'=>?_)
  ·(try dsimp only)
   all_goals trivial
  clear hK K hH;have hH:=hH';clear hH';refine wLy ?_;generalize x0.alloc (.cells #[.string (zq_ (recT pb C))] 9)=x1 at *;generalize x0.heap.size=gl at *;refine wRd 10 (fun K hK=>?_);rw [if_pos (by rfl)];refine zx_ elT (.tmp 17) (.tmp 20) rfl (Value.slice o1.p3 o1.un.length o1.c3) o1.un.length (V o1.un) W1.heap.size (o1.un.length+1) rfl (Q1.out.next BW.out).t (by have h1:=(Q1.out.next BW.out).b.size; omega) (some ⟨gl,0,none⟩) 1 1 [.string (zq_ (recT pb C))] rfl rfl (q3_ _) 0 LT.out (by omega) rfl ?_;intro pf cf x2 hO8 hG8 _;rw [q4_] at hO8;have OW:Hid (OwnG x2 9 1 (Value.slice pf (o1.un.length+1) cf) (o1.un.length+1) (V (o1.un++[zq_ (recT pb C)])) W1.heap.size∧Gro x1 x2 (Value.slice o1.p3 o1.un.length o1.c3) (Value.slice pf (o1.un.length+1) cf)):=⟨hO8,hG8⟩;clear hO8 hG8;(try simp only []);refine hK.out _ _ ?_ (fun hH'=>?_)
  ·(try dsimp only)
   all_goals trivial
  clear hK K hH;have hH:=hH';clear hH';refine wLy ?_;refine wTk 11 ?_;refine wTk 12 ?_;refine wTk 13 ?_;refine wTk 14 ?_;have PX:Hid (DfI W1 (x2.setCell ⟨g,6,none⟩ (.slice pf (o1.un.length+1) cf)) g mb (o.ms.length+1) { o1 with p3:=pf,c3:=cf,un:=o1.un++[zq_ (recT pb C)] } M1):=(Q1.out.next BW.out).app OW.out.1 OW.out.2;have DX:Hid (Box x2 g [.int .i64 o1.x.id,.int .i64 o1.x.n,.int .i64 o1.x.cut,.slice none 0 0,.slice o1.p1 o1.x.fd.length o1.c1,.slice o1.p2 o1.su.length o1.c2,.slice o1.p3 o1.un.length o1.c3,.map (some mb)]):=(Q1.out.next BW.out).x.kp (Kp.of_gro OW.out.2) (fun e=>((Q1.out.next BW.out).nt _ e).1 rfl);obtain ⟨b0,b1,b2,b3,b4,b5,b6,b7⟩:=DX.out.c8;obtain ⟨f0,f1,f2,f3,f4,f5,f6,f7⟩:=DX.out.f8;refine wRd 15 (fun K hK=>?_);go_simp;(try simp only []);refine hK.out _ _ ?_ (fun hH'=>?_)
  ·(try dsimp only)
   all_goals trivial
  clear hK K hH;have hH:=hH';clear hH';refine wLy ?_;refine wDn ?_;clear hH b0 b1 b2 b3 b4 b5 b6 b7 f0 f1 f2 f3 f4 f5 f6 f7 DX OW LT Q1 BW CSE;generalize x2.setCell ⟨g,6,none⟩ (.slice pf (o1.un.length+1) cf)=x3 at *;have MD:Hid _:=HMD.out x3 _ _ PX.out;go_wp2_with fail;refine Calls.mono MD.out ?_;rintro e W2 ⟨p9,c9,rfl,hg9,hc9,hb⟩;have Q3:Hid (DfI W1 W2 g mb (o.ms.length+1) { o1 with p3:=pf,c3:=cf,un:=o1.un++[zq_ (recT pb C)] } M1∧GRow W1.heap.size W2 p9 (zp_ o1.ms)∧o1.ms.length<=c9):=⟨PX.out.next hb,hg9.weak PX.out.b.size,hc9⟩;clear hg9 hc9 hb HMD MD PX;have ZX:Hid (Box W2 (w.heap.size+1) nZ):=X0.out.2.1.next Q3.out.1.b;obtain ⟨a0,a1,a2,a3,a4,a5,a6⟩:=ZX.out.c7;obtain ⟨f0,f1,f2,f3,f4,f5,f6⟩:=ZX.out.f7;go_wp2;refine bodyPost_ret (v:=.agg #[.int .i64 o1.x.id,.int .i64 o1.x.n,.int .i64 o1.x.cut,.slice p9 o1.ms.length c9,.slice o1.p1 o1.x.fd.length o1.c1,.slice o1.p2 o1.su.length o1.c2,.slice pf (o1.un++[zq_ (recT pb C)]).length cf]) (by simp [results,Tryz.results43,go_sem, *]) rfl ?_;obtain ⟨D3,hg9,hc9⟩:=Q3.out;have hz:=X0.out.2.1.lt;obtain ⟨_,_,e1,hc1,hg1⟩:=D3.f.grow;cases e1;obtain ⟨_,_,e2,hc2,hg2⟩:=D3.s.grow;cases e2;obtain ⟨_,_,e3,hc3,hg3⟩:=D3.t.grow;cases e3;refine ⟨⟨o1.x,o1.ms,p9,c9,o1.p1,o1.c1,o1.p2,o1.c2,pf,cf,o1.su,o1.un++[zq_ (recT pb C)]⟩,rfl,?_,HO1.out.1,HO1.out.2.1,by show o1.un++_=_; rw [HO1.out.2.2],?_⟩
  ·have N1:NoR W1.heap.size W2 ⟨o1.x,o1.ms,p9,c9,o1.p1,o1.c1,o1.p2,o1.c2,pf,cf,o1.su,o1.un++[zq_ (recT pb C)]⟩:=⟨D3.cs,hg9,hg1,hg2,hg3,D3.r,hc9,hc1,hc2,hc3⟩;refine NoR.weak (lo:=W1.heap.size) ?_ X0.out.2.2.size;exact ((((((N1.keep (zc_ (by omega))).keep (zc_ (by omega))).keep (zc_ (by omega))).keep (zc_ (by omega))).keep (zc_ (by omega))).keep (zc_ (by omega))).keep (zc_ (by omega))
  ·exact yq_ (X0.out.2.2.trans (D3.b.mono X0.out.2.2.size)) (by omega)
 obtain ⟨b0,b1,b2,b3,b4,b5,b6,b7⟩:=(Q1.out.next BW.out).x.c8;refine wLy ?_;go_simp;(try simp only []);refine hK.out _ _ ?_ (fun hH'=>?_)
 ·(try dsimp only)
  all_goals trivial
 clear hK K hH;have hH:=hH';clear hH';refine wLy ?_;clear b0 b1 b2 b3 b4 b5 b6 b7;refine wRd 8 (fun K hK=>?_);go_simp;go_at_call 96;refine (CSE.out _ (Q1.out.next BW.out).b).mono ?_;rintro e x0 ⟨rfl,hb⟩;replace BW:=ze_ BW hb;clear hb;(try simp only []);refine hK.out _ _ ?_ (fun hH'=>?_)
 ·(try dsimp only)
  all_goals trivial
 clear hK K hH;have hH:=hH';clear hH';refine wLy ?_;refine wRd 9 (fun K hK=>?_);go_simp;have LT:Hid (GRow 0 (x0.alloc (.cells #[.string (zq_ (recT pb C))] 9)) (some ⟨x0.heap.size,0,none⟩) [.string (zq_ (recT pb C))]):=(y1_ (W:=x0)).grw;replace BW:=ze_ BW (zb_ x0 (.cells #[.string (zq_ (recT pb C))] 9));(try simp only []);refine hK.out _ _ ?_ (fun hH'=>?_)
 ·(try dsimp only)
  all_goals trivial
 clear hK K hH;have hH:=hH';clear hH';refine wLy ?_;generalize x0.alloc (.cells #[.string (zq_ (recT pb C))] 9)=x1 at *;generalize x0.heap.size=gl at *;refine wRd 10 (fun K hK=>?_);rw [if_pos (by rfl)];refine zx_ elT (.tmp 17) (.tmp 20) rfl (Value.slice o1.p3 o1.un.length o1.c3) o1.un.length (V o1.un) W1.heap.size (o1.un.length+1) rfl (Q1.out.next BW.out).t (by have h1:=(Q1.out.next BW.out).b.size; omega) (some ⟨gl,0,none⟩) 1 1 [.string (zq_ (recT pb C))] rfl rfl (q3_ _) 0 LT.out (by omega) rfl ?_;intro pf cf x2 hO8 hG8 _;rw [q4_] at hO8;have OW:Hid (OwnG x2 9 1 (Value.slice pf (o1.un.length+1) cf) (o1.un.length+1) (V (o1.un++[zq_ (recT pb C)])) W1.heap.size∧Gro x1 x2 (Value.slice o1.p3 o1.un.length o1.c3) (Value.slice pf (o1.un.length+1) cf)):=⟨hO8,hG8⟩;clear hO8 hG8;(try simp only []);refine hK.out _ _ ?_ (fun hH'=>?_)
 ·(try dsimp only)
  all_goals trivial
 clear hK K hH;have hH:=hH';clear hH';refine wLy ?_;refine wTk 11 ?_;refine wTk 12 ?_;refine wTk 13 ?_;refine wTk 14 ?_;have PX:Hid (DfI W1 (x2.setCell ⟨g,6,none⟩ (.slice pf (o1.un.length+1) cf)) g mb (o.ms.length+1) { o1 with p3:=pf,c3:=cf,un:=o1.un++[zq_ (recT pb C)] } M1):=(Q1.out.next BW.out).app OW.out.1 OW.out.2;have DX:Hid (Box x2 g [.int .i64 o1.x.id,.int .i64 o1.x.n,.int .i64 o1.x.cut,.slice none 0 0,.slice o1.p1 o1.x.fd.length o1.c1,.slice o1.p2 o1.su.length o1.c2,.slice o1.p3 o1.un.length o1.c3,.map (some mb)]):=(Q1.out.next BW.out).x.kp (Kp.of_gro OW.out.2) (fun e=>((Q1.out.next BW.out).nt _ e).1 rfl);obtain ⟨b0,b1,b2,b3,b4,b5,b6,b7⟩:=DX.out.c8;obtain ⟨f0,f1,f2,f3,f4,f5,f6,f7⟩:=DX.out.f8;refine wRd 15 (fun K hK=>?_);go_simp;(try simp only []);refine hK.out _ _ ?_ (fun hH'=>?_)
 ·(try dsimp only)
  all_goals trivial
 clear hK K hH;have hH:=hH';clear hH';refine wLy ?_;refine wDn ?_;clear hH b0 b1 b2 b3 b4 b5 b6 b7 f0 f1 f2 f3 f4 f5 f6 f7 DX OW LT Q1 BW CSE;generalize x2.setCell ⟨g,6,none⟩ (.slice pf (o1.un.length+1) cf)=x3 at *;have MD:Hid _:=HMD.out x3 _ _ PX.out;go_wp2_with fail;refine Calls.mono MD.out ?_;rintro e W2 ⟨p9,c9,rfl,hg9,hc9,hb⟩;have Q3:Hid (DfI W1 W2 g mb (o.ms.length+1) { o1 with p3:=pf,c3:=cf,un:=o1.un++[zq_ (recT pb C)] } M1∧GRow W1.heap.size W2 p9 (zp_ o1.ms)∧o1.ms.length<=c9):=⟨PX.out.next hb,hg9.weak PX.out.b.size,hc9⟩;clear hg9 hc9 hb HMD MD PX;have ZX:Hid (Box W2 (w.heap.size+1) nZ):=X0.out.2.1.next Q3.out.1.b;obtain ⟨a0,a1,a2,a3,a4,a5,a6⟩:=ZX.out.c7;obtain ⟨f0,f1,f2,f3,f4,f5,f6⟩:=ZX.out.f7;go_wp2;refine bodyPost_ret (v:=.agg #[.int .i64 o1.x.id,.int .i64 o1.x.n,.int .i64 o1.x.cut,.slice p9 o1.ms.length c9,.slice o1.p1 o1.x.fd.length o1.c1,.slice o1.p2 o1.su.length o1.c2,.slice pf (o1.un++[zq_ (recT pb C)]).length cf]) (by simp [results,Tryz.results43,go_sem, *]) rfl ?_;obtain ⟨D3,hg9,hc9⟩:=Q3.out;have hz:=X0.out.2.1.lt;obtain ⟨_,_,e1,hc1,hg1⟩:=D3.f.grow;cases e1;obtain ⟨_,_,e2,hc2,hg2⟩:=D3.s.grow;cases e2;obtain ⟨_,_,e3,hc3,hg3⟩:=D3.t.grow;cases e3;refine ⟨⟨o1.x,o1.ms,p9,c9,o1.p1,o1.c1,o1.p2,o1.c2,pf,cf,o1.su,o1.un++[zq_ (recT pb C)]⟩,rfl,?_,HO1.out.1,HO1.out.2.1,by show o1.un++_=_; rw [HO1.out.2.2],?_⟩
 ·have N1:NoR W1.heap.size W2 ⟨o1.x,o1.ms,p9,c9,o1.p1,o1.c1,o1.p2,o1.c2,pf,cf,o1.su,o1.un++[zq_ (recT pb C)]⟩:=⟨D3.cs,hg9,hg1,hg2,hg3,D3.r,hc9,hc1,hc2,hc3⟩;refine NoR.weak (lo:=W1.heap.size) ?_ X0.out.2.2.size;exact ((((((N1.keep (zc_ (by omega))).keep (zc_ (by omega))).keep (zc_ (by omega))).keep (zc_ (by omega))).keep (zc_ (by omega))).keep (zc_ (by omega))).keep (zc_ (by omega))
 ·exact yq_ (X0.out.2.2.trans (D3.b.mono X0.out.2.2.size)) (by omega)
end
section
variable {W w:World} {o:No}
structure RtN (w:World) (o:No):Prop where
 r:NoR 0 w o
 m:o.ms.length < 100
 f:o.x.fd.length<=100000
 s:o.su.length+o.un.length < 300
 l:∀ m ∈ o.ms,m.c.l.length<=1000
 k:∀ m ∈ o.ms,m.c.k.size<=6
 u:Up o.x.cs
 d:o.x.id=0∨o.x.id=1∨o.x.id=2
 i:∀ W,Below w.heap.size w W->Calls Tryz.prog 17 #[nV o] W fun e w'=>e=.returned (.bool true)∧Below W.heap.size W w'
 t:TB w
 x:MX w
theorem RtN.next (h:RtN w o) (hb:Below w.heap.size w W):RtN W o:=⟨h.r.next hb,h.m,h.f,h.s,h.l,h.k,h.u,h.d,fun W2 h2=>h.i W2 (hb.trans (h2.mono hb.size)),h.t.next hb,h.x.next hb⟩
theorem RtN.up (h:RtN w o):Up (o.ms.map (·.c)):=by rw [<- h.r.cs]; exact h.u
theorem sV_ (o:No) (s:ByteArray) (w:World) (hs:keyP s) (h:RtN w o):Calls Tryz.prog 37 #[nV o,.string s] w fun e w'=>e=.returned (.int .i64 0)∧Below w.heap.size w w':=by
 (try unfold nV);have hz:s.size<=6:=hs.2.1;have hz':¬ (65536:Int) < (s.size:Int):=by omega
 have CI:=hm_ h.i;have CK:Hid (∀ W,Calls Tryz.prog 85 #[.string s] W fun e w'=>e=.returned (.bool true)∧Below W.heap.size W w'):=fun W=>x6_ s true ⟨fun _=>hs,fun _=>rfl⟩ W (by omega)
 have X:Hid (Box (w.alloc (.cells (nL o).toArray 29)) w.heap.size (nL o)∧Below w.heap.size w (w.alloc (.cells (nL o).toArray 29))):=⟨zn_,zb_ _ _⟩;clear h hs;go_enter Tryz.func37,Tryz.ntmps37;go_upto_region 1 with fail;generalize (w.alloc (.cells (nL o).toArray 29))=W0 at *;obtain ⟨a0,a1,a2,a3,a4,a5,a6⟩:=X.out.1.c7;go_wp2_with fail;refine Calls.mono (CI.out _ X.out.2) ?_;rintro e W1 ⟨rfl,hb⟩;have B1:Hid (Below w.heap.size w W1):=X.out.2.trans (hb.mono X.out.2.size);clear hb a0 a1 a2 a3 a4 a5 a6 X;go_wp2_with fail;refine Calls.mono (CK.out _) ?_;rintro e W2 ⟨rfl,hb⟩;have B2:Hid (Below w.heap.size w W2):=B1.out.trans (hb.mono B1.out.size);clear hb B1;go_wp2;go_ret;exact ⟨rfl,B2.out⟩
def OaP (w:World) (C:Cl) (e:Ending) (w':World):Prop:=∃ p q,e=.returned (.tuple #[.agg #[.slice p C.l.length q,.int .i64 C.a,.int .i64 C.b,.int .i64 C.c],.int .i64 0])∧GRow w.heap.size w' p (flat C.l)∧C.l.length<=q∧Below w.heap.size w w'
theorem tv_ (o:No) (s:ByteArray) (w:World) (hs:keyP s) (h:RtN w o):Calls Tryz.prog 10 #[nV o,.string s] w (OaP w (atC s o.x.cs)):=by
 (try unfold nV);have X:Hid (Box ((w.alloc (.cells (nL o).toArray 29)).alloc (.cells #[.slice none 0 0,.int .i64 0,.int .i64 0,.int .i64 0] 37)) w.heap.size (nL o)∧Box ((w.alloc (.cells (nL o).toArray 29)).alloc (.cells #[.slice none 0 0,.int .i64 0,.int .i64 0,.int .i64 0] 37)) (w.heap.size+1) [.slice none 0 0,.int .i64 0,.int .i64 0,.int .i64 0]∧Below w.heap.size w ((w.alloc (.cells (nL o).toArray 29)).alloc (.cells #[.slice none 0 0,.int .i64 0,.int .i64 0,.int .i64 0] 37))):=⟨zn_.alloc,by have:=zn_ (W:=(w.alloc (.cells (nL o).toArray 29))) (t:=37) (vs:=[.slice none 0 0,.int .i64 0,.int .i64 0,.int .i64 0]); simpa using this,x1_⟩;have CF:Hid (∀ W,Below w.heap.size w W->Calls Tryz.prog 37 #[nV o,.string s] W fun e w'=>e=.returned (.int .i64 0)∧Below W.heap.size W w'):=fun W hW=>sV_ o s W hs (h.next hW)
 have CO:Hid (∀ W,Below w.heap.size w W->Calls Tryz.prog 38 #[nV o,.string s] W (ObP W (atC s o.x.cs))):=fun W hW=>uZ_ 0 o s W hs.2.1 (by have:=h.m; omega) h.l h.k h.up (h.r.next hW)
 clear h hs;generalize atC s o.x.cs=C at *;go_enter Tryz.func10,Tryz.ntmps10;go_upto_region 1 with fail;generalize ((w.alloc (.cells (nL o).toArray 29)).alloc (.cells #[.slice none 0 0,.int .i64 0,.int .i64 0,.int .i64 0] 37))=W0 at *;obtain ⟨a0,a1,a2,a3,a4,a5,a6⟩:=X.out.1.c7;go_wp2_with fail;refine Calls.mono (CF.out _ X.out.2.2) ?_;rintro e W1 ⟨rfl,hb⟩;replace X:Hid (Box W1 w.heap.size (nL o)∧Box W1 (w.heap.size+1) [.slice none 0 0,.int .i64 0,.int .i64 0,.int .i64 0]∧Below w.heap.size w W1):=⟨X.out.1.next hb,X.out.2.1.next hb,X.out.2.2.trans (hb.mono X.out.2.2.size)⟩;clear hb a0 a1 a2 a3 a4 a5 a6 CF;obtain ⟨a0,a1,a2,a3,a4,a5,a6⟩:=X.out.1.c7;go_wp2_with fail;refine Calls.mono (CO.out _ X.out.2.2) ?_;rintro e W2 ⟨p,q,rfl,hg,hq,hb⟩;have Y:Hid (Box W2 (w.heap.size+1) [.slice none 0 0,.int .i64 0,.int .i64 0,.int .i64 0]∧Below w.heap.size w W2∧GRow W1.heap.size W2 p (flat C.l)∧C.l.length<=q∧w.heap.size+1 < W1.heap.size):=⟨X.out.2.1.next hb,X.out.2.2.trans (hb.mono X.out.2.2.size),hg,hq,X.out.2.1.lt⟩;clear hb hg hq a0 a1 a2 a3 a4 a5 a6 CO X;obtain ⟨b0,b1,b2,b3⟩:=Y.out.1.c4;obtain ⟨g0,g1,g2,g3⟩:=Y.out.1.f4;go_wp2;refine bodyPost_ret (v:=.tuple #[.agg #[.slice p C.l.length q,.int .i64 C.a,.int .i64 C.b,.int .i64 C.c],.int .i64 0]) (by simp [results,Tryz.results10,go_sem, *]) rfl ?_;have hlt:=Y.out.2.2.2.2;refine ⟨p,q,rfl,?_,Y.out.2.2.2.1,zt_ (zt_ (zt_ (zt_ Y.out.2.1 (by omega)) (by omega)) (by omega)) (by omega)⟩;exact ((((Y.out.2.2.1.keep (zc_ (by omega))).keep (zc_ (by omega))).keep (zc_ (by omega))).keep (zc_ (by omega))).weak (by omega)
theorem ol_ (o:No) (s:ByteArray) (n:Nat) (w:World) (hs:s.size<=6) (hn:n<=100) (h:RtN w o):Calls Tryz.prog 88 #[nV o,.string s,.int .i64 (n:Int)] w fun e w'=>e=.returned (.int .i64 0)∧Below w.heap.size w w':=by
 (try unfold nV);have hn':¬ (100:Int) < (n:Int):=by omega
 have hsz:s.size<=maxLen:=by unfold maxLen; omega
 have hml:¬ (100:Int)<=(o.ms.length:Int):=by have:=h.m; omega
 have hsl:¬ (300:Int)<=(o.su.length:Int)+(o.un.length:Int):=by have:=h.s; omega
 have hwr:IntKind.i64.wrap ((o.su.length:Int)+(o.un.length:Int))=(o.su.length:Int)+(o.un.length:Int):=by rw [IntKind.wrap_i64]; have:=h.s; omega
 have X:Hid (Box (w.alloc (.cells (nL o).toArray 29)) w.heap.size (nL o)∧Below w.heap.size w (w.alloc (.cells (nL o).toArray 29))):=⟨zn_,zb_ _ _⟩;have CB:Hid (∀ W,Below w.heap.size w W->Calls Tryz.prog 86 #[nV o] W fun e w'=>∃ mb ns M,e=.returned (.map (some mb))∧ByK W w' mb o ns M):=fun W hW=>vm_ 0 o W (by have:=h.m; omega) h.l h.k h.up (h.r.next hW)
 have HX:=hm_ h.r.cs;clear h hs;go_enter Tryz.func88,Tryz.ntmps88;go_upto_region 1 with fail;generalize (w.alloc (.cells (nL o).toArray 29))=W0 at *;obtain ⟨a0,a1,a2,a3,a4,a5,a6⟩:=X.out.1.c7;go_wp2_with fail;refine Calls.mono (CB.out _ X.out.2) ?_;rintro e W2 ⟨mb,ns,M,rfl,hK⟩;obtain ⟨kk,p,q,hM,hg,hq⟩:=hK.had HX.out s;have LK:=hK.m.look (t:=124) Tryz.underlying9 Tryz.underlying124 (wJ_ _) true s hsz;obtain ⟨fd,hfd⟩:∃ fd,fd=(M s).isSome:=⟨_,rfl⟩;rw [hM,<- hfd] at LK;simp only [if_true] at LK;have B2:Hid (Below w.heap.size w W2∧Box W2 w.heap.size (nL o)):=⟨X.out.2.trans (hK.b.mono X.out.2.size),X.out.1.next hK.b⟩;generalize atC s o.x.cs=C at *;clear hK hM hg hq hfd a0 a1 a2 a3 a4 a5 a6 X CB HX;go_upto_region 2 with fail;refine zH_ (fun W=>Below w.heap.size w W∧Box W w.heap.size (nL o)) ⟨B2.out.1.trans ((zb_ _ _).mono B2.out.1.size),B2.out.2.alloc⟩ (fun W3 hI=>?_);clear LK B2;obtain ⟨a0,a1,a2,a3,a4,a5,a6⟩:=hI.2.c7;have B3:=hm_ hI.1;clear hI;cases fd
 ·go_wp2;go_ret;exact ⟨rfl,B3.out⟩
 ·go_wp2;go_ret;exact ⟨rfl,B3.out⟩
theorem ub_ (pb:Bool) (C:Cl) (p:Option Addr) (q:Nat) (w:World) (hkz:C.k.size<=6) (hC:OkP C.l C.a C.b C.c) (hr:zk_ w p C.l) (ht:TB w):Calls Tryz.prog 44 #[.string ⟨(yj_ pb).toArray⟩,.string C.k,.agg #[.slice p C.l.length q,.int .i64 C.a,.int .i64 C.b,.int .i64 C.c]] w fun e w'=>e=.returned (.string (recT pb C))∧Below w.heap.size w w':=by
 have CT:Hid (∀ W,Below w.heap.size w W->Calls Tryz.prog 98 #[.agg #[.slice p C.l.length q,.int .i64 C.a,.int .i64 C.b,.int .i64 C.c]] W fun e w'=>e=.returned (.tuple #[.string ⟨(objT (vvT C.a C.b C.c) C.l).toArray⟩,.int .i64 0])∧Below W.heap.size W w'):=fun W hW=>tg_ q p C.l C.a C.b C.c _ 0 ⟨fun _=>⟨rfl,rfl⟩,fun h=>(h hC).elim⟩ W (by have:=hC.1; omega) (zk_.next hW hr) (ht.next hW)
 have X:Hid (Box (w.alloc (.cells #[.slice p C.l.length q,.int .i64 C.a,.int .i64 C.b,.int .i64 C.c] 37)) w.heap.size [.slice p C.l.length q,.int .i64 C.a,.int .i64 C.b,.int .i64 C.c]∧Below w.heap.size w (w.alloc (.cells #[.slice p C.l.length q,.int .i64 C.a,.int .i64 C.b,.int .i64 C.c] 37))):=⟨zn_,zb_ _ _⟩
 have HE:Hid ((((⟨(yj_ pb).toArray⟩:ByteArray)++⟨#[32]⟩++C.k)++⟨#[32]⟩)++⟨(objT (vvT C.a C.b C.c) C.l).toArray⟩=recT pb C):=by
  show _=_
  unfold recT;cases pb <;> rfl
 have hz:(⟨(objT (vvT C.a C.b C.c) C.l).toArray⟩:ByteArray).size<=4000:=by rw [wZ_]; exact y9_ hC
 have hw:(⟨(yj_ pb).toArray⟩:ByteArray).size<=4:=by cases pb <;> decide
 clear hC hr ht;generalize (⟨(objT (vvT C.a C.b C.c) C.l).toArray⟩:ByteArray)=tx at *;generalize (⟨(yj_ pb).toArray⟩:ByteArray)=wd at *;have z1:(⟨#[32]⟩:ByteArray).size=1:=rfl;have o1:¬ 9223372036854775807 < wd.size+1:=by omega
 have o2:¬ 9223372036854775807 < wd.size+1+C.k.size:=by omega
 have o3:¬ 9223372036854775807 < wd.size+1+C.k.size+1:=by omega
 have o4:¬ 9223372036854775807 < wd.size+1+C.k.size+1+tx.size:=by omega
 clear hz hw hkz;go_enter Tryz.func44,Tryz.ntmps44;go_upto_region 1 with fail;generalize (w.alloc (.cells #[.slice p C.l.length q,.int .i64 C.a,.int .i64 C.b,.int .i64 C.c] 37))=W0 at *;obtain ⟨a0,a1,a2,a3⟩:=X.out.1.c4;go_wp2_with fail;refine Calls.mono (CT.out _ X.out.2) ?_;rintro e W1 ⟨rfl,hb⟩;have B1:Hid (Below w.heap.size w W1):=X.out.2.trans (hb.mono X.out.2.size);clear hb a0 a1 a2 a3 X CT;go_wp2;go_ret;exact ⟨by rw [<- HE.out]; rfl,B1.out⟩
end
section
variable {C:Cl} {W W' w:World} {a c:Int} {g lo q:Nat} {l:List Sib} {o:No} {p:Option Addr} {v0 v1 v2 v3 v4 v5 v6:Value}
structure JyI (w W:World) (o:No) (C:Cl) (p:Option Addr) (q:Nat):Prop where
 x:Box W w.heap.size (nL o)
 y:Box W (w.heap.size+1) [.slice p C.l.length q,.int .i64 C.a,.int .i64 C.b,.int .i64 C.c]
 z:Box W (w.heap.size+2) nZ
 b:Below w.heap.size w W
theorem JyI.next (h:JyI w W o C p q) (hb:Below W.heap.size W W'):JyI w W' o C p q:=⟨h.x.next hb,h.y.next hb,h.z.next hb,h.b.trans (hb.mono h.b.size)⟩
theorem t2_:JyI w (((w.alloc (.cells (nL o).toArray 29)).alloc (.cells #[.slice p C.l.length q,.int .i64 C.a,.int .i64 C.b,.int .i64 C.c] 37)).alloc (.cells nZ.toArray 29)) o C p q:=by
 refine ⟨zn_.alloc.alloc,?_,?_,x1_.trans ((zb_ _ _).mono (by simp; omega))⟩
 ·have:=(zn_ (W:=w.alloc (.cells (nL o).toArray 29)) (t:=37) (vs:=[.slice p C.l.length q,.int .i64 C.a,.int .i64 C.b,.int .i64 C.c])).alloc (ob:=.cells nZ.toArray 29)
  simpa using this
 ·have:=zn_ (W:=((w.alloc (.cells (nL o).toArray 29)).alloc (.cells #[.slice p C.l.length q,.int .i64 C.a,.int .i64 C.b,.int .i64 C.c] 37))) (t:=29) (vs:=nZ)
  simpa using this
def JyP (w:World) (o:No) (C:Cl) (e:Ending) (w':World):Prop:=
 (xj_ (atC C.k o.x.cs) (jnC (atC C.k o.x.cs) C)∧∃ u:No,e=.returned (.tuple #[nV u,.bool false,.int .i64 0])∧NoR w.heap.size w' u∧u.x=o.x∧u.su=o.su∧u.un=o.un∧Below w.heap.size w w') ∨
 (¬ xj_ (atC C.k o.x.cs) (jnC (atC C.k o.x.cs) C)∧∃ u:No,e=.returned (.tuple #[nV u,.bool true,.int .i64 0])∧NoR w.heap.size w' u∧u.x=nxt o.x (false,(jnC (atC C.k o.x.cs) C))∧u.su=o.su∧u.un=o.un++[zq_ (recT false (jnC (atC C.k o.x.cs) C))]∧Below w.heap.size w w')
structure JoK (o:No) (C:Cl):Prop where
 key:keyP C.k
 okH:OkP (atC C.k o.x.cs).l (atC C.k o.x.cs).a (atC C.k o.x.cs).b (atC C.k o.x.cs).c
 okC:OkP C.l C.a C.b C.c
 okJ:OkP (jnC (atC C.k o.x.cs) C).l (jnC (atC C.k o.x.cs) C).a (jnC (atC C.k o.x.cs) C).b (jnC (atC C.k o.x.cs) C).c
 n:0<=o.x.n∧o.x.n < 9999
 kn:comp C.a C.b C.c o.x.id<=o.x.n
 f:¬ xj_ (atC C.k o.x.cs) (jnC (atC C.k o.x.cs) C)->Fol o.x (false,(jnC (atC C.k o.x.cs) C))
theorem nor7 {u:No} (h:NoR lo W u) (hg:g < lo) (hl:w.heap.size<=lo):NoR w.heap.size (((((((W.setCell ⟨g,0,none⟩ v0).setCell ⟨g,1,none⟩ v1).setCell ⟨g,2,none⟩ v2).setCell ⟨g,3,none⟩ v3).setCell ⟨g,4,none⟩ v4).setCell ⟨g,5,none⟩ v5).setCell ⟨g,6,none⟩ v6) u:=
 (((((((h.keep (zc_ hg)).keep (zc_ hg)).keep (zc_ hg)).keep (zc_ hg)).keep (zc_ hg)).keep (zc_ hg)).keep (zc_ hg)).weak hl
theorem ok_p {b:Int} (h:OkP l a b c):∀ i (h:i < l.length),0<=l[i].p∧l[i].p < 3:=fun i hi=>by
 have:=(yI_ (v7_ h _ (List.getElem_mem hi))).1
 omega
theorem td_ (o:No) (C:Cl) (p:Option Addr) (q:Nat) (w:World) (h:RtN w o) (hk:JoK o C) (hr:GRow 0 w p (flat C.l)) (hq:C.l.length<=q) :
  Calls Tryz.prog 66 #[nV o,.string C.k,.agg #[.slice p C.l.length q,.int .i64 C.a,.int .i64 C.b,.int .i64 C.c]] w (JyP w o C):=by
 (try unfold nV);have Q0:Hid (JyI w (((w.alloc (.cells (nL o).toArray 29)).alloc (.cells #[.slice p C.l.length q,.int .i64 C.a,.int .i64 C.b,.int .i64 C.c] 37)).alloc (.cells nZ.toArray 29)) o C p q):=t2_;have hcl:(C.l.length:Int)<=1048576:=by have:=hk.okC.1; omega
 have hhl:((atC C.k o.x.cs).l.length:Int)<=1048576:=by have:=hk.okH.1; omega
 have hjl:(jnC (atC C.k o.x.cs) C).l.length<=100:=hk.okJ.1;have CN:Hid (∀ W,Calls Tryz.prog 45 #[nV o] W fun e w'=>e=.returned (.agg #[.int .i64 o.x.id,.int .i64 (o.x.n+1)])∧Below W.heap.size W w'):=fun W=>x3_ o W hk.n.1 hk.n.2
 have CK:Hid (∀ W,Calls Tryz.prog 87 #[.agg #[.int .i64 C.a,.int .i64 C.b,.int .i64 C.c],.agg #[.int .i64 o.x.id,.int .i64 (o.x.n+1)]] W fun e w'=>e=.returned (.bool false)∧Below W.heap.size W w'):=fun W=>by
  have h1:=wk_ C.a C.b C.c o.x.id (o.x.n+1) W (by have:=h.d; omega) (by have:=h.d; omega);rw [show decide (o.x.n+1<=comp C.a C.b C.c o.x.id)=false from decide_eq_false (by have:=hk.kn; omega)] at h1
  exact h1
 have CO:Hid (∀ W,Below w.heap.size w W->Calls Tryz.prog 38 #[nV o,.string C.k] W (ObP W (atC C.k o.x.cs))):=fun W hW=>uZ_ 0 o C.k W hk.key.2.1 (by have:=h.m; omega) h.l h.k h.up (h.r.next hW)
 have CJ:Hid (∀ W ph qh,Below w.heap.size w W->GRow 0 W ph (flat (atC C.k o.x.cs).l)->Calls Tryz.prog 70 #[.agg #[.slice ph (atC C.k o.x.cs).l.length qh,.int .i64 (atC C.k o.x.cs).a,.int .i64 (atC C.k o.x.cs).b,.int .i64 (atC C.k o.x.cs).c],.agg #[.slice p C.l.length q,.int .i64 C.a,.int .i64 C.b,.int .i64 C.c]] W (ObP W (jnC (atC C.k o.x.cs) C))):=fun W ph qh hW hg=>by
  refine (vO_ qh q ph p (atC C.k o.x.cs).l C.l (atC C.k o.x.cs).a (atC C.k o.x.cs).b (atC C.k o.x.cs).c C.a C.b C.c W hhl hcl hq (ok_p hk.okH) (ok_p hk.okC) hg.sib (hr.next hW).sib).mono ?_;rintro e w' ⟨v,rfl,hG,hO⟩;rw [nE_ (v8_ hk.okH) (v8_ hk.okC) (sw_ hk.okH)] at hO;obtain ⟨pj,cj,rfl,hc,hgj⟩:=yi_ hO (fun k hk=>by rcases hG.fresh k hk with e | e; exact absurd e Gro.none_ne; exact e);exact ⟨pj,cj,rfl,hgj,hc,hG.below (Nat.le_refl _) (fun k hk=>absurd hk Gro.none_ne)⟩
 obtain ⟨sm,hsm⟩:∃ sm:Bool,sm=true↔xj_ (atC C.k o.x.cs) (jnC (atC C.k o.x.cs) C):=⟨@decide _ (Classical.propDecidable _),@decide_eq_true_iff _ (Classical.propDecidable _)⟩
 have CS:Hid (∀ W pj qj ph qh,GRow 0 W pj (flat (jnC (atC C.k o.x.cs) C).l)->GRow 0 W ph (flat (atC C.k o.x.cs).l)->Calls Tryz.prog 69 #[.agg #[.slice pj (jnC (atC C.k o.x.cs) C).l.length qj,.int .i64 (jnC (atC C.k o.x.cs) C).a,.int .i64 (jnC (atC C.k o.x.cs) C).b,.int .i64 (jnC (atC C.k o.x.cs) C).c],.agg #[.slice ph (atC C.k o.x.cs).l.length qh,.int .i64 (atC C.k o.x.cs).a,.int .i64 (atC C.k o.x.cs).b,.int .i64 (atC C.k o.x.cs).c]] W fun e w'=>e=.returned (.bool sm)∧Below W.heap.size W w'):=fun W pj qj ph qh h1 h2=>y2_ qj qh pj ph (jnC (atC C.k o.x.cs) C).l (atC C.k o.x.cs).l (jnC (atC C.k o.x.cs) C).a (jnC (atC C.k o.x.cs) C).b (jnC (atC C.k o.x.cs) C).c (atC C.k o.x.cs).a (atC C.k o.x.cs).b (atC C.k o.x.cs).c sm ⟨fun e=>by
   have h3:=w0_ (hsm.1 e);rw [h3.1,h3.2.1,h3.2.2.1,h3.2.2.2]
   exact y5_ _ _ _ _,fun e=>hsm.2 (by
   have h3:=w0_ e
   exact wv_ ⟨h3.1.symm,h3.2.1.symm,h3.2.2.1.symm,h3.2.2.2.symm⟩)⟩ W (by omega) hhl h1.sib h2.sib
 have CC:Hid (∀ W,Below w.heap.size w W->Calls Tryz.prog 42 #[nV o] W fun e w'=>∃ u:No,e=.returned (nV u)∧CpN W w' o u):=fun W hW=>vX_ 0 o W (by have:=h.m; omega) h.f (by have:=h.s; omega) h.l (h.r.next hW)
 have CR:Hid (∀ W,Below w.heap.size w W->Calls Tryz.prog 88 #[nV o,.string C.k,.int .i64 (((jnC (atC C.k o.x.cs) C).l.length:Nat):Int)] W fun e w'=>e=.returned (.int .i64 0)∧Below W.heap.size W w'):=fun W hW=>ol_ o C.k _ W hk.key.2.1 hjl (h.next hW)
 have CT:Hid (∀ W pj qj,Below w.heap.size w W->GRow 0 W pj (flat (jnC (atC C.k o.x.cs) C).l)->Calls Tryz.prog 44 #[.string ⟨#[106,111,105,110]⟩,.string C.k,.agg #[.slice pj (jnC (atC C.k o.x.cs) C).l.length qj,.int .i64 (jnC (atC C.k o.x.cs) C).a,.int .i64 (jnC (atC C.k o.x.cs) C).b,.int .i64 (jnC (atC C.k o.x.cs) C).c]] W fun e w'=>e=.returned (.string (recT false (jnC (atC C.k o.x.cs) C)))∧Below W.heap.size W w'):=fun W pj qj hW hg=>ub_ false (jnC (atC C.k o.x.cs) C) pj qj W hk.key.2.1 hk.okJ hg.sib (h.t.next hW)
 have CD:Hid (∀ W,sm=false->Below w.heap.size w W->Calls Tryz.prog 43 #[nV o,.string (recT false (jnC (atC C.k o.x.cs) C))] W (NtP false o (jnC (atC C.k o.x.cs) C) W)):=fun W e hW=>qe_ false 0 o (jnC (atC C.k o.x.cs) C) W (hk.f (fun e2=>by rw [hsm.2 e2] at e; cases e)) h.d h.m h.f (by have:=h.s; omega) h.l h.k h.u (h.r.next hW) (h.t.next hW) (h.x.next hW)
 have HS:=hm_ hsm;unfold JyP;clear h hk hr hq hsm hcl hhl;have HJL:=hm_ hjl;clear hjl;generalize (jnC (atC C.k o.x.cs) C)=J at *;generalize (atC C.k o.x.cs)=H at *;go_enter Tryz.func66,Tryz.ntmps66;go_upto_region 1 with fail;generalize (((w.alloc (.cells (nL o).toArray 29)).alloc (.cells #[.slice p C.l.length q,.int .i64 C.a,.int .i64 C.b,.int .i64 C.c] 37)).alloc (.cells nZ.toArray 29))=V0 at *;refine wp_region_held_drew (S:=(fun w'=>(w'.cell? ⟨w.heap.size,0,none⟩=some (.int .i64 o.x.id)∧w'.cell? ⟨w.heap.size,1,none⟩=some (.int .i64 o.x.n)∧w'.cell? ⟨w.heap.size,2,none⟩=some (.int .i64 o.x.cut)∧w'.cell? ⟨w.heap.size,3,none⟩=some (.slice o.p0 o.ms.length o.c0)∧w'.cell? ⟨w.heap.size,4,none⟩=some (.slice o.p1 o.x.fd.length o.c1)∧w'.cell? ⟨w.heap.size,5,none⟩=some (.slice o.p2 o.su.length o.c2)∧w'.cell? ⟨w.heap.size,6,none⟩=some (.slice o.p3 o.un.length o.c3))∧w'.cell? ⟨w.heap.size+1,0,none⟩=some (.slice p C.l.length q)∧w'.cell? ⟨w.heap.size+1,1,none⟩=some (.int .i64 C.a)∧w'.cell? ⟨w.heap.size+1,2,none⟩=some (.int .i64 C.b)∧w'.cell? ⟨w.heap.size+1,3,none⟩=some (.int .i64 C.c))) (by kernel_rfl) ?_ (fun hH=>?_)
 ·(try dsimp only);exact ⟨(Q0.out.next (zd_ _)).x.c7,(Q0.out.next (zd_ _)).y.c4⟩
 replace Q0:=hm_ (Q0.out.next (zd_ _));generalize V0.drew=V1 at *;refine wTk 0 ?_;refine wTk 1 ?_;refine wTk 2 ?_;refine wRd 3 (fun K hK=>?_);go_simp;go_at_call 45;refine (CN.out _).mono ?_;rintro e V2 ⟨rfl,hb⟩;(try simp only []);replace Q0:=hm_ (Q0.out.next hb);refine wHk hK (⟨Q0.out.x.c7,Q0.out.y.c4⟩) ?_;clear hK K hH hb CN;intro hH;refine wRd 4 (fun K hK=>?_);go_simp;go_at_call 87;refine (CK.out _).mono ?_;rintro e V3 ⟨rfl,hb⟩;(try simp only []);replace Q0:=hm_ (Q0.out.next hb);refine wHk hK (⟨Q0.out.x.c7,Q0.out.y.c4⟩) ?_;clear hK K hH hb CK;intro hH;refine wDn ?_;clear hH;obtain ⟨a0,a1,a2,a3,a4,a5,a6⟩:=Q0.out.x.c7;go_wp2_with fail;refine Calls.mono (CO.out _ Q0.out.b) ?_;rintro e V4 ⟨ph,qh,rfl,hg,hqh,hb⟩;clear a0 a1 a2 a3 a4 a5 a6;go_upto_region 4 with fail;refine zH_ (fun W=>JyI w W o C p q∧Box W V4.heap.size [.slice ph H.l.length qh,.int .i64 H.a,.int .i64 H.b,.int .i64 H.c]∧GRow 0 W ph (flat H.l)) ⟨(Q0.out.next hb).next (zb_ _ _),zn_,(hg.weak (Nat.zero_le _)).next (zb_ _ _)⟩ (fun V5 hI=>?_);generalize V4.heap.size=gh at *;have Q1:=hm_ hI;clear hI hg hqh hb Q0 CO;obtain ⟨a0,a1,a2,a3⟩:=Q1.out.1.y.c4;obtain ⟨b0,b1,b2,b3⟩:=Q1.out.2.1.c4;go_wp2_with fail;refine Calls.mono (CJ.out _ ph qh Q1.out.1.b Q1.out.2.2) ?_;rintro e V6 ⟨pj,qj,rfl,hg,hqj,hb⟩;clear a0 a1 a2 a3 b0 b1 b2 b3;go_upto_region 5 with fail;refine zH_ (fun W=>JyI w W o C p q∧Box W gh [.slice ph H.l.length qh,.int .i64 H.a,.int .i64 H.b,.int .i64 H.c]∧GRow 0 W ph (flat H.l)∧Box W V6.heap.size [.slice pj J.l.length qj,.int .i64 J.a,.int .i64 J.b,.int .i64 J.c]∧GRow 0 W pj (flat J.l)) ⟨(Q1.out.1.next hb).next (zb_ _ _),(Q1.out.2.1.next hb).alloc,(Q1.out.2.2.next hb).next (zb_ _ _),zn_,(hg.weak (Nat.zero_le _)).next (zb_ _ _)⟩ (fun V7 hI=>?_);have HNE:Hid (w.heap.size+2≠V6.heap.size):=by have:=(Q1.out.1.next hb).z.lt; show _≠_; omega
 generalize V6.heap.size=gj at *;have Q2:=hm_ hI;clear hI hg hqj hb Q1 CJ;obtain ⟨a0,a1,a2,a3⟩:=Q2.out.2.2.2.1.c4;obtain ⟨b0,b1,b2,b3⟩:=Q2.out.2.1.c4;go_wp2_with fail;refine Calls.mono (CS.out _ pj qj ph qh Q2.out.2.2.2.2 Q2.out.2.2.1) ?_;rintro e V8 ⟨rfl,hb⟩;have Q3:Hid (JyI w V8 o C p q∧Box V8 gj [.slice pj J.l.length qj,.int .i64 J.a,.int .i64 J.b,.int .i64 J.c]∧GRow 0 V8 pj (flat J.l)):=⟨Q2.out.1.next hb,Q2.out.2.2.2.1.next hb,Q2.out.2.2.2.2.next hb⟩;clear a0 a1 a2 a3 b0 b1 b2 b3 hb Q2 CS;obtain ⟨a0,a1,a2,a3,a4,a5,a6⟩:=Q3.out.1.x.c7;cases sm;rotate_left
 ·have HP:Hid (xj_ H J):=HS.out.1 rfl;clear HS CD;go_wp2_with fail;refine Calls.mono (CC.out _ Q3.out.1.b) ?_;rintro e V9 ⟨u,rfl,hC⟩;have Q4:Hid (NoR V8.heap.size V9 u∧u.x=o.x∧u.su=o.su∧u.un=o.un∧Box V9 (w.heap.size+2) nZ∧Below w.heap.size w V9∧w.heap.size+2 < V8.heap.size):=⟨hC.r,hC.x,hC.su,hC.un,Q3.out.1.z.next hC.b,Q3.out.1.b.trans (hC.b.mono Q3.out.1.b.size),Q3.out.1.z.lt⟩;clear a0 a1 a2 a3 a4 a5 a6 hC Q3 CC;obtain ⟨a0,a1,a2,a3,a4,a5,a6⟩:=Q4.out.2.2.2.2.1.c7;obtain ⟨f0,f1,f2,f3,f4,f5,f6⟩:=Q4.out.2.2.2.2.1.f7;go_wp2;refine bodyPost_ret (v:=.tuple #[.agg #[.int .i64 u.x.id,.int .i64 u.x.n,.int .i64 u.x.cut,.slice u.p0 u.ms.length u.c0,.slice u.p1 u.x.fd.length u.c1,.slice u.p2 u.su.length u.c2,.slice u.p3 u.un.length u.c3],.bool false,.int .i64 0]) (by simp [results,Tryz.results66,go_sem, *]) rfl ?_;have hlt:=Q4.out.2.2.2.2.2.2;exact .inl ⟨HP.out,u,rfl,nor7 Q4.out.1 hlt (by omega),Q4.out.2.1,Q4.out.2.2.1,Q4.out.2.2.2.1,yq_ Q4.out.2.2.2.2.2.1 (by omega)⟩
 have HP:Hid (¬ xj_ H J):=fun e=>Bool.noConfusion (HS.out.2 e)
 have CD':Hid (∀ W,Below w.heap.size w W->Calls Tryz.prog 43 #[nV o,.string (recT false J)] W (NtP false o J W)):=fun W hW=>CD.out W rfl hW
 clear HS CD;obtain ⟨b0,b1,b2,b3⟩:=Q3.out.2.1.c4;go_wp2_with fail;refine Calls.mono (CR.out _ Q3.out.1.b) ?_;rintro e V9 ⟨rfl,hb⟩;replace Q3:Hid (JyI w V9 o C p q∧Box V9 gj [.slice pj J.l.length qj,.int .i64 J.a,.int .i64 J.b,.int .i64 J.c]∧GRow 0 V9 pj (flat J.l)):=⟨Q3.out.1.next hb,Q3.out.2.1.next hb,Q3.out.2.2.next hb⟩;clear a0 a1 a2 a3 a4 a5 a6 b0 b1 b2 b3 hb CR CC;go_upto_region 10 with fail;refine wp_region_held_drew (S:=(fun w'=>(w'.cell? ⟨w.heap.size,0,none⟩=some (.int .i64 o.x.id)∧w'.cell? ⟨w.heap.size,1,none⟩=some (.int .i64 o.x.n)∧w'.cell? ⟨w.heap.size,2,none⟩=some (.int .i64 o.x.cut)∧w'.cell? ⟨w.heap.size,3,none⟩=some (.slice o.p0 o.ms.length o.c0)∧w'.cell? ⟨w.heap.size,4,none⟩=some (.slice o.p1 o.x.fd.length o.c1)∧w'.cell? ⟨w.heap.size,5,none⟩=some (.slice o.p2 o.su.length o.c2)∧w'.cell? ⟨w.heap.size,6,none⟩=some (.slice o.p3 o.un.length o.c3))∧w'.cell? ⟨gj,0,none⟩=some (.slice pj J.l.length qj)∧w'.cell? ⟨gj,1,none⟩=some (.int .i64 J.a)∧w'.cell? ⟨gj,2,none⟩=some (.int .i64 J.b)∧w'.cell? ⟨gj,3,none⟩=some (.int .i64 J.c))) (by kernel_rfl) ?_ (fun hH=>?_)
 ·(try dsimp only);exact ⟨(Q3.out.1.next (zd_ _)).x.c7,(Q3.out.2.1.next (zd_ _)).c4⟩
 replace Q3:Hid (JyI w V9.drew o C p q∧Box V9.drew gj [.slice pj J.l.length qj,.int .i64 J.a,.int .i64 J.b,.int .i64 J.c]∧GRow 0 V9.drew pj (flat J.l)):=⟨Q3.out.1.next (zd_ _),Q3.out.2.1.next (zd_ _),Q3.out.2.2.next (zd_ _)⟩;generalize V9.drew=Va at *;refine wTk 0 ?_;refine wTk 1 ?_;refine wTk 2 ?_;refine wRd 3 (fun K hK=>?_);go_simp;go_at_call 44;refine (CT.out _ pj qj Q3.out.1.b Q3.out.2.2).mono ?_;rintro e Vb ⟨rfl,hb⟩;(try simp only []);replace Q3:Hid (JyI w Vb o C p q∧Box Vb gj [.slice pj J.l.length qj,.int .i64 J.a,.int .i64 J.b,.int .i64 J.c]∧GRow 0 Vb pj (flat J.l)):=⟨Q3.out.1.next hb,Q3.out.2.1.next hb,Q3.out.2.2.next hb⟩;refine wHk hK (⟨Q3.out.1.x.c7,Q3.out.2.1.c4⟩) ?_;clear hK K hH hb CT;intro hH;refine wRd 4 (fun K hK=>?_);go_simp;go_at_call 43;refine (CD'.out _ Q3.out.1.b).mono ?_;rintro e Vc ⟨u,rfl,hN,e1,e2,e3,hb⟩;(try simp only []);have Q4:Hid (NoR Vb.heap.size Vc u∧u.x=nxt o.x (false,J)∧u.su=o.su∧u.un=o.un++[zq_ (recT false J)]∧w.heap.size+2 < Vb.heap.size):=⟨hN,e1,e2,e3,Q3.out.1.z.lt⟩;replace Q3:Hid (JyI w Vc o C p q∧Box Vc gj [.slice pj J.l.length qj,.int .i64 J.a,.int .i64 J.b,.int .i64 J.c]∧w.heap.size+2≠gj):=⟨Q3.out.1.next hb,Q3.out.2.1.next hb,HNE.out⟩;refine wHk hK (⟨Q3.out.1.x.c7,Q3.out.2.1.c4⟩) ?_;clear hK K hH hb CD' hN e1 e2 e3;intro hH;obtain ⟨a0,a1,a2,a3,a4,a5,a6⟩:=Q3.out.1.z.c7;obtain ⟨f0,f1,f2,f3,f4,f5,f6⟩:=Q3.out.1.z.f7;refine wRd 5 (fun K hK=>?_);go_simp;(try simp only []);refine hK.out _ _ ?_ (fun hH'=>?_)
 ·(try dsimp only);have hne:=Q3.out.2.2;exact ⟨(((((((Q3.out.1.x.oth (by omega)).oth (by omega)).oth (by omega)).oth (by omega)).oth (by omega)).oth (by omega)).oth (by omega)).c7,(((((((Q3.out.2.1.oth (by omega)).oth (by omega)).oth (by omega)).oth (by omega)).oth (by omega)).oth (by omega)).oth (by omega)).c4⟩
 clear hK K hH;have hH:=hH';clear hH';refine wLy ?_;refine wTk 6 ?_;refine wTk 7 ?_;refine wDn ?_;clear hH;have Y:=Q3.out.1.z.s7 (u0:=.int .i64 u.x.id) (u1:=.int .i64 u.x.n) (u2:=.int .i64 u.x.cut) (u3:=.slice u.p0 u.ms.length u.c0) (u4:=.slice u.p1 u.x.fd.length u.c1) (u5:=.slice u.p2 u.su.length u.c2) (u6:=.slice u.p3 u.un.length u.c3);clear a0 a1 a2 a3 a4 a5 a6 f0 f1 f2 f3 f4 f5 f6;obtain ⟨a0,a1,a2,a3,a4,a5,a6⟩:=Y.c7;clear Y;go_wp2;refine bodyPost_ret (v:=.tuple #[.agg #[.int .i64 u.x.id,.int .i64 u.x.n,.int .i64 u.x.cut,.slice u.p0 u.ms.length u.c0,.slice u.p1 u.x.fd.length u.c1,.slice u.p2 u.su.length u.c2,.slice u.p3 u.un.length u.c3],.bool true,.int .i64 0]) (by simp [results,Tryz.results66,go_sem, *]) rfl ?_;have hlt:=Q4.out.2.2.2.2;exact .inr ⟨HP.out,u,rfl,nor7 Q4.out.1 hlt (by omega),Q4.out.2.1,Q4.out.2.2.1,Q4.out.2.2.2.1,yq_ Q3.out.1.b (by omega)⟩
theorem wH_ (o:No) (C:Cl) (p:Option Addr) (q:Nat) (w:World) (h:RtN w o) (hk:JoK o C) (hr:GRow 0 w p (flat C.l)) (hq:C.l.length<=q) :
  Calls Tryz.prog 25 #[nV o,.string C.k,.agg #[.slice p C.l.length q,.int .i64 C.a,.int .i64 C.b,.int .i64 C.c]] w (JyP w o C):=by
 (try unfold nV);have Q0:Hid (JyI w (((w.alloc (.cells (nL o).toArray 29)).alloc (.cells #[.slice p C.l.length q,.int .i64 C.a,.int .i64 C.b,.int .i64 C.c] 37)).alloc (.cells nZ.toArray 29)) o C p q):=t2_;have CF:Hid (∀ W,Below w.heap.size w W->Calls Tryz.prog 37 #[nV o,.string C.k] W fun e w'=>e=.returned (.int .i64 0)∧Below W.heap.size W w'):=fun W hW=>sV_ o C.k W hk.key (h.next hW)
 have CO:Hid (∀ W,Below w.heap.size w W->Calls Tryz.prog 51 #[.agg #[.slice p C.l.length q,.int .i64 C.a,.int .i64 C.b,.int .i64 C.c]] W fun e w'=>e=.returned (.bool true)∧Below W.heap.size W w'):=fun W hW=>yJ_ q p C.l C.a C.b C.c true ⟨fun _=>hk.okC,fun _=>rfl⟩ W (by have:=hk.okC.1; omega) (hr.next hW).sib
 have CJ:Hid (∀ W,Below w.heap.size w W->Calls Tryz.prog 66 #[nV o,.string C.k,.agg #[.slice p C.l.length q,.int .i64 C.a,.int .i64 C.b,.int .i64 C.c]] W (JyP W o C)):=fun W hW=>td_ o C p q W (h.next hW) hk (hr.next hW) hq
 clear h hk hr hq;go_enter Tryz.func25,Tryz.ntmps25;go_upto_region 1 with fail;generalize (((w.alloc (.cells (nL o).toArray 29)).alloc (.cells #[.slice p C.l.length q,.int .i64 C.a,.int .i64 C.b,.int .i64 C.c] 37)).alloc (.cells nZ.toArray 29))=V0 at *;obtain ⟨a0,a1,a2,a3,a4,a5,a6⟩:=Q0.out.x.c7;go_wp2_with fail;refine Calls.mono (CF.out _ Q0.out.b) ?_;rintro e V1 ⟨rfl,hb⟩;replace Q0:=hm_ (Q0.out.next hb);clear hb a0 a1 a2 a3 a4 a5 a6 CF;obtain ⟨a0,a1,a2,a3⟩:=Q0.out.y.c4;go_wp2_with fail;refine Calls.mono (CO.out _ Q0.out.b) ?_;rintro e V2 ⟨rfl,hb⟩;replace Q0:=hm_ (Q0.out.next hb);clear hb a0 a1 a2 a3 CO;obtain ⟨a0,a1,a2,a3,a4,a5,a6⟩:=Q0.out.x.c7;obtain ⟨b0,b1,b2,b3⟩:=Q0.out.y.c4;go_wp2_with fail;refine Calls.mono (CJ.out _ Q0.out.b) ?_;intro e V3 hP;have hlt:=Q0.out.z.lt;unfold JyP;rcases hP with ⟨hs,u,rfl,hN,e1,e2,e3,hb⟩ | ⟨hs,u,rfl,hN,e1,e2,e3,hb⟩
 ·have Q4:Hid (NoR V2.heap.size V3 u∧Box V3 (w.heap.size+2) nZ∧Below w.heap.size w V3∧w.heap.size+2 < V2.heap.size):=⟨hN,Q0.out.z.next hb,Q0.out.b.trans (hb.mono Q0.out.b.size),hlt⟩;have E4:Hid (_∧u.x=_∧u.su=_∧u.un=_):=⟨hs,e1,e2,e3⟩;clear hN hs e1 e2 e3 hb a0 a1 a2 a3 a4 a5 a6 b0 b1 b2 b3 Q0 CJ hlt;obtain ⟨a0,a1,a2,a3,a4,a5,a6⟩:=Q4.out.2.1.c7;obtain ⟨f0,f1,f2,f3,f4,f5,f6⟩:=Q4.out.2.1.f7;go_wp2;refine bodyPost_ret (v:=.tuple #[.agg #[.int .i64 u.x.id,.int .i64 u.x.n,.int .i64 u.x.cut,.slice u.p0 u.ms.length u.c0,.slice u.p1 u.x.fd.length u.c1,.slice u.p2 u.su.length u.c2,.slice u.p3 u.un.length u.c3],.bool false,.int .i64 0]) (by simp [results,Tryz.results25,go_sem, *]) rfl ?_;have hlt:=Q4.out.2.2.2;exact .inl ⟨E4.out.1,u,rfl,nor7 Q4.out.1 hlt (by omega),E4.out.2.1,E4.out.2.2.1,E4.out.2.2.2,yq_ Q4.out.2.2.1 (by omega)⟩
 ·have Q4:Hid (NoR V2.heap.size V3 u∧Box V3 (w.heap.size+2) nZ∧Below w.heap.size w V3∧w.heap.size+2 < V2.heap.size):=⟨hN,Q0.out.z.next hb,Q0.out.b.trans (hb.mono Q0.out.b.size),hlt⟩;have E4:Hid (_∧u.x=_∧u.su=_∧u.un=_):=⟨hs,e1,e2,e3⟩;clear hN hs e1 e2 e3 hb a0 a1 a2 a3 a4 a5 a6 b0 b1 b2 b3 Q0 CJ hlt;obtain ⟨a0,a1,a2,a3,a4,a5,a6⟩:=Q4.out.2.1.c7;obtain ⟨f0,f1,f2,f3,f4,f5,f6⟩:=Q4.out.2.1.f7;go_wp2;refine bodyPost_ret (v:=.tuple #[.agg #[.int .i64 u.x.id,.int .i64 u.x.n,.int .i64 u.x.cut,.slice u.p0 u.ms.length u.c0,.slice u.p1 u.x.fd.length u.c1,.slice u.p2 u.su.length u.c2,.slice u.p3 u.un.length u.c3],.bool true,.int .i64 0]) (by simp [results,Tryz.results25,go_sem, *]) rfl ?_;have hlt:=Q4.out.2.2.2;exact .inr ⟨E4.out.1,u,rfl,nor7 Q4.out.1 hlt (by omega),E4.out.2.1,E4.out.2.2.1,E4.out.2.2.2,yq_ Q4.out.2.2.1 (by omega)⟩
end
theorem qr_ (o:No) (s:ByteArray) (w:World) (hs:keyP s) (hi:∀ W,Below w.heap.size w W->Calls Tryz.prog 60 #[nV o] W fun e w'=>e=.returned (.bool true)∧Below W.heap.size W w'):Calls Tryz.prog 46 #[nV o,.string s] w fun e w'=>e=.returned (.int .i64 0)∧Below w.heap.size w w':=by
 (try unfold nV);have hz:s.size<=6:=hs.2.1;have hz':¬ (65536:Int) < (s.size:Int):=by omega
 have CI:=hm_ hi;have CK:Hid (∀ W,Calls Tryz.prog 99 #[.string s] W fun e w'=>e=.returned (.bool true)∧Below W.heap.size W w'):=fun W=>wY_ s true ⟨fun _=>hs,fun _=>rfl⟩ W (by omega)
 have X:Hid (Box (w.alloc (.cells (nL o).toArray 29)) w.heap.size (nL o)∧Below w.heap.size w (w.alloc (.cells (nL o).toArray 29))):=⟨zn_,zb_ _ _⟩;clear hi hs;go_enter Tryz.func46,Tryz.ntmps46;go_upto_region 1 with fail;generalize (w.alloc (.cells (nL o).toArray 29))=W0 at *;obtain ⟨a0,a1,a2,a3,a4,a5,a6⟩:=X.out.1.c7;go_wp2_with fail;refine Calls.mono (CI.out _ X.out.2) ?_;rintro e W1 ⟨rfl,hb⟩;have B1:Hid (Below w.heap.size w W1):=X.out.2.trans (hb.mono X.out.2.size);clear hb a0 a1 a2 a3 a4 a5 a6 X;go_wp2_with fail;refine Calls.mono (CK.out _) ?_;rintro e W2 ⟨rfl,hb⟩;have B2:Hid (Below w.heap.size w W2):=B1.out.trans (hb.mono B1.out.size);clear hb B1;go_wp2;go_ret;exact ⟨rfl,B2.out⟩
theorem uK_ (o:No) (C:Cl) (p:Option Addr) (q:Nat) (w:World) (h:RtN w o) (hk:JoK o C) (hr:GRow 0 w p (flat C.l)) (hq:C.l.length<=q) (hle:comp (jnC (atC C.k o.x.cs) C).a (jnC (atC C.k o.x.cs) C).b (jnC (atC C.k o.x.cs) C).c o.x.id<=o.x.n) (hi:∀ W,Below w.heap.size w W->Calls Tryz.prog 60 #[nV o] W fun e w'=>e=.returned (.bool true)∧Below W.heap.size W w') :
  Calls Tryz.prog 26 #[nV o,.string C.k,.agg #[.slice p C.l.length q,.int .i64 C.a,.int .i64 C.b,.int .i64 C.c]] w (JyP w o C):=by
 (try unfold nV);have hz:C.k.size<=6:=hk.key.2.1;have hz':¬ (65536:Int) < (C.k.size:Int):=by omega
 have Q0:Hid (JyI w (((w.alloc (.cells (nL o).toArray 29)).alloc (.cells #[.slice p C.l.length q,.int .i64 C.a,.int .i64 C.b,.int .i64 C.c] 37)).alloc (.cells nZ.toArray 29)) o C p q):=t2_;have CF:Hid (∀ W,Below w.heap.size w W->Calls Tryz.prog 46 #[nV o,.string C.k] W fun e w'=>e=.returned (.int .i64 0)∧Below W.heap.size W w'):=fun W hW=>qr_ o C.k W hk.key (fun W2 h2=>hi W2 (hW.trans (h2.mono hW.size)))
 have CO:Hid (∀ W,Below w.heap.size w W->Calls Tryz.prog 67 #[.agg #[.slice p C.l.length q,.int .i64 C.a,.int .i64 C.b,.int .i64 C.c]] W fun e w'=>e=.returned (.bool true)∧Below W.heap.size W w'):=fun W hW=>vy_ q p C.l C.a C.b C.c true ⟨fun _=>hk.okC,fun _=>rfl⟩ W (by have:=hk.okC.1; omega) (hr.next hW).sib
 have CJ:Hid (∀ W,Below w.heap.size w W->Calls Tryz.prog 68 #[nV o,.string C.k,.agg #[.slice p C.l.length q,.int .i64 C.a,.int .i64 C.b,.int .i64 C.c]] W (JnP 0 W o C)):=fun W hW=>te_ 0 o C p q W (Nat.zero_le _) h.m h.s h.d hk.okH hk.okC hk.okJ hle hk.key.2.1 (h.r.next hW) (hr.next hW) hq
 have HU:Hid (∀ W (u:No),NoR 0 W u->(u.x=o.x∨u.x=nxt o.x (false,(jnC (atC C.k o.x.cs) C)))->(u.su=o.su∧u.un.length<=o.un.length+1)->Calls Tryz.prog 50 #[nV u] W fun e w'=>∃ v:No,e=.returned (nV v)∧NoR W.heap.size w' v∧v.x=u.x∧v.su=u.su∧v.un=u.un∧Below W.heap.size W w'):=fun W u hN hx hsu=>by
  have c1:∀ c ∈ u.x.cs,c.l.length<=1000:=fun c hc=>by
   have old:∀ c ∈ o.x.cs,c.l.length<=1000:=fun c hc=>by
    rw [h.r.cs] at hc;obtain ⟨y,hy,rfl⟩:=List.mem_map.1 hc;exact h.l y hy
   rcases hx with e | e
   ·rw [e] at hc; exact old c hc
   ·rw [e] at hc;rcases xT_ (show c ∈ setC _ _ from hc) with rfl | hc
    ·show (jnC (atC C.k o.x.cs) C).l.length<=1000
     have:=hk.okJ.1
     omega
    ·exact old c hc
  have l1:=congrArg List.length h.r.cs;have l2:=congrArg List.length hN.cs;have l3:=wQ_ o.x.cs (jnC (atC C.k o.x.cs) C);have m1:=h.m;have s1:=h.s;simp only [List.length_map] at l1 l2
  have f1:u.x.fd.length<=100000∧u.x.cs.length<=o.x.cs.length+1:=by
   rcases hx with e | e
   ·rw [e]; exact ⟨h.f,by omega⟩
   ·rw [e]; exact ⟨h.f,l3⟩
  exact wM_ 0 u W (by omega) f1.1 (by rw [hsu.1]; omega) (fun m hm=>c1 m.c (by rw [hN.cs]; exact List.mem_map_of_mem hm)) hN
 have HN0:Hid (NoR 0 w o):=h.r;unfold JyP;clear h hk hr hq hle hi;go_enter Tryz.func26,Tryz.ntmps26;go_upto_region 1 with fail;generalize (((w.alloc (.cells (nL o).toArray 29)).alloc (.cells #[.slice p C.l.length q,.int .i64 C.a,.int .i64 C.b,.int .i64 C.c] 37)).alloc (.cells nZ.toArray 29))=V0 at *;obtain ⟨a0,a1,a2,a3,a4,a5,a6⟩:=Q0.out.x.c7;go_wp2_with fail;refine Calls.mono (CF.out _ Q0.out.b) ?_;rintro e V1 ⟨rfl,hb⟩;replace Q0:=hm_ (Q0.out.next hb);clear hb a0 a1 a2 a3 a4 a5 a6 CF;obtain ⟨a0,a1,a2,a3⟩:=Q0.out.y.c4;go_wp2_with fail;refine Calls.mono (CO.out _ Q0.out.b) ?_;rintro e V2 ⟨rfl,hb⟩;replace Q0:=hm_ (Q0.out.next hb);clear hb a0 a1 a2 a3 CO;obtain ⟨a0,a1,a2,a3,a4,a5,a6⟩:=Q0.out.x.c7;obtain ⟨b0,b1,b2,b3⟩:=Q0.out.y.c4;go_wp2_with fail;refine Calls.mono (CJ.out _ Q0.out.b) ?_;intro e V3 hP;rcases hP with ⟨hs,rfl,hb⟩ | ⟨hs,u,rfl,hN,e1,e2,e3,_,hb⟩
 ·have Q4:Hid (JyI w V3 o C p q∧NoR 0 V3 o):=⟨Q0.out.next hb,HN0.out.next (Q0.out.b.trans (hb.mono Q0.out.b.size))⟩;have E4:Hid (xj_ (atC C.k o.x.cs) (jnC (atC C.k o.x.cs) C)∧True):=⟨hs,True.intro⟩;clear hs hb a0 a1 a2 a3 a4 a5 a6 b0 b1 b2 b3 Q0 CJ ;go_upto_region 9 with fail;refine zH_ (fun W=>JyI w W o C p q∧NoR 0 W o∧Box W V3.heap.size (nL o)) ⟨Q4.out.1.next (zb_ _ _),Q4.out.2.next (zb_ _ _),zn_⟩ (fun V4 hI=>?_);generalize V3.heap.size=g9 at *;have Q5:=hm_ hI;clear hI Q4;obtain ⟨a0,a1,a2,a3,a4,a5,a6⟩:=Q5.out.2.2.c7;go_wp2_with fail;refine Calls.mono (HU.out V4 o Q5.out.2.1 (.inl rfl) ⟨rfl,by omega⟩) ?_;rintro e V5 ⟨v,rfl,hv,v1,v2,v3,hb⟩;have Q6:Hid (NoR V4.heap.size V5 v∧(v.x=o.x∧v.su=o.su∧v.un=o.un)∧Box V5 (w.heap.size+2) nZ∧Below w.heap.size w V5∧w.heap.size+2 < V4.heap.size):=⟨hv,⟨v1,v2,v3⟩,Q5.out.1.z.next hb,Q5.out.1.b.trans (hb.mono Q5.out.1.b.size),Q5.out.1.z.lt⟩;clear hv v1 v2 v3 hb a0 a1 a2 a3 a4 a5 a6 Q5 HU;obtain ⟨a0,a1,a2,a3,a4,a5,a6⟩:=Q6.out.2.2.1.c7;obtain ⟨f0,f1,f2,f3,f4,f5,f6⟩:=Q6.out.2.2.1.f7;go_wp2;refine bodyPost_ret (v:=.tuple #[.agg #[.int .i64 v.x.id,.int .i64 v.x.n,.int .i64 v.x.cut,.slice v.p0 v.ms.length v.c0,.slice v.p1 v.x.fd.length v.c1,.slice v.p2 v.su.length v.c2,.slice v.p3 v.un.length v.c3],.bool false,.int .i64 0]) (by simp [results,Tryz.results26,go_sem, *]) rfl ?_;have hlt:=Q6.out.2.2.2.2;obtain ⟨q1,q2,q3⟩:=Q6.out.2.1;exact .inl ⟨E4.out.1,v,rfl,nor7 Q6.out.1 hlt (by omega),q1,q2,q3,yq_ Q6.out.2.2.2.1 (by omega)⟩
 ·have Q4:Hid (JyI w V3 o C p q∧NoR 0 V3 u):=⟨Q0.out.next hb,hN⟩;have E4:Hid (¬ xj_ (atC C.k o.x.cs) (jnC (atC C.k o.x.cs) C)∧u.x=nxt o.x (false,(jnC (atC C.k o.x.cs) C))∧u.su=o.su∧u.un=o.un++[zq_ (recT false (jnC (atC C.k o.x.cs) C))]):=⟨hs,e1,e2,e3⟩;clear hs hb a0 a1 a2 a3 a4 a5 a6 b0 b1 b2 b3 Q0 CJ hN e1 e2 e3;go_upto_region 9 with fail;refine zH_ (fun W=>JyI w W o C p q∧NoR 0 W u∧Box W V3.heap.size (nL u)) ⟨Q4.out.1.next (zb_ _ _),Q4.out.2.next (zb_ _ _),zn_⟩ (fun V4 hI=>?_);generalize V3.heap.size=g9 at *;have Q5:=hm_ hI;clear hI Q4;obtain ⟨a0,a1,a2,a3,a4,a5,a6⟩:=Q5.out.2.2.c7;go_wp2_with fail;refine Calls.mono (HU.out V4 u Q5.out.2.1 (.inr E4.out.2.1) ⟨E4.out.2.2.1,by rw [E4.out.2.2.2]; simp⟩) ?_;rintro e V5 ⟨v,rfl,hv,v1,v2,v3,hb⟩;have Q6:Hid (NoR V4.heap.size V5 v∧(v.x=u.x∧v.su=u.su∧v.un=u.un)∧Box V5 (w.heap.size+2) nZ∧Below w.heap.size w V5∧w.heap.size+2 < V4.heap.size):=⟨hv,⟨v1,v2,v3⟩,Q5.out.1.z.next hb,Q5.out.1.b.trans (hb.mono Q5.out.1.b.size),Q5.out.1.z.lt⟩;clear hv v1 v2 v3 hb a0 a1 a2 a3 a4 a5 a6 Q5 HU;obtain ⟨a0,a1,a2,a3,a4,a5,a6⟩:=Q6.out.2.2.1.c7;obtain ⟨f0,f1,f2,f3,f4,f5,f6⟩:=Q6.out.2.2.1.f7;go_wp2;refine bodyPost_ret (v:=.tuple #[.agg #[.int .i64 v.x.id,.int .i64 v.x.n,.int .i64 v.x.cut,.slice v.p0 v.ms.length v.c0,.slice v.p1 v.x.fd.length v.c1,.slice v.p2 v.su.length v.c2,.slice v.p3 v.un.length v.c3],.bool true,.int .i64 0]) (by simp [results,Tryz.results26,go_sem, *]) rfl ?_;have hlt:=Q6.out.2.2.2.2;obtain ⟨q1,q2,q3⟩:=Q6.out.2.1;exact .inr ⟨E4.out.1,v,rfl,nor7 Q6.out.1 hlt (by omega),by rw [q1,E4.out.2.1],by rw [q2,E4.out.2.2.1],by rw [q3,E4.out.2.2.2],yq_ Q6.out.2.2.2.1 (by omega)⟩
section
variable {C:Cl} {W W' w:World} {i j lo:Nat} {o:No} {rs:List (Bool × Cl)} {su un:List ByteArray}
theorem qx_ (len cap:Nat) (ao:Option Addr) (zs:List Int) (w:World) (hr:Gen.IsRow .u8 w ao len cap zs) (hl:(len:Int)<=1048576) (hold:∀ x,ao=some x->0 < cap->x.block < w.heap.size) :
  Calls Tryz.prog 8 #[.slice ao len cap] w fun e w'=>∃ s,e=.returned (.string s)∧keyP s∧Below w.heap.size w w':=by
 have CK:Hid (Calls Tryz.prog 36 #[.pointer (some ⟨w.heap.size,0,none⟩)] (w.alloc (.cells #[.slice ao len cap,.int .i64 0,.int .i64 ((len:Int) % 1000)] 117)) _):=qw_ w.heap.size len cap ao zs 0 ((len:Int) % 1000) (w.alloc (.cells #[.slice ao len cap,.int .i64 0,.int .i64 ((len:Int) % 1000)] 117)) (uG_ len cap ao w) (ym_ hr (zb_ _ _)) (fun x hx hc=>by have:=hold x hx hc; omega) hl (by omega) (by omega);clear hr hold;go_enter Tryz.func8,Tryz.ntmps8;go_wp2_with fail;refine Calls.mono (vA_ len cap ao w hl) ?_;rintro e w1 ⟨rfl,rfl⟩;go_wp2_with fail;refine Calls.mono CK.out ?_;rintro e W ⟨i,t,rfl,hS,hG⟩;have HB:Hid (Below w.heap.size w W):=(zb_ _ _).trans (vh_ hG (by simp) (Nat.le_refl _));clear hS hG CK;go_wp2;go_ret;exact ⟨_,rfl,(tp_ i).1,HB.out⟩
theorem oi_ {t:ByteArray} (h:t.size<=65536):(zq_ t).size<=1048576:=by
 have h1:=vC_ t;have h2:=yb_ t.size;have h3:=yb_ (yu_ t t.size);have h4:=yW_ t t.size;omega
theorem rU_ {V:Int->Int->Int × Bool} {m:Nat->Int} (hj:j < 3) (hr:NoR lo w o) (hI:zS_ V m j o.x o.su o.un rs) (hn:rs.length<=24) (hm:m 0<=24∧m 1<=24∧m 2<=24) (ht:TB w) (hx:MX w):RtN w o∧∀ W,Below w.heap.size w W->Calls Tryz.prog 60 #[nV o] W fun e w'=>e=.returned (.bool true)∧Below W.heap.size W w':=by
 have hid:o.x.id=(j:Int):=hI.id;have hmk:o.x=mkN o.x.id rs:=by rw [hid]; exact hI.made
 have hG:Gds o.x.id rs:=by rw [hid]; exact hI.good
 have hd:o.su++o.un=(zy_ rs).map zq_:=by rw [hI.disk]; simp [zy_]
 have hz:∀ s ∈ o.su++o.un,s.size<=1048576:=fun s hs=>by
  rw [hI.disk] at hs;obtain ⟨r,hr,rfl⟩:=List.mem_map.1 hs;obtain ⟨i,hi,rfl⟩:=List.getElem_of_mem hr;have hf:=hI.good i hi;exact oi_ (yn_ _ _ hf.key.2.1 hf.ok)
 have hc:∀ q ∈ o.ms,OkP q.c.l q.c.a q.c.b q.c.c∧keyP q.c.k:=fun q hq=>by
  have:=hI.cells q.c (by rw [hr.cs]; exact List.mem_map_of_mem hq)
  exact ⟨this.1.okP24 hm.1 hm.2.1 hm.2.2,this.2⟩
 have hl:∀ q ∈ o.ms,q.c.l.length<=1000:=fun q hq=>by have:=(hc q hq).1.1; omega
 have hln:=hI.len;have hml:=congrArg List.length hr.cs;simp only [List.length_map] at hml;exact ⟨⟨hr.weak (Nat.zero_le _),by omega,by omega,by omega,hl,fun q hq=>(hc q hq).2.2.1,hI.up,by rw [hid]; omega,fun W hW=>vR_ lo o rs W hmk (by omega) (by omega) hG hd (by omega) hz hl (hr.next hW) (ht.next hW) (hx.next hW),ht,hx⟩,fun W hW=>vz_ lo o rs W hmk (by omega) (by omega) hd (by omega) hz hl (hr.next hW) (vG_ o.x.id rs (by omega) hG (by omega))⟩
def TkP (b:Bool) (X:Nd) (su un:List ByteArray) (W:World) (e:Ending) (w':World):Prop:=∃ u:No,e=.returned (.tuple #[nV u,.bool b,.int .i64 0])∧NoR W.heap.size w' u∧(u.x=X∧u.su=su∧u.un=un)∧Below W.heap.size W w'
def IsX (W:World) (u:No) (X:Nd) (su un:List ByteArray):Prop:=NoR 0 W u∧u.x=X∧u.su=su∧u.un=un
theorem IsX.next {u:No} {X:Nd} (h:IsX W u X su un) (hb:Below W.heap.size W W'):IsX W' u X su un:=⟨h.1.next hb,h.2⟩
structure TkF (w:World) (A:No) (C J:Cl) (b:Bool) (X:Nd) (su un:List ByteArray):Prop where
 c1:∀ W p q,Below w.heap.size w W->GRow 0 W p (flat C.l)->C.l.length<=q->Calls Tryz.prog 25 #[nV A,.string C.k,.agg #[.slice p C.l.length q,.int .i64 C.a,.int .i64 C.b,.int .i64 C.c]] W (TkP b X su un W)
 c2:∀ W p q,Below w.heap.size w W->GRow 0 W p (flat C.l)->C.l.length<=q->Calls Tryz.prog 26 #[nV A,.string C.k,.agg #[.slice p C.l.length q,.int .i64 C.a,.int .i64 C.b,.int .i64 C.c]] W (TkP b X su un W)
 c3:∀ W u,Below w.heap.size w W->IsX W u X su un->Calls Tryz.prog 10 #[nV u,.string C.k] W (OaP W J)
 c4:∀ W pj qj p q,GRow 0 W pj (flat J.l)->GRow 0 W p (flat C.l)->C.l.length<=q->Calls Tryz.prog 27 #[.agg #[.slice pj J.l.length qj,.int .i64 J.a,.int .i64 J.b,.int .i64 J.c],.agg #[.slice p C.l.length q,.int .i64 C.a,.int .i64 C.b,.int .i64 C.c]] W fun e w'=>e=.returned (.tuple #[.bool true,.int .i64 0])∧Below W.heap.size W w'
 c5:∀ W u p q,Below w.heap.size w W->IsX W u X su un->GRow 0 W p (flat C.l)->C.l.length<=q->Calls Tryz.prog 25 #[nV u,.string C.k,.agg #[.slice p C.l.length q,.int .i64 C.a,.int .i64 C.b,.int .i64 C.c]] W (TkP false X su un W)
 c6:∀ W u v,Below w.heap.size w W->IsX W u X su un->IsX W v X su un->Calls Tryz.prog 15 #[nV u,nV v] W fun e w'=>e=.returned (.bool true)∧Below W.heap.size W w'
 c7:∀ W u,Below w.heap.size w W->IsX W u X su un->Calls Tryz.prog 15 #[nV u,nV A] W fun e w'=>e=.returned (.bool (!b))∧Below W.heap.size W w'
 c8:∀ W u,Below w.heap.size w W->IsX W u X su un->Calls Tryz.prog 17 #[nV u] W fun e w'=>e=.returned (.bool true)∧Below W.heap.size W w'
 n:X.n=A.x.n
theorem tr_ {J:Cl} (hJ:OkP J.l J.a J.b J.c) (hC:OkP C.l C.a C.b C.c) (hag:jnC J C=J) (W:World) (pj:Option Addr) (qj:Nat) (p:Option Addr) (q:Nat) (hg1:GRow 0 W pj (flat J.l)) (hg2:GRow 0 W p (flat C.l)) (hq:C.l.length<=q):Calls Tryz.prog 27 #[.agg #[.slice pj J.l.length qj,.int .i64 J.a,.int .i64 J.b,.int .i64 J.c],.agg #[.slice p C.l.length q,.int .i64 C.a,.int .i64 C.b,.int .i64 C.c]] W fun e w'=>e=.returned (.tuple #[.bool true,.int .i64 0])∧Below W.heap.size W w':=by
 refine x2_ qj q pj p J.l C.l J.a J.b J.c C.a C.b C.c true true ⟨fun _=>hJ,fun _=>rfl⟩ ⟨fun _=>hC,fun _=>rfl⟩ true 0 ⟨fun h=>(h ⟨rfl,rfl⟩).elim,fun _ _=>⟨rfl,fun _=>?_,fun _=>rfl⟩⟩ W (by have:=hJ.1; omega) (by have:=hC.1; omega) hq hg1.sib hg2.sib;have e1:=congrArg Cl.l hag;have e2:=congrArg Cl.a hag;have e3:=congrArg Cl.b hag;have e4:=congrArg Cl.c hag;rw [show sj J.a J.b J.c C.a C.b C.c J.l C.l=J.l from e1,show max J.a C.a=J.a from e2,show max J.b C.b=J.b from e3,show max J.c C.c=J.c from e4]
 exact y5_ _ _ _ _
theorem nS_ {x y:Cl} (h0:x.k=y.k) (h1:x.l=y.l) (h2:x.a=y.a) (h3:x.b=y.b) (h4:x.c=y.c):x=y:=by
 cases x;cases y
 simp_all
theorem nh_ {V:Int->Int->Int × Bool} {m:Nat->Int} {A:No} (hi:i < 3) (hm:∀ k,k < 3->0<=m k∧m k<=20) (hr:NoR 0 w A) (hA:zS_ V m i A.x A.su A.un rs) (hn:rs.length<=20) (hC:RpC V m C) (hk:keyP C.k) (ht:TB w) (hx:MX w):∃ b X un,TkF w A C (jnC (atC C.k A.x.cs) C) b X A.su un:=by
 have m0:=hm 0 (by omega);have m1:=hm 1 (by omega);have m2:=hm 2 (by omega);have mi:=hm i hi;have hm24:m 0<=24∧m 1<=24∧m 2<=24:=⟨by omega,by omega,by omega⟩;have hH:RpC V m (atC C.k A.x.cs):=hA.had (fun k h=>(hm k h).1) C.k;have hJ:RpC V m (jnC (atC C.k A.x.cs) C):=Rp.join hH hC;obtain ⟨hR,hS⟩:=rU_ hi hr hA (by omega) hm24 ht hx;have hid:A.x.id=(i:Int):=hA.id;have hxn:=hA.n
 have hcm:∀ {D:Cl},RpC V m D->comp D.a D.b D.c A.x.id<=A.x.n:=fun {D} h=>by
  have h1:=z2_ (p:=A.x.id) h.le;rw [hid,vY_ m i hi,<- hxn,<- hid] at h1;exact h1
 have hfol:¬ xj_ (atC C.k A.x.cs) (jnC (atC C.k A.x.cs) C)->Fol A.x (false,(jnC (atC C.k A.x.cs) C)):=fun hne=>hA.fol_join hi (fun k h=>⟨(hm k h).1,by have:=(hm k h).2; omega⟩) (by omega) hk hC hne
 have hJk:JoK A C:=⟨hk,hH.okP24 hm24.1 hm24.2.1 hm24.2.2,hC.okP24 hm24.1 hm24.2.1 hm24.2.2,hJ.okP24 hm24.1 hm24.2.1 hm24.2.2,⟨by omega,by omega⟩,hcm hC,hfol⟩
 have hag:jnC (jnC (atC C.k A.x.cs) C) C=(jnC (atC C.k A.x.cs) C):=by
  have h1:sj (max (atC C.k A.x.cs).a C.a) (max (atC C.k A.x.cs).b C.b) (max (atC C.k A.x.cs).c C.c) C.a C.b C.c (sj (atC C.k A.x.cs).a (atC C.k A.x.cs).b (atC C.k A.x.cs).c C.a C.b C.c (atC C.k A.x.cs).l C.l) C.l=sj (atC C.k A.x.cs).a (atC C.k A.x.cs).b (atC C.k A.x.cs).c C.a C.b C.c (atC C.k A.x.cs).l C.l:=Rp.again hH hC;show Cl.mk C.k _ _ _ _=Cl.mk C.k _ _ _ _
  show Cl.mk C.k (sj (max (atC C.k A.x.cs).a C.a) (max (atC C.k A.x.cs).b C.b) (max (atC C.k A.x.cs).c C.c) C.a C.b C.c (sj (atC C.k A.x.cs).a (atC C.k A.x.cs).b (atC C.k A.x.cs).c C.a C.b C.c (atC C.k A.x.cs).l C.l) C.l) (max (max (atC C.k A.x.cs).a C.a) C.a) (max (max (atC C.k A.x.cs).b C.b) C.b) (max (max (atC C.k A.x.cs).c C.c) C.c)=_
  rw [h1,show max (max (atC C.k A.x.cs).a C.a) C.a=max (atC C.k A.x.cs).a C.a by omega,show max (max (atC C.k A.x.cs).b C.b) C.b=max (atC C.k A.x.cs).b C.b by omega,show max (max (atC C.k A.x.cs).c C.c) C.c=max (atC C.k A.x.cs).c C.c by omega]
 obtain ⟨b,hb⟩:∃ b:Bool,b=true↔¬ xj_ (atC C.k A.x.cs) (jnC (atC C.k A.x.cs) C):=⟨@decide _ (Classical.propDecidable _),@decide_eq_true_iff _ (Classical.propDecidable _)⟩;obtain ⟨X,hX⟩:∃ X,X=if b=true then nxt A.x (false,(jnC (atC C.k A.x.cs) C)) else A.x:=⟨_,rfl⟩;obtain ⟨un,hun⟩:∃ un,un=if b=true then A.un++[zq_ (recT false (jnC (atC C.k A.x.cs) C))] else A.un:=⟨_,rfl⟩
 have hXI:∃ rs',zS_ V m i X A.su un rs'∧rs'.length<=21:=by
  by_cases e:b=true
  ·rw [if_pos e] at hX hun;subst hX;subst hun;exact ⟨_,hA.join (fun k h=>(hm k h).1) hk hC (hfol (hb.1 e)),by simp; omega⟩
  ·rw [if_neg e] at hX hun;subst hX;subst hun;exact ⟨rs,hA,by omega⟩
 obtain ⟨rs',hXI,hrl⟩:=hXI
 have hXid:X.id=A.x.id∧X.n=A.x.n∧X.cut=A.x.cut∧X.fd=A.x.fd:=by
  rw [hX];split
  ·exact ⟨rfl,rfl,rfl,rfl⟩
  ·exact ⟨rfl,rfl,rfl,rfl⟩
 have hXC:atC C.k X.cs=(jnC (atC C.k A.x.cs) C):=by
  by_cases e:b=true
  ·rw [if_pos e] at hX;rw [hX];show atC C.k (setC (jnC (atC C.k A.x.cs) C) A.x.cs)=_
   rw [pW_ hA.up];exact if_pos rfl
  ·rw [if_neg e] at hX;rw [hX];have hs:xj_ (atC C.k A.x.cs) (jnC (atC C.k A.x.cs) C):=Classical.byContradiction fun h=>e (hb.2 h)
   obtain ⟨e1,e2,e3,e4⟩:=w0_ hs;exact nS_ (q1_ C.k A.x.cs) e1 e2 e3 e4
 have hRX:∀ W u,Below w.heap.size w W->IsX W u X A.su un->RtN W u:=fun W u hW h=>by
  obtain ⟨hN,e1,e2,e3⟩:=h;exact (rU_ hi hN (by rw [e1,e2,e3]; exact hXI) (by omega) hm24 (ht.next hW) (hx.next hW)).1
 have conv:∀ W e w',JyP W A C e w'->TkP b X A.su un W e w':=fun W e w' h=>by
  rcases h with ⟨hs,u,h1,h2,h3,h4,h5,h6⟩ | ⟨hs,u,h1,h2,h3,h4,h5,h6⟩
  ·have hbf:b=false:=by
    cases hbb:b with
    | false=>rfl
    | true=>exact (hb.1 hbb hs).elim
   subst hbf;exact ⟨u,h1,h2,⟨by rw [hX,h3]; rfl,h4,by rw [hun,h5]; rfl⟩,h6⟩
  ·have hbt:b=true:=hb.2 hs;subst hbt;exact ⟨u,h1,h2,⟨by rw [hX,h3]; rfl,h4,by rw [hun,h5]; rfl⟩,h6⟩
 have hJJ:xj_ (jnC (atC C.k A.x.cs) C) (jnC (atC C.k A.x.cs) C):=wv_ ⟨rfl,rfl,rfl,rfl⟩;refine ⟨b,X,un,⟨fun W p q hW hg hq=>(wH_ A C p q W (hR.next hW) hJk hg hq).mono (fun e w' h=>conv W e w' h),fun W p q hW hg hq=>(uK_ A C p q W (hR.next hW) hJk hg hq (hcm hJ) (fun W2 h2=>hS W2 (hW.trans (h2.mono hW.size)))).mono (fun e w' h=>conv W e w' h),fun W u hW h=>?_,fun W pj qj p q hg1 hg2 hq=>?_,fun W u p q hW h hg hq=>?_,fun W u v hW h1 h2=>?_,fun W u hW h=>?_,fun W u hW h=>(hRX W u hW h).i W (Below.refl _ _),hXid.2.1⟩⟩
 ·refine (tv_ u C.k W hk (hRX W u hW h)).mono (fun e w' hh=>?_);rw [h.2.1,hXC] at hh;exact hh
 ·exact tr_ hJk.okJ hJk.okC hag W pj qj p q hg1 hg2 hq
 ·have hu:=hRX W u hW h;obtain ⟨hN,e1,e2,e3⟩:=h;have hat:atC C.k u.x.cs=(jnC (atC C.k A.x.cs) C):=by rw [e1]; exact hXC
  have hJu:JoK u C:=⟨hk,by rw [hat]; exact hJk.okJ,hJk.okC,by rw [hat,hag]; exact hJk.okJ,by rw [e1,hXid.2.1]; exact hJk.n,by rw [e1,hXid.1,hXid.2.1]; exact hJk.kn,fun hne=>(hne (by rw [hat,hag]; exact hJJ)).elim⟩;refine (wH_ u C p q W hu hJu hg hq).mono (fun e w' h=>?_);rcases h with ⟨hs,v,h1,h2,h3,h4,h5,h6⟩ | ⟨hs,_⟩
  ·exact ⟨v,h1,h2,⟨by rw [h3,e1],by rw [h4,e2],by rw [h5,e3]⟩,h6⟩
  ·exact (hs (by rw [hat,hag]; exact hJJ)).elim
 ·have hu:=hRX W u hW h1;exact wE_ 0 0 u v W (by have:=hu.m; omega) hu.f (by have:=hu.s; omega) hu.l (by rw [h2.2.1,h1.2.1]) (by rw [h2.2.2.1,h1.2.2.1]) (by rw [h2.2.2.2,h1.2.2.2]) h1.1 h2.1
 ·have hu:=hRX W u hW h;obtain ⟨hN,e1,e2,e3⟩:=h;cases b with
  | false=>
   exact wE_ 0 0 u A W (by have:=hu.m; omega) hu.f (by have:=hu.s; omega) hu.l (by rw [e1,hX]; rfl) (by rw [e2]) (by rw [e3,hun]; rfl) hN (hr.next hW)
  | true=>
   exact tF_ 0 0 u A W hu.f (by have:=hu.s; omega) (by rw [e1,hXid.1]) (by rw [e1,hXid.2.1]) (by rw [e1,hXid.2.2.1]) (by rw [e1,hXid.2.2.2]) (by rw [e2]) (by rw [e3,hun,if_pos rfl]; simp) hN (hr.next hW)
end
section
variable {g:Nat}
structure TkI (w W:World) (q off g9:Nat) (A:No) (C:Cl) (p:Option Addr) (k:Nat) (X:Nd) (su un:List ByteArray) (gs:List (Nat × No)):Prop where
 nd:NdAt W q off A
 ob:Box W g9 [.slice p C.l.length k,.int .i64 C.a,.int .i64 C.b,.int .i64 C.c]
 r:GRow 0 W p (flat C.l)
 xs:∀ e ∈ gs,Box W e.1 [.int .i64 e.2.x.id,.int .i64 e.2.x.n,.int .i64 e.2.x.cut,.slice e.2.p0 e.2.ms.length e.2.c0,.slice e.2.p1 e.2.x.fd.length e.2.c1,.slice e.2.p2 e.2.su.length e.2.c2,.slice e.2.p3 e.2.un.length e.2.c3]∧IsX W e.2 X su un
 b:Below w.heap.size w W
section
variable {w W W':World} {q off g9 k:Nat} {A:No} {C:Cl} {p:Option Addr} {X:Nd} {su un:List ByteArray} {gs:List (Nat × No)} {u:No} {v0 v1 v2 v3 v4 v5 v6:Value}
theorem TkI.next (h:TkI w W q off g9 A C p k X su un gs) (hb:Below W.heap.size W W'):TkI w W' q off g9 A C p k X su un gs:=⟨h.nd.keep (lo:=0) (zT_ hb) (Nat.zero_le _),h.ob.next hb,h.r.next hb,fun e he=>⟨(h.xs e he).1.next hb,(h.xs e he).2.next hb⟩,h.b.trans (hb.mono h.b.size)⟩
theorem TkI.add (h:TkI w W q off g9 A C p k X su un gs) (hB:Box W g (nL u)) (hX:IsX W u X su un):TkI w W q off g9 A C p k X su un ((g,u) :: gs):=⟨h.nd,h.ob,h.r,fun e he=>by
 rcases List.mem_cons.1 he with rfl | he
 ·exact ⟨hB,hX⟩
 ·exact h.xs e he,h.b⟩
theorem TkI.all (h:TkI w W q off g9 A C p k X su un gs):(W.cell? ⟨q,off,none⟩=some (.int .i64 A.x.id)∧W.cell? ⟨q,off+1,none⟩=some (.int .i64 A.x.n)∧W.cell? ⟨q,off+2,none⟩=some (.int .i64 A.x.cut)∧W.cell? ⟨q,off+3,none⟩=some (.slice A.p0 A.ms.length A.c0)∧W.cell? ⟨q,off+4,none⟩=some (.slice A.p1 A.x.fd.length A.c1)∧W.cell? ⟨q,off+5,none⟩=some (.slice A.p2 A.su.length A.c2)∧W.cell? ⟨q,off+6,none⟩=some (.slice A.p3 A.un.length A.c3))∧W.cell? ⟨g9,0,none⟩=some (.slice p C.l.length k)∧W.cell? ⟨g9,1,none⟩=some (.int .i64 C.a)∧W.cell? ⟨g9,2,none⟩=some (.int .i64 C.b)∧W.cell? ⟨g9,3,none⟩=some (.int .i64 C.c):=⟨h.nd,h.ob.c4⟩
end
section
variable {P:Program} {md:Region.Mode} {ops:Array Oper} {Q:Exit->Act->World->Prop} {S:World->Prop} {oi:Oper} {v:Value} {fuel:Nat} {listed:Array Bool} {a:Act} {w:World} {G:Prop}
theorem wTq (i:Nat) (h:G) (hi:ops[i]? = some oi:=by rfl) (hs:Region.noSelect ops=true:=by kernel_rfl) (hf:Region.free md ops listed i=true:=by kernel_rfl) (hr:(Region.ready md ops listed).contains i=true:=by kernel_rfl)
    (hQ:∀ c a w,Q (.panic c) (a.put oi.dst v) w->Q (.panic c) a w:=by exact fun _ _ _ h=>h)
    (hy:YieldsIf P ops S oi v a:=by
      refine Or.inl ⟨by kernel_rfl,?_⟩;intro w' hSw;(try dsimp only at hSw);go_simp
      all_goals (try with_reducible rfl))
    (hS:S w:=by assumption)
    (e:wpAnyH P md ops Q S fuel (listed.setIfInBounds i true) (a.put oi.dst v) w=G:=by
      (try simp only [Act.put,List.getElem_toArray,List.getElem_cons_zero,List.getElem_cons_succ,List.setIfInBounds_toArray,List.set_cons_zero,List.set_cons_succ])
      rfl):wpAnyH P md ops Q S (fuel+1) listed a w:=wpAnyH_take hi hs hf hr hQ hy hS (e ▸ h)
theorem wRq (i:Nat) {H:(Act->World->Prop)->Prop}
    (h:∀ K':Act->World->Prop,Shut (∀ a w,S w->(S w->wpAnyH P md ops Q S fuel (listed.setIfInBounds i true) a w)->K' a w)->H K')
    (ho:ops[i]? = some oi:=by rfl) (hr:Region.ready md ops listed=[i]:=by kernel_rfl) (hw:Region.wanted oi (yielded ops a.tmps)=true:=by kernel_rfl)
    (e:∀ K',Oper.wp P oi a w K' Q=H K':=by
      intro K;(try simp only [Act.put,List.getElem_toArray,List.getElem_cons_zero,List.getElem_cons_succ,List.setIfInBounds_toArray,List.set_cons_zero,List.set_cons_succ])
      rfl):wpAnyH P md ops Q S (fuel+1) listed a w:=wpAnyH_ready hr (by simp) (.cons ho (fun K hK=>by rw [if_pos hw,e K]; exact h K hK) .nil)
end
theorem law_take (v1 v2:Value) (w:World) (h1:BRow w v1) (h2:BRow w v2) (hc:TB w) (hm:MX w) :
  Calls Tryz.prog 5 #[v1,v2] w fun e w'=>e=.returned (.bool true)∧Below w.heap.size w w':=by
 obtain ⟨ao,len,cap,zs,rfl,hra⟩:=h1;obtain ⟨bo,ln2,cp2,ys,rfl,hrb⟩:=h2;have RC:=hm_ hra;have RM:=hm_ hrb;have HT:Hid (TB w∧MX w):=⟨hc,hm⟩;clear hra hrb hc hm;by_cases hl1:1048576 < len
 ·have hl1':(1048576:Int) < (len:Int):=by omega
  go_enter Tryz.func5,Tryz.ntmps5;go_wp2;go_ret;exact ⟨rfl,Below.refl _ _⟩
 have hl1':¬ (1048576:Int) < (len:Int):=by omega
 by_cases hl2:1048576 < ln2
 ·have hl2':(1048576:Int) < (ln2:Int):=by omega
  go_enter Tryz.func5,Tryz.ntmps5;go_wp2;go_ret;exact ⟨rfl,Below.refl _ _⟩
 have hl2':¬ (1048576:Int) < (ln2:Int):=by omega
 go_enter Tryz.func5,Tryz.ntmps5;go_wp2_with fail;refine (tR_ len cap ao zs _ RC.out (by omega) (fun x hx hl=>p1_ RC.out x hx hl)).mono ?_;rintro e W1 ⟨q,V0,m,o,rs,rfl,hN,hb⟩;have HBW:=hm_ hb;have HN:=hm_ hN;replace HT:Hid (TB W1∧MX W1):=⟨HT.out.1.next hb,HT.out.2.next hb⟩;replace RM:Hid (Gen.IsRow .u8 W1 bo ln2 cp2 ys):=ym_ RM.out hb;clear hN hb RC;go_wp2_with fail;refine (qx_ ln2 cp2 bo ys _ RM.out (by omega) (fun x hx hl=>p1_ RM.out x hx hl)).mono ?_;rintro e W2 ⟨s,rfl,hs,hb⟩;have HB2:=hm_ hb;have HS:Hid (keyP s):=hs;clear hs hb;go_wp2_with fail;refine (oc_ bo ln2 cp2 ys 0 3 _ (by omega) (by omega) (by omega) (by omega) (ym_ RM.out HB2.out)).mono ?_;rintro e W3 ⟨i,rfl,hb,hlt⟩;replace HB2:Hid (Below W1.heap.size W1 W3):=HB2.out.trans (hb.mono HB2.out.size);have hi3:i < 3:=by omega
 have qa:IntKind.i64.wrap ((i:Int)+1)=(i:Int)+1:=by rw [IntKind.wrap_i64]; omega
 clear hb hlt;go_wp2_with fail;refine (oc_ bo ln2 cp2 ys 1 2 _ (by omega) (by omega) (by omega) (by omega) (ym_ RM.out HB2.out)).mono ?_;rintro e W4 ⟨r,rfl,hb,hlt⟩;replace HB2:Hid (Below W1.heap.size W1 W4):=HB2.out.trans (hb.mono HB2.out.size);have hr2:r < 2:=by omega
 have qb:IntKind.i64.wrap ((i:Int)+1+(r:Int))=(i:Int)+1+(r:Int):=by rw [IntKind.wrap_i64]; omega
 obtain ⟨j,hj,hj3⟩:∃ j:Nat,((i:Int)+1+(r:Int)).tmod 3=(j:Int)∧j < 3:=⟨(((i:Int)+1+(r:Int)) % 3).toNat,by rw [Int.tmod_eq_emod_of_nonneg (by omega)]; omega,by omega⟩;have qc:IntKind.i64.wrap (j:Int)=(j:Int):=by rw [IntKind.wrap_i64]; omega
 have kj0:(0:Int)<=(j:Int):=by omega
 have kj3:(j:Int) < 3:=by omega
 have ki0:(0:Int)<=(i:Int):=by omega
 have ki3:(i:Int) < 3:=by omega
 clear hb hlt
 -- the two nodes,and what the join makes of them
 have hbd:∀ k,k < 3->0<=m k∧m k<=20:=fun k hk=>⟨(HN.out.1 k hk).2.2.2.1,(HN.out.1 k hk).2.2.2.2.2⟩
 have hm24:m 0<=24∧m 1<=24∧m 2<=24:=⟨by have:=hbd 0 (by omega); omega,by have:=hbd 1 (by omega); omega,by have:=hbd 2 (by omega); omega⟩;obtain ⟨C,hC⟩:∃ C,C=atC s (o j).x.cs:=⟨_,rfl⟩;obtain rfl:s=C.k:=by rw [hC,q1_]
 obtain ⟨b,X,un,hTF⟩:=nh_ (w:=W4) (C:=C) hi3 hbd (((HN.out.1 i hi3).2.1.weak (Nat.zero_le _)).next HB2.out) (HN.out.1 i hi3).2.2.1 (HN.out.1 i hi3).2.2.2.2.1 (by rw [hC]; exact (HN.out.1 j hj3).2.2.1.had (fun k h=>(hbd k h).1) C.k) HS.out (HT.out.1.next HB2.out) (HT.out.2.next HB2.out)
 have CO:Hid (∀ W,Below W4.heap.size W4 W->Calls Tryz.prog 10 #[.agg #[.int .i64 (o j).x.id,.int .i64 (o j).x.n,.int .i64 (o j).x.cut,.slice (o j).p0 (o j).ms.length (o j).c0,.slice (o j).p1 (o j).x.fd.length (o j).c1,.slice (o j).p2 (o j).su.length (o j).c2,.slice (o j).p3 (o j).un.length (o j).c3],.string C.k] W (OaP W C)):=fun W hW=>by
  have h:=tv_ (o j) C.k W HS.out ((rU_ hj3 (((HN.out.1 j hj3).2.1).next HB2.out) (HN.out.1 j hj3).2.2.1 (by have:=(HN.out.1 j hj3).2.2.2.2.1; omega) hm24 (HT.out.1.next HB2.out) (HT.out.2.next HB2.out)).1.next hW);rw [<- hC] at h;exact h
 have NJ:Hid (NdAt W4 q (j * 7) (o j)):=(HN.out.1 j hj3).1.keep (lo:=0) (zT_ HB2.out) (Nat.zero_le _);have NI:Hid (NdAt W4 q (i * 7) (o i)):=(HN.out.1 i hi3).1.keep (lo:=0) (zT_ HB2.out) (Nat.zero_le _);replace HBW:Hid (Below w.heap.size w W4):=HBW.out.trans (HB2.out.mono HBW.out.size);have TF:=hm_ hTF;clear hTF hC HN HT RM HB2 HS hbd hm24 hl1 hl2;generalize jnC (atC C.k (o i).x.cs) C=J at *;generalize (o i).su=su at *;generalize o i=A at *;generalize o j=B at *;obtain ⟨y0,y1,y2,y3,y4,y5,y6⟩:=NJ.out;go_wp2_with fail;refine Calls.mono (CO.out _ (Below.refl _ _)) ?_;rintro e W5 ⟨p,k,rfl,hg,hk,hb⟩;clear y0 y1 y2 y3 y4 y5 y6;go_upto_region 8 with fail;refine zH_ (fun W=>TkI W4 W q (i * 7) W5.heap.size A C p k X su un []) ⟨(NI.out.keep (lo:=0) (zT_ hb) (Nat.zero_le _)).keep (lo:=0) (zT_ (zb_ _ _)) (Nat.zero_le _),zn_,(hg.weak (Nat.zero_le _)).next (zb_ _ _),fun e he=>(by cases he),hb.trans ((zb_ _ _).mono hb.size)⟩ (fun Wc hI=>?_);generalize W5.heap.size=g9 at *;have HK:Hid (C.l.length<=k):=hk;have Q:=hm_ hI;clear hI hg hk hb NI NJ CO;go_upto_region 8 with fail
 go_cut [11,12,13] from 53 to 63 (fun s11 s12 s13 wc=>∃ (g11:Nat) (u:No),s11=.pointer (some ⟨g11,0,none⟩)∧s12=.bool b∧s13=.int .i64 0∧TkI W4 wc q (i * 7) g9 A C p k X su un ([(g11,u)]))
 case first=>
  refine wp_region_held_drew (S:=(fun w'=>(w'.cell? ⟨q,i * 7,none⟩=some (.int .i64 A.x.id)∧w'.cell? ⟨q,i * 7+1,none⟩=some (.int .i64 A.x.n)∧w'.cell? ⟨q,i * 7+2,none⟩=some (.int .i64 A.x.cut)∧w'.cell? ⟨q,i * 7+3,none⟩=some (.slice A.p0 A.ms.length A.c0)∧w'.cell? ⟨q,i * 7+4,none⟩=some (.slice A.p1 A.x.fd.length A.c1)∧w'.cell? ⟨q,i * 7+5,none⟩=some (.slice A.p2 A.su.length A.c2)∧w'.cell? ⟨q,i * 7+6,none⟩=some (.slice A.p3 A.un.length A.c3))∧w'.cell? ⟨g9,0,none⟩=some (.slice p C.l.length k)∧w'.cell? ⟨g9,1,none⟩=some (.int .i64 C.a)∧w'.cell? ⟨g9,2,none⟩=some (.int .i64 C.b)∧w'.cell? ⟨g9,3,none⟩=some (.int .i64 C.c))) (by kernel_rfl) ?_ (fun hH=>?_)
  ·(try dsimp only);exact (Q.out.next (zd_ _)).all
  have QC:=hm_ (Q.out.next (zd_ _));refine wTk 0 ?_;refine wTk 1 ?_;refine wTk 2 ?_;refine wTk 3 ?_;refine wTk 4 ?_;refine wTk 5 ?_;generalize Wc.drew=wd at *;refine wpAnyH_ready (rs:=[6,11]) (by kernel_rfl) (by simp) ?_;refine .cons rfl (fun K hK=>?_) (.cons rfl (fun K hK=>?_) .nil)
  focus
   refine wLy ?_;go_simp;go_at_call 25;refine (TF.out.c1 _ p k QC.out.b QC.out.r HK.out).mono ?_;rintro e x0 ⟨u,rfl,hN,hx,hb⟩;(try simp only []);have HU:Hid (IsX x0 u X su un):=⟨hN.weak (Nat.zero_le _),hx⟩;replace QC:=hm_ (QC.out.next hb);clear hN hx hb;refine wHk hK (QC.out.all) ?_;clear hK K hH;intro hH;refine wTk 7 ?_;refine wTk 8 ?_;refine wTk 9 ?_;refine wTk 10 ?_;refine wRd 11 (fun K hK=>?_);go_simp;(try simp only []);have B8:Hid (Box (x0.alloc (.cells nZ.toArray 29)) x0.heap.size nZ):=zn_;have HB8:Hid (Below x0.heap.size x0 (x0.alloc (.cells nZ.toArray 29))):=zb_ _ _;refine wHk hK ((QC.out.next HB8.out).all) ?_;clear hK K hH;intro hH;generalize x0.alloc (.cells nZ.toArray 29)=x1 at *;have HB9:Hid (∀ v0 v1 v2 v3 v4 v5 v6,Below x0.heap.size x0 (((((((x1.setCell ⟨x0.heap.size,0,none⟩ v0).setCell ⟨x0.heap.size,1,none⟩ v1).setCell ⟨x0.heap.size,2,none⟩ v2).setCell ⟨x0.heap.size,3,none⟩ v3).setCell ⟨x0.heap.size,4,none⟩ v4).setCell ⟨x0.heap.size,5,none⟩ v5).setCell ⟨x0.heap.size,6,none⟩ v6)):=fun v0 v1 v2 v3 v4 v5 v6=>yq_ HB8.out (Nat.le_refl _)
   have QD:Hid (TkI W4 (o7 x1 x0.heap.size u) q (i * 7) g9 A C p k X su un []):=QC.out.next (HB9.out _ _ _ _ _ _ _);have HW:Hid (IsX (o7 x1 x0.heap.size u) u X su un):=HU.out.next (HB9.out _ _ _ _ _ _ _);have BX:Hid (Box (o7 x1 x0.heap.size u) x0.heap.size (nL u)):=B8.out.s7;clear QC HU HB8 HB9;generalize x0.heap.size=g8 at *
  rotate_left
  focus
   refine wLy ?_;go_simp;(try simp only []);have B8:Hid (Box (wd.alloc (.cells nZ.toArray 29)) wd.heap.size nZ):=zn_;have HB8:Hid (Below wd.heap.size wd (wd.alloc (.cells nZ.toArray 29))):=zb_ _ _;refine wHk hK ((QC.out.next HB8.out).all) ?_;clear hK K hH;intro hH;generalize wd.alloc (.cells nZ.toArray 29)=x0 at *;refine wRd 6 (fun K hK=>?_);go_simp;go_at_call 25;refine (TF.out.c1 _ p k (QC.out.next HB8.out).b (QC.out.next HB8.out).r HK.out).mono ?_;rintro e x1 ⟨u,rfl,hN,hx,hb⟩;(try simp only []);have HB7:Hid (Below wd.heap.size wd x1):=HB8.out.trans (hb.mono HB8.out.size);have HU:Hid (NoR x0.heap.size x1 u∧(u.x=X∧u.su=su∧u.un=un)∧wd.heap.size < x0.heap.size):=⟨hN,hx,B8.out.lt⟩;replace B8:=hm_ (B8.out.next hb);refine wHk hK ((QC.out.next HB7.out).all) ?_;clear hK K hH hN hx hb;intro hH;refine wTk 7 ?_;refine wTk 8 ?_;refine wTk 9 ?_;refine wTk 10 ?_;have HB9:Hid (∀ v0 v1 v2 v3 v4 v5 v6,Below wd.heap.size wd (((((((x1.setCell ⟨wd.heap.size,0,none⟩ v0).setCell ⟨wd.heap.size,1,none⟩ v1).setCell ⟨wd.heap.size,2,none⟩ v2).setCell ⟨wd.heap.size,3,none⟩ v3).setCell ⟨wd.heap.size,4,none⟩ v4).setCell ⟨wd.heap.size,5,none⟩ v5).setCell ⟨wd.heap.size,6,none⟩ v6)):=fun v0 v1 v2 v3 v4 v5 v6=>yq_ HB7.out (Nat.le_refl _)
   have QD:Hid (TkI W4 (o7 x1 wd.heap.size u) q (i * 7) g9 A C p k X su un []):=QC.out.next (HB9.out _ _ _ _ _ _ _);have HW:Hid (IsX (o7 x1 wd.heap.size u) u X su un):=⟨(nor7 (w:=wd) HU.out.1 HU.out.2.2 (Nat.le_of_lt HU.out.2.2)).weak (Nat.zero_le _),HU.out.2.1⟩;have BX:Hid (Box (o7 x1 wd.heap.size u) wd.heap.size (nL u)):=B8.out.s7;clear QC HU HB8 HB9 HB7;generalize wd.heap.size=g8 at *
  rotate_left
  all_goals
   obtain ⟨a0,a1,a2,a3,a4,a5,a6⟩:=B8.out.c7;obtain ⟨f0,f1,f2,f3,f4,f5,f6⟩:=B8.out.f7;refine wRd 12 (fun K hK=>?_);go_simp;(try simp only []);refine hK.out _ _ ?_ (fun hH'=>?_)
   ·(try dsimp only);exact QD.out.all
   clear hK K hH;have hH:=hH';clear hH';refine wLy ?_;refine wTk 13 ?_;refine wTk 14 ?_;refine wDn ?_;clear hH a0 a1 a2 a3 a4 a5 a6 f0 f1 f2 f3 f4 f5 f6;go_wp2_with fail;go_meet
   case rel=>exact ⟨_,u,rfl,rfl,rfl,QD.out.add BX.out HW.out⟩
 case rest=>
  obtain ⟨g11,u,rfl,rfl,rfl,hI⟩:=hcut;have Q1:=hm_ hI;clear hI Q;generalize wc=Wc at *;go_upto_region 9 with fail
  go_cut [14,15,16] from 64 to 74 (fun s14 s15 s16 wc=>∃ (g14:Nat) (v:No),s14=.pointer (some ⟨g14,0,none⟩)∧s15=.bool b∧s16=.int .i64 0∧TkI W4 wc q (i * 7) g9 A C p k X su un ((g14,v) :: [(g11,u)]))
  case first=>
   refine wp_region_held_drew (S:=(fun w'=>(w'.cell? ⟨q,i * 7,none⟩=some (.int .i64 A.x.id)∧w'.cell? ⟨q,i * 7+1,none⟩=some (.int .i64 A.x.n)∧w'.cell? ⟨q,i * 7+2,none⟩=some (.int .i64 A.x.cut)∧w'.cell? ⟨q,i * 7+3,none⟩=some (.slice A.p0 A.ms.length A.c0)∧w'.cell? ⟨q,i * 7+4,none⟩=some (.slice A.p1 A.x.fd.length A.c1)∧w'.cell? ⟨q,i * 7+5,none⟩=some (.slice A.p2 A.su.length A.c2)∧w'.cell? ⟨q,i * 7+6,none⟩=some (.slice A.p3 A.un.length A.c3))∧w'.cell? ⟨g9,0,none⟩=some (.slice p C.l.length k)∧w'.cell? ⟨g9,1,none⟩=some (.int .i64 C.a)∧w'.cell? ⟨g9,2,none⟩=some (.int .i64 C.b)∧w'.cell? ⟨g9,3,none⟩=some (.int .i64 C.c))) (by kernel_rfl) ?_ (fun hH=>?_)
   ·(try dsimp only);exact (Q1.out.next (zd_ _)).all
   have QC:=hm_ (Q1.out.next (zd_ _));refine wTk 0 ?_;refine wTk 1 ?_;refine wTk 2 ?_;refine wTk 3 ?_;refine wTk 4 ?_;refine wTk 5 ?_;generalize Wc.drew=wd at *;refine wpAnyH_ready (rs:=[6,11]) (by kernel_rfl) (by simp) ?_;refine .cons rfl (fun K hK=>?_) (.cons rfl (fun K hK=>?_) .nil)
   focus
    refine wLy ?_;go_simp;go_at_call 26;refine (TF.out.c2 _ p k QC.out.b QC.out.r HK.out).mono ?_;rintro e x0 ⟨vv,rfl,hN,hx,hb⟩;(try simp only []);have HU:Hid (IsX x0 vv X su un):=⟨hN.weak (Nat.zero_le _),hx⟩;replace QC:=hm_ (QC.out.next hb);clear hN hx hb;refine wHk hK (QC.out.all) ?_;clear hK K hH;intro hH;refine wTk 7 ?_;refine wTk 8 ?_;refine wTk 9 ?_;refine wTk 10 ?_;refine wRd 11 (fun K hK=>?_);go_simp;(try simp only []);have B8:Hid (Box (x0.alloc (.cells nZ.toArray 29)) x0.heap.size nZ):=zn_;have HB8:Hid (Below x0.heap.size x0 (x0.alloc (.cells nZ.toArray 29))):=zb_ _ _;refine wHk hK ((QC.out.next HB8.out).all) ?_;clear hK K hH;intro hH;generalize x0.alloc (.cells nZ.toArray 29)=x1 at *;have HB9:Hid (∀ v0 v1 v2 v3 v4 v5 v6,Below x0.heap.size x0 (((((((x1.setCell ⟨x0.heap.size,0,none⟩ v0).setCell ⟨x0.heap.size,1,none⟩ v1).setCell ⟨x0.heap.size,2,none⟩ v2).setCell ⟨x0.heap.size,3,none⟩ v3).setCell ⟨x0.heap.size,4,none⟩ v4).setCell ⟨x0.heap.size,5,none⟩ v5).setCell ⟨x0.heap.size,6,none⟩ v6)):=fun v0 v1 v2 v3 v4 v5 v6=>yq_ HB8.out (Nat.le_refl _)
    have QD:Hid (TkI W4 (o7 x1 x0.heap.size vv) q (i * 7) g9 A C p k X su un ([(g11,u)])):=QC.out.next (HB9.out _ _ _ _ _ _ _);have HW:Hid (IsX (o7 x1 x0.heap.size vv) vv X su un):=HU.out.next (HB9.out _ _ _ _ _ _ _);have BX:Hid (Box (o7 x1 x0.heap.size vv) x0.heap.size (nL vv)):=B8.out.s7;clear QC HU HB8 HB9;generalize x0.heap.size=g8 at *
   rotate_left
   focus
    refine wLy ?_;go_simp;(try simp only []);have B8:Hid (Box (wd.alloc (.cells nZ.toArray 29)) wd.heap.size nZ):=zn_;have HB8:Hid (Below wd.heap.size wd (wd.alloc (.cells nZ.toArray 29))):=zb_ _ _;refine wHk hK ((QC.out.next HB8.out).all) ?_;clear hK K hH;intro hH;generalize wd.alloc (.cells nZ.toArray 29)=x0 at *;refine wRd 6 (fun K hK=>?_);go_simp;go_at_call 26;refine (TF.out.c2 _ p k (QC.out.next HB8.out).b (QC.out.next HB8.out).r HK.out).mono ?_;rintro e x1 ⟨vv,rfl,hN,hx,hb⟩;(try simp only []);have HB7:Hid (Below wd.heap.size wd x1):=HB8.out.trans (hb.mono HB8.out.size);have HU:Hid (NoR x0.heap.size x1 vv∧(vv.x=X∧vv.su=su∧vv.un=un)∧wd.heap.size < x0.heap.size):=⟨hN,hx,B8.out.lt⟩;replace B8:=hm_ (B8.out.next hb);refine wHk hK ((QC.out.next HB7.out).all) ?_;clear hK K hH hN hx hb;intro hH;refine wTk 7 ?_;refine wTk 8 ?_;refine wTk 9 ?_;refine wTk 10 ?_;have HB9:Hid (∀ v0 v1 v2 v3 v4 v5 v6,Below wd.heap.size wd (((((((x1.setCell ⟨wd.heap.size,0,none⟩ v0).setCell ⟨wd.heap.size,1,none⟩ v1).setCell ⟨wd.heap.size,2,none⟩ v2).setCell ⟨wd.heap.size,3,none⟩ v3).setCell ⟨wd.heap.size,4,none⟩ v4).setCell ⟨wd.heap.size,5,none⟩ v5).setCell ⟨wd.heap.size,6,none⟩ v6)):=fun v0 v1 v2 v3 v4 v5 v6=>yq_ HB7.out (Nat.le_refl _)
    have QD:Hid (TkI W4 (o7 x1 wd.heap.size vv) q (i * 7) g9 A C p k X su un ([(g11,u)])):=QC.out.next (HB9.out _ _ _ _ _ _ _);have HW:Hid (IsX (o7 x1 wd.heap.size vv) vv X su un):=⟨(nor7 (w:=wd) HU.out.1 HU.out.2.2 (Nat.le_of_lt HU.out.2.2)).weak (Nat.zero_le _),HU.out.2.1⟩;have BX:Hid (Box (o7 x1 wd.heap.size vv) wd.heap.size (nL vv)):=B8.out.s7;clear QC HU HB8 HB9 HB7;generalize wd.heap.size=g8 at *
   rotate_left
   all_goals
    obtain ⟨a0,a1,a2,a3,a4,a5,a6⟩:=B8.out.c7;obtain ⟨f0,f1,f2,f3,f4,f5,f6⟩:=B8.out.f7;refine wRd 12 (fun K hK=>?_);go_simp;(try simp only []);refine hK.out _ _ ?_ (fun hH'=>?_)
    ·(try dsimp only);exact QD.out.all
    clear hK K hH;have hH:=hH';clear hH';refine wLy ?_;refine wTk 13 ?_;refine wTk 14 ?_;refine wDn ?_;clear hH a0 a1 a2 a3 a4 a5 a6 f0 f1 f2 f3 f4 f5 f6;go_wp2_with fail;go_meet
    case rel=>exact ⟨_,vv,rfl,rfl,rfl,QD.out.add BX.out HW.out⟩
  case rest=>
   obtain ⟨g14,v,rfl,rfl,rfl,hI⟩:=hcut;have Q2:=hm_ hI;clear hI Q1;generalize wc=Wd at *;have BU:=(Q2.out.xs (g11,u) (by simp)).1;obtain ⟨a0,a1,a2,a3,a4,a5,a6⟩:=BU.c7;clear BU;go_wp2_with fail;refine Calls.mono (TF.out.c3 _ u Q2.out.b (Q2.out.xs (g11,u) (by simp)).2) ?_;rintro e We ⟨pj,kj,rfl,hg,hkj,hb⟩;clear a0 a1 a2 a3 a4 a5 a6;go_upto_region 11 with fail;refine zH_ (fun W=>TkI W4 W q (i * 7) g9 A C p k X su un [(g14,v),(g11,u)]∧Box W We.heap.size [.slice pj J.l.length kj,.int .i64 J.a,.int .i64 J.b,.int .i64 J.c]∧GRow 0 W pj (flat J.l)) ⟨(Q2.out.next hb).next (zb_ _ _),zn_,(hg.weak (Nat.zero_le _)).next (zb_ _ _)⟩ (fun Wf hI=>?_);generalize We.heap.size=g17 at *;have Q3:=hm_ hI;clear hI hg hkj hb Q2;obtain ⟨a0,a1,a2,a3⟩:=Q3.out.2.1.c4;obtain ⟨b0,b1,b2,b3⟩:=Q3.out.1.ob.c4;go_wp2_with fail;refine Calls.mono (TF.out.c4 _ pj kj p k Q3.out.2.2 Q3.out.1.r HK.out) ?_;rintro e Wg ⟨rfl,hb⟩;have Q4:=hm_ (Q3.out.1.next hb);clear hb a0 a1 a2 a3 b0 b1 b2 b3 Q3;have BU:=(Q4.out.xs (g11,u) (by simp)).1;obtain ⟨a0,a1,a2,a3,a4,a5,a6⟩:=BU.c7;obtain ⟨b0,b1,b2,b3⟩:=Q4.out.ob.c4;clear BU;go_wp2_with fail;refine Calls.mono (TF.out.c5 _ u p k Q4.out.b (Q4.out.xs (g11,u) (by simp)).2 Q4.out.r HK.out) ?_;rintro e Wh ⟨y,rfl,hN,hx,hb⟩;have HX:=hm_ hx;clear a0 a1 a2 a3 a4 a5 a6 b0 b1 b2 b3 hx;go_upto_region 13 with fail;refine zH_ (fun W=>TkI W4 W q (i * 7) g9 A C p k X su un [(Wh.heap.size,y),(g14,v),(g11,u)]) (((Q4.out.next hb).next (zb_ _ _)).add zn_ ⟨(hN.weak (Nat.zero_le _)).next (zb_ _ _),HX.out⟩) (fun Wi hI=>?_);generalize Wh.heap.size=g21 at *;have Q5:=hm_ hI;clear hI hN HX hb Q4;obtain ⟨nb,hnb⟩:∃ nb:Bool,nb = !b:=⟨_,rfl⟩;have hbn:(b == !nb)=true:=by rw [hnb]; cases b <;> rfl
   have hux:u.x.n=A.x.n:=by rw [(Q5.out.xs (g11,u) (by simp)).2.2.1]; exact TF.out.n
   have HUY:Hid ((u.x.n == A.x.n)=true∧(b == !nb)=true):=⟨beq_iff_eq.2 hux,hbn⟩;clear hux hbn;have C7:Hid (∀ W,Below W4.heap.size W4 W->IsX W u X su un->Calls Tryz.prog 15 #[nV u,nV A] W fun e w'=>e=.returned (.bool nb)∧Below W.heap.size W w'):=fun W h1 h2=>by rw [hnb]; exact TF.out.c7 W u h1 h2
   clear hnb;have HA:Hid (∀ W,TkI W4 W q (i * 7) g9 A C p k X su un [(g21,y),(g14,v),(g11,u)]->(fun w'=>(w'.cell? ⟨q,i * 7,none⟩=some (.int .i64 A.x.id)∧w'.cell? ⟨q,i * 7+1,none⟩=some (.int .i64 A.x.n)∧w'.cell? ⟨q,i * 7+2,none⟩=some (.int .i64 A.x.cut)∧w'.cell? ⟨q,i * 7+3,none⟩=some (.slice A.p0 A.ms.length A.c0)∧w'.cell? ⟨q,i * 7+4,none⟩=some (.slice A.p1 A.x.fd.length A.c1)∧w'.cell? ⟨q,i * 7+5,none⟩=some (.slice A.p2 A.su.length A.c2)∧w'.cell? ⟨q,i * 7+6,none⟩=some (.slice A.p3 A.un.length A.c3))∧(w'.cell? ⟨g11,0,none⟩=some (.int .i64 u.x.id)∧w'.cell? ⟨g11,1,none⟩=some (.int .i64 u.x.n)∧w'.cell? ⟨g11,2,none⟩=some (.int .i64 u.x.cut)∧w'.cell? ⟨g11,3,none⟩=some (.slice u.p0 u.ms.length u.c0)∧w'.cell? ⟨g11,4,none⟩=some (.slice u.p1 u.x.fd.length u.c1)∧w'.cell? ⟨g11,5,none⟩=some (.slice u.p2 u.su.length u.c2)∧w'.cell? ⟨g11,6,none⟩=some (.slice u.p3 u.un.length u.c3))∧(w'.cell? ⟨g14,0,none⟩=some (.int .i64 v.x.id)∧w'.cell? ⟨g14,1,none⟩=some (.int .i64 v.x.n)∧w'.cell? ⟨g14,2,none⟩=some (.int .i64 v.x.cut)∧w'.cell? ⟨g14,3,none⟩=some (.slice v.p0 v.ms.length v.c0)∧w'.cell? ⟨g14,4,none⟩=some (.slice v.p1 v.x.fd.length v.c1)∧w'.cell? ⟨g14,5,none⟩=some (.slice v.p2 v.su.length v.c2)∧w'.cell? ⟨g14,6,none⟩=some (.slice v.p3 v.un.length v.c3))∧w'.cell? ⟨g21,0,none⟩=some (.int .i64 y.x.id)∧w'.cell? ⟨g21,1,none⟩=some (.int .i64 y.x.n)∧w'.cell? ⟨g21,2,none⟩=some (.int .i64 y.x.cut)∧w'.cell? ⟨g21,3,none⟩=some (.slice y.p0 y.ms.length y.c0)∧w'.cell? ⟨g21,4,none⟩=some (.slice y.p1 y.x.fd.length y.c1)∧w'.cell? ⟨g21,5,none⟩=some (.slice y.p2 y.su.length y.c2)∧w'.cell? ⟨g21,6,none⟩=some (.slice y.p3 y.un.length y.c3)) W):=fun W h=>⟨h.nd,(h.xs (g11,u) (by simp)).1.c7,(h.xs (g14,v) (by simp)).1.c7,(h.xs (g21,y) (by simp)).1.c7⟩
   refine wp_region_held_drew (S:=(fun w'=>(w'.cell? ⟨q,i * 7,none⟩=some (.int .i64 A.x.id)∧w'.cell? ⟨q,i * 7+1,none⟩=some (.int .i64 A.x.n)∧w'.cell? ⟨q,i * 7+2,none⟩=some (.int .i64 A.x.cut)∧w'.cell? ⟨q,i * 7+3,none⟩=some (.slice A.p0 A.ms.length A.c0)∧w'.cell? ⟨q,i * 7+4,none⟩=some (.slice A.p1 A.x.fd.length A.c1)∧w'.cell? ⟨q,i * 7+5,none⟩=some (.slice A.p2 A.su.length A.c2)∧w'.cell? ⟨q,i * 7+6,none⟩=some (.slice A.p3 A.un.length A.c3))∧(w'.cell? ⟨g11,0,none⟩=some (.int .i64 u.x.id)∧w'.cell? ⟨g11,1,none⟩=some (.int .i64 u.x.n)∧w'.cell? ⟨g11,2,none⟩=some (.int .i64 u.x.cut)∧w'.cell? ⟨g11,3,none⟩=some (.slice u.p0 u.ms.length u.c0)∧w'.cell? ⟨g11,4,none⟩=some (.slice u.p1 u.x.fd.length u.c1)∧w'.cell? ⟨g11,5,none⟩=some (.slice u.p2 u.su.length u.c2)∧w'.cell? ⟨g11,6,none⟩=some (.slice u.p3 u.un.length u.c3))∧(w'.cell? ⟨g14,0,none⟩=some (.int .i64 v.x.id)∧w'.cell? ⟨g14,1,none⟩=some (.int .i64 v.x.n)∧w'.cell? ⟨g14,2,none⟩=some (.int .i64 v.x.cut)∧w'.cell? ⟨g14,3,none⟩=some (.slice v.p0 v.ms.length v.c0)∧w'.cell? ⟨g14,4,none⟩=some (.slice v.p1 v.x.fd.length v.c1)∧w'.cell? ⟨g14,5,none⟩=some (.slice v.p2 v.su.length v.c2)∧w'.cell? ⟨g14,6,none⟩=some (.slice v.p3 v.un.length v.c3))∧w'.cell? ⟨g21,0,none⟩=some (.int .i64 y.x.id)∧w'.cell? ⟨g21,1,none⟩=some (.int .i64 y.x.n)∧w'.cell? ⟨g21,2,none⟩=some (.int .i64 y.x.cut)∧w'.cell? ⟨g21,3,none⟩=some (.slice y.p0 y.ms.length y.c0)∧w'.cell? ⟨g21,4,none⟩=some (.slice y.p1 y.x.fd.length y.c1)∧w'.cell? ⟨g21,5,none⟩=some (.slice y.p2 y.su.length y.c2)∧w'.cell? ⟨g21,6,none⟩=some (.slice y.p3 y.un.length y.c3))) (by kernel_rfl) ?_ (fun hH=>?_)
   ·(try dsimp only);exact HA.out _ (Q5.out.next (zd_ _))
   replace Q5:=hm_ (Q5.out.next (zd_ _));generalize Wi.drew=Wj at *;simp only [List.append_eq,List.cons_append,List.nil_append];refine wTq 0 ?_;refine wTq 1 ?_;refine wTq 2 ?_;refine wTq 3 ?_;refine wTq 4 ?_;refine wTq 5 ?_;refine wTq 6 ?_;refine wTq 7 ?_;refine wTq 8 ?_;refine wTq 9 ?_;refine wTq 10 ?_;refine wTq 11 ?_;refine wTq 12 ?_;refine wRq 13 (fun K hK=>?_);go_simp;go_at_call 15;refine (TF.out.c6 _ u v Q5.out.b (Q5.out.xs (g11,u) (by simp)).2 (Q5.out.xs (g14,v) (by simp)).2).mono ?_;rintro e Wk ⟨rfl,hb⟩;(try simp only []);replace Q5:=hm_ (Q5.out.next hb);refine wHk hK (HA.out _ Q5.out) ?_;clear hK K hH hb;intro hH;refine wTq 14 ?_;refine wTq 15 ?_;refine wTq 16 ?_;refine wTq 17 ?_;refine wTq 18 ?_;refine wTq 19 ?_;refine wTq 20 ?_;refine wTq 21 ?_;refine wTq 22 ?_;refine wTq 23 ?_;refine wTq 24 ?_;refine wTq 25 ?_;refine wTq 26 ?_;refine wTq 27 ?_;refine wTq 28 ?_;refine wTq 29 ?_;refine wTq 30 ?_;refine wTq 31 ?_;refine wTq 32 ?_;refine wTq 33 ?_;refine wTq 34 ?_;refine wTq 35 ?_;refine wTq 36 ?_;refine wRq 37 (fun K hK=>?_);go_simp;go_at_call 15;refine (TF.out.c6 _ u y Q5.out.b (Q5.out.xs (g11,u) (by simp)).2 (Q5.out.xs (g21,y) (by simp)).2).mono ?_;rintro e Wl ⟨rfl,hb⟩;(try simp only []);replace Q5:=hm_ (Q5.out.next hb);refine wHk hK (HA.out _ Q5.out) ?_;clear hK K hH hb;intro hH;refine wTq 38 ?_;refine wTq 39 ?_;refine wTq 40 ?_;refine wTq 41 ?_;refine wTq 42 ?_;refine wTq 43 ?_;refine wTq 44 ?_;refine wTq 45 ?_;refine wTq 46 ?_;have huy:=HUY.out.1;refine wTq (v:=.bool true) 47 ?_;clear huy;refine wTq 48 ?_;refine wTq 49 ?_;refine wTq 50 ?_;refine wTq 51 ?_;refine wTq 52 ?_;refine wTq 53 ?_;refine wTq 54 ?_;refine wTq 55 ?_;refine wRq 56 (fun K hK=>?_);go_simp;go_at_call 15;refine (C7.out _ Q5.out.b (Q5.out.xs (g11,u) (by simp)).2).mono ?_;rintro e Wm ⟨rfl,hb⟩;(try simp only []);replace Q5:=hm_ (Q5.out.next hb);refine wHk hK (HA.out _ Q5.out) ?_;clear hK K hH hb;intro hH;refine wTq 57 ?_;have hbn:=HUY.out.2;refine wTq (v:=.bool true) 58 ?_;clear hbn;refine wTq 59 ?_;refine wTq 60 ?_;refine wTq 61 ?_;refine wRq 62 (fun K hK=>?_);go_simp;go_at_call 17;refine (TF.out.c8 _ u Q5.out.b (Q5.out.xs (g11,u) (by simp)).2).mono ?_;rintro e Wn ⟨rfl,hb⟩;(try simp only []);replace Q5:=hm_ (Q5.out.next hb);refine wHk hK (HA.out _ Q5.out) ?_;clear hK K hH hb;intro hH;refine wTq 63 ?_;refine wTq 64 ?_;refine wDn ?_;clear hH;go_wp2;go_ret;exact ⟨rfl,HBW.out.trans (Q5.out.b.mono HBW.out.size)⟩
end
end Go.Proofs.YtijcjhcgpmnchaaGreatDoor
