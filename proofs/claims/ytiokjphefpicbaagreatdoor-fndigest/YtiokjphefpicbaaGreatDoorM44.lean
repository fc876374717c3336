/- Nodes and their buckets, part 44 of the law FnDigest. -/
import Derived.Test.YtiokjphefpicbaaGreatDoorM43
import Derived.Test.YtiokjphefpicbaaGreatDoorIter
namespace Go.Proofs.YtiokjphefpicbaaGreatDoor
open Go.RowKit
set_option maxRecDepth 100000
set_option maxHeartbeats 16000000
set_option linter.unusedSimpArgs false
set_option linter.unusedVariables false
section
variable {M:ByteArray→Option Value} {W w:World} {base e mb n:Nat} {v:Value} {xs:List Value}
theorem pq_ {size:Nat} (h:W.ownsRow base e size v n xs):W.ownsRow 0 e size v n xs∧∀ k,v.ownBlock=some k→base≤k:=by
 refine ⟨⟨h.1,?_⟩,fun k hk=>?_⟩
 ·rcases h.2 with h' | ⟨g,cap,cur,h1,h2,r⟩
  ·exact .inl h'
  ·exact .inr ⟨g,cap,cur,h1,Nat.zero_le _,r⟩
 ·rcases h.2 with ⟨h',_⟩ | ⟨g,cap,cur,h1,h2,r⟩
  ·rw [h'] at hk; cases hk
  ·rw [h1] at hk; cases hk; exact h2
theorem nl_ {ms:List Cm} (hm:MapF w Tryz.prog 9 mb n M) (hM:∀ s,M s=(getM s ms).map qI_) (hu:Up (ms.map (·.c))) (hl:ms.length≤100000):SKs mb ms w:=fun W hW=>by
 obtain ⟨D,hown,hkeys⟩:=tB_ (hm.next hW) hM hu
 have hlen:Maps.size D=ms.length:=by
  have h1:=congrArg List.length (hkeys _ (List.Perm.refl _))
  rw [List.length_mergeSort,List.length_map] at h1
  rw [← h1]
  obtain ⟨es,clock,_,_,_,hD⟩:=hown
  rw [hD]
  simp [strKeys,Maps.size]
 refine ⟨callsIn_wide.1 (Tryz.maps_Keys_145 (some mb) W),?_⟩
 refine (callsIn_wide.1 (Tryz.slices_Sorted_keys_144_145 mb n D rawE W hown (by rw [hlen]; unfold maxLen; omega) (by rw [hlen]; omega))).mono ?_
 rintro e w' ⟨v,ss,rfl,hp,ho,_,hb⟩
 have hs:=hkeys ss hp
 have hl2:ss.length=ms.length:=by
  have h1:=congrArg List.length hs
  rw [List.length_mergeSort,List.length_map] at h1
  exact h1
 rw [hs,hl2] at ho
 have hv:(ms.map (fun m=>bl m.c.k)).map encStr=V (ms.map (·.c.k)):=by
  simp only [V,List.map_map]
  refine List.map_congr_left (fun m _=>?_)
  simp [encStr,bl]
 rw [hv] at ho
 obtain ⟨h0,hge⟩:=pq_ ho
 obtain ⟨p,c,rfl,_,hG⟩:=yl_ (lo:=W.heap.size) h0 (fun k hk=>by have:=hge k hk; simp at this; omega)
 exact ⟨p,c,rfl,hG,hb⟩
end
section
variable {C:Cl} {M:ByteArray→Option Value} {W W' w:World} {g k mb:Nat} {o:No} {rs:List (Bool × Cl)}
theorem w6_:∀ {ms:List Cm} {x:Cm} {k:ByteArray},Up (ms.map (·.c))→getM k (setM x ms)=if x.c.k=k then some x else getM k ms
 | [],x,k,_=>by simp [setM,getM]
 | y :: ys,x,k,h=>by
  have h':=List.pairwise_cons.1 h
  unfold setM
  split
  ·rename_i hlt
   unfold getM
   rw [w6_ h'.2]
   by_cases e:y.c.k=k
   ·rw [if_pos e,if_pos e,if_neg (fun e2=>by rw [e,e2] at hlt; exact List.lt_irrefl _ hlt)]
   ·rw [if_neg e,if_neg e]
  ·split
   ·rename_i he
    by_cases e:x.c.k=k
    ·simp [getM,e]
    ·simp [getM,e,he]
   ·by_cases e:x.c.k=k
    ·simp [getM,e]
    ·simp [getM,e]
structure RpI (w W:World) (j:Int) (rs:List (Bool × Cl)) (k g mb:Nat) (o:No) (M:ByteArray→Option Value):Prop where
 z:Box W w.heap.size nZ
 x:Box W g [.int .i64 o.x.id,.int .i64 o.x.n,.int .i64 o.x.cut,.slice none 0 0,.slice o.p1 o.x.fd.length o.c1,.slice o.p2 o.su.length o.c2,.slice o.p3 o.un.length o.c3,.map (some mb)]
 m:MapF W Tryz.prog 9 mb k M
 v:∀ s,M s=(getM s o.ms).map qI_
 e:o.x=mkN j (rs.take k)
 cs:o.x.cs=o.ms.map (·.c)
 r:∀ y ∈ o.ms,GRow (w.heap.size+1) W y.p (flat y.c.l)∧y.c.l.length≤y.q
 f:OwnG W 52 3 (Value.slice o.p1 o.x.fd.length o.c1) o.x.fd.length (zm_ o.x.fd) (g+1)
 s:OwnT W (Value.slice o.p2 o.su.length o.c2) o.su (w.heap.size+1)
 un:o.un=[]
 ns:∀ b,(Value.slice o.p2 o.su.length o.c2).ownBlock=some b→b≠g∧b≠mb∧(Value.slice o.p1 o.x.fd.length o.c1).ownBlock≠some b
 nr:∀ y ∈ o.ms,∀ x,y.p=some x→flat y.c.l≠[]→(Value.slice o.p1 o.x.fd.length o.c1).ownBlock≠some x.block∧(Value.slice o.p2 o.su.length o.c2).ownBlock≠some x.block∧x.block≠g∧x.block≠mb
 l:w.heap.size < mb∧mb < g
 b:Below w.heap.size w W
theorem RpI.up {j:Int} (h:RpI w W j rs k g mb o M):Up (o.ms.map (·.c)):=by rw [← h.cs,h.e]; exact Gds.up
theorem RpI.had {j:Int} (h:RpI w W j rs k g mb o M) (C:Cl):∃ kk p1 q1,(M C.k).getD (.agg #[.string ⟨#[]⟩,.slice none 0 0,.int .i64 0,.int .i64 0,.int .i64 0])=.agg #[.string kk,.slice p1 (atC C.k o.x.cs).l.length q1,.int .i64 (atC C.k o.x.cs).a,.int .i64 (atC C.k o.x.cs).b,.int .i64 (atC C.k o.x.cs).c]∧zk_ W p1 (atC C.k o.x.cs).l∧(atC C.k o.x.cs).l.length≤q1:=by
 have h1:=wB_ C.k o.ms
 rw [← h.cs] at h1
 rw [h.v]
 unfold atC
 cases hg:getM C.k o.ms with
 | none=>
  rw [hg] at h1
  rw [← h1]
  exact ⟨⟨#[]⟩,none,0,rfl,.inl rfl,Nat.le_refl _⟩
 | some y=>
  rw [hg] at h1
  rw [← h1]
  have hy:=h.r y (x9_ hg).1
  exact ⟨y.c.k,y.p,y.q,rfl,hy.1.sib,hy.2⟩
theorem RpI.ds {j:Int} (h:RpI w W j rs k g mb o M) (hj:j=0∨j=1∨j=2) (hk:k < 100) (C:Cl):∃ kk p1 q1,DS W o C (atC C.k o.x.cs) kk p1 q1 (g+1) g mb k M:=by
 obtain ⟨kk,p1,q1,h1,h2,h3⟩:=h.had C
 have hfd:=oT_ j (rs.take k)
 rw [← h.e] at hfd
 have hl:=h.l
 exact ⟨kk,p1,q1,⟨by omega,⟨by omega,by omega,h.x.lt⟩,hk,h3,by rw [h.e,(sf_ _ _).1]; exact hj,by simp at hfd; omega,h.f,h1,h.x,h.m,h2⟩⟩
theorem RpI.put {j:Int} (h:RpI w W j rs k g mb o M) (hk:k < rs.length) (hr:rs[k]=(true,C)) (hP:DpP W o (g+1) g mb k M C W'):∃ o' M',RpI w W' j rs (k+1) g mb o' M'∧o'.su=o.su:=by
 obtain ⟨vo,vc,pf,cf,h1,h2,h3,h4,h5,h6,h7⟩:=hP
 have hl:=h.l
 have hsz:=h.b.size
 have hx:nxt o.x (true,C)=mkN j (rs.take (k+1)):=by rw [wz_ _ _ _ hk,hr,h.e]
 have hgl:=h.x.lt
 have hfW:∀ b,(Value.slice o.p1 o.x.fd.length o.c1).ownBlock=some b→g+1≤b∧b < W.heap.size:=fun b hb=>h.f.lt b hb
 refine ⟨⟨nxt o.x (true,C),setM ⟨C,vo,vc⟩ o.ms,none,0,pf,cf,o.p2,o.c2,o.p3,o.c3,o.su,o.un⟩,mset M C.k (xD_ C vo vc),⟨?_,?_,h1,fun s=>?_,hx,?_,fun y hy=>?_,?_,?_,h.un,fun b hb=>?_,fun y hy x hyp hne=>?_,hl,?_⟩,rfl⟩
 ·exact h.z.kp h5 (fun e=>by rcases e with e | e | e; omega; omega; have:=hfW _ e; omega)
 ·have e:(nxt o.x (true,C)).fd.length=o.x.fd.length+1:=by simp [nxt]
  show Box W' g [.int .i64 (nxt o.x (true,C)).id,.int .i64 (nxt o.x (true,C)).n,.int .i64 (nxt o.x (true,C)).cut,.slice none 0 0,.slice pf (nxt o.x (true,C)).fd.length cf,.slice o.p2 o.su.length o.c2,.slice o.p3 o.un.length o.c3,.map (some mb)]
  rw [e]
  exact h3
 ·unfold mset
  rw [w6_ h.up]
  by_cases e:s=C.k
  ·rw [if_pos e,if_pos e.symm]; rfl
  ·rw [if_neg e,if_neg (fun e2=>e e2.symm)]; exact h.v s
 ·show setC C o.x.cs=_
  rw [xZ_,h.cs]
 ·rcases yC_ hy with rfl | hy
  ·exact ⟨h2.1.weak (by omega),h2.2⟩
  ·refine ⟨(h.r y hy).1.kp h5 (fun x hx hv e=>?_),(h.r y hy).2⟩
   obtain ⟨n1,n2,n3,n4⟩:=h.nr y hy x hx hv
   rcases e with e | e | e
   ·exact n3 e
   ·exact n4 e
   ·exact n1 e
 ·have e:(nxt o.x (true,C)).fd=o.x.fd++[⟨o.x.id,o.x.n+1,C.k⟩]:=by simp [nxt]
  show OwnG W' 52 3 (.slice pf (nxt o.x (true,C)).fd.length cf) (nxt o.x (true,C)).fd.length (zm_ (nxt o.x (true,C)).fd) (g+1)
  rw [e]
  simpa using h4
 ·have hG:OwnG W 9 1 (Value.slice o.p2 o.su.length o.c2) o.su.length (V o.su) (w.heap.size+1):=⟨h.s.own,h.s.ge⟩
  have hG':=hG.kp h5 (fun b hb e=>by
   obtain ⟨n1,n2,n3⟩:=h.ns b hb
   rcases e with e | e | e
   ·exact n1 e
   ·exact n2 e
   ·exact n3 e)
  exact ⟨hG'.own,hG'.ge⟩
 ·obtain ⟨n1,n2,n3⟩:=h.ns b hb
  refine ⟨n1,n2,fun e=>?_⟩
  have e':(Value.slice pf (o.x.fd.length+1) cf).ownBlock=some b:=by simpa [nxt] using e
  rcases h6 b e' with e2 | e2
  ·exact n3 e2
  ·have:=(h.s.lt b hb).2
   omega
 ·have efd:(nxt o.x (true,C)).fd.length=o.x.fd.length+1:=by simp [nxt]
  show (Value.slice pf (nxt o.x (true,C)).fd.length cf).ownBlock≠some x.block∧(Value.slice o.p2 o.su.length o.c2).ownBlock≠some x.block∧x.block≠g∧x.block≠mb
  rw [efd]
  rcases yC_ hy with rfl | hy
  ·have hb:W.heap.size≤x.block:=by
    rcases h2.1 with h' | ⟨b,off,q1,q2,_⟩
    ·exact (hne h').elim
    ·rw [q1] at hyp; cases hyp; exact q2
   refine ⟨h7 x hyp hne,fun e=>?_,by omega,by omega⟩
   have:=(h.s.lt _ e).2
   omega
  ·obtain ⟨n1,n2,n3,n4⟩:=h.nr y hy x hyp hne
   refine ⟨fun e=>?_,n2,n3,n4⟩
   rcases h6 _ e with e2 | e2
   ·exact n1 e2
   ·have:=w5_ (h.r y hy).1 hyp hne
    omega
 ·exact h.b.trans (h5.below hsz (fun b hb e=>by rcases e with e | e | e; omega; omega; have:=hfW _ e; omega))
end
section
variable {C:Cl} {M:ByteArray→Option Value} {W W' w:World} {g k mb:Nat} {o:No} {rs:List (Bool × Cl)}
theorem RpI.next {j:Int} (h:RpI w W j rs k g mb o M) (hb:Below W.heap.size W W'):RpI w W' j rs k g mb o M:=
 ⟨h.z.next hb,h.x.next hb,h.m.next hb,h.v,h.e,h.cs,fun y hy=>⟨(h.r y hy).1.next hb,(h.r y hy).2⟩,h.f.next hb,h.s.next hb,h.un,h.ns,h.nr,h.l,h.b.trans (hb.mono h.b.size)⟩
theorem RpI.join {j:Int} (h:RpI w W j rs k g mb o M) (hk:k < rs.length) (hr:rs[k]=(false,C)) (hP:DjP W mb k M C W'):∃ o' M',RpI w W' j rs (k+1) g mb o' M'∧o'.su=o.su:=by
 obtain ⟨vo,vc,W5,h1,h2,h3,h4,h5⟩:=hP
 have hK:Kp (· = mb) W W':=(Kp.of_below (E:=fun _=>False) h4).trans (Kp.of_grown h5) (fun _ _ h=>h.elim) (fun _ _ h=>h)
 have hl:=h.l
 have hsz:=h.b.size
 have hgl:=h.x.lt
 have hx:nxt o.x (false,C)=mkN j (rs.take (k+1)):=by rw [wz_ _ _ _ hk,hr,h.e]
 refine ⟨⟨nxt o.x (false,C),setM ⟨C,vo,vc⟩ o.ms,none,0,o.p1,o.c1,o.p2,o.c2,o.p3,o.c3,o.su,o.un⟩,mset M C.k (xD_ C vo vc),⟨h.z.kp hK (by omega),h.x.kp hK (by omega),h1,fun s=>?_,hx,?_,fun y hy=>?_,h.f.kp hK (fun b hb e=>by have:=h.f.ge b hb; omega),?_,h.un,h.ns,fun y hy x hyp hne=>?_,hl,?_⟩,rfl⟩
 ·unfold mset
  rw [w6_ h.up]
  by_cases e:s=C.k
  ·rw [if_pos e,if_pos e.symm]; rfl
  ·rw [if_neg e,if_neg (fun e2=>e e2.symm)]; exact h.v s
 ·show setC C o.x.cs=_
  rw [xZ_,h.cs]
 ·rcases yC_ hy with rfl | hy
  ·exact ⟨h2.weak (by omega),h3⟩
  ·exact ⟨(h.r y hy).1.kp hK (fun x hx hv e=>(h.nr y hy x hx hv).2.2.2 e),(h.r y hy).2⟩
 ·have hG:OwnG W 9 1 (Value.slice o.p2 o.su.length o.c2) o.su.length (V o.su) (w.heap.size+1):=⟨h.s.own,h.s.ge⟩
  have hG':=hG.kp hK (fun b hb e=>(h.ns b hb).2.1 e)
  exact ⟨hG'.own,hG'.ge⟩
 ·rcases yC_ hy with rfl | hy
  ·have hb:W.heap.size≤x.block:=by
    rcases h2 with h' | ⟨b,off,q1,q2,_⟩
    ·exact (hne h').elim
    ·rw [q1] at hyp; cases hyp; exact q2
   exact ⟨fun e=>by have:=(h.f.lt _ e).2; omega,fun e=>by have:=(h.s.lt _ e).2; omega,by omega,by omega⟩
  ·exact h.nr y hy x hyp hne
 ·exact h.b.trans (hK.below hsz (fun b hb e=>by omega))
theorem RpI.app {j:Int} {X:World} {pf:Option Addr} {cf:Nat} {t:ByteArray} (h:RpI w W j rs k g mb o M) (hO:OwnT X (Value.slice pf (o.su.length+1) cf) (o.su++[t]) (w.heap.size+1)) (hG:Gro W X (Value.slice o.p2 o.su.length o.c2) (Value.slice pf (o.su.length+1) cf)):RpI w (X.setCell ⟨g,5,none⟩ (Value.slice pf (o.su.length+1) cf)) j rs k g mb { o with p2:=pf,c2:=cf,su:=o.su++[t] } M:=by
 have hl:=h.l
 have hgl:=h.x.lt
 have hsz:=h.b.size
 have hK:Kp (fun b=>b=g∨(Value.slice o.p2 o.su.length o.c2).ownBlock=some b) W (X.setCell ⟨g,5,none⟩ (Value.slice pf (o.su.length+1) cf)):=(Kp.of_gro hG).trans Kp.set (fun _ _ h=>.inr h) (fun _ _ h=>.inl h)
 have hsn:∀ b,(Value.slice pf (o.su.length+1) cf).ownBlock=some b→(Value.slice o.p2 o.su.length o.c2).ownBlock=some b∨W.heap.size≤b:=hG.fresh
 have hX:Box X g [.int .i64 o.x.id,.int .i64 o.x.n,.int .i64 o.x.cut,.slice none 0 0,.slice o.p1 o.x.fd.length o.c1,.slice o.p2 o.su.length o.c2,.slice o.p3 o.un.length o.c3,.map (some mb)]:=h.x.kp (Kp.of_gro hG) (fun e=>(h.ns _ e).1 rfl)
 have hlen:(o.su++[t]).length=o.su.length+1:=by simp
 refine ⟨h.z.kp hK (fun e=>by rcases e with e | e; omega; have:=h.s.ge _ e; omega),?_,h.m.kp hK (fun e=>by rcases e with e | e; omega; exact (h.ns _ e).2.1 rfl),h.v,h.e,h.cs,fun y hy=>⟨(h.r y hy).1.kp hK (fun x hx hv e=>by rcases e with e | e; exact (h.nr y hy x hx hv).2.2.1 e; exact (h.nr y hy x hx hv).2.1 e),(h.r y hy).2⟩,h.f.kp hK (fun b hb e=>by rcases e with e | e; have:=h.f.ge b hb; omega; exact (h.ns _ e).2.2 hb),?_,h.un,fun b hb=>?_,fun y hy x hyp hne=>?_,hl,?_⟩
 ·show Box _ g [.int .i64 o.x.id,.int .i64 o.x.n,.int .i64 o.x.cut,.slice none 0 0,.slice o.p1 o.x.fd.length o.c1,.slice pf (o.su++[t]).length cf,.slice o.p3 o.un.length o.c3,.map (some mb)]
  rw [hlen]
  have:=hX.set (i:=5) (u:=(Value.slice pf (o.su.length+1) cf)) (by simp)
  simpa using this
 ·show OwnT _ (.slice pf (o.su++[t]).length cf) (o.su++[t]) _
  rw [hlen]
  have hG2:OwnG X 9 1 (Value.slice pf (o.su.length+1) cf) (o.su++[t]).length (V (o.su++[t])) (w.heap.size+1):=⟨hO.own,hO.ge⟩
  have hG':=hG2.kp (Kp.set (g:=g) (i:=5) (u:=(Value.slice pf (o.su.length+1) cf))) (fun b hb e=>by
   rcases hsn b hb with e2 | e2
   ·exact (h.ns b e2).1 e
   ·omega)
  exact ⟨hG'.own,hG'.ge⟩
 ·have hb':(Value.slice pf (o.su.length+1) cf).ownBlock=some b:=by simpa [hlen] using hb
  rcases hsn b hb' with e2 | e2
  ·exact h.ns b e2
  ·exact ⟨by omega,by omega,fun e=>by have:=(h.f.lt b e).2; omega⟩
 ·obtain ⟨n1,n2,n3,n4⟩:=h.nr y hy x hyp hne
  refine ⟨n1,fun e=>?_,n3,n4⟩
  have e':(Value.slice pf (o.su.length+1) cf).ownBlock=some x.block:=by simpa [hlen] using e
  rcases hsn _ e' with e2 | e2
  ·exact n2 e2
  ·have:=w5_ (h.r y hy).1 hyp hne
   omega
 ·exact h.b.trans (hK.below hsz (fun b hb e=>by rcases e with e | e; omega; have:=h.s.ge _ e; omega))
theorem uF_ (x:Cl):∀ cs:List Cl,(setC x cs).length≤cs.length+1
 | []=>by simp [setC]
 | y :: ys=>by
  have:=uF_ x ys
  unfold setC
  split
  ·simp; omega
  ·split <;> simp
theorem nV_ (rs:List (Bool × Cl)):∀ x:Nd,(rs.foldl nxt x).cs.length≤x.cs.length+rs.length:=by
 induction rs with
 | nil=>intro x; simp
 | cons r rs ih=>
  intro x
  have h:=ih (nxt x r)
  have h2:(nxt x r).cs.length≤x.cs.length+1:=uF_ _ _
  simp only [List.foldl_cons,List.length_cons]
  omega
theorem nU_ (id:Int) (rs:List (Bool × Cl)):(mkN id rs).cs.length≤rs.length:=by have:=nV_ rs (newN id); simpa [mkN,newN] using this
theorem uE_ {x c:Cl}:∀ {cs:List Cl},c ∈ setC x cs→c=x∨c ∈ cs
 | [],h=>by simp [setC] at h; exact .inl h
 | y :: ys,h=>by
  unfold setC at h
  split at h
  ·rcases List.mem_cons.1 h with h | h
   ·exact .inr (by simp [h])
   ·exact (uE_ h).imp id (List.mem_cons_of_mem _)
  ·split at h
   ·rcases List.mem_cons.1 h with h | h
    ·exact .inl h
    ·exact .inr (List.mem_cons_of_mem _ h)
   ·rcases List.mem_cons.1 h with h | h
    ·exact .inl h
    ·exact .inr h
theorem nG_ {id:Int} {rs:List (Bool × Cl)} (h:Gds id rs):∀ k,k≤rs.length→∀ c ∈ (mkN id (rs.take k)).cs,c.k.size≤6
 | 0,_,c,hc=>by simp [mkN,newN] at hc
 | k+1,hk,c,hc=>by
  rw [wz_ _ _ _ hk] at hc
  rcases uE_ (show c ∈ setC _ _ from hc) with rfl | hc
  ·exact (h k hk).key.2.1
  ·exact nG_ h k (by omega) c hc
theorem ks_mk {id:Int} (h:Gds id rs) (c:Cl) (hc:c ∈ (mkN id rs).cs):c.k.size≤6:=nG_ h rs.length (Nat.le_refl _) c (by rw [List.take_length]; exact hc)
theorem qu_:∀ {ms:List Cm} {y:Cm},Up (ms.map (·.c))→y ∈ ms→getM y.c.k ms=some y
 | z :: zs,y,h,hy=>by
  have h':=List.pairwise_cons.1 h
  unfold getM
  rcases List.mem_cons.1 hy with rfl | hy
  ·rw [if_pos rfl]
  ·have hlt:=h'.1 y.c (List.mem_map_of_mem hy)
   rw [if_neg (fun e=>by rw [e] at hlt; exact List.lt_irrefl _ hlt)]
   exact qu_ h'.2 hy
theorem uy_ (j:Int) (rs:List (Bool × Cl)) (p:Option Addr) (c:Nat) (w:World) (hj:j=0∨j=1∨j=2) (hG:Gds j rs) (hn:rs.length < 100) (hT:TRow w p (zy_ rs)) (hc:(zy_ rs).length≤c) (ht:TB w) (hmx:MX w) :
  Calls Tryz.prog 57 #[.int .i64 j,.slice p (zy_ rs).length c] w fun e w'=>∃ u:No,e=.returned (.tuple #[nV u,.bool true])∧NoR w.heap.size w' u∧u.x=mkN j rs∧Below w.heap.size w w':=by
 (try unfold nV)
 have HT:=hm_ hT
 have HJ:=hm_ hj
 have HGD:Hid (Gds j rs):=hG
 have HTM:Hid (TB w∧MX w):=⟨ht,hmx⟩
 clear hT hj hG hc ht hmx
 have hl:(zy_ rs).length=rs.length:=by simp [zy_]
 rw [hl]
 clear hl
 obtain ⟨n,hn'⟩:∃ n,n=rs.length:=⟨_,rfl⟩
 rw [← hn'] at hn ⊢
 have HLN:Hid (n=rs.length):=hn'
 clear hn'
 have Z0:Hid (Box (w.alloc (.cells nZ.toArray 29)) w.heap.size nZ∧Below w.heap.size w (w.alloc (.cells nZ.toArray 29))∧(w.alloc (.cells nZ.toArray 29)).heap.size=w.heap.size+1):=⟨zo_,zb_ _ _,by simp⟩
 go_enter Tryz.func57,Tryz.ntmps57
 go_wp2_with fail
 generalize w.alloc (.cells nZ.toArray 29)=W0 at *
 refine Calls.mono (qC_ j W0) ?_
 rintro e W1 ⟨g,mb,p2,c2,p3,c3,rfl,hx,hm,hs,hs2,hl,hb⟩
 have Q0:Hid (RpI w W1 j rs 0 g mb ⟨newN j,[],none,0,none,0,p2,c2,p3,c3,[],[]⟩ (fun _=>none)):=by
  have hz:=Z0.out.2.2
  exact ⟨Z0.out.1.next hb,hx,hm,fun s=>rfl,by simp [mkN],rfl,fun y hy=>by simp at hy,OwnG.nil _ _ _ _,⟨hs.own,fun k hk=>by have:=hs.ge k hk; omega⟩,rfl,fun b hb=>⟨by have:=hs2 b hb; omega,by have:=hs2 b hb; omega,fun e=>by cases e⟩,fun y hy=>by simp at hy,by omega,Z0.out.2.1.trans (hb.mono Z0.out.2.1.size)⟩
 clear hx hm hs hs2 hl hb Z0
 go_wp2
 go_loopw [14] (fun s14 wr=>∃ (k:Nat) (o:No) (M:ByteArray→Option Value),k≤n∧s14=.int .i64 k∧RpI w wr j rs k g mb o M∧o.su.length=k) (fun s14 _=>n - (intOf s14).toNat)
 case atStart=>exact ⟨0,_,_,by omega,rfl,Q0.out,rfl⟩
 case round=>
  obtain ⟨k,o1,M1,hkn,rfl,hq,hsu⟩:=hrel
  have Q1:=hm_ hq
  have HSU:=hm_ hsu
  clear hq Q0 hsu
  have hk0:(0:Int)≤(k:Int):=by omega
  by_cases hlt:k < n
  ·have hlt':(k:Int) < (n:Int):=by omega
   have hkr:k < rs.length:=by have:=HLN.out; omega
   obtain ⟨pb,C,hr⟩:∃ pb C,rs[k]=(pb,C):=⟨_,_,rfl⟩
   have FO:Hid (Fol o1.x (pb,C)):=by rw [Q1.out.e,← hr]; exact HGD.out k hkr
   have HR:=hm_ hr
   rcases HT.out with h' | ⟨b,off,rfl,hcl⟩
   ·rw [zy_,List.map_eq_nil_iff] at h'
    rw [h'] at hkr
    simp at hkr
   have x0:wr.cell? ⟨b,off+k,none⟩=some (.string (recT pb C)):=by
    have h1:=hcl k (by simpa [zy_] using hkr)
    have h2:(zy_ rs)[k]'(by simpa [zy_] using hkr)=recT pb C:=by simp [zy_,HR.out]
    rw [h2] at h1
    exact za_ Q1.out.b h1 (zg_ h1)
   clear hcl HT hr
   go_wp2_with fail
   obtain ⟨kk,p1,q1,hDS⟩:=Q1.out.ds HJ.out (by omega) C
   refine Calls.mono (ri_ pb o1 C _ kk p1 q1 (g+1) g mb k M1 wr FO.out rfl hDS (HTM.out.2.next Q1.out.b)) ?_
   rintro e W1 ⟨rfl,hP⟩
   have Q2:∃ o' M',RpI w W1 j rs (k+1) g mb o' M'∧o'.su=o1.su:=by
    cases pb
    ·exact Q1.out.join hkr HR.out hP
    ·exact Q1.out.put hkr HR.out hP
   obtain ⟨o,M,hq2,hsu2⟩:=Q2
   have HSU2:Hid (o.su.length=k):=by rw [show o.su=o1.su from hsu2]; exact HSU.out
   have CSE:Hid (∀ W,Below w.heap.size w W→Calls Tryz.prog 95 #[.string (recT pb C)] W fun e w'=>e=.returned (.string (zs_ (recT pb C)))∧Below W.heap.size W w'):=fun W hW=>wr_ _ W (HTM.out.1.next hW) (by have:=yG_ pb C FO.out.key.2.1 FO.out.ok; omega)
   clear hP hDS x0 Q1 HSU FO hsu2
   have Q1:=hm_ hq2
   have HSU:Hid (o.su.length=k):=HSU2.out
   clear hq2 HSU2
   have hsm:o.su.length≤100:=by rw [HSU.out]; omega
   go_upto_region 7 with fail
   refine wp_region_held_drew (S:=fun _=>True) (by kernel_rfl) ?_ (fun hH=>?_)
   ·trivial
   have BW:Hid (Below W1.heap.size W1 W1.drew):=zc_ _
   refine wTk 0 ?_
   refine wTk 1 ?_
   refine wTk 2 ?_
   refine wTk 3 ?_
   refine wTk 4 ?_
   refine wTk 5 ?_
   refine wTk 7 ?_
   generalize W1.drew=wd at *
   refine wpAnyH_ready (rs:=[6,8]) (by kernel_rfl) (by simp) ?_
   refine AllReadyH.cons rfl (fun K hK=>?_) (AllReadyH.cons rfl (fun K hK=>?_) AllReadyH.nil)
   ·obtain ⟨b0,b1,b2,b3,b4,b5,b6,b7⟩:=(Q1.out.next BW.out).x.c8
    refine wLy ?_
    go_simp
    (try simp only [])
    refine hK.out _ _ ?_ (fun hH'=>?_)
    ·(try dsimp only)
     all_goals trivial
    clear hK K hH
    have hH:=hH'
    clear hH'
    refine wLy ?_
    clear b0 b1 b2 b3 b4 b5 b6 b7
    refine wRd 8 (fun K hK=>?_)
    go_simp
    go_at_call 95
    refine (CSE.out _ (Q1.out.next BW.out).b).mono ?_
    rintro e x0 ⟨rfl,hb⟩
    (try simp only [])
    replace BW:=ze_ BW hb
    clear hb
    refine hK.out _ _ ?_ (fun hH'=>?_)
    ·(try dsimp only)
     all_goals trivial
    clear hK K hH
    have hH:=hH'
    clear hH'
    refine wLy ?_
    refine wRd 9 (fun K hK=>?_)
    go_simp
    (try simp only [])
    have LT:Hid (TRow (x0.alloc (.cells #[.string (zs_ (recT pb C))] 9)) (some ⟨x0.heap.size,0,none⟩) [zs_ (recT pb C)]):=x1_
    replace BW:=ze_ BW (zb_ x0 (.cells #[.string (zs_ (recT pb C))] 9))
    refine hK.out _ _ ?_ (fun hH'=>?_)
    ·(try dsimp only)
     all_goals trivial
    clear hK K hH
    have hH:=hH'
    clear hH'
    refine wLy ?_
    generalize x0.alloc (.cells #[.string (zs_ (recT pb C))] 9)=x1 at *
    generalize x0.heap.size=gl at *
    refine wRd 10 (fun K hK=>?_)
    rw [if_pos (by rfl)]
    refine yd_ (.tmp 29) (.tmp 32) rfl rfl (Value.slice o.p2 o.su.length o.c2) o.su.length o.su (w.heap.size+1) (o.su.length+1) rfl rfl (Q1.out.next BW.out).s (by have h1:=(Q1.out.next BW.out).x.lt; have h2:=Q1.out.l; omega) (some ⟨gl,0,none⟩) 1 1 [zs_ (recT pb C)] rfl rfl LT.out (by omega) rfl ?_
    intro pf cf x2 hO8 hG8
    have OW:Hid (OwnT x2 (Value.slice pf (o.su.length+1) cf) (o.su++[zs_ (recT pb C)]) (w.heap.size+1)∧Gro x1 x2 (Value.slice o.p2 o.su.length o.c2) (Value.slice pf (o.su.length+1) cf)):=⟨hO8,hG8⟩
    clear hO8 hG8
    refine hK.out _ _ ?_ (fun hH'=>?_)
    ·(try dsimp only)
     all_goals trivial
    clear hK K hH
    have hH:=hH'
    clear hH'
    refine wLy ?_
    refine wTk 11 ?_
    refine wTk 12 ?_
    refine wTk 13 ?_
    refine wTk 14 ?_
    have PX:Hid (RpI w (x2.setCell ⟨g,5,none⟩ (.slice pf (o.su.length+1) cf)) j rs (k+1) g mb { o with p2:=pf,c2:=cf,su:=o.su++[zs_ (recT pb C)] } M):=(Q1.out.next BW.out).app OW.out.1 OW.out.2
    have DX:Hid (Box x2 g [.int .i64 o.x.id,.int .i64 o.x.n,.int .i64 o.x.cut,.slice none 0 0,.slice o.p1 o.x.fd.length o.c1,.slice o.p2 o.su.length o.c2,.slice o.p3 o.un.length o.c3,.map (some mb)]):=(Q1.out.next BW.out).x.kp (Kp.of_gro OW.out.2) (fun e=>((Q1.out.next BW.out).ns _ e).1 rfl)
    obtain ⟨b0,b1,b2,b3,b4,b5,b6,b7⟩:=DX.out.c8
    obtain ⟨f0,f1,f2,f3,f4,f5,f6,f7⟩:=DX.out.f8
    refine wRd 15 (fun K hK=>?_)
    go_simp
    (try simp only [])
    refine hK.out _ _ ?_ (fun hH'=>?_)
    ·(try dsimp only)
     all_goals trivial
    clear hK K hH
    have hH:=hH'
    clear hH'
    refine wLy ?_
    refine wDn ?_
    clear hH b0 b1 b2 b3 b4 b5 b6 b7 f0 f1 f2 f3 f4 f5 f6 f7
    go_wp2
    go_roundw
    case rel=>exact ⟨k+1,_,M,by omega,by go_num,PX.out,by simp [HSU.out]⟩
    case measure=>simp [intOf]; omega
   ·refine wLy ?_
    go_simp
    go_at_call 95
    refine (CSE.out _ (Q1.out.next BW.out).b).mono ?_
    rintro e x0 ⟨rfl,hb⟩
    (try simp only [])
    replace BW:=ze_ BW hb
    clear hb
    refine hK.out _ _ ?_ (fun hH'=>?_)
    ·(try dsimp only)
     all_goals trivial
    clear hK K hH
    have hH:=hH'
    clear hH'
    refine wLy ?_
    refine wpAnyH_ready (rs:=[6,9]) (by kernel_rfl) (by simp) ?_
    refine AllReadyH.cons rfl (fun K hK=>?_) (AllReadyH.cons rfl (fun K hK=>?_) AllReadyH.nil)
    focus
     obtain ⟨b0,b1,b2,b3,b4,b5,b6,b7⟩:=(Q1.out.next BW.out).x.c8
     refine wLy ?_
     go_simp
     (try simp only [])
     refine hK.out _ _ ?_ (fun hH'=>?_)
     ·(try dsimp only)
      all_goals trivial
     clear hK K hH
     have hH:=hH'
     clear hH'
     refine wLy ?_
     clear b0 b1 b2 b3 b4 b5 b6 b7
     refine wRd 9 (fun K hK=>?_)
     go_simp
     (try simp only [])
     have LT:Hid (TRow (x0.alloc (.cells #[.string (zs_ (recT pb C))] 9)) (some ⟨x0.heap.size,0,none⟩) [zs_ (recT pb C)]):=x1_
     replace BW:=ze_ BW (zb_ x0 (.cells #[.string (zs_ (recT pb C))] 9))
     refine hK.out _ _ ?_ (fun hH'=>?_)
     ·(try dsimp only)
      all_goals trivial
     clear hK K hH
     have hH:=hH'
     clear hH'
     refine wLy ?_
     generalize x0.alloc (.cells #[.string (zs_ (recT pb C))] 9)=x1 at *
     generalize x0.heap.size=gl at *
    rotate_left
    focus
     refine wLy ?_
     go_simp
     (try simp only [])
     have LT:Hid (TRow (x0.alloc (.cells #[.string (zs_ (recT pb C))] 9)) (some ⟨x0.heap.size,0,none⟩) [zs_ (recT pb C)]):=x1_
     replace BW:=ze_ BW (zb_ x0 (.cells #[.string (zs_ (recT pb C))] 9))
     refine hK.out _ _ ?_ (fun hH'=>?_)
     ·(try dsimp only)
      all_goals trivial
     clear hK K hH
     have hH:=hH'
     clear hH'
     refine wLy ?_
     generalize x0.alloc (.cells #[.string (zs_ (recT pb C))] 9)=x1 at *
     generalize x0.heap.size=gl at *
     refine wpAnyH_ready (rs:=[6]) (by kernel_rfl) (by simp) ?_
     refine AllReadyH.cons rfl (fun K hK=>?_) AllReadyH.nil
     obtain ⟨b0,b1,b2,b3,b4,b5,b6,b7⟩:=(Q1.out.next BW.out).x.c8
     refine wLy ?_
     go_simp
     (try simp only [])
     refine hK.out _ _ ?_ (fun hH'=>?_)
     ·(try dsimp only)
      all_goals trivial
     clear hK K hH
     have hH:=hH'
     clear hH'
     refine wLy ?_
     clear b0 b1 b2 b3 b4 b5 b6 b7
    rotate_left
    all_goals
     refine wRd 10 (fun K hK=>?_)
     rw [if_pos (by rfl)]
     refine yd_ (.tmp 29) (.tmp 32) rfl rfl (Value.slice o.p2 o.su.length o.c2) o.su.length o.su (w.heap.size+1) (o.su.length+1) rfl rfl (Q1.out.next BW.out).s (by have h1:=(Q1.out.next BW.out).x.lt; have h2:=Q1.out.l; omega) (some ⟨gl,0,none⟩) 1 1 [zs_ (recT pb C)] rfl rfl LT.out (by omega) rfl ?_
     intro pf cf x2 hO8 hG8
     have OW:Hid (OwnT x2 (Value.slice pf (o.su.length+1) cf) (o.su++[zs_ (recT pb C)]) (w.heap.size+1)∧Gro x1 x2 (Value.slice o.p2 o.su.length o.c2) (Value.slice pf (o.su.length+1) cf)):=⟨hO8,hG8⟩
     clear hO8 hG8
     refine hK.out _ _ ?_ (fun hH'=>?_)
     ·(try dsimp only)
      all_goals trivial
     clear hK K hH
     have hH:=hH'
     clear hH'
     refine wLy ?_
     refine wTk 11 ?_
     refine wTk 12 ?_
     refine wTk 13 ?_
     refine wTk 14 ?_
     have PX:Hid (RpI w (x2.setCell ⟨g,5,none⟩ (.slice pf (o.su.length+1) cf)) j rs (k+1) g mb { o with p2:=pf,c2:=cf,su:=o.su++[zs_ (recT pb C)] } M):=(Q1.out.next BW.out).app OW.out.1 OW.out.2
     have DX:Hid (Box x2 g [.int .i64 o.x.id,.int .i64 o.x.n,.int .i64 o.x.cut,.slice none 0 0,.slice o.p1 o.x.fd.length o.c1,.slice o.p2 o.su.length o.c2,.slice o.p3 o.un.length o.c3,.map (some mb)]):=(Q1.out.next BW.out).x.kp (Kp.of_gro OW.out.2) (fun e=>((Q1.out.next BW.out).ns _ e).1 rfl)
     obtain ⟨b0,b1,b2,b3,b4,b5,b6,b7⟩:=DX.out.c8
     obtain ⟨f0,f1,f2,f3,f4,f5,f6,f7⟩:=DX.out.f8
     refine wRd 15 (fun K hK=>?_)
     go_simp
     (try simp only [])
     refine hK.out _ _ ?_ (fun hH'=>?_)
     ·(try dsimp only)
      all_goals trivial
     clear hK K hH
     have hH:=hH'
     clear hH'
     refine wLy ?_
     refine wDn ?_
     clear hH b0 b1 b2 b3 b4 b5 b6 b7 f0 f1 f2 f3 f4 f5 f6 f7
     go_wp2
     go_roundw
     case rel=>exact ⟨k+1,_,M,by omega,by go_num,PX.out,by simp [HSU.out]⟩
     case measure=>simp [intOf]; omega
  ·obtain rfl:k=n:=by omega
   have hnl:¬ (k:Int) < (k:Int):=by omega
   have hfl:(rs.take k)=rs:=List.take_of_length_le (by have:=HLN.out; omega)
   have hcl:o1.ms.length≤300:=by
    have h1:=congrArg List.length Q1.out.cs
    have h2:=nU_ j (rs.take k)
    rw [← Q1.out.e] at h2
    simp at h1 h2
    omega
   have HMD:Hid (∀ W,Below wr.heap.size wr W→Calls Tryz.prog 96 #[.pointer (some ⟨g,0,none⟩)] W fun e w'=>∃ p c,e=.returned (.agg #[.int .i64 o1.x.id,.int .i64 o1.x.n,.int .i64 o1.x.cut,.slice p o1.ms.length c,.slice o1.p1 o1.x.fd.length o1.c1,.slice o1.p2 o1.su.length o1.c2,.slice o1.p3 o1.un.length o1.c3])∧GRow W.heap.size w' p (zn_ o1.ms)∧o1.ms.length≤c∧Below W.heap.size W w'):=fun W hW=>pB_ o1 g mb k M1 o1.ms W (by omega) (fun y hy=>ks_mk HGD.out y.c (by rw [← hfl,← Q1.out.e,Q1.out.cs]; exact List.mem_map_of_mem hy)) (Q1.out.next hW).x (Q1.out.next hW).m (fun y hy=>by rw [Q1.out.v,qu_ Q1.out.up hy]; rfl) (nl_ (Q1.out.next hW).m Q1.out.v Q1.out.up (by omega))
   go_wp2_with fail
   refine Calls.mono (HMD.out _ (Below.refl _ _)) ?_
   rintro e W2 ⟨p9,c9,rfl,hg9,hc9,hb⟩
   have Q3:Hid (RpI w W2 j rs k g mb o1 M1∧GRow (w.heap.size+1) W2 p9 (zn_ o1.ms)∧o1.ms.length≤c9):=⟨Q1.out.next hb,hg9.weak (by have:=Q1.out.z.lt; omega),hc9⟩
   clear hg9 hc9 hb HMD Q1
   obtain ⟨a0,a1,a2,a3,a4,a5,a6⟩:=Q3.out.1.z.c7
   obtain ⟨f0,f1,f2,f3,f4,f5,f6⟩:=Q3.out.1.z.f7
   go_wp2
   refine bodyPost_ret (v:=.tuple #[.agg #[.int .i64 o1.x.id,.int .i64 o1.x.n,.int .i64 o1.x.cut,.slice p9 o1.ms.length c9,.slice o1.p1 o1.x.fd.length o1.c1,.slice o1.p2 o1.su.length o1.c2,.slice o1.p3 o1.un.length o1.c3],.bool true]) (by simp [results,Tryz.results57,go_sem, *]) rfl ?_
   have hun:=Q3.out.1.un
   refine ⟨⟨o1.x,o1.ms,p9,c9,o1.p1,o1.c1,o1.p2,o1.c2,o1.p3,o1.c3,o1.su,o1.un⟩,rfl,?_,by rw [← hfl]; exact Q3.out.1.e,vC_ Q3.out.1.b (Nat.le_refl _)⟩
   obtain ⟨_,_,e1,hc1,hg1⟩:=Q3.out.1.f.grow
   cases e1
   obtain ⟨_,_,e2,hc2,hg2⟩:=yH_ Q3.out.1.s
   cases e2
   have hl:=Q3.out.1.l
   have N1:NoR (w.heap.size+1) W2 ⟨o1.x,o1.ms,p9,c9,o1.p1,o1.c1,o1.p2,o1.c2,o1.p3,o1.c3,o1.su,o1.un⟩:=⟨Q3.out.1.cs,Q3.out.2.1,hg1.weak (by omega),hg2,by show GRow _ _ _ (V o1.un); rw [hun]; exact .inl rfl,Q3.out.1.r,Q3.out.2.2,hc1,hc2,by show o1.un.length≤o1.c3; rw [hun]; exact Nat.zero_le _⟩
   refine NoR.weak (lo:=w.heap.size+1) ?_ (by omega)
   exact ((((((N1.keep (zh_ (by omega))).keep (zh_ (by omega))).keep (zh_ (by omega))).keep (zh_ (by omega))).keep (zh_ (by omega))).keep (zh_ (by omega))).keep (zh_ (by omega))
end
theorem s8_ (n:Int) (w:World) (h1:0≤n) (h2:n < 3):Calls Tryz.prog 56 #[.int .i64 n] w fun e w'=>e=.returned (.bool true)∧w'=w:=by
 go_enter Tryz.func56,Tryz.ntmps56
 go_wp2
 go_ret
 exact ⟨rfl,rfl⟩
theorem rd_ (lo:Nat) (o:No) (rs:List (Bool × Cl)) (w:World) (hx:o.x=mkN o.x.id rs) (h1:0≤o.x.id) (h2:o.x.id < 3) (hG:Gds o.x.id rs) (hd:o.su++o.un=(zy_ rs).map zs_) (hn:rs.length < 100) (hz:∀ s ∈ o.su++o.un,s.size≤1048576) (hl:∀ m ∈ o.ms,m.c.l.length≤1000) (h0:NoR lo w o) (ht:TB w) (hmx:MX w) :
  Calls Tryz.prog 17 #[nV o] w fun e w'=>e=.returned (.bool true)∧Below w.heap.size w w':=by
 (try unfold nV)
 have hfd:o.x.fd.length≤100000:=by have:=oT_ o.x.id rs; rw [← hx] at this; omega
 have hml:o.ms.length≤100000:=by
  have q1:=congrArg List.length h0.cs
  have q2:=nU_ o.x.id rs
  rw [← hx] at q2
  simp at q1
  omega
 have CR:Hid (∀ W,Below w.heap.size w W→Calls Tryz.prog 55 #[nV o] W fun e w'=>∃ p c,e=.returned (.tuple #[.slice p (zy_ rs).length c,.bool true])∧TRow w' p (zy_ rs)∧(zy_ rs).length≤c∧Below W.heap.size W w'):=fun W hW=>tl_ lo o rs W hd (by omega) hz (h0.next hW) (ht.next hW) (hmx.next hW)
 have CP:Hid (∀ W p c,Below w.heap.size w W→TRow W p (zy_ rs)→(zy_ rs).length≤c→Calls Tryz.prog 57 #[.int .i64 o.x.id,.slice p (zy_ rs).length c] W fun e w'=>∃ u:No,e=.returned (.tuple #[nV u,.bool true])∧NoR W.heap.size w' u∧u.x=mkN o.x.id rs∧Below W.heap.size W w'):=fun W p c hW hT hc=>uy_ o.x.id rs p c W (by omega) hG hn hT hc (ht.next hW) (hmx.next hW)
 have CE:Hid (∀ W (u:No) lo2,Below w.heap.size w W→NoR lo2 W u→u.x=mkN o.x.id rs→Calls Tryz.prog 58 #[nV o,nV u] W fun e w'=>e=.returned (.bool true)∧Below W.heap.size W w'):=fun W u lo2 hW hu hux=>sI_ lo lo2 o u W hml hfd hl (by rw [hux,← hx]) (h0.next hW) hu
 have CI:Hid (∀ W,Calls Tryz.prog 56 #[.int .i64 o.x.id] W fun e w'=>e=.returned (.bool true)∧w'=W):=fun W=>s8_ _ _ h1 h2
 have X:Hid (Box (w.alloc (.cells (nL o).toArray 29)) w.heap.size (nL o)∧Below w.heap.size w (w.alloc (.cells (nL o).toArray 29))):=⟨zo_,zb_ _ _⟩
 clear hx hd hz hl h0 ht hmx hG hn
 generalize hmn:(zy_ rs).length=m at *
 go_enter Tryz.func17,Tryz.ntmps17
 go_upto_region 1 with fail
 generalize w.alloc (.cells (nL o).toArray 29)=W0 at *
 obtain ⟨b0,b1,b2,b3,b4,b5,b6⟩:=X.out.1.c7
 go_wp2_with fail
 refine Calls.mono (CR.out _ X.out.2) ?_
 rintro e W1 ⟨p,c,rfl,hT,hc,hb⟩
 have HT:Hid (TRow W1 p (zy_ rs)∧m≤c):=⟨hT,hc⟩
 replace X:Hid (Box W1 w.heap.size (nL o)∧Below w.heap.size w W1):=⟨X.out.1.next hb,X.out.2.trans (hb.mono X.out.2.size)⟩
 clear hT hc hb b0 b1 b2 b3 b4 b5 b6 CR
 obtain ⟨b0,b1,b2,b3,b4,b5,b6⟩:=X.out.1.c7
 go_wp2_with fail
 refine Calls.mono (CI.out _) ?_
 rintro e W9 ⟨rfl,rfl⟩
 go_wp2_with fail
 refine Calls.mono (CP.out _ _ _ X.out.2 HT.out.1 HT.out.2) ?_
 rintro e W2 ⟨u,rfl,hN,hu,hb⟩
 have HU:Hid (NoR _ W2 u∧u.x=mkN o.x.id rs):=⟨hN,hu⟩
 replace X:Hid (Box W2 w.heap.size (nL o)∧Below w.heap.size w W2):=⟨X.out.1.next hb,X.out.2.trans (hb.mono X.out.2.size)⟩
 clear hN hu hb b0 b1 b2 b3 b4 b5 b6 CP HT
 go_upto_region 5 with fail
 refine zQ_ (fun W=>Box W w.heap.size (nL o)∧Box W W2.heap.size (nL u)∧Below w.heap.size w W∧Below W2.heap.size W2 W) ⟨X.out.1.alloc,zo_,X.out.2.trans ((zb_ _ _).mono X.out.2.size),zb_ _ _⟩ (fun W3 hI=>?_)
 have CE3:Hid (Calls Tryz.prog 58 #[nV o,nV u] W3 fun e w'=>e=.returned (.bool true)∧Below W3.heap.size W3 w'):=CE.out W3 u _ hI.2.2.1 (HU.out.1.next hI.2.2.2) HU.out.2
 generalize W2.heap.size=g5 at *
 obtain ⟨b0,b1,b2,b3,b4,b5,b6⟩:=hI.1.c7
 obtain ⟨d0,d1,d2,d3,d4,d5,d6⟩:=hI.2.1.c7
 have HB:=hm_ hI.2.2.1
 clear hI X HU CE
 go_wp2_with fail
 refine Calls.mono CE3.out ?_
 rintro e W4 ⟨rfl,hb⟩
 go_wp2
 go_ret
 exact ⟨rfl,HB.out.trans (hb.mono HB.out.size)⟩
section
variable {j lo:Nat} {o:No} {rs:List (Bool × Cl)} {w:World}
theorem ph_ {t:ByteArray} (h:t.size≤65536):(zs_ t).size≤1048576:=by
 have h1:=sR_ t
 have h2:=yi_ t.size
 have h3:=yi_ (zv_ t t.size)
 have h4:=xb_ t t.size
 omega
structure NdG (w:World) (o:No):Prop where
 r:NoR 0 w o
 k:CsK o.x.cs
 i:∀ W,Below w.heap.size w W→Calls Tryz.prog 17 #[nV o] W fun e w'=>e=.returned (.bool true)∧Below W.heap.size W w'
 s:∀ W,Below w.heap.size w W→Calls Tryz.prog 60 #[nV o] W fun e w'=>e=.returned (.bool true)∧Below W.heap.size W w'
theorem p5_ {V:Int→Int→Int × Bool} {m:Nat→Int} (hj:j < 3) (hr:NoR lo w o) (hI:z1_ V m j o.x o.su o.un rs) (hn:rs.length≤20) (hm:m 0≤24∧m 1≤24∧m 2≤24) (ht:TB w) (hx:MX w):NdG w o:=by
 have hid:o.x.id=(j:Int):=hI.id
 have hmk:o.x=mkN o.x.id rs:=by rw [hid]; exact hI.made
 have hG:Gds o.x.id rs:=by rw [hid]; exact hI.good
 have hd:o.su++o.un=(zy_ rs).map zs_:=by rw [hI.disk]; simp [zy_]
 have hz:∀ s ∈ o.su++o.un,s.size≤1048576:=fun s hs=>by
  rw [hI.disk] at hs
  obtain ⟨r,hr,rfl⟩:=List.mem_map.1 hs
  obtain ⟨i,hi,rfl⟩:=List.getElem_of_mem hr
  have hf:=hI.good i hi
  exact ph_ (yG_ _ _ hf.key.2.1 hf.ok)
 have hc:∀ c ∈ o.x.cs,OkP c.l c.a c.b c.c∧keyP c.k:=fun c hc=>⟨(hI.cells c hc).1.okP24 hm.1 hm.2.1 hm.2.2,(hI.cells c hc).2⟩
 have hl:∀ q ∈ o.ms,q.c.l.length≤1000:=fun q hq=>by
  have:=(hc q.c (by rw [hr.cs]; exact List.mem_map_of_mem hq)).1.1
  omega
 have hcl:o.x.cs.length≤100:=by have:=(vY_ o.x.id rs).1; rw [← hmk] at this; omega
 exact ⟨hr.weak (Nat.zero_le _),⟨hc,hcl⟩,fun W hW=>rd_ lo o rs W hmk (by omega) (by omega) hG hd (by omega) hz hl (hr.next hW) (ht.next hW) (hx.next hW),fun W hW=>sM_ lo o rs W hmk (by omega) (by omega) hd (by omega) hz hl (hr.next hW) (sU_ o.x.id rs (by omega) hG (by omega))⟩
end
section
variable {W W' w:World} {b i q:Nat} {cs:List Cl}
theorem o9_ {xs ys:List Cl} {c:Cl} (h:bkN c.k=b):bks b (xs++c :: ys)=bks b xs++c.k :: bks b ys:=by simp [bks,List.filter_append,List.filter_cons,h]
theorem qS_ (hi:i < cs.length) (h:bkN cs[i].k=b):bks b cs=bks b (cs.take i)++cs[i].k :: bks b (cs.drop (i+1)):=by
 have e:cs.take i++cs[i] :: cs.drop (i+1)=cs:=by rw [← List.drop_eq_getElem_cons hi,List.take_append_drop]
 rw [← o9_ h,e]
theorem pX_ (hi:i < cs.length) (h:bkN cs[i].k=b):(bks b (cs.take (i+1))).length=(bks b (cs.take i)).length+1:=by
 rw [List.take_succ_eq_append_getElem hi,oc_ h]; simp
theorem pW_ (hi:i < cs.length) (h:bkN cs[i].k≠b):(bks b (cs.take (i+1))).length=(bks b (cs.take i)).length:=by
 rw [List.take_succ_eq_append_getElem hi,qT_ h]
structure N2 (w W:World) (q:Nat) (a u:No):Prop where
 c:(World.cell? W ⟨q,0,none⟩=some (.int .i64 a.x.id)∧World.cell? W ⟨q,1,none⟩=some (.int .i64 a.x.n)∧World.cell? W ⟨q,2,none⟩=some (.int .i64 a.x.cut)∧World.cell? W ⟨q,3,none⟩=some (.slice a.p0 a.ms.length a.c0)∧World.cell? W ⟨q,4,none⟩=some (.slice a.p1 a.x.fd.length a.c1)∧World.cell? W ⟨q,5,none⟩=some (.slice a.p2 a.su.length a.c2)∧World.cell? W ⟨q,6,none⟩=some (.slice a.p3 a.un.length a.c3))∧World.cell? W ⟨q,7,none⟩=some (.int .i64 u.x.id)∧World.cell? W ⟨q,8,none⟩=some (.int .i64 u.x.n)∧World.cell? W ⟨q,9,none⟩=some (.int .i64 u.x.cut)∧World.cell? W ⟨q,10,none⟩=some (.slice u.p0 u.ms.length u.c0)∧World.cell? W ⟨q,11,none⟩=some (.slice u.p1 u.x.fd.length u.c1)∧World.cell? W ⟨q,12,none⟩=some (.slice u.p2 u.su.length u.c2)∧World.cell? W ⟨q,13,none⟩=some (.slice u.p3 u.un.length u.c3)
 b:Below w.heap.size w W
theorem N2.next {a u:No} (h:N2 w W q a u) (hb:Below W.heap.size W W'):N2 w W' q a u:=by
 obtain ⟨⟨a0,a1,a2,a3,a4,a5,a6⟩,b0,b1,b2,b3,b4,b5,b6⟩:=h.c
 exact ⟨⟨⟨za_ hb a0 (zg_ a0),za_ hb a1 (zg_ a1),za_ hb a2 (zg_ a2),za_ hb a3 (zg_ a3),za_ hb a4 (zg_ a4),za_ hb a5 (zg_ a5),za_ hb a6 (zg_ a6)⟩,za_ hb b0 (zg_ b0),za_ hb b1 (zg_ b1),za_ hb b2 (zg_ b2),za_ hb b3 (zg_ b3),za_ hb b4 (zg_ b4),za_ hb b5 (zg_ b5),za_ hb b6 (zg_ b6)⟩,h.b.trans (hb.mono h.b.size)⟩
theorem n2_of {o:Nat→No} (h0:NdAt w q (0 * 7) (o 0)) (h1:NdAt w q (1 * 7) (o 1)):N2 w w q (o 0) (o 1):=by
 simp only [NdAt,Nat.zero_mul,Nat.one_mul] at h0 h1
 exact ⟨⟨h0,h1⟩,Below.refl _ _⟩
theorem tV_ (cs:List Cl):(sums cs).length=4:=rfl
theorem law_digest (v1 v2:Value) (w:World) (h1:BRow w v1) (h2:BRow w v2) (hc:TB w) (hm:MX w) :
  Calls Tryz.prog 6 #[v1,v2] w fun e w'=>e=.returned (.bool true)∧Below w.heap.size w w':=by
 obtain ⟨ao,len,cap,zs,rfl,hra⟩:=h1
 obtain ⟨bo,ln2,cp2,ys,rfl,hrb⟩:=h2
 have RC:=hm_ hra
 have RM:=hm_ hrb
 have HT:Hid (TB w∧MX w):=⟨hc,hm⟩
 clear hra hrb hc hm
 by_cases hl1:1048576 < len
 ·have hl1':(1048576:Int) < (len:Int):=by omega
  go_enter Tryz.func6,Tryz.ntmps6
  go_wp2
  go_ret
  exact ⟨rfl,Below.refl _ _⟩
 have hl1':¬ (1048576:Int) < (len:Int):=by omega
 by_cases hl2:1048576 < ln2
 ·have hl2':(1048576:Int) < (ln2:Int):=by omega
  go_enter Tryz.func6,Tryz.ntmps6
  go_wp2
  go_ret
  exact ⟨rfl,Below.refl _ _⟩
 have hl2':¬ (1048576:Int) < (ln2:Int):=by omega
 go_enter Tryz.func6,Tryz.ntmps6
 go_wp2_with fail
 refine (tr_ len cap ao zs _ RC.out (by omega) (fun x hx hl=>nx_ RC.out x hx hl)).mono ?_
 rintro e W1 ⟨q,V0,m,o,rs,rfl,hN,hb⟩
 have HBW:=hm_ hb
 have HT1:=hm_ (HT.out.1.next hb)
 have hm24:m 0≤24∧m 1≤24∧m 2≤24:=⟨by have:=(hN.1 0 (by omega)).2.2.2; omega,by have:=(hN.1 1 (by omega)).2.2.2; omega,by have:=(hN.1 2 (by omega)).2.2.2; omega⟩
 have GA:Hid (NdG W1 (o 0)):=p5_ (by decide) (hN.1 0 (by omega)).2.1 (hN.1 0 (by omega)).2.2.1 (hN.1 0 (by omega)).2.2.2.2.1 hm24 HT1.out (HT.out.2.next hb)
 have GU:Hid (NdG W1 (o 1)):=p5_ (by decide) (hN.1 1 (by omega)).2.1 (hN.1 1 (by omega)).2.2.1 (hN.1 1 (by omega)).2.2.2.2.1 hm24 HT1.out (HT.out.2.next hb)
 have X:Hid (N2 W1 W1 q (o 0) (o 1)):=n2_of (hN.1 0 (by omega)).1 (hN.1 1 (by omega)).1
 have RM1:Hid (Gen.IsRow .u8 W1 bo ln2 cp2 ys):=yF_ RM.out hb
 clear hN hb hm24 RC RM HT
 generalize o 0=a at *
 generalize o 1=u at *
 have GK:Hid (CsK a.x.cs):=GA.out.k
 have CD:Hid (∀ W,Below W1.heap.size W1 W→Calls Tryz.prog 28 #[nV a,nV u] W (uj_ (dif (fun k=>bt k a.x.cs) (fun k=>bt k u.x.cs) 4) W)):=fun W hW=>sr_ a u (fun k=>bt k a.x.cs) (fun k=>bt k u.x.cs) W (fun W2 h2=>GA.out.i W2 (hW.trans (h2.mono hW.size))) (fun W2 h2=>GU.out.i W2 (hW.trans (h2.mono hW.size))) (fun W2 h2=>ya_ 0 a W2 GA.out.k (GA.out.r.next (hW.trans (h2.mono hW.size))) (HT1.out.next (hW.trans (h2.mono hW.size)))) (fun W2 h2=>ya_ 0 u W2 GU.out.k (GU.out.r.next (hW.trans (h2.mono hW.size))) (HT1.out.next (hW.trans (h2.mono hW.size))))
 have CE:Hid (∀ W,Below W1.heap.size W1 W→Calls Tryz.prog 29 #[nV a,nV u] W (uj_ (dif (fun k=>bt k a.x.cs) (fun k=>bt k u.x.cs) 4) W)):=fun W hW=>pa_ a u (fun k=>bt k a.x.cs) (fun k=>bt k u.x.cs) W (fun W2 h2=>GA.out.s W2 (hW.trans (h2.mono hW.size))) (fun W2 h2=>GU.out.s W2 (hW.trans (h2.mono hW.size))) (fun W2 b hb h2=>xQ_ 0 a b W2 hb GA.out.k (GA.out.r.next (hW.trans (h2.mono hW.size)))) (fun W2 b hb h2=>xQ_ 0 u b W2 hb GU.out.k (GU.out.r.next (hW.trans (h2.mono hW.size))))
 have CF:Hid (∀ W,Below W1.heap.size W1 W→Calls Tryz.prog 28 #[nV a,nV a] W (uj_ [] W)):=fun W hW=>by
  have h:=sr_ a a (fun k=>bt k a.x.cs) (fun k=>bt k a.x.cs) W (fun W2 h2=>GA.out.i W2 (hW.trans (h2.mono hW.size))) (fun W2 h2=>GA.out.i W2 (hW.trans (h2.mono hW.size))) (fun W2 h2=>ya_ 0 a W2 GA.out.k (GA.out.r.next (hW.trans (h2.mono hW.size))) (HT1.out.next (hW.trans (h2.mono hW.size)))) (fun W2 h2=>ya_ 0 a W2 GA.out.k (GA.out.r.next (hW.trans (h2.mono hW.size))) (HT1.out.next (hW.trans (h2.mono hW.size))))
  rw [pP_] at h
  exact h
 have CG:Hid (∀ W,Below W1.heap.size W1 W→Calls Tryz.prog 30 #[nV a] W (uj_ (sums a.x.cs) W)):=fun W hW=>rg_ 0 a W GA.out.k (GA.out.r.next hW) (HT1.out.next hW) (fun W2 h2=>GA.out.i W2 (hW.trans (h2.mono hW.size)))
 have CH:Hid (∀ W,Below W1.heap.size W1 W→Calls Tryz.prog 31 #[nV a] W (uj_ (sums a.x.cs) W)):=fun W hW=>sN_ 0 a W GA.out.k (GA.out.r.next hW) (fun W2 h2=>GA.out.s W2 (hW.trans (h2.mono hW.size)))
 have CAT:Hid (∀ W,Below W1.heap.size W1 W→Calls Tryz.prog 9 #[.slice bo ln2 cp2,.int .i64 0,.int .i64 4] W (AtP W 4)):=fun W hW=>n3_ bo ln2 cp2 ys 0 4 W (by omega) (by omega) (by omega) (by omega) (yF_ RM1.out hW)
 have CK:Hid (∀ W (b:Nat),b < 4→Below W1.heap.size W1 W→Calls Tryz.prog 32 #[nV a,.int .i64 (b:Nat)] W (TxtP (bks b a.x.cs) W)):=fun W b hb hW=>rf_ 0 a b W hb GA.out.k (GA.out.r.next hW) (fun W2 h2=>GA.out.i W2 (hW.trans (h2.mono hW.size)))
 have CL:Hid (∀ W,Below W1.heap.size W1 W→Calls Tryz.prog 14 #[nV a] W (TxtP (a.x.cs.map (fun c=>c.k)) W)):=fun W hW=>re_ 0 a W GA.out.k (GA.out.r.next hW) (fun W2 h2=>GA.out.i W2 (hW.trans (h2.mono hW.size)))
 clear GA GU RM1 HT1
 go_wp2_with fail
 refine wp_region_held_drew (S:=(fun w'=>(World.cell? w' ⟨q,0,none⟩=some (.int .i64 a.x.id)∧World.cell? w' ⟨q,1,none⟩=some (.int .i64 a.x.n)∧World.cell? w' ⟨q,2,none⟩=some (.int .i64 a.x.cut)∧World.cell? w' ⟨q,3,none⟩=some (.slice a.p0 a.ms.length a.c0)∧World.cell? w' ⟨q,4,none⟩=some (.slice a.p1 a.x.fd.length a.c1)∧World.cell? w' ⟨q,5,none⟩=some (.slice a.p2 a.su.length a.c2)∧World.cell? w' ⟨q,6,none⟩=some (.slice a.p3 a.un.length a.c3))∧World.cell? w' ⟨q,7,none⟩=some (.int .i64 u.x.id)∧World.cell? w' ⟨q,8,none⟩=some (.int .i64 u.x.n)∧World.cell? w' ⟨q,9,none⟩=some (.int .i64 u.x.cut)∧World.cell? w' ⟨q,10,none⟩=some (.slice u.p0 u.ms.length u.c0)∧World.cell? w' ⟨q,11,none⟩=some (.slice u.p1 u.x.fd.length u.c1)∧World.cell? w' ⟨q,12,none⟩=some (.slice u.p2 u.su.length u.c2)∧World.cell? w' ⟨q,13,none⟩=some (.slice u.p3 u.un.length u.c3))) (by kernel_rfl) ?_ (fun hH=>?_)
 ·(try dsimp only)
  exact (X.out.next (zc_ _)).c
 replace X:=hm_ (X.out.next (zc_ _))
 generalize W1.drew=Z1 at *
 refine wTk 0 ?_
 refine wTk 1 ?_
 refine wTk 2 ?_
 refine wTk 3 ?_
 refine wTk 4 ?_
 refine wTk 5 ?_
 refine wRd 6 (fun K hK=>?_)
 go_simp
 go_at_call 28
 refine Calls.mono (CD.out _ X.out.b) ?_
 rintro e Z2 ⟨p4,c4,rfl,hr,hb⟩
 replace X:=hm_ (X.out.next hb)
 have R4:=hm_ hr
 (try simp only [])
 refine wHk hK (X.out.c) ?_
 clear hK K hH hb hr CD
 intro hH
 refine wTk 7 ?_
 refine wTk 8 ?_
 refine wTk 9 ?_
 refine wTk 10 ?_
 refine wTk 11 ?_
 refine wDn ?_
 clear hH
 go_wp2_with fail
 refine wp_region_held_drew (S:=(fun w'=>(World.cell? w' ⟨q,0,none⟩=some (.int .i64 a.x.id)∧World.cell? w' ⟨q,1,none⟩=some (.int .i64 a.x.n)∧World.cell? w' ⟨q,2,none⟩=some (.int .i64 a.x.cut)∧World.cell? w' ⟨q,3,none⟩=some (.slice a.p0 a.ms.length a.c0)∧World.cell? w' ⟨q,4,none⟩=some (.slice a.p1 a.x.fd.length a.c1)∧World.cell? w' ⟨q,5,none⟩=some (.slice a.p2 a.su.length a.c2)∧World.cell? w' ⟨q,6,none⟩=some (.slice a.p3 a.un.length a.c3))∧World.cell? w' ⟨q,7,none⟩=some (.int .i64 u.x.id)∧World.cell? w' ⟨q,8,none⟩=some (.int .i64 u.x.n)∧World.cell? w' ⟨q,9,none⟩=some (.int .i64 u.x.cut)∧World.cell? w' ⟨q,10,none⟩=some (.slice u.p0 u.ms.length u.c0)∧World.cell? w' ⟨q,11,none⟩=some (.slice u.p1 u.x.fd.length u.c1)∧World.cell? w' ⟨q,12,none⟩=some (.slice u.p2 u.su.length u.c2)∧World.cell? w' ⟨q,13,none⟩=some (.slice u.p3 u.un.length u.c3))) (by kernel_rfl) ?_ (fun hH=>?_)
 ·(try dsimp only)
  exact (X.out.next (zc_ _)).c
 replace X:=hm_ (X.out.next (zc_ _))
 replace R4:=hm_ (R4.out.next (zc_ _))
 generalize Z2.drew=Z3 at *
 refine wTk 0 ?_
 refine wTk 1 ?_
 refine wTk 2 ?_
 refine wTk 3 ?_
 refine wTk 4 ?_
 refine wTk 5 ?_
 refine wRd 6 (fun K hK=>?_)
 go_simp
 go_at_call 29
 refine Calls.mono (CE.out _ X.out.b) ?_
 rintro e Z4 ⟨p5,c5,rfl,hr,hb⟩
 replace X:=hm_ (X.out.next hb)
 replace R4:=hm_ (R4.out.next hb)
 have R5:=hm_ hr
 (try simp only [])
 refine wHk hK (X.out.c) ?_
 clear hK K hH hb hr CE
 intro hH
 refine wTk 7 ?_
 refine wTk 8 ?_
 refine wTk 9 ?_
 refine wTk 10 ?_
 refine wTk 11 ?_
 refine wDn ?_
 clear hH
 go_wp2_with fail
 refine wp_region_held_drew (S:=(fun w'=>(World.cell? w' ⟨q,0,none⟩=some (.int .i64 a.x.id)∧World.cell? w' ⟨q,1,none⟩=some (.int .i64 a.x.n)∧World.cell? w' ⟨q,2,none⟩=some (.int .i64 a.x.cut)∧World.cell? w' ⟨q,3,none⟩=some (.slice a.p0 a.ms.length a.c0)∧World.cell? w' ⟨q,4,none⟩=some (.slice a.p1 a.x.fd.length a.c1)∧World.cell? w' ⟨q,5,none⟩=some (.slice a.p2 a.su.length a.c2)∧World.cell? w' ⟨q,6,none⟩=some (.slice a.p3 a.un.length a.c3))∧World.cell? w' ⟨q,7,none⟩=some (.int .i64 u.x.id)∧World.cell? w' ⟨q,8,none⟩=some (.int .i64 u.x.n)∧World.cell? w' ⟨q,9,none⟩=some (.int .i64 u.x.cut)∧World.cell? w' ⟨q,10,none⟩=some (.slice u.p0 u.ms.length u.c0)∧World.cell? w' ⟨q,11,none⟩=some (.slice u.p1 u.x.fd.length u.c1)∧World.cell? w' ⟨q,12,none⟩=some (.slice u.p2 u.su.length u.c2)∧World.cell? w' ⟨q,13,none⟩=some (.slice u.p3 u.un.length u.c3))) (by kernel_rfl) ?_ (fun hH=>?_)
 ·(try dsimp only)
  exact (X.out.next (zc_ _)).c
 replace X:=hm_ (X.out.next (zc_ _))
 replace R4:=hm_ (R4.out.next (zc_ _))
 replace R5:=hm_ (R5.out.next (zc_ _))
 generalize Z4.drew=Z5 at *
 refine wTk 0 ?_
 refine wTk 1 ?_
 refine wTk 2 ?_
 refine wTk 3 ?_
 refine wTk 4 ?_
 refine wTk 5 ?_
 refine wRd 6 (fun K hK=>?_)
 go_simp
 go_at_call 28
 refine Calls.mono (CF.out _ X.out.b) ?_
 rintro e Z6 ⟨p6,c6,rfl,hr,hb⟩
 replace X:=hm_ (X.out.next hb)
 replace R4:=hm_ (R4.out.next hb)
 replace R5:=hm_ (R5.out.next hb)
 have R6:Hid (IRow Z6 p6 []):=hr
 (try simp only [])
 refine wHk hK (X.out.c) ?_
 clear hK K hH hb hr CF
 intro hH
 refine wTk 7 ?_
 refine wTk 8 ?_
 refine wTk 9 ?_
 refine wTk 10 ?_
 refine wTk 11 ?_
 refine wDn ?_
 clear hH
 obtain ⟨a0,a1,a2,a3,a4,a5,a6⟩:=X.out.c.1
 go_wp2_with fail
 refine Calls.mono (CG.out _ X.out.b) ?_
 rintro e Z7 ⟨p7,c7,rfl,hr,hb⟩
 replace X:=hm_ (X.out.next hb)
 replace R4:=hm_ (R4.out.next hb)
 replace R5:=hm_ (R5.out.next hb)
 replace R6:=hm_ (R6.out.next hb)
 have R7:=hm_ hr
 clear hb hr a0 a1 a2 a3 a4 a5 a6 CG
 obtain ⟨a0,a1,a2,a3,a4,a5,a6⟩:=X.out.c.1
 go_wp2_with fail
 refine Calls.mono (CH.out _ X.out.b) ?_
 rintro e Z8 ⟨p8,c8,rfl,hr,hb⟩
 replace X:=hm_ (X.out.next hb)
 replace R4:=hm_ (R4.out.next hb)
 replace R5:=hm_ (R5.out.next hb)
 replace R6:=hm_ (R6.out.next hb)
 replace R7:=hm_ (R7.out.next hb)
 have R8:=hm_ hr
 clear hb hr a0 a1 a2 a3 a4 a5 a6 CH
 go_wp2_with fail
 refine Calls.mono (CAT.out _ X.out.b) ?_
 rintro e Z9 ⟨b,rfl,hb,hlt⟩
 replace X:=hm_ (X.out.next hb)
 replace R4:=hm_ (R4.out.next hb)
 replace R5:=hm_ (R5.out.next hb)
 replace R6:=hm_ (R6.out.next hb)
 replace R7:=hm_ (R7.out.next hb)
 replace R8:=hm_ (R8.out.next hb)
 have hb4:b < 4:=by omega
 clear hb hlt CAT
 obtain ⟨a0,a1,a2,a3,a4,a5,a6⟩:=X.out.c.1
 go_wp2_with fail
 refine Calls.mono (CK.out _ b hb4 X.out.b) ?_
 rintro e Z10 ⟨p10,c10,rfl,hr,hb⟩
 replace X:=hm_ (X.out.next hb)
 replace R4:=hm_ (R4.out.next hb)
 replace R5:=hm_ (R5.out.next hb)
 replace R6:=hm_ (R6.out.next hb)
 replace R7:=hm_ (R7.out.next hb)
 replace R8:=hm_ (R8.out.next hb)
 have R10:=hm_ hr
 clear hb hr a0 a1 a2 a3 a4 a5 a6 CK
 obtain ⟨a0,a1,a2,a3,a4,a5,a6⟩:=X.out.c.1
 go_wp2_with fail
 refine Calls.mono (CL.out _ X.out.b) ?_
 rintro e Z11 ⟨p11,c11,rfl,hr,hb⟩
 replace X:=hm_ (X.out.next hb)
 replace R4:=hm_ (R4.out.next hb)
 replace R5:=hm_ (R5.out.next hb)
 replace R6:=hm_ (R6.out.next hb)
 replace R7:=hm_ (R7.out.next hb)
 replace R8:=hm_ (R8.out.next hb)
 replace R10:=hm_ (R10.out.next hb)
 have R11:=hm_ hr
 clear hb hr a0 a1 a2 a3 a4 a5 a6 CL
 simp only [tV_,List.length_nil]
 go_wp2_with fail
 refine Calls.mono (wp_ c4 c5 p4 p5 (dif (fun k=>bt k a.x.cs) (fun k=>bt k u.x.cs) 4) _ (by have:=tN_ (fun k=>bt k a.x.cs) (fun k=>bt k u.x.cs) 4; omega) R4.out R5.out) ?_
 rintro e Z12 ⟨rfl,hb⟩
 replace X:=hm_ (X.out.next hb)
 replace R4:=hm_ (R4.out.next hb)
 replace R5:=hm_ (R5.out.next hb)
 replace R6:=hm_ (R6.out.next hb)
 replace R7:=hm_ (R7.out.next hb)
 replace R8:=hm_ (R8.out.next hb)
 replace R10:=hm_ (R10.out.next hb)
 replace R11:=hm_ (R11.out.next hb)
 clear hb
 go_wp2_with fail
 refine Calls.mono (wp_ c7 c8 p7 p8 (sums a.x.cs) _ (by rw [tV_]; omega) R7.out R8.out) ?_
 rintro e Z13 ⟨rfl,hb⟩
 replace X:=hm_ (X.out.next hb)
 replace R4:=hm_ (R4.out.next hb)
 replace R5:=hm_ (R5.out.next hb)
 replace R6:=hm_ (R6.out.next hb)
 replace R7:=hm_ (R7.out.next hb)
 replace R8:=hm_ (R8.out.next hb)
 replace R10:=hm_ (R10.out.next hb)
 replace R11:=hm_ (R11.out.next hb)
 clear hb R4 R5 R6 R7 R8
 have KB:Hid (GRow 0 Z13 p10 (V (bks b a.x.cs))∧GRow 0 Z13 p11 (V (a.x.cs.map (fun c=>c.k)))∧Below W1.heap.size W1 Z13):=⟨R10.out,R11.out,X.out.b⟩
 clear R10 R11 X
 generalize hcs:a.x.cs=cs at *
 go_wp2
 go_loopw [21,22] (fun s21 s22 wr=>∃ i:Nat,i≤cs.length∧s22=.int .i64 i∧s21=.int .i64 ((bks b (cs.take i)).length:Nat)∧Below Z13.heap.size Z13 wr) (fun _ s22 _=>cs.length - (intOf s22).toNat)
 case atStart=>exact ⟨0,by omega,rfl,by simp [bks],Below.refl _ _⟩
 case round=>
  obtain ⟨i,hil,rfl,rfl,hB⟩:=hrel
  have HB:=hm_ hB
  clear hB
  have hcl:cs.length≤100:=GK.out.n
  by_cases hkl:i < cs.length
  ·have hkl':(i:Int) < (cs.length:Int):=by omega
   have kk:(0:Int)≤(i:Int):=by omega
   have hi2:i < (V (cs.map (fun c=>c.k))).length:=by simpa [V] using hkl
   rcases KB.out.2.1.next HB.out with h' | ⟨ba,offa,hpa,_,ha⟩
   ·rw [h'] at hi2; simp at hi2
   have x0:=ha i hi2
   have ev:(V (cs.map (fun c=>c.k)))[i]=.string cs[i].k:=by simp [V]
   rw [ev] at x0
   clear ev ha hi2
   have HK:Hid (keyP cs[i].k):=(GK.out.ok cs[i] (List.getElem_mem hkl)).2
   have HS:Hid (bkN cs[i].k=b→bks b cs=bks b (cs.take i)++cs[i].k :: bks b (cs.drop (i+1))):=fun h=>qS_ hkl h
   have HX:Hid ((bkN cs[i].k=b→(bks b (cs.take (i+1))).length=(bks b (cs.take i)).length+1)∧(bkN cs[i].k≠b→(bks b (cs.take (i+1))).length=(bks b (cs.take i)).length)):=⟨pX_ hkl,pW_ hkl⟩
   have HLE:Hid ((bks b (cs.take i)).length≤100):=by show _≤_; have h1:=qU_ b (cs.take i); have h2:(cs.take i).length≤100:=(GK.out.take i).n; omega
   generalize cs[i].k=ck at *
   have HKL:Hid (i < cs.length):=hkl
   have CB:Hid (∀ W,Calls Tryz.prog 33 #[.string ck] W fun e w'=>e=.returned (.tuple #[.int .i64 ((bkN ck:Nat):Int),.int .i64 0])∧Below W.heap.size W w'):=fun W=>uT_ ck W HK.out
   subst hpa
   clear hkl
   go_wp2_with fail
   refine Calls.mono (CB.out _) ?_
   rintro e Y1 ⟨rfl,hb⟩
   replace x0:=za_ hb x0 (zg_ x0)
   replace HB:Hid (Below Z13.heap.size Z13 Y1):=HB.out.trans (hb.mono HB.out.size)
   clear hb CB
   by_cases he:bkN ck=b
   ·have hi':((bkN ck:Nat):Int)=(b:Int):=by omega
    have hsp:=HS.out he
    have hnx:=HX.out.1 he
    rw [hi']
    have hlt:(bks b (cs.take i)).length < (V (bks b cs)).length:=by rw [hsp]; simp [V]
    rcases KB.out.1.next HB.out with h' | ⟨bk,offk,hpk,_,hk⟩
    ·rw [h'] at hlt; simp at hlt
    have y0:=hk _ hlt
    have ev:(V (bks b cs))[(bks b (cs.take i)).length]=.string ck:=by simp [V,hsp]
    rw [ev] at y0
    have hlt3:(bks b (cs.take i)).length < (bks b cs).length:=by simpa [V] using hlt
    have hlt2:((bks b (cs.take i)).length:Int) < ((bks b cs).length:Int):=by omega
    have hn0:(0:Int)≤((bks b (cs.take i)).length:Int):=by omega
    have tq:(ck.toList == ck.toList)=true:=ul_ rfl
    have HN:=hm_ hnx
    have hle:=HLE.out
    subst hpk
    clear ev hk hsp hnx HS HX hi' he hlt HLE
    generalize (bks b (cs.take i)).length=n at *
    go_upto_region 22 with fail
    refine wp_region_held_drew (S:=(fun w'=>w'.cell? ⟨ba,offa+i,none⟩=some (.string ck)∧w'.cell? ⟨bk,offk+n,none⟩=some (.string ck))) (by kernel_rfl) ?_ (fun hH=>?_)
    ·(try dsimp only)
     exact ⟨za_ (zc_ _) x0 (zg_ x0),za_ (zc_ _) y0 (zg_ y0)⟩
    replace HB:Hid (Below Z13.heap.size Z13 Y1.drew):=HB.out.trans ((zc_ _).mono HB.out.size)
    generalize Y1.drew=Y2 at *
    clear x0 y0
    refine wTk 0 ?_
    refine wTk 1 ?_
    refine wTk 2 ?_
    refine wTk (v:=.bool false) 3 ?_
    refine wTk 4 ?_
    refine wTk 5 ?_
    refine wTk 6 ?_
    refine wTk 7 ?_
    refine wTk 8 ?_
    refine wTk 9 ?_
    refine wTk 10 ?_
    refine wTk 11 ?_
    refine wTk 12 ?_
    refine wTk 13 ?_
    refine wTk 14 ?_
    refine wDn ?_
    clear hH
    go_wp2
    go_roundw
    case rel=>exact ⟨i+1,HKL.out,by go_num,(by rw [HN.out]; first | done | go_num),HB.out⟩
    case measure=>simp [intOf]; have:=HKL.out; omega
   ·have hi':¬ ((bkN ck:Nat):Int)=(b:Int):=by omega
    have HN:Hid ((bks b (cs.take (i+1))).length=(bks b (cs.take i)).length):=HX.out.2 he
    clear HS HX he HLE
    go_wp2
    go_roundw
    case rel=>exact ⟨i+1,HKL.out,by go_num,by rw [HN.out],HB.out⟩
    case measure=>simp [intOf]; have:=HKL.out; omega
  ·have hkl':¬ (i:Int) < (cs.length:Int):=by omega
   have e:cs.take i=cs:=List.take_of_length_le (by omega)
   rw [e]
   clear e
   go_wp2
   go_ret
   exact ⟨by simp,HBW.out.trans ((KB.out.2.2.trans (HB.out.mono KB.out.2.2.size)).mono HBW.out.size)⟩
end
end Go.Proofs.YtiokjphefpicbaaGreatDoor
