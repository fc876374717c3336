/- Nodes, part 16 of the law FnTake. -/
import Derived.Test.YtijcjhcgpmnchaaGreatDoorM15
namespace Go.Proofs.YtijcjhcgpmnchaaGreatDoor
open Go.RowKit
set_option maxRecDepth 100000
set_option maxHeartbeats 16000000
set_option linter.unusedSimpArgs false
set_option linter.unusedVariables false
variable {m:List Sib} {rest:List UInt8} {x y z:Int}
theorem va_ {a:List UInt8} (h:Num a) (hb:nv a<=9999):a.length<=18:=by
 rcases Nat.lt_or_ge a.length 6 with q | q
 ·omega
 ·have:=ue_ h q; omega
def Free (c:UInt8) (l:List UInt8):Prop:=∀ d ∈ l,d≠c
def tl:List (List UInt8)->List UInt8
 | []=>[]
 | p :: ps=>124 :: (p++tl ps)
theorem t9_:∀ (p:List UInt8) (ps:List (List UInt8)),glue 124 (p :: ps)=p++tl ps
 | p,[]=>by simp [glue,tl]
 | p,q :: ps=>by rw [glue,t9_ q ps]; rfl
theorem vj_ (c:UInt8):∀ (l:List UInt8),∀ p ∈ cutL c l,Free c p
 | [],p,hp=>by simp [cutL] at hp; subst hp; intro d hd; simp at hd
 | d :: l,p,hp=>by
  rw [cutL] at hp;by_cases h:d=c
  ·rw [if_pos h] at hp;rcases List.mem_cons.1 hp with e | e
   ·subst e; intro d hd; simp at hd
   ·exact vj_ c l p e
  ·rw [if_neg h] at hp;cases hc:cutL c l with
   | nil=>exact (vi_ c l hc).elim
   | cons q qs=>
    rw [hc] at hp;have ih:=vj_ c l;rw [hc] at ih;rcases List.mem_cons.1 hp with e | e
    ·subst e;intro x hx;rcases List.mem_cons.1 hx with e' | e'
     ·subst e'; exact h
     ·exact ih q (by simp) x e'
    ·exact ih p (by simp [e])
theorem ty_ (ps:List (List UInt8)):tl ps=[]∨∃ q,tl ps=124 :: q:=by
 cases ps with
 | nil=>exact .inl rfl
 | cons p ps=>exact .inr ⟨_,rfl⟩
theorem oz_ (t:List UInt8):NoD (124 :: t):=fun c hc=>by
 simp at hc;subst hc
 decide
theorem qg_ (ps:List (List UInt8)):NoD (tl ps):=by
 rcases ty_ ps with h | ⟨q,h⟩
 ·rw [h]; exact oy_
 ·rw [h]; exact oz_ q
theorem vx_ {p C tail:List UInt8} (hC:Free 124 C) (ht:tail=[]∨∃ q,tail=124 :: q) (h:p++tail=C++rest):∃ q,p=C++q∧rest=q++tail:=by
 rcases List.append_eq_append_iff.1 h with ⟨a',h1,h2⟩ | ⟨c',h1,h2⟩
 ·cases a' with
  | nil=>exact ⟨[],by simpa using h1.symm,by simpa using h2.symm⟩
  | cons d a'=>
   exfalso;rcases ht with e | ⟨q,e⟩
   ·rw [e] at h2; simp at h2
   ·rw [e] at h2;simp at h2;exact hC d (by rw [h1]; simp) h2.1.symm
 ·exact ⟨c',h1,h2⟩
theorem yF_ {a:List UInt8} (h:Num a) (c:UInt8) (hc:dg c=false):Free c a:=fun d hd e=>by
 have:=h.2.1 d hd
 rw [e,hc] at this;cases this
theorem pb_ {l a b c:List UInt8} (h:VvT l a b c):Free 124 l:=by
 rw [h.1];intro d hd;simp only [List.mem_append,List.mem_cons] at hd;rcases hd with h1 | h1 | h1 | h1 | h1
 ·exact yF_ h.2.1.1 124 (by decide) d h1
 ·subst h1; decide
 ·exact yF_ h.2.2.1.1 124 (by decide) d h1
 ·subst h1; decide
 ·exact yF_ h.2.2.2.1 124 (by decide) d h1
theorem tH_ {a t:List UInt8} (h:Num a) (hb:nv a<=9999) (ht:NoD t):rv1 (a++t)=some (nv a,t):=by
 have h1:=qn_ (most:=9999) h (by omega) hb ht;have h2:0 < a.length:=List.length_pos_iff.2 h.1;rw [v4_ h1 h2];simp
theorem tI_ {l:List UInt8} {n:Int} (h:rv1 l=some (n,rest)):∃ a,l=a++rest∧Num a∧nv a<=9999∧n=nv a∧NoD rest:=by
 unfold rv1 at h;split at h
 ·next hk=>
  have h1:=qo_ (most:=9999) (l:=l) (m:=(ld 9999 l).1) (k:=(ld 9999 l).2) rfl hk;cases h;exact ⟨l.take (ld 9999 l).2,(List.take_append_drop _ _).symm,h1.2.1,h1.2.2.2.1,h1.2.2.1,h1.2.2.2.2⟩
 ·cases h
theorem sgD_pre (t:List UInt8):sgD (46 :: t)=some t:=rfl
theorem rM_ {l:List UInt8} (h:sgD l=some rest):l=46 :: rest:=by
 cases l with
 | nil=>cases h
 | cons c r=>
  rw [sgD] at h;by_cases hc:c.toNat=46
  ·rw [if_pos hc] at h
   have:c=46:=UInt8.toNat_inj.1 (by simpa using hc)
   rw [this,Option.some.inj h]
  ·rw [if_neg hc] at h;cases h
theorem rQ_ {p a b c t:List UInt8} (h:VvT p a b c) (ht:NoD t):rvS (p++t) 3=some ((nv a,nv b,nv c),t):=by
 have e1:p++t=a++46 :: (b++46 :: (c++t)):=by rw [h.1]; simp
 rw [uQ_,uR_,rS_,e1,tH_ h.2.1.1 h.2.1.2 (qh_ _)];simp only [Option.map_some,Option.bind_some,sgD_pre,tH_ h.2.2.1.1 h.2.2.1.2 (qh_ _),tH_ h.2.2.2.1 h.2.2.2.2 ht]
theorem rR_ {l:List UInt8} (h:rvS l 3=some ((x,y,z),rest)):∃ C a b c,l=C++rest∧VvT C a b c∧x=nv a∧y=nv b∧z=nv c∧NoD rest:=by
 rw [uQ_,uR_,rS_] at h;simp only [Option.bind_eq_some_iff,Option.map_eq_some_iff] at h;obtain ⟨q,⟨q1,⟨q2,h1,rfl⟩,r1,h2,q3,h3,rfl⟩,r2,h4,q4,h5,h6⟩:=h;simp only [Prod.mk.injEq] at h6;obtain ⟨⟨rfl,rfl,rfl⟩,rfl⟩:=h6;obtain ⟨a,ea,na,la,va,_⟩:=tI_ h1;obtain ⟨b,eb,nb,lb,vb,_⟩:=tI_ h3;obtain ⟨c,ec,nc,lc,vc,nd⟩:=tI_ h5;have s1:=rM_ h2;have s2:=rM_ h4;simp only [] at s1 s2;refine ⟨a++46 :: (b++46 :: c),a,b,c,?_,⟨rfl,⟨na,la⟩,⟨nb,lb⟩,⟨nc,lc⟩⟩,va,vb,vc,nd⟩;rw [ea,s1,eb,s2,ec];simp
def dotR (l:List UInt8):Option ((Int × Int) × List UInt8):=if (rdR l).2.1=true then some ((rdR l).1,(rdR l).2.2) else none
theorem wb_ {C:List UInt8} (h:tdR C) (c:UInt8) (hc:dg c=false) (hl:¬ (97<=c.toNat∧c.toNat<=99)):Free c C:=by
 cases C with
 | nil=>exact h.elim
 | cons d r=>
  obtain ⟨h1,h2,_⟩:=h;intro e he;rcases List.mem_cons.1 he with q | q
  ·subst q; intro q; subst q; exact hl h1
  ·exact yF_ h2.1 c hc e q
theorem pP_ {l:List UInt8} {p n:Int} (h:dotR l=some ((p,n),rest)):∃ C,l=C++rest∧tdR C∧(tdV C).1=p∧(tdV C).2=n∧NoD rest:=by
 cases l with
 | nil=>simp [dotR,rdR] at h
 | cons c r=>
  unfold dotR rdR at h;by_cases hc:97<=c.toNat∧c.toNat<=99
  ·simp only [if_pos hc] at h;by_cases hk:0 < (ld 9999 r).2
   ·have h1:=qo_ (most:=9999) (l:=r) (m:=(ld 9999 r).1) (k:=(ld 9999 r).2) rfl hk;simp only [hk,decide_true,Bool.true_and] at h;split at h
    ·next hd=>
     simp only [Option.some.injEq,Prod.mk.injEq] at h;obtain ⟨⟨rfl,rfl⟩,rfl⟩:=h;refine ⟨c :: r.take (ld 9999 r).2,by simp,⟨hc,⟨h1.2.1,?_⟩,?_⟩,rfl,h1.2.2.1.symm,h1.2.2.2.2⟩
     ·exact va_ h1.2.1 h1.2.2.2.1
     ·rw [<- h1.2.2.1]; exact hd
    ·cases h
   ·simp [hk] at h
  ·simp [if_neg hc] at h
theorem sW_ {C t:List UInt8} (h:tdR C) (ht:NoD t):dotR (C++t)=some (tdV C,t):=by
 cases C with
 | nil=>exact h.elim
 | cons c r=>
  obtain ⟨h1,h2,h3⟩:=h
  have hb:nv r<=9999:=by
   have:=of_decide_eq_true h3
   omega
  have h4:=qn_ (most:=9999) h2.1 (by omega) hb ht;have h5:0 < r.length:=List.length_pos_iff.2 h2.1.1;unfold dotR;simp only [List.cons_append,rdR,if_pos h1,h4,h5,decide_true,Bool.true_and,h3];simp [tdV]
def valR:List UInt8->Option ((Int × Bool) × List UInt8)
 | []=>none
 | d :: q=>if d.toNat=33 then some ((0,true),q) else if d.toNat=61 then (if 0 < (ld 999 q).2 then some (((ld 999 q).1,false),q.drop (ld 999 q).2) else none) else none
def sibR:List UInt8->Option (Sib × List UInt8)
 | []=>none
 | c :: r=>if c.toNat=124 then (dotR r).bind fun d=>(valR d.2).map fun v=>(⟨d.1.1,d.1.2,v.1.1,v.1.2⟩,v.2) else none
theorem we_ (r:List UInt8):sibR (124 :: r)=(dotR r).bind fun d=>(valR d.2).map fun v=>(⟨d.1.1,d.1.2,v.1.1,v.1.2⟩,v.2):=by
 rw [sibR];exact if_pos rfl
theorem rL_ {c:UInt8} {r:List UInt8} (h:¬ c.toNat=124):sibR (c :: r)=none:=by
 rw [sibR];exact if_neg h
theorem wV_ (q:List UInt8):valR (33 :: q)=some ((0,true),q):=by
 rw [valR];exact if_pos rfl
theorem wU_ (q:List UInt8):valR (61 :: q)=if 0 < (ld 999 q).2 then some (((ld 999 q).1,false),q.drop (ld 999 q).2) else none:=by
 rw [valR,if_neg (by decide)];exact if_pos rfl
theorem rD_ {d:UInt8} {q:List UInt8} (h1:¬ d.toNat=33) (h2:¬ d.toNat=61):valR (d :: q)=none:=by
 rw [valR,if_neg h1,if_neg h2]
def SibS (p:List UInt8) (s:Sib):Prop:=(∃ C,p=C++[33]∧tdR C∧s=⟨(tdV C).1,(tdV C).2,0,true⟩)∨(∃ a b,p=a++61 :: b∧tdR a∧(Num b∧b.length<=18)∧s=⟨(tdV a).1,(tdV a).2,nv b,false⟩)
theorem p5_ {c:UInt8} (t:List UInt8) (h:dg c=false):NoD (c :: t):=fun d hd=>by
 simp at hd;subst hd;exact h
theorem pl_ {p t:List UInt8} {s:Sib} (h:SibS p s) (hv:s.v<=999) (ht:NoD t):sibR (124 :: (p++t))=some (s,t):=by
 rcases h with ⟨C,rfl,hC,rfl⟩ | ⟨a,b,rfl,ha,hb,rfl⟩
 ·have h1:C++[33]++t=C++33 :: t:=by simp
  rw [we_,h1,sW_ hC (p5_ _ (by decide))];simp only [Option.bind_some,wV_,Option.map_some]
 ·have h1:a++61 :: b++t=a++61 :: (b++t):=by simp
  have h4:=qn_ (most:=999) hb.1 (by omega) hv ht;have h5:0 < b.length:=List.length_pos_iff.2 hb.1.1;rw [we_,h1,sW_ ha (p5_ _ (by decide))];simp only [Option.bind_some,wU_,h4,if_pos h5,Option.map_some];simp
theorem uN_ {l:List UInt8} {s:Sib} (h:sibR l=some (s,rest)):∃ p,l=124 :: (p++rest)∧SibS p s∧Free 124 p:=by
 cases l with
 | nil=>cases h
 | cons c r=>
  by_cases hc:c.toNat=124
  ·have hc':c=124:=UInt8.toNat_inj.1 (by simpa using hc);subst hc';rw [we_] at h;simp only [Option.bind_eq_some_iff,Option.map_eq_some_iff] at h;obtain ⟨⟨⟨p,n⟩,r1⟩,hd,v,hv,e⟩:=h;obtain ⟨C,e1,hC,e2,e3,_⟩:=pP_ hd;cases r1 with
   | nil=>cases hv
   | cons d q=>
    by_cases h33:d.toNat=33
    ·have:d=33:=UInt8.toNat_inj.1 (by simpa using h33)
     subst this;rw [wV_] at hv;cases hv;cases e;refine ⟨C++[33],by rw [e1]; simp,.inl ⟨C,rfl,hC,by rw [e2,e3]⟩,?_⟩;intro x hx;rcases List.mem_append.1 hx with q1 | q1
     ·exact wb_ hC 124 (by decide) (by decide) x q1
     ·simp at q1; subst q1; decide
    ·by_cases h61:d.toNat=61
     ·have:d=61:=UInt8.toNat_inj.1 (by simpa using h61)
      subst this;rw [wU_] at hv;by_cases hk:0 < (ld 999 q).2
      ·have h1:=qo_ (most:=999) (l:=q) (m:=(ld 999 q).1) (k:=(ld 999 q).2) rfl hk;rw [if_pos hk] at hv;cases hv;cases e;refine ⟨C++61 :: q.take (ld 999 q).2,?_,.inr ⟨C,q.take (ld 999 q).2,rfl,hC,⟨h1.2.1,va_ h1.2.1 (by have:=h1.2.2.2.1; omega)⟩,by rw [e2,e3,<- h1.2.2.1]⟩,?_⟩
       ·rw [e1]; simp
       ·intro x hx;simp only [List.mem_append,List.mem_cons] at hx;rcases hx with q1 | q1 | q1
        ·exact wb_ hC 124 (by decide) (by decide) x q1
        ·subst q1; decide
        ·exact yF_ h1.2.1 124 (by decide) x q1
      ·rw [if_neg hk] at hv;cases hv
     ·rw [rD_ h33 h61] at hv;cases hv
  ·rw [rL_ hc] at h;cases h
inductive SbsR:List UInt8->Option (List Sib)->Prop
 | nil:SbsR [] (some [])
 | no {l:List UInt8}:l≠[]->sibR l=none->SbsR l none
 | yes {l r:List UInt8} {s:Sib} {o:Option (List Sib)}:sibR l=some (s,r)->SbsR r o->SbsR l (o.map (s :: ·))
inductive SibsS:List (List UInt8)->List Sib->Prop
 | nil:SibsS [] []
 | cons {p:List UInt8} {ps:List (List UInt8)} {s:Sib} {m:List Sib}:SibS p s->SibsS ps m->SibsS (p :: ps) (s :: m)
theorem SbsR.det {l:List UInt8} {o:Option (List Sib)} (h:SbsR l o):∀ {o'},SbsR l o'->o=o':=by
 induction h with
 | nil=>intro o' h'; cases h' with
  | nil=>rfl
  | no h1 _=>exact (h1 rfl).elim
  | yes h1 _=>cases h1
 | no h1 h2=>intro o' h'; cases h' with
  | nil=>exact (h1 rfl).elim
  | no _ _=>rfl
  | yes h3 _=>rw [h2] at h3; cases h3
 | yes h1 h2 ih=>intro o' h'; cases h' with
  | nil=>cases h1
  | no _ h3=>rw [h1] at h3; cases h3
  | yes h3 h4=>
   rw [h1] at h3;cases h3;rw [ih h4]
theorem rN_:∀ {ps:List (List UInt8)} {m:List Sib},SibsS ps m->(∀ s ∈ m,s.v<=999)->SbsR (tl ps) (some m):=by
 intro ps m h
 induction h with
 | nil=>intro _; exact .nil
 | cons h1 h2 ih=>exact fun hv=>.yes (pl_ h1 (hv _ (by simp)) (qg_ _)) (ih (fun s hs=>hv s (List.mem_cons_of_mem _ hs)))
theorem vD_ {q t:List UInt8} (hq:q≠[]) (hf:Free 124 q) {m:List Sib}:¬ SbsR (q++t) (some m):=by
 intro h;cases q with
 | nil=>exact hq rfl
 | cons d q=>
  have hd:¬ d.toNat=124:=fun e=>hf d (by simp) (UInt8.toNat_inj.1 (by simpa using e))
  generalize ho:some m=o at h;cases h with
  | no _ _=>cases ho
  | yes h1 _=>rw [List.cons_append,rL_ hd] at h1; cases h1
theorem sm_:∀ (ps:List (List UInt8)),(∀ p ∈ ps,Free 124 p)->∀ {m:List Sib},SbsR (tl ps) (some m)->SibsS ps m
 | [],_,m,h=>by
  have:=h.det SbsR.nil
  cases this;exact .nil
 | p :: ps,hf,m,h=>by
  generalize ho:some m=o at h;cases h with
  | no _ _=>cases ho
  | @yes l r s o' h1 h2=>
   obtain ⟨p',e,hs,hp'⟩:=uN_ h1
   have e':p++tl ps=p'++r:=by
    have:(124:UInt8) :: (p++tl ps)=124 :: (p'++r):=e
    simpa using this
   obtain ⟨q,e1,e2⟩:=vx_ hp' (ty_ ps) e';cases o' with
   | none=>cases ho
   | some m'=>
    cases ho;by_cases hq:q=[]
    ·subst hq;rw [List.append_nil] at e1;subst e1;rw [List.nil_append] at e2;subst e2;exact .cons hs (sm_ ps (fun x hx=>hf x (List.mem_cons_of_mem _ hx)) h2)
    ·exfalso;rw [e2] at h2;exact vD_ hq (fun d hd=>hf p (by simp) d (by rw [e1]; simp [hd])) h2
def ObjS (t:List UInt8) (x y z:Int) (m:List Sib):Prop:=∃ p ps a b c,cutL 124 t=p :: ps∧VvT p a b c∧x=nv a∧y=nv b∧z=nv c∧SibsS ps m
theorem ua_ {t:List UInt8} (hv:∀ s ∈ m,s.v<=999):ObjS t x y z m↔∃ rest,rvS t 3=some ((x,y,z),rest)∧SbsR rest (some m):=by
 constructor
 ·rintro ⟨p,ps,a,b,c,hc,hV,rfl,rfl,rfl,hS⟩;have e:t=p++tl ps:=by rw [<- t9_,<- hc,wn_]
  exact ⟨tl ps,by rw [e]; exact rQ_ hV (qg_ ps),rN_ hS hv⟩
 ·rintro ⟨rest,h1,h2⟩;obtain ⟨C,a,b,c,e,hV,rfl,rfl,rfl,_⟩:=rR_ h1;cases hc:cutL 124 t with
  | nil=>exact (vi_ 124 t hc).elim
  | cons p ps=>
   have e0:t=p++tl ps:=by rw [<- t9_,<- hc,wn_]
   have hf:=vj_ 124 t;rw [hc] at hf;obtain ⟨q,e1,e2⟩:=vx_ (pb_ hV) (ty_ ps) (e0.symm.trans e);by_cases hq:q=[]
   ·subst hq;rw [List.append_nil] at e1;subst e1;rw [List.nil_append] at e2;subst e2;exact ⟨p,ps,a,b,c,hc,hV,rfl,rfl,rfl,sm_ ps (fun x hx=>hf x (List.mem_cons_of_mem _ hx)) h2⟩
   ·exfalso;rw [e2] at h2;exact vD_ hq (fun d hd=>hf p (by simp) d (by rw [e1]; simp [hd])) h2
end Go.Proofs.YtijcjhcgpmnchaaGreatDoor
