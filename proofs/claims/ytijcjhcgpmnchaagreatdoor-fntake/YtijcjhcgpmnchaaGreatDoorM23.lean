/- Nodes, part 23 of the law FnTake. -/
import Derived.Test.YtijcjhcgpmnchaaGreatDoorM19
import Derived.Test.YtijcjhcgpmnchaaGreatDoorM22
namespace Go.Proofs.YtijcjhcgpmnchaaGreatDoor
open Go.RowKit
set_option maxRecDepth 100000
set_option maxHeartbeats 16000000
set_option linter.unusedSimpArgs false
set_option linter.unusedVariables false
section
variable {W w:World} {a c x y z:Int} {l m m':List Sib} {n:Nat} {u0 u1 u2 u3 v:Value} {xs:List Value}
def RoA (s:ByteArray) (m:List Sib) (x y z code:Int):Prop:=(65536 < s.size->m=[]∧x=0∧y=0∧z=0∧code=2)∧(¬ 65536 < s.size->∀ x' y' z' m',vv_ (bl s) x' y' z' m'->m=m'∧x=x'∧y=y'∧z=z'∧code=0)∧(¬ 65536 < s.size->wC_ (bl s)->m=[]∧x=0∧y=0∧z=0∧code=3)
theorem tk_ {l:List UInt8} {x' y' z':Int} (h:vv_ l x y z m) (h':vv_ l x' y' z' m'):m=m'∧x=x'∧y=y'∧z=z':=by
 obtain ⟨⟨r,h1,h2⟩,_⟩:=h;obtain ⟨⟨r',g1,g2⟩,_⟩:=h';rw [h1] at g1;cases g1;cases h2.det g2;exact ⟨rfl,rfl,rfl,rfl⟩
def RoQ (w:World) (m:List Sib) (x y z code:Int) (e:Ending) (w':World):Prop:=
 ∃ v:Value,e=.returned (.tuple #[.agg #[v,.int .i64 x,.int .i64 y,.int .i64 z],.int .i64 code])∧w'.ownsRow 0 89 4 v m.length (flat m)∧(∀ k,v.ownBlock=some k->w.heap.size < k)∧Below w.heap.size w w'
theorem vo_ (h:Below w.heap.size w W):Below w.heap.size w ((((W.setCell ⟨w.heap.size,0,none⟩ u0).setCell ⟨w.heap.size,1,none⟩ u1).setCell ⟨w.heap.size,2,none⟩ u2).setCell ⟨w.heap.size,3,none⟩ u3):=
 (((h.setCell (by simp) _).setCell (by simp) _).setCell (by simp) _).setCell (by simp) _
theorem y0_ {e:TypeId} (h:W.ownsRow 0 e 4 v n xs):∃ vo vc,v=.slice vo n vc:=by
 rcases h.2 with ⟨rfl,hn0⟩ | ⟨k,cap,cur,rfl,_⟩
 ·exact ⟨none,0,by rw [hn0]⟩
 ·exact ⟨_,cap,rfl⟩
theorem s4_ (s:ByteArray) (m:List Sib) (x y z code:Int) (hA:Hid (RoA s m x y z code)) (w:World) (hs:s.size<=1048576) :
  Calls Tryz.prog 194 #[.string s,.func (.func 195) #[] #[]] w fun e w'=>RoQ w m x y z code e w':=by
 by_cases hb65:65536 < s.size
 ·obtain ⟨rfl,rfl,rfl,rfl,rfl⟩:=hA.out.1 hb65;have hb':(65536:Int) < (s.size:Int):=by omega
  go_enter Tryz.func194,Tryz.ntmps194;go_wp2;refine bodyPost_ret (v:=.tuple #[.agg #[.slice none 0 0,.int .i64 0,.int .i64 0,.int .i64 0],.int .i64 2]) (by simp [results,Tryz.results194,go_sem]) rfl ⟨_,rfl,World.ownsRow_nil _ 0 _ 4,fun k hk=>absurd hk Gro.none_ne,?_⟩;exact (zb_ _ _).trans ((zb_ _ _).mono (by simp))
 have hb':¬ (65536:Int) < (s.size:Int):=by omega
 have R0:Hid (((((w.alloc (.cells #[.slice none 0 0,.int .i64 0,.int .i64 0,.int .i64 0] 37)).alloc (.cells #[.slice none 0 0,.int .i64 0,.int .i64 0,.int .i64 0] 37))).cell? ⟨w.heap.size,0,none⟩=some (.slice none 0 0)∧(((w.alloc (.cells #[.slice none 0 0,.int .i64 0,.int .i64 0,.int .i64 0] 37)).alloc (.cells #[.slice none 0 0,.int .i64 0,.int .i64 0,.int .i64 0] 37))).cell? ⟨w.heap.size,1,none⟩=some (.int .i64 0)∧(((w.alloc (.cells #[.slice none 0 0,.int .i64 0,.int .i64 0,.int .i64 0] 37)).alloc (.cells #[.slice none 0 0,.int .i64 0,.int .i64 0,.int .i64 0] 37))).cell? ⟨w.heap.size,2,none⟩=some (.int .i64 0)∧(((w.alloc (.cells #[.slice none 0 0,.int .i64 0,.int .i64 0,.int .i64 0] 37)).alloc (.cells #[.slice none 0 0,.int .i64 0,.int .i64 0,.int .i64 0] 37))).cell? ⟨w.heap.size,3,none⟩=some (.int .i64 0))∧((((w.alloc (.cells #[.slice none 0 0,.int .i64 0,.int .i64 0,.int .i64 0] 37)).alloc (.cells #[.slice none 0 0,.int .i64 0,.int .i64 0,.int .i64 0] 37))).frozen? ⟨w.heap.size,0,none⟩=false∧(((w.alloc (.cells #[.slice none 0 0,.int .i64 0,.int .i64 0,.int .i64 0] 37)).alloc (.cells #[.slice none 0 0,.int .i64 0,.int .i64 0,.int .i64 0] 37))).frozen? ⟨w.heap.size,1,none⟩=false∧(((w.alloc (.cells #[.slice none 0 0,.int .i64 0,.int .i64 0,.int .i64 0] 37)).alloc (.cells #[.slice none 0 0,.int .i64 0,.int .i64 0,.int .i64 0] 37))).frozen? ⟨w.heap.size,2,none⟩=false∧(((w.alloc (.cells #[.slice none 0 0,.int .i64 0,.int .i64 0,.int .i64 0] 37)).alloc (.cells #[.slice none 0 0,.int .i64 0,.int .i64 0,.int .i64 0] 37))).frozen? ⟨w.heap.size,3,none⟩=false)∧(((w.alloc (.cells #[.slice none 0 0,.int .i64 0,.int .i64 0,.int .i64 0] 37)).alloc (.cells #[.slice none 0 0,.int .i64 0,.int .i64 0,.int .i64 0] 37))).cell? ⟨w.heap.size+1,0,none⟩=some (.slice none 0 0)∧(((w.alloc (.cells #[.slice none 0 0,.int .i64 0,.int .i64 0,.int .i64 0] 37)).alloc (.cells #[.slice none 0 0,.int .i64 0,.int .i64 0,.int .i64 0] 37))).cell? ⟨w.heap.size+1,1,none⟩=some (.int .i64 0)∧(((w.alloc (.cells #[.slice none 0 0,.int .i64 0,.int .i64 0,.int .i64 0] 37)).alloc (.cells #[.slice none 0 0,.int .i64 0,.int .i64 0,.int .i64 0] 37))).cell? ⟨w.heap.size+1,2,none⟩=some (.int .i64 0)∧(((w.alloc (.cells #[.slice none 0 0,.int .i64 0,.int .i64 0,.int .i64 0] 37)).alloc (.cells #[.slice none 0 0,.int .i64 0,.int .i64 0,.int .i64 0] 37))).cell? ⟨w.heap.size+1,3,none⟩=some (.int .i64 0)):=⟨⟨by go_simp,by go_simp,by go_simp,by go_simp⟩,⟨by go_simp,by go_simp,by go_simp,by go_simp⟩,⟨by go_simp,by go_simp,by go_simp,by go_simp⟩⟩;have HB0:Hid (Below w.heap.size w ((w.alloc (.cells #[.slice none 0 0,.int .i64 0,.int .i64 0,.int .i64 0] 37)).alloc (.cells #[.slice none 0 0,.int .i64 0,.int .i64 0,.int .i64 0] 37))):=(zb_ _ _).trans ((zb_ _ _).mono (by simp));have HZ:Hid ((((w.alloc (.cells #[.slice none 0 0,.int .i64 0,.int .i64 0,.int .i64 0] 37)).alloc (.cells #[.slice none 0 0,.int .i64 0,.int .i64 0,.int .i64 0] 37))).heap.size=w.heap.size+1+1):=by show _=_; simp
 go_enter Tryz.func194,Tryz.ntmps194;go_wp2_with fail;generalize ((w.alloc (.cells #[.slice none 0 0,.int .i64 0,.int .i64 0,.int .i64 0] 37)).alloc (.cells #[.slice none 0 0,.int .i64 0,.int .i64 0,.int .i64 0] 37))=W0 at *;refine (rb_ s W0).mono ?_;rintro e w1 ⟨rfl,hb,hL,hlt⟩;obtain ⟨g,hg⟩:∃ g,g=W0.heap.size:=⟨_,rfl⟩;rw [<- hg] at hL hlt ⊢;have hgw:w.heap.size+1 < g:=by have:=HZ.out; omega
 have HB1:Hid (Below w.heap.size w w1):=ze_ HB0 hb;obtain ⟨⟨R00,R01,R02,R0a⟩,⟨R03,R04,R05,R0b⟩,R06,R07,R08,R0c⟩:=R0.out;have hzz:w.heap.size+1 < W0.heap.size:=by have:=HZ.out; omega
 have r0:=za_ hb R00 (by omega);have r1:=za_ hb R01 (by omega);have r2:=za_ hb R02 (by omega);have r3:=za_ hb R0a (by omega);have q0:=zf_ hb R03 (by omega);have q1:=zf_ hb R04 (by omega);have q2:=zf_ hb R05 (by omega);have q3:=zf_ hb R0b (by omega);have n0:=za_ hb R06 (by omega);have n1:=za_ hb R07 (by omega);have n2:=za_ hb R08 (by omega);have n3:=za_ hb R0c (by omega);have HL1:Hid (Left w1 g s):=hL;clear hb hL hg R00 R01 R02 R03 R04 R05 R06 R07 R08 R0a R0b R0c hzz R0 HB0 HZ;clear W0;go_wp2_with fail;refine (tO_ g s _ (by simp; omega) (zu_ HL1.out (zb_ _ _) hlt) (by omega)).mono ?_;rintro e w2 (⟨m',x',y',z',v,hS,rfl,hown,hnew,⟨s',hL2,hbl⟩,hg2⟩ | ⟨hS,vo,n,vc,x',y',z',rfl,hg2⟩)
 ·have f2:w2.cell? ⟨w1.heap.size,2,none⟩=some (.func (.func 223) #[] #[.pointer (some ⟨g,0,none⟩)]):=zm_ hg2 (by go_simp) (by omega);replace r0:=zm_ hg2 (zL_ r0 (by omega)) (by omega);replace n0:=zm_ hg2 (zL_ n0 (by omega)) (by omega);replace q0:=zC_ hg2 (z0_ q0 (by omega)) (by simp; omega) (by omega);replace r1:=zm_ hg2 (zL_ r1 (by omega)) (by omega);replace n1:=zm_ hg2 (zL_ n1 (by omega)) (by omega);replace q1:=zC_ hg2 (z0_ q1 (by omega)) (by simp; omega) (by omega);replace r2:=zm_ hg2 (zL_ r2 (by omega)) (by omega);replace n2:=zm_ hg2 (zL_ n2 (by omega)) (by omega);replace q2:=zC_ hg2 (z0_ q2 (by omega)) (by simp; omega) (by omega);replace r3:=zm_ hg2 (zL_ r3 (by omega)) (by omega);replace n3:=zm_ hg2 (zL_ n3 (by omega)) (by omega);replace q3:=zC_ hg2 (z0_ q3 (by omega)) (by simp; omega) (by omega);have hz2:w1.heap.size < w2.heap.size:=by have:=hg2.size; simp at this; omega
  have hz:w.heap.size < w2.heap.size:=by omega
  have HB:Hid (Below w.heap.size w w2):=ts_ (ze_ HB1 (zb_ _ _)).out hg2 (by omega);have f2':∀ o,(w2.alloc o).cell? ⟨w1.heap.size,2,none⟩=some (.func (.func 223) #[] #[.pointer (some ⟨g,0,none⟩)]):=fun o=>zL_ f2 hz2
  have n0':∀ o,(w2.alloc o).cell? ⟨w.heap.size+1,0,none⟩=some (.slice none 0 0):=fun o=>zL_ n0 (by omega)
  have n1':∀ o,(w2.alloc o).cell? ⟨w.heap.size+1,1,none⟩=some (.int .i64 0):=fun o=>zL_ n1 (by omega)
  have n2':∀ o,(w2.alloc o).cell? ⟨w.heap.size+1,2,none⟩=some (.int .i64 0):=fun o=>zL_ n2 (by omega)
  have n3':∀ o,(w2.alloc o).cell? ⟨w.heap.size+1,3,none⟩=some (.int .i64 0):=fun o=>zL_ n3 (by omega)
  clear hg2 HB1 HL1 f2 n0 n1 n2 n3;have L2:Hid (Left w2 g s'):=hL2;have hs':s'.size=0:=by have h:=zF_ s'; rw [hbl] at h; simpa using h.symm
  obtain ⟨rfl,rfl,rfl,rfl,rfl⟩:=hA.out.2.1 hb65 _ _ _ _ hS;obtain ⟨vo,vc,rfl⟩:=y0_ hown;have HO:=hm_ hown;have HN:Hid (∀ k,(Value.slice vo m.length vc).ownBlock=some k->w.heap.size < k):=fun k hk=>by have:=hnew k hk; simp at this; omega
  clear hL2 hbl hS hA hown hnew;go_wp2_with fail;refine (to_ g s' _ (zu_ L2.out (zb_ _ _) (by omega)).1 hs').mono ?_;rintro e w' ⟨rfl,rfl⟩;go_wp2;refine bodyPost_ret (v:=.tuple #[.agg #[.slice vo m.length vc,.int .i64 x,.int .i64 y,.int .i64 z],.int .i64 0]) (by simp [results,Tryz.results194,go_sem,r0,r1,r2,r3,q0,q1,q2,q3,hz]) rfl ⟨_,rfl,?_,?_,?_⟩
  ·exact zP_ (xQ_ (g:=w.heap.size) HO.out (fun e=>by have:=HN.out _ e; omega)) (zb_ _ _)
  ·exact HN.out
  exact (vo_ HB.out).alloc (by simpa [World.setCell] using Nat.le_of_lt hz) _
 ·have f2:w2.cell? ⟨w1.heap.size,2,none⟩=some (.func (.func 223) #[] #[.pointer (some ⟨g,0,none⟩)]):=zm_ hg2 (by go_simp) (by omega);replace r0:=zm_ hg2 (zL_ r0 (by omega)) (by omega);replace n0:=zm_ hg2 (zL_ n0 (by omega)) (by omega);replace q0:=zC_ hg2 (z0_ q0 (by omega)) (by simp; omega) (by omega);replace r1:=zm_ hg2 (zL_ r1 (by omega)) (by omega);replace n1:=zm_ hg2 (zL_ n1 (by omega)) (by omega);replace q1:=zC_ hg2 (z0_ q1 (by omega)) (by simp; omega) (by omega);replace r2:=zm_ hg2 (zL_ r2 (by omega)) (by omega);replace n2:=zm_ hg2 (zL_ n2 (by omega)) (by omega);replace q2:=zC_ hg2 (z0_ q2 (by omega)) (by simp; omega) (by omega);replace r3:=zm_ hg2 (zL_ r3 (by omega)) (by omega);replace n3:=zm_ hg2 (zL_ n3 (by omega)) (by omega);replace q3:=zC_ hg2 (z0_ q3 (by omega)) (by simp; omega) (by omega);have hz2:w1.heap.size < w2.heap.size:=by have:=hg2.size; simp at this; omega
  have hz:w.heap.size < w2.heap.size:=by omega
  have HB:Hid (Below w.heap.size w w2):=ts_ (ze_ HB1 (zb_ _ _)).out hg2 (by omega);have f2':∀ o,(w2.alloc o).cell? ⟨w1.heap.size,2,none⟩=some (.func (.func 223) #[] #[.pointer (some ⟨g,0,none⟩)]):=fun o=>zL_ f2 hz2
  have n0':∀ o,(w2.alloc o).cell? ⟨w.heap.size+1,0,none⟩=some (.slice none 0 0):=fun o=>zL_ n0 (by omega)
  have n1':∀ o,(w2.alloc o).cell? ⟨w.heap.size+1,1,none⟩=some (.int .i64 0):=fun o=>zL_ n1 (by omega)
  have n2':∀ o,(w2.alloc o).cell? ⟨w.heap.size+1,2,none⟩=some (.int .i64 0):=fun o=>zL_ n2 (by omega)
  have n3':∀ o,(w2.alloc o).cell? ⟨w.heap.size+1,3,none⟩=some (.int .i64 0):=fun o=>zL_ n3 (by omega)
  clear hg2 HB1 HL1 f2 n0 n1 n2 n3;obtain ⟨rfl,rfl,rfl,rfl,rfl⟩:=hA.out.2.2 hb65 hS;clear hS hA;go_wp2;refine bodyPost_ret (v:=.tuple #[.agg #[.slice none 0 0,.int .i64 0,.int .i64 0,.int .i64 0],.int .i64 3]) (by simp [results,Tryz.results194,go_sem,r0,r1,r2,r3,q0,q1,q2,q3,hz]) rfl ⟨_,rfl,?_,?_,?_⟩
  ·exact World.ownsRow_nil _ 0 _ 4
  ·exact fun k hk=>absurd hk Gro.none_ne
  exact (vo_ HB.out).alloc (by simpa [World.setCell] using Nat.le_of_lt hz) _
theorem ur_ (s:ByteArray) (m:List Sib) (x y z code:Int) (hA:Hid (RoA s m x y z code)) (w:World) (hs:s.size<=1048576) :
  Calls Tryz.prog 169 #[.string s] w fun e w'=>RoQ w m x y z code e w':=by
 go_enter Tryz.func169,Tryz.ntmps169;go_wp2_with fail;refine (s4_ s m x y z code hA _ hs).mono ?_;rintro e w1 ⟨v,rfl,hO,hN,hb⟩;have HB:Hid (Below w.heap.size w w1):=(zb_ _ _).trans (hb.mono (by simp));obtain ⟨vo,vc,rfl⟩:=y0_ hO;have HO:=hm_ hO;have HN:Hid (∀ k,(Value.slice vo m.length vc).ownBlock=some k->w.heap.size < k):=fun k hk=>by have:=hN k hk; simp at this; omega
 have r0:=za_ hb (b:=w.heap.size) (o:=0) (v:=.slice none 0 0) (by go_simp) (by simp);have r1:=za_ hb (b:=w.heap.size) (o:=1) (v:=.int .i64 0) (by go_simp) (by simp);have r2:=za_ hb (b:=w.heap.size) (o:=2) (v:=.int .i64 0) (by go_simp) (by simp);have r3:=za_ hb (b:=w.heap.size) (o:=3) (v:=.int .i64 0) (by go_simp) (by simp);have q0:=zf_ hb (b:=w.heap.size) (o:=0) (by go_simp) (by simp);have q1:=zf_ hb (b:=w.heap.size) (o:=1) (by go_simp) (by simp);have q2:=zf_ hb (b:=w.heap.size) (o:=2) (by go_simp) (by simp);have q3:=zf_ hb (b:=w.heap.size) (o:=3) (by go_simp) (by simp);clear hb hA hO hN;go_wp2;refine bodyPost_ret (v:=.tuple #[.agg #[.slice vo m.length vc,.int .i64 x,.int .i64 y,.int .i64 z],.int .i64 code]) (by simp [results,Tryz.results169,go_sem,r0,r1,r2,r3,q0,q1,q2,q3]) rfl ⟨_,rfl,?_,HN.out,vo_ HB.out⟩;exact xQ_ (g:=w.heap.size) HO.out (fun e=>by have:=HN.out _ e; omega)
theorem pN_:∀ n:Nat,1<=n->(dsN n).head? ≠ some 48:=by
 intro n
 induction n using Nat.strongRecOn with
 | _ n ih=>
  intro h1;rw [dsN];by_cases h:n < 10
  ·rw [dif_pos h];intro e;simp only [List.head?_cons,Option.some.injEq] at e;have e2:=congrArg UInt8.toNat e;rw [yE_ _ (by omega)] at e2;simp at e2;omega
  ·rw [dif_neg h]
   have hne:dsN (n / 10)≠[]:=by
    rw [dsN];split <;> simp
   obtain ⟨c,r,hcr⟩:=List.exists_cons_of_ne_nil hne;have ih':=ih (n / 10) (by omega) (by omega);rw [hcr] at ih' ⊢;exact ih'
theorem wR_:∀ n:Nat,dsN n≠[]∧(∀ c ∈ dsN n,dg c=true)∧nv (dsN n)=(n:Int):=by
 intro n
 induction n using Nat.strongRecOn with
 | _ n ih=>
  rw [dsN];by_cases h:n < 10
  ·rw [dif_pos h];refine ⟨by simp,fun c hc=>?_,?_⟩
   ·simp only [List.mem_singleton] at hc;rw [hc,yp_,yE_ _ (by omega)];omega
   ·unfold nv;simp only [List.foldl_cons,List.foldl_nil];rw [yE_ _ (by omega)];omega
  ·rw [dif_neg h];obtain ⟨h1,h2,h3⟩:=ih (n / 10) (by omega);refine ⟨by simp,fun c hc=>?_,?_⟩
   ·rw [List.mem_append,List.mem_singleton] at hc;rcases hc with hc | hc
    ·exact h2 c hc
    ·rw [hc,yp_,yE_ _ (by omega)];omega
   ·rw [uc_,h3,yE_ _ (by omega)];omega
theorem oW_ (n:Nat) (h:1 < (dsN n).length):1<=n:=by
 by_cases e:n=0
 ·rw [e,dsN] at h;simp at h
 ·omega
theorem vW_ (n:Nat):Num (dsN n):=⟨(wR_ n).1,(wR_ n).2.1,fun h=>pN_ n (oW_ n h)⟩
theorem xy_ (a:Int) (h:0<=a):nv (dsN a.toNat)=a:=by
 rw [(wR_ a.toNat).2.2];omega
theorem yR_ (a:Int) (h:0<=a) (h1:a<=9999):(dsN a.toNat).length<=18:=va_ (vW_ _) (by rw [xy_ a h]; exact h1)
theorem p7_ (p:Int) (h:0<=p∧p < 3):((nl p).toNat:Int)=97+p:=by
 have:p=0∨p=1∨p=2:=by omega
 rcases this with rfl | rfl | rfl <;> rfl
theorem nj_ {p n:Int} (h:dotB p n=true):tdR (dotT p n)∧tdV (dotT p n)=(p,n):=by
 have hd:=of_decide_eq_true (show decide _=true from h)
 have e1:=p7_ p (by omega);have e2:=xy_ n (by omega);unfold dotT tdR tdV;refine ⟨⟨by omega,⟨vW_ _,yR_ n (by omega) (by omega)⟩,?_⟩,?_⟩
 ·rw [e1,e2,show (97:Int)+p - 97=p by omega];exact h
 ·show (((nl p).toNat:Int) - 97,nv (dsN n.toNat))=(p,n)
  rw [e1,e2,show (97:Int)+p - 97=p by omega]
theorem rK_ {s:Sib} (h:zW_ s.p s.n s.v s.d=true):SibS (sibT s) s:=by
 obtain ⟨p,n,v,d⟩:=s;unfold zW_ at h;simp only [Bool.and_eq_true,decide_eq_true_eq,Bool.or_eq_true,Bool.not_eq_true',beq_iff_eq] at h;obtain ⟨⟨hd,hv0,hv1⟩,hz⟩:=h;obtain ⟨t1,t2⟩:=nj_ hd;unfold sibT;cases d with
 | true=>
  have hv:v=0:=by
   rcases hz with hz | hz
   ·cases hz
   ·exact hz
  refine .inl ⟨dotT p n,by simp,t1,?_⟩;rw [t2,hv]
 | false=>
  refine .inr ⟨dotT p n,dsN v.toNat,by simp,t1,⟨vW_ _,yR_ v hv0 (by omega)⟩,?_⟩;rw [t2,xy_ v hv0]
theorem uL_:∀ (l:List Sib),(∀ s ∈ l,zW_ s.p s.n s.v s.d=true)->SibsS (l.map sibT) l
 | [],_=>.nil
 | s :: l,h=>.cons (rK_ (h s (List.mem_cons_self ..))) (uL_ l fun t ht=>h t (List.mem_cons_of_mem _ ht))
theorem rE_:∀ (l:List Sib),tl (l.map sibT)=l.flatMap fun s=>124 :: sibT s
 | []=>rfl
 | s :: l=>by
  rw [List.map_cons,tl,List.flatMap_cons,rE_ l];rfl
theorem ne_ {b:Int} (h:vvB a b c=true):VvT (vvT a b c) (dsN a.toNat) (dsN b.toNat) (dsN c.toNat):=by
 have h0:=of_decide_eq_true (show decide _=true from h)
 refine ⟨by unfold vvT vj; simp,⟨vW_ _,?_⟩,⟨vW_ _,?_⟩,⟨vW_ _,?_⟩⟩
 ·rw [xy_ a (by omega)]; omega
 ·rw [xy_ b (by omega)]; omega
 ·rw [xy_ c (by omega)]; omega
theorem r8_ (X:List UInt8) (l:List Sib):objT X l=X++tl (l.map sibT):=by rw [rE_]; rfl
theorem nf_ (h:∀ s ∈ l,zW_ s.p s.n s.v s.d=true):∀ s ∈ l,s.v<=999:=fun s hs=>(yI_ (h s hs)).2.2.2.2
theorem pn_ {b:Int} (h:vvB a b c=true) {t:List UInt8} (ht:NoD t):rvS (vvT a b c++t) 3=some ((a,b,c),t):=by
 have h0:=of_decide_eq_true (show decide _=true from h)
 have:=rQ_ (ne_ h) ht
 rw [xy_ a (by omega),xy_ b (by omega),xy_ c (by omega)] at this;exact this
theorem wm_ {b:Int} (h:OkP l a b c):vv_ (objT (vvT a b c) l) a b c l:=by
 refine ⟨⟨tl (l.map sibT),?_,rN_ (uL_ l (v7_ h)) (nf_ (v7_ h))⟩,h⟩;rw [r8_];exact pn_ h.2.1 (qg_ _)
theorem qL_ {p n:Int} (h:dotB p n=true):(dotT p n).length<=19:=by
 have hd:=of_decide_eq_true (show decide _=true from h)
 have:=yR_ n (by omega) (by omega)
 unfold dotT;simp only [List.length_cons];omega
theorem rJ_ {s:Sib} (h:zW_ s.p s.n s.v s.d=true):(sibT s).length<=38:=by
 have hb:=yI_ h
 have h1:=qL_ (p:=s.p) (n:=s.n) (by
  unfold zW_ at h;simp only [Bool.and_eq_true] at h
  exact h.1.1)
 have h2:=yR_ s.v (by omega) (by omega);unfold sibT;rw [List.length_append];split <;> simp <;> omega
theorem sh_:∀ (l:List Sib),(∀ s ∈ l,zW_ s.p s.n s.v s.d=true)->(tl (l.map sibT)).length<=39 * l.length
 | [],_=>by simp [tl]
 | s :: l,h=>by
  have ih:=sh_ l fun t ht=>h t (List.mem_cons_of_mem _ ht)
  have hs:=rJ_ (h s (List.mem_cons_self ..));rw [List.map_cons,tl,List.length_cons,List.length_append,List.length_cons];omega
theorem q7_ {b:Int} (h:vvB a b c=true):(vvT a b c).length<=56:=by
 have h0:=of_decide_eq_true (show decide _=true from h)
 have h1:=yR_ a (by omega) (by omega);have h2:=yR_ b (by omega) (by omega);have h3:=yR_ c (by omega) (by omega);unfold vvT vj;simp;omega
theorem y9_ {b:Int} (h:OkP l a b c):(objT (vvT a b c) l).length<=4000:=by
 have h1:=q7_ h.2.1;have h2:=sh_ l (v7_ h);have h3:=h.1;rw [r8_,List.length_append];omega
theorem n2_ (l:List UInt8):bl ⟨l.toArray⟩=l:=by simp [bl]
theorem wZ_ (l:List UInt8):(⟨l.toArray⟩:ByteArray).size=l.length:=by rw [<- zF_,n2_]
theorem uG_ (len cap:Nat) (ao:Option Addr) (w:World):yr_ (w.alloc (.cells #[.slice ao len cap,.int .i64 0,.int .i64 ((len:Int) % 1000)] 117)) w.heap.size ao len cap 0 ((len:Int) % 1000):=
 ⟨by go_simp,by go_simp,by go_simp,by go_simp,by go_simp,by simp,by omega,by omega⟩
def BRow (w:World) (v:Value):Prop:=∃ ao len cap zs,v=.slice ao len cap∧Gen.IsRow .u8 w ao len cap zs
structure B2 (W:World) (g:Nat) (p n:Int):Prop where
 c:W.cell? ⟨g,0,none⟩=some (.int .i64 p)∧W.cell? ⟨g,1,none⟩=some (.int .i64 n)
structure B3 (W:World) (g:Nat) (a b c:Int):Prop where
 c:W.cell? ⟨g,0,none⟩=some (.int .i64 a)∧W.cell? ⟨g,1,none⟩=some (.int .i64 b)∧W.cell? ⟨g,2,none⟩=some (.int .i64 c)
end
section
variable {g n n' ob vc:Nat} {m m':List Sib} {ps:List (List UInt8)} {v':Value} {vo:Option Addr} {w w' wr':World} {x y z:Int}
theorem pk_ {p:List UInt8} {s s':Sib} (h:SibS p s) (h':SibS p s'):s=s':=by
 by_cases hd:∃ C,p=C++[33]
 ·obtain ⟨C,rfl⟩:=hd;rw [(wd_.1 h).2,(wd_.1 h').2]
 ·have hl:∀ q,p≠q++[33]:=fun q e=>hd ⟨q,e⟩
  have key:∃ a b,cutL 61 p=[a,b]:=by
   rcases h with ⟨C,e,_⟩ | ⟨a,b,e,h1,h2,_⟩
   ·exact absurd e (hl C)
   ·exact ⟨a,b,by rw [e,yH_ 61 a b (wb_ h1 61 (by decide) (by decide)),yT_ 61 b (yF_ h2.1 61 (by decide))]⟩
  obtain ⟨a,b,e⟩:=key;rw [((wc_ e hl).1 h).2,((wc_ e hl).1 h').2]
theorem SibsS.det (h:SibsS ps m):∀ {m'},SibsS ps m'->m=m':=by
 induction h with
 | nil=>intro m' h'; cases h'; rfl
 | cons h1 _ ih=>intro m' h'; cases h' with | cons g1 g2=>rw [pk_ h1 g1,ih g2]
theorem SibsS.snoc (h:SibsS ps m) {p:List UInt8} {s:Sib} (hs:SibS p s):SibsS (ps++[p]) (m++[s]):=by
 induction h with
 | nil=>exact .cons hs .nil
 | cons h1 _ ih=>exact .cons h1 ih
theorem SibsS.all (h:SibsS ps m):∀ p ∈ ps,∃ s,SibS p s:=by
 induction h with
 | nil=>intro p hp; cases hp
 | cons h1 _ ih=>
  intro p hp;rcases List.mem_cons.1 hp with rfl | hp
  ·exact ⟨_,h1⟩
  ·exact ih p hp
def NoO (l:List UInt8):Prop:=∀ x y z m,¬ ObjS l x y z m
theorem oA_ {l p q:List UInt8} {qs:List (List UInt8)} (h:cutL 124 l=q :: qs) (hp:p ∈ qs) (hn:∀ x,¬ SibS p x):NoO l:=by
 rintro x y z m ⟨q',qs',a,b,c,e,_,_,_,_,hm⟩;rw [h] at e;cases e;obtain ⟨s,hs⟩:=hm.all p hp;exact hn s hs
theorem nY_ {l q:List UInt8} {qs:List (List UInt8)} (h:cutL 124 l=q :: qs) (hn:¬ ∃ a b c,VvT q a b c):NoO l:=by
 rintro x y z m ⟨q',qs',a,b,c,e,hv,_⟩;rw [h] at e;cases e;exact hn ⟨a,b,c,hv⟩
theorem ow_ (h:OkP m x y z):∀ s ∈ m,s.v<=999:=fun s hs=>by
 obtain ⟨i,hi,rfl⟩:=List.mem_iff_getElem.1 hs;have h1:=(h.2.2 i hi).1;unfold zW_ at h1;simp at h1;omega
theorem p6_ {l:List UInt8} (h:NoO l):wC_ l:=fun x y z m hg=>h x y z m ((ua_ (ow_ hg.2)).2 hg.1)
theorem pz_ {l:List UInt8} {x' y' z':Int} (h:ObjS l x y z m) (h':ObjS l x' y' z' m'):m=m'∧x=x'∧y=y'∧z=z':=by
 obtain ⟨p,ps,a,b,c,e,hv,rfl,rfl,rfl,hm⟩:=h;obtain ⟨p',ps',a',b',c',e',hv',rfl,rfl,rfl,hm'⟩:=h';rw [e] at e';cases e';have e1:=(xl_ hv).symm.trans (xl_ hv');simp only [List.cons.injEq,and_true] at e1;obtain ⟨rfl,rfl,rfl⟩:=e1;exact ⟨hm.det hm',rfl,rfl,rfl⟩
theorem nZ_ {l:List UInt8} (h:ObjS l x y z m) (hn:¬ OkP m x y z):wC_ l:=fun x' y' z' m' hg=>by
 obtain ⟨rfl,rfl,rfl,rfl⟩:=pz_ h ((ua_ (ow_ hg.2)).2 hg.1);exact hn hg.2
theorem oR_ {l:List UInt8} (h:ObjS l x y z m) (hn:OkP m x y z):vv_ l x y z m:=⟨(ua_ (ow_ hn)).1 h,hn⟩
theorem sZ_ (c:UInt8):∀ l,(cutL c l).length<=l.length+1
 | []=>by simp [cutL]
 | d :: l=>by
  have ih:=sZ_ c l;unfold cutL;split
  ·simp; omega
  ·split <;> (rename_i h; simp_all <;> omega)
structure TO (w wr:World) (g ob:Nat) (vo:Option Addr) (n vc:Nat) (x y z:Int) (m:List Sib) (ps:List ByteArray):Prop where
 own:wr.ownsRow 0 89 4 (.slice vo n vc) n (flat m)
 len:n=m.length
 box:OBx wr ob (.slice vo n vc) x y z
 ne:(Value.slice vo n vc).ownBlock≠some ob
 new:∀ k,(Value.slice vo n vc).ownBlock=some k->w.heap.size < k∧g < k
 res:OBx wr w.heap.size (.slice none 0 0) 0 0 0
 row:∀ i (h:i < ps.length),wr.cell? ⟨g,i,none⟩=some (.string ps[i])
 bel:Below w.heap.size w wr
 ord:w.heap.size < ob∧g < ob∧g < wr.heap.size
theorem TO.next {wr:World} {ps:List ByteArray} (h:TO w wr g ob vo n vc x y z m ps) (hb:Below wr.heap.size wr wr'):TO w wr' g ob vo n vc x y z m ps:=
 ⟨zP_ h.own hb,h.len,h.box.next hb,h.ne,h.new,h.res.next hb,fun i hi=>za_ hb (h.row i hi) h.ord.2.2,h.bel.trans (hb.mono h.bel.size),h.ord.1,h.ord.2.1,Nat.lt_of_lt_of_le h.ord.2.2 hb.size⟩
theorem TO.put {wr:World} {ps:List ByteArray} (h:TO w wr g ob vo n vc x y z m ps) (ho:wr'.ownsRow 0 89 4 v' n' (flat m')) (hn:n'=m'.length) (hg:Gro wr wr' (.slice vo n vc) v'):∃ vo' vc',v'=.slice vo' n' vc'∧TO w (wr'.setCell ⟨ob,0,none⟩ v') g ob vo' n' vc' x y z m' ps:=by
 have hvne:v'.ownBlock≠some ob:=hg.ne h.box.2.2 h.ne
 have hnew:∀ k,v'.ownBlock=some k->w.heap.size < k∧g < k:=fun k hk=>by
  rcases hg.fresh k hk with h' | h'
  ·exact h.new k h'
  ·have:=h.res.2.2; have:=h.ord.2.2; omega
 obtain ⟨vo',vc',rfl⟩:=y0_ ho;have q0:(Value.slice vo n vc).ownBlock≠some w.heap.size:=fun e=>by have:=(h.new _ e).1; omega
 have q1:(Value.slice vo n vc).ownBlock≠some g:=fun e=>by have:=(h.new _ e).2; omega
 have hr:=h.res.gro hg q0;have ho1:=h.ord.1;have ho2:=h.ord.2.1;refine ⟨vo',vc',rfl,⟨ownsRow_setCell_other ho hvne _,hn,(h.box.gro hg h.ne).set,hvne,hnew,⟨⟨zg_ hr.1.1 (by omega),zg_ hr.1.2.1 (by omega),zg_ hr.1.2.2.1 (by omega),zg_ hr.1.2.2.2 (by omega)⟩,hr.2.1.set,by simpa [World.setCell] using hr.2.2⟩,fun i hi=>zg_ (hg.cell (h.row i hi) q1) (by omega),?_,h.ord.1,h.ord.2.1,?_⟩⟩
 ·exact ((h.bel.trans ((hg.below h.bel.size (fun k hk=>Nat.le_of_lt (h.new k hk).1)))).setCell (by simp; omega) _)
 ·have:=Nat.lt_of_lt_of_le h.ord.2.2 hg.size
  simpa [World.setCell] using this
def ToP (w:World) (l:List UInt8) (e:Ending) (w':World):Prop:=
 (∃ (m:List Sib) (x y z:Int) (v:Value),vv_ l x y z m∧e=.returned (.tuple #[.agg #[v,.int .i64 x,.int .i64 y,.int .i64 z],.bool true])∧w'.ownsRow 0 89 4 v m.length (flat m)∧(∀ k,v.ownBlock=some k->w.heap.size < k)∧Below w.heap.size w w') ∨
 (wC_ l∧e=.returned (.tuple #[.agg #[.slice none 0 0,.int .i64 0,.int .i64 0,.int .i64 0],.bool false])∧Below w.heap.size w w')
theorem of_ {p:ByteArray} {e:Ending} (h:TvP w p e w'):∃ (ok:Bool) (x y z:Int),e=.returned (.tuple #[.agg #[.int .i64 x,.int .i64 y,.int .i64 z],.bool ok])∧(ok=true->∃ a b c,VvT (bl p) a b c∧x=nv a∧y=nv b∧z=nv c)∧(ok=false->¬ ∃ a b c,VvT (bl p) a b c)∧Below w.heap.size w w':=by
 rcases h with ⟨a,b,c,hv,rfl,hb⟩ | ⟨hn,rfl,hb⟩
 ·exact ⟨true,_,_,_,rfl,(fun _=>⟨a,b,c,hv,rfl,rfl,rfl⟩),(fun h=>by cases h),hb⟩
 ·exact ⟨false,_,_,_,rfl,(fun h=>by cases h),(fun _=>hn),hb⟩
theorem u4_ (s:ByteArray) (w:World) (hs:s.size<=65536) :
  Calls Tryz.prog 187 #[.string s] w fun e w'=>ToP w (bl s) e w':=by
 obtain ⟨i0,hi,hz0,hz1,hz2⟩:=info_parts yG_;have HI:Hid (Tryz.prog.info? 89=some i0∧i0.zero=some (.agg #[.int .i64 0,.int .i64 0,.int .i64 0,.bool false])∧i0.size=4∧i0.bytes=32):=⟨hi,hz0,hz1,hz2⟩;clear hi hz0 hz1 hz2;go_enter Tryz.func187,Tryz.ntmps187;go_wp2_with fail;refine (uz_ s 124 _ (by omega) (by omega)).mono ?_;rintro e w1 ⟨g,cap,ps,rfl,hPS,hSZ,hC,hb⟩
 have RS:Hid (OBx w1 w.heap.size (.slice none 0 0) 0 0 0):=OBx.next ⟨⟨by go_simp,by go_simp,by go_simp,by go_simp⟩,fun j hj=>by
  have hj':j=0∨j=1∨j=2∨j=3:=by omega
  rcases hj' with rfl | rfl | rfl | rfl <;> exact ⟨by go_simp,by go_simp⟩,by simp⟩ hb
 have HB:Hid (Below w.heap.size w w1):=(zb_ _ _).trans (hb.mono (by simp));clear hb
 obtain ⟨p0,qs,rfl⟩:∃ p0 qs,ps=p0 :: qs:=by
  cases ps with
  | nil=>exact absurd hPS.symm (vi_ 124 (bl s))
  | cons a b=>exact ⟨a,b,rfl⟩
 have HP:Hid (cutL 124 (bl s)=bl p0 :: qs.map bl):=hPS.symm
 have HQ:Hid (qs.length<=65536):=by
  have h1:=sZ_ 124 (bl s);rw [HP.out,zF_] at h1;show _<=_
  simp at h1;omega
 have HS:Hid (∀ p ∈ p0 :: qs,p.size<=1048576):=fun p hp=>by have:=hSZ p hp; omega
 have HC:=hm_ hC;have G1:Hid (g < w1.heap.size):=World.block_lt_of_cell? w1 ⟨g,0,none⟩ (hC 0 (by simp));have c0:w1.cell? ⟨g,0,none⟩=some (.string p0):=hC 0 (by simp);clear hC hSZ hPS;simp only [List.length_cons];go_wp2_with fail;clear c0;refine (tS_ p0 _ (HS.out p0 (by simp))).mono ?_;rintro e w2 hP;obtain ⟨ok0,x,y,z,rfl,hy,hn,hb⟩:=of_ hP;replace RS:=hm_ (RS.out.next hb);replace HB:=ze_ HB hb;have HY:=hm_ hy;have HN:Hid (ok0=false->NoO (bl s)):=fun h=>nY_ HP.out (hn h)
 replace HC:Hid (∀ i (h:i < (p0 :: qs).length),w2.cell? ⟨g,i,none⟩=some (.string (p0 :: qs)[i])):=fun i h=>za_ hb (HC.out i h) G1.out
 replace G1:Hid (g < w2.heap.size):=Nat.lt_of_lt_of_le G1.out hb.size;clear hb hy hn hP;go_wp2
 have T0:Hid (TO w (((w2.alloc (.cells #[.int .i64 x,.int .i64 y,.int .i64 z] 35)).alloc (.cells #[] 89)).alloc (.cells #[.slice (some ⟨w2.heap.size+1,0,none⟩) 0 0,.int .i64 x,.int .i64 y,.int .i64 z] 37)) g (w2.heap.size+1+1) (some ⟨w2.heap.size+1,0,none⟩) 0 0 x y z [] (p0 :: qs)):=by
  have e1:(w2.alloc (.cells #[.int .i64 x,.int .i64 y,.int .i64 z] 35)).heap.size=w2.heap.size+1:=by simp
  have h1:=World.ownsRow_lit (base:=0) (e:=89) (size:=4) (w2.alloc (.cells #[.int .i64 x,.int .i64 y,.int .i64 z] 35)) #[] 0 (Nat.zero_le _) (by unfold maxLen; omega) (by simp);rw [e1] at h1;have hb3:Below w2.heap.size w2 (((w2.alloc (.cells #[.int .i64 x,.int .i64 y,.int .i64 z] 35)).alloc (.cells #[] 89)).alloc (.cells #[.slice (some ⟨w2.heap.size+1,0,none⟩) 0 0,.int .i64 x,.int .i64 y,.int .i64 z] 37)):=(zb_ _ _).trans (((zb_ _ _).trans ((zb_ _ _).mono (by simp))).mono (by simp));have hzr:=RS.out.2.2
  exact ⟨zP_ h1 (zb_ _ _),rfl,⟨⟨by go_simp,by go_simp,by go_simp,by go_simp⟩,fun j hj=>by
   have hj':j=0∨j=1∨j=2∨j=3:=by omega
   rcases hj' with rfl | rfl | rfl | rfl <;> exact ⟨by go_simp,by go_simp⟩,by simp⟩,by simp [Value.ownBlock],fun k hk=>by
   have:=G1.out
   simp [Value.ownBlock] at hk
   omega,RS.out.next hb3,fun i h=>za_ hb3 (HC.out i h) G1.out,(ze_ HB hb3).out,by omega,by have:=G1.out; omega,Nat.lt_of_lt_of_le G1.out hb3.size⟩
 clear RS HB HC G1;generalize (((w2.alloc (.cells #[.int .i64 x,.int .i64 y,.int .i64 z] 35)).alloc (.cells #[] 89)).alloc (.cells #[.slice (some ⟨w2.heap.size+1,0,none⟩) 0 0,.int .i64 x,.int .i64 y,.int .i64 z] 37))=W2 at *;generalize w2.heap.size+1+1=ob at *;go_loopw [6,8] (fun s6 s8 wr=>∃ (ok:Bool) (i:Nat) (m:List Sib) (vo:Option Addr) (n vc:Nat),s6=.bool ok∧s8=.int .i64 i∧TO w wr g ob vo n vc x y z m (p0 :: qs)∧m.length+1=i∧i<=qs.length+1∧Hid (ok=true->(∃ a b c,VvT (bl p0) a b c∧x=nv a∧y=nv b∧z=nv c)∧SibsS ((qs.map bl).take m.length) m)∧Hid (ok=false->NoO (bl s))) (fun _ s8 _=>qs.length+1 - (intOf s8).toNat)
 case atStart=>exact ⟨ok0,1,[],_,0,0,rfl,rfl,T0.out,rfl,by omega,fun h=>⟨HY.out h,by simpa using SibsS.nil⟩,HN⟩
 case round=>
  clear T0 HY HN;obtain ⟨ok,i,m,vo,n,vc,rfl,rfl,hTO,hmi,hi,HYY,HNN⟩:=hrel;have TX:=hm_ hTO;clear hTO;have hi0:(0:Int)<=(i:Int):=by omega
  by_cases hlt:i < qs.length+1
  ·have hlt':(i:Int) < (qs.length:Int)+1:=by omega
   cases ok
   ·have HNO:Hid (wC_ (bl s)):=p6_ (HNN.out rfl);clear HYY HNN;obtain ⟨_,hTr,hz9⟩:=TX.out.res;obtain ⟨t0,T0⟩:=isx (hTr 0 (by omega)).1;have Z0:=(hTr 0 (by omega)).2;obtain ⟨t1,T1⟩:=isx (hTr 1 (by omega)).1;have Z1:=(hTr 1 (by omega)).2;obtain ⟨t2,T2⟩:=isx (hTr 2 (by omega)).1;have Z2:=(hTr 2 (by omega)).2;obtain ⟨t3,T3⟩:=isx (hTr 3 (by omega)).1;have Z3:=(hTr 3 (by omega)).2;clear hTr;go_wp2;exact bodyPost_ret (v:=.tuple #[.agg #[.slice none 0 0,.int .i64 0,.int .i64 0,.int .i64 0],.bool false]) (by simp [results,Tryz.results187,go_sem,T0,T1,T2,T3,Z0,Z1,Z2,Z3]) rfl (.inr ⟨HNO.out,rfl,vo_ TX.out.bel⟩)
   have HV:Hid (∃ a b c,VvT (bl p0) a b c∧x=nv a∧y=nv b∧z=nv c):=(HYY.out rfl).1;have HM:Hid (SibsS ((qs.map bl).take m.length) m):=(HYY.out rfl).2;obtain ⟨p,hp⟩:∃ p,p=(p0 :: qs)[i]'(by simpa using hlt):=⟨_,rfl⟩;have hc0:wr.cell? ⟨g,i,none⟩=some (.string p):=by rw [hp]; exact TX.out.row i (by simpa using hlt)
   have hsz:p.size<=1048576:=HS.out p (by rw [hp]; exact List.getElem_mem _)
   have HPQ:Hid (∃ h:m.length < qs.length,p=qs[m.length]'h):=by
    subst hmi;exact ⟨by omega,by rw [hp]; rfl⟩
   clear hp HYY HNN;go_wp2_with fail;clear hc0;refine (tC_ p _ hsz).mono ?_;rintro e w4 ⟨ok,s9,rfl,hy4,hn4,hb⟩
   have HYY:Hid (ok=true->(∃ a b c,VvT (bl p0) a b c∧x=nv a∧y=nv b∧z=nv c)∧SibsS ((qs.map bl).take (m++[s9]).length) (m++[s9])):=fun h=>⟨HV.out,by
    obtain ⟨h1,h2⟩:=HPQ.out
    have e1:(qs.map bl).take (m++[s9]).length=(qs.map bl).take m.length++[bl p]:=by
     rw [List.length_append,List.length_singleton,List.take_add_one,List.getElem?_map,List.getElem?_eq_getElem h1,<- h2];rfl
    rw [e1]
    exact HM.out.snoc (hy4 h)⟩
   have HNN:Hid (ok=false->NoO (bl s)):=fun h=>oA_ (p:=bl p) HP.out (by
    obtain ⟨h1,h2⟩:=HPQ.out;rw [h2]
    exact List.mem_map_of_mem (List.getElem_mem _)) (hn4 h)
   replace TX:=hm_ (TX.out.next hb);clear hb hy4 hn4 HV HM HPQ hsz;go_upto_region 9 with fail;have TX5:Hid (TO w (w4.alloc (.cells #[.int .i64 s9.p,.int .i64 s9.n,.int .i64 s9.v,.bool s9.d] 89)) g ob vo n vc x y z m (p0 :: qs)):=TX.out.next (zb_ _ _);have S0:(w4.alloc (.cells #[.int .i64 s9.p,.int .i64 s9.n,.int .i64 s9.v,.bool s9.d] 89)).cell? ⟨w4.heap.size,0,none⟩=some (.int .i64 s9.p):=by go_simp
   have S1:(w4.alloc (.cells #[.int .i64 s9.p,.int .i64 s9.n,.int .i64 s9.v,.bool s9.d] 89)).cell? ⟨w4.heap.size,1,none⟩=some (.int .i64 s9.n):=by go_simp
   have S2:(w4.alloc (.cells #[.int .i64 s9.p,.int .i64 s9.n,.int .i64 s9.v,.bool s9.d] 89)).cell? ⟨w4.heap.size,2,none⟩=some (.int .i64 s9.v):=by go_simp
   have S3:(w4.alloc (.cells #[.int .i64 s9.p,.int .i64 s9.n,.int .i64 s9.v,.bool s9.d] 89)).cell? ⟨w4.heap.size,3,none⟩=some (.bool s9.d):=by go_simp
   clear TX;generalize (w4.alloc (.cells #[.int .i64 s9.p,.int .i64 s9.n,.int .i64 s9.v,.bool s9.d] 89))=w5 at *;obtain ⟨⟨o0,_,_,_⟩,hTo,hzo⟩:=TX5.out.box;have hfo:=(hTo 0 (by omega)).2;clear hTo;have hn6:n<=65536:=by have:=HQ.out; have:=TX5.out.len; omega
   go_wp2_with (first | (at_builtin; refine yg_ rfl _ _ 33 rfl 89 i0 (.agg #[.int .i64 0,.int .i64 0,.int .i64 0,.bool false]) 32 Tryz.underlying33 HI.out.1 HI.out.2.1 HI.out.2.2.1 HI.out.2.2.2 rfl (.slice vo n vc) n _ rfl (TX5.out.next (zb_ _ _)).own _ _ _ [s9] rfl z7_ ?c3 ?c4 ?_) | go_in)
   case c3=>unfold maxLen; omega
   case c4=>omega
   intro v' w6 ho6 hg6;obtain ⟨vo',vc',rfl,hR6⟩:=(TX5.out.next (zb_ _ _)).put (m':=m++[s9]) (zA_ ho6 rfl (by rw [zz_])) (by have:=TX5.out.len; simp; omega) hg6;have o6:=hg6.cell (zj_ o0 hzo) TX5.out.ne;have f6:=(xC_ ((TX5.out.next (zb_ _ _)).box.2.1) hg6 ((TX5.out.next (zb_ _ _)).box.2.2) TX5.out.ne 0 (by omega)).2;have R6:Hid _:=hR6;clear ho6 hg6 hR6 S0 S1 S2 S3 o0 hfo TX5;have hq65:=HQ.out;have hiw:IntKind.i64.wrap ((i:Int)+1)=(i:Int)+1:=by rw [IntKind.wrap_i64]; omega
   go_wp2
   go_roundw
   case rel=>first | exact ⟨ok,i+1,m++[s9],vo',n+1,vc',rfl,by go_num,R6.out,by simp; omega,by omega,HYY,HNN⟩ | ((repeat apply Exists.intro); exact ⟨⟨ok,i+1,m++[s9],vo',n+1,vc',rfl,by go_num,R6.out,by simp; omega,by omega,HYY,HNN⟩,rfl⟩)
   case measure=>simp [intOf]; omega
  ·have hlt':¬ (i:Int) < (qs.length:Int)+1:=by omega
   cases ok
   ·have HNO:Hid (wC_ (bl s)):=p6_ (HNN.out rfl);clear HYY HNN;obtain ⟨_,hTr,hz9⟩:=TX.out.res;obtain ⟨t0,T0⟩:=isx (hTr 0 (by omega)).1;have Z0:=(hTr 0 (by omega)).2;obtain ⟨t1,T1⟩:=isx (hTr 1 (by omega)).1;have Z1:=(hTr 1 (by omega)).2;obtain ⟨t2,T2⟩:=isx (hTr 2 (by omega)).1;have Z2:=(hTr 2 (by omega)).2;obtain ⟨t3,T3⟩:=isx (hTr 3 (by omega)).1;have Z3:=(hTr 3 (by omega)).2;clear hTr;go_wp2;exact bodyPost_ret (v:=.tuple #[.agg #[.slice none 0 0,.int .i64 0,.int .i64 0,.int .i64 0],.bool false]) (by simp [results,Tryz.results187,go_sem,T0,T1,T2,T3,Z0,Z1,Z2,Z3]) rfl (.inr ⟨HNO.out,rfl,vo_ TX.out.bel⟩)
   have HO:Hid (ObjS (bl s) x y z m):=by
    obtain ⟨⟨a,b,c,hv,e1,e2,e3⟩,hm⟩:=HYY.out rfl;rw [List.take_of_length_le (by simp; omega)] at hm;exact ⟨_,_,a,b,c,HP.out,hv,e1,e2,e3,hm⟩
   have RW:Hid (zk_ wr vo m):=by
    have hh:=TX.out.own;rw [TX.out.len] at hh;obtain ⟨o',c',e',hr',_⟩:=wf_ hh;cases e';exact hr'
   obtain ⟨kk,hkk⟩:=qX_ (OkP m x y z)
   have CK:Hid (∀ W,zk_ W vo m->Calls Tryz.prog 67 #[.agg #[.slice vo n vc,.int .i64 x,.int .i64 y,.int .i64 z]] W fun e w'=>e=.returned (.bool kk)∧Below W.heap.size W w'):=fun W h=>by
    have h1:=vy_ vc vo m x y z kk hkk W (by have:=HQ.out; omega) h;rw [<- TX.out.len] at h1;exact h1
   obtain ⟨⟨o0,o1,o2,o3⟩,_,_⟩:=TX.out.box;clear HYY HNN;go_wp2_with fail;clear o0 o1 o2 o3;refine (CK.out _ RW.out).mono ?_;rintro e w9 ⟨rfl,hb⟩;replace TX:=hm_ (TX.out.next hb);clear hb CK RW;obtain ⟨_,hTr,hz9⟩:=TX.out.res;obtain ⟨t0,T0⟩:=isx (hTr 0 (by omega)).1;have Z0:=(hTr 0 (by omega)).2;obtain ⟨t1,T1⟩:=isx (hTr 1 (by omega)).1;have Z1:=(hTr 1 (by omega)).2;obtain ⟨t2,T2⟩:=isx (hTr 2 (by omega)).1;have Z2:=(hTr 2 (by omega)).2;obtain ⟨t3,T3⟩:=isx (hTr 3 (by omega)).1;have Z3:=(hTr 3 (by omega)).2;clear hTr;cases kk
   ·have HN:Hid (wC_ (bl s)):=nZ_ HO.out (fun h=>by have:=hkk.out.2 h; cases this);clear hkk HO;go_wp2;exact bodyPost_ret (v:=.tuple #[.agg #[.slice none 0 0,.int .i64 0,.int .i64 0,.int .i64 0],.bool false]) (by simp [results,Tryz.results187,go_sem,T0,T1,T2,T3,Z0,Z1,Z2,Z3]) rfl (.inr ⟨HN.out,rfl,vo_ TX.out.bel⟩)
   ·have HG2:Hid (vv_ (bl s) x y z m):=oR_ HO.out (hkk.out.1 rfl);clear hkk HO;obtain ⟨⟨o0,o1,o2,o3⟩,_,_⟩:=TX.out.box;go_wp2;refine bodyPost_ret (v:=.tuple #[.agg #[.slice vo n vc,.int .i64 x,.int .i64 y,.int .i64 z],.bool true]) (by simp [results,Tryz.results187,go_sem,T0,T1,T2,T3,Z0,Z1,Z2,Z3]) rfl (.inl ⟨m,x,y,z,_,HG2.out,rfl,?_,fun k hk=>(TX.out.new k hk).1,vo_ TX.out.bel⟩);have ho:=xQ_ (g:=w.heap.size) (v0:=.slice vo n vc) (v1:=.int .i64 x) (v2:=.int .i64 y) (v3:=.int .i64 z) TX.out.own (fun e=>by have:=(TX.out.new _ e).1; omega);exact zA_ ho TX.out.len rfl
end
end Go.Proofs.YtijcjhcgpmnchaaGreatDoor
