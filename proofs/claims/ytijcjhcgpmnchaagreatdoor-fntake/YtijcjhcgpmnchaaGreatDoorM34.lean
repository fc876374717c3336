/- Nodes, part 34 of the law FnTake. -/
import Derived.Test.YtijcjhcgpmnchaaGreatDoorM33
import Derived.Test.YtijcjhcgpmnchaaGreatDoorSpl
import Derived.Shelf.Strings.SplitShaped
namespace Go.Proofs.YtijcjhcgpmnchaaGreatDoor
open Go.RowKit
set_option maxRecDepth 100000
set_option maxHeartbeats 16000000
set_option linter.unusedSimpArgs false
set_option linter.unusedVariables false
variable {C H:Cl} {M:ByteArray->Option Value} {W w w':World} {g lo mb n q1:Nat} {kk:ByteArray} {o:No}
theorem p9_ (c:UInt8):∀ (a l:List UInt8),(∀ d ∈ a,d≠c)->Lib.indexByte (a++c :: l) c=a.length
 | [],l,_=>by simp [Lib.indexByte]
 | d :: a,l,h=>by
  have ih:=p9_ c a l (fun x hx=>h x (List.mem_cons_of_mem _ hx));have hd:¬ (d == c)=true:=by simp [h d List.mem_cons_self]
  have e1:¬ ((a.length:Int) == -1)=true:=by simp
  rw [List.cons_append,Lib.indexByte,if_neg hd,ih,if_neg e1];simp
theorem qC_ (c:UInt8):∀ (a:List UInt8),(∀ d ∈ a,d≠c)->Lib.indexByte a c = -1
 | [],_=>rfl
 | d :: a,h=>by
  have ih:=qC_ c a (fun x hx=>h x (List.mem_cons_of_mem _ hx));have hd:¬ (d == c)=true:=by simp [h d List.mem_cons_self]
  rw [Lib.indexByte,if_neg hd,ih];rfl
theorem nk_ (pb:Bool) (C:Cl) (hk:keyP C.k) (hC:OkP C.l C.a C.b C.c):Lib.splitB ⟨#[32]⟩ 0 3 (recT pb C)=[⟨(yj_ pb).toArray⟩,C.k,⟨(objT (vvT C.a C.b C.c) C.l).toArray⟩]:=by
 apply ps3;have h:=Lib.splitB_data ⟨#[32]⟩ 0 3 (recT pb C);have hb:List.map bl (Lib.splitB ⟨#[32]⟩ 0 3 (recT pb C))=List.map (fun x:ByteArray=>x.data.toList) (Lib.splitB ⟨#[32]⟩ 0 3 (recT pb C)):=rfl;rw [hb,h,show (recT pb C).data.toList=_ from rZ_ pb C]
 have nw:∀ d ∈ yj_ pb,d≠32:=by cases pb <;> (unfold yj_; decide)
 have nk:=sC_ hk;have no:=sA_ hC
 have s1:∀ (k:Nat) (a l:List UInt8),(∀ d ∈ a,d≠32)->Lib.splitK [32] 0 (k+1) (a++32 :: l)=a :: Lib.splitK [32] 0 k l:=fun k a l ha=>by
  have e1:¬ ((a.length:Int) == -1)=true:=by simp
  rw [Lib.splitK,Lib.index_one,p9_ 32 a l ha,if_neg e1];simp
 have s2:∀ (k:Nat) (a:List UInt8),(∀ d ∈ a,d≠32)->Lib.splitK [32] 0 k a=[a]:=fun k a ha=>by
  cases k with
  | zero=>rfl
  | succ k=>
   unfold Lib.splitK
   have:Lib.index a [32] = -1:=by rw [Lib.index_one]; exact qC_ 32 a ha
   rw [this];rfl
 show Lib.splitK [32] 0 3 _=_
 rw [s1 2 _ _ nw,s1 1 _ _ nk,s2 1 _ no]
theorem s6_ (pb:Bool) (C:Cl) (hk:keyP C.k) (hC:OkP C.l C.a C.b C.c) (w:World) (hm:MX w) :
  Calls Tryz.prog 140 #[.string (recT pb C),.string ⟨#[32]⟩,.int .i64 4] w fun e w'=>e=.returned (.slice (some ⟨w.heap.size,0,none⟩) 3 4)∧Below w.heap.size w w'∧Box w' w.heap.size [.string ⟨(yj_ pb).toArray⟩,.string C.k,.string ⟨(objT (vvT C.a C.b C.c) C.l).toArray⟩,.string ByteArray.empty]:=by
 obtain ⟨m,hm⟩:=hm;have hs:=yn_ pb C hk.2.1 hC
 have h4:4<=(recT pb C).size+1:=by
  have h1:=congrArg List.length (rZ_ pb C);have h2:(yj_ pb).length ≥ 3:=by cases pb <;> (unfold yj_; decide)
  have h3:(bl (recT pb C)).length=(recT pb C).size:=zF_ _;simp at h1;omega
 have hmin:min 4 ((recT pb C).size+1)=4:=by omega
 have h:=Any.strings_SplitN { Tryz.laysM147 with } Tryz.laysM147.i9 (recT pb C) ⟨#[32]⟩ 4 m w (by omega) hm (by decide) (by decide) (by decide);rw [hmin,nk_ pb C hk hC] at h;refine h.mono ?_;rintro e w' ⟨rfl,rfl⟩;refine ⟨rfl,zb_ _ _,?_⟩;exact zn_
structure DS (w:World) (o:No) (C H:Cl) (kk:ByteArray) (p1:Option Addr) (q1 lo g mb n:Nat) (M:ByteArray->Option Value):Prop where
 gm:g≠mb
 hlo:lo<=w.heap.size∧g < w.heap.size∧mb < w.heap.size∧∀ k,(Value.slice o.p1 o.x.fd.length o.c1).ownBlock=some k->k≠g∧k≠mb
 hn:n < 100
 q:H.l.length<=q1
 id:o.x.id=0∨o.x.id=1∨o.x.id=2
 fl:o.x.fd.length<=100000
 f:OwnG w 52 3 (Value.slice o.p1 o.x.fd.length o.c1) o.x.fd.length (zl_ o.x.fd) lo
 hM:(M C.k).getD (.agg #[.string ⟨#[]⟩,.slice none 0 0,.int .i64 0,.int .i64 0,.int .i64 0])=.agg #[.string kk,.slice p1 H.l.length q1,.int .i64 H.a,.int .i64 H.b,.int .i64 H.c]
 x:Box w g [.int .i64 o.x.id,.int .i64 o.x.n,.int .i64 o.x.cut,.slice none 0 0,.slice o.p1 o.x.fd.length o.c1,.slice o.p2 o.su.length o.c2,.slice o.p3 o.un.length o.c3,.map (some mb)]
 m:MapF w Tryz.prog 9 mb n M
 s:zk_ w p1 H.l
theorem DS.next {p1:Option Addr} (h:DS w o C H kk p1 q1 lo g mb n M) (hb:Below w.heap.size w W):DS W o C H kk p1 q1 lo g mb n M:=
 ⟨h.gm,⟨Nat.le_trans h.hlo.1 hb.size,Nat.lt_of_lt_of_le h.hlo.2.1 hb.size,Nat.lt_of_lt_of_le h.hlo.2.2.1 hb.size,h.hlo.2.2.2⟩,h.hn,h.q,h.id,h.fl,h.f.next hb,h.hM,h.x.next hb,h.m.next hb,zk_.next hb h.s⟩
theorem nK_ {x:Nd} {pb:Bool} (hF:Fol x (pb,C)) (hH:H=atC C.k x.cs):OkP H.l H.a H.b H.c∧sj C.a C.b C.c H.a H.b H.c C.l H.l=C.l∧(H.a<=C.a∧H.b<=C.b∧H.c<=C.c)∧¬ (H.l=C.l∧H.a=C.a∧H.b=C.b∧H.c=C.c):=by
 subst hH;exact ⟨hF.okh,hF.cov,hF.le,hF.ne⟩
theorem nt_ {p1:Option Addr} (h:DS w o C H kk p1 q1 lo g mb n M) (hF:Fol o.x (true,C)) (hH:H=atC C.k o.x.cs) :
  Calls Tryz.prog 141 #[.pointer (some ⟨g,0,none⟩),.string C.k,.string ⟨(objT (vvT C.a C.b C.c) C.l).toArray⟩] w fun e w'=>e=.returned (.bool true)∧DpP w o lo g mb n M C w':=by
 obtain ⟨h1,h2,h3,h4⟩:=nK_ hF hH;exact pO_ o C H kk p1 q1 lo g mb n M w hF.key hF.ok h1 h2 h3 h4 h.hn h.gm h.q h.id hF.bnd h.fl (hF.put rfl).1 (hF.put rfl).2 h.hlo h.f h.hM h.x h.m h.s
theorem oK_ {p1:Option Addr} (h:DS w o C H kk p1 q1 lo g mb n M) (hF:Fol o.x (false,C)) (hH:H=atC C.k o.x.cs) :
  Calls Tryz.prog 142 #[.pointer (some ⟨g,0,none⟩),.string C.k,.string ⟨(objT (vvT C.a C.b C.c) C.l).toArray⟩] w fun e w'=>e=.returned (.bool true)∧DjP w mb n M C w':=by
 obtain ⟨h1,h2,h3,h4⟩:=nK_ hF hH;exact qM_ o C H kk p1 q1 g mb n M w hF.key hF.ok h1 h2 h3 h4 h.hn h.gm h.q (by rcases h.id with e | e | e <;> omega) hF.bnd (hF.join rfl) h.hM h.x h.m h.s
theorem DpP.back (h:DpP W o lo g mb n M C w') (hb:Below w.heap.size w W):DpP w o lo g mb n M C w':=by
 obtain ⟨vo,vc,pf,cf,h1,h2,h3,h4,h5,h6,h7⟩:=h;exact ⟨vo,vc,pf,cf,h1,⟨h2.1.weak hb.size,h2.2⟩,h3,h4,(Kp.of_below (E:=fun _=>False) hb).trans h5 (fun _ _ h=>h.elim) (fun _ _ h=>h),fun k hk=>(h6 k hk).imp (fun h=>h) (fun h=>Nat.le_trans hb.size h),h7⟩
theorem DjP.back (h:DjP W mb n M C w') (hb:Below w.heap.size w W):DjP w mb n M C w':=by
 obtain ⟨vo,vc,W5,h1,h2,h3,h4,h5⟩:=h;exact ⟨vo,vc,W5,h1,h2.weak hb.size,h3,hb.trans (h4.mono hb.size),h5⟩
def FoP (pb:Bool) (w:World) (o:No) (lo g mb n:Nat) (M:ByteArray->Option Value) (C:Cl) (w':World):Prop:=if pb then DpP w o lo g mb n M C w' else DjP w mb n M C w'
theorem vU_ (pb:Bool) (o:No) (C H:Cl) (kk:ByteArray) (p1:Option Addr) (q1 lo g mb n:Nat) (M:ByteArray->Option Value) (w:World) (hF:Fol o.x (pb,C)) (hH:H=atC C.k o.x.cs) (hD:DS w o C H kk p1 q1 lo g mb n M) (hm:MX w) :
  Calls Tryz.prog 95 #[.pointer (some ⟨g,0,none⟩),.string (recT pb C)] w fun e w'=>e=.returned (.bool true)∧FoP pb w o lo g mb n M C w':=by
 have C0:Hid _:=s6_ pb C hF.key hF.ok w hm;have D0:=hm_ hD;have HF:Hid (Fol o.x (pb,C)∧H=atC C.k o.x.cs):=⟨hF,hH⟩;have hwl:Hid (g < w.heap.size∧mb < w.heap.size∧∀ k,(Value.slice o.p1 o.x.fd.length o.c1).ownBlock=some k->k < w.heap.size):=⟨hD.x.lt,hD.m.lt,fun k hk=>(hD.f.lt k hk).2⟩;clear hF hH hD hm;go_enter Tryz.func95,Tryz.ntmps95;go_wp2_with fail;refine Calls.mono C0.out ?_;rintro e w1 ⟨rfl,hb,hX⟩;have HB:=hm_ hb;have BX:=hm_ hX;clear hb hX C0;cases pb
 ·have CJ:Hid (∀ W,Below w1.heap.size w1 W->Calls Tryz.prog 142 #[.pointer (some ⟨g,0,none⟩),.string C.k,.string ⟨(objT (vvT C.a C.b C.c) C.l).toArray⟩] W fun e w'=>e=.returned (.bool true)∧DjP W mb n M C w'):=fun W hW=>oK_ ((D0.out.next HB.out).next hW) HF.out.1 HF.out.2
  have k0:w1.cell? ⟨w.heap.size,0,none⟩=some (.string ⟨#[106,111,105,110]⟩):=BX.out.c4.1;go_upto_region 5 with fail;clear k0;refine wp_region_held_drew (S:=(fun w'=>w'.cell? ⟨w.heap.size,1,none⟩=some (.string C.k)∧w'.cell? ⟨w.heap.size,2,none⟩=some (.string ⟨(objT (vvT C.a C.b C.c) C.l).toArray⟩))) (by kernel_rfl) ?_ (fun hH=>?_)
  ·(try dsimp only);exact ⟨(BX.out.next (zd_ _)).c4.2.1,(BX.out.next (zd_ _)).c4.2.2.1⟩
  refine wTk 0 ?_;refine wTk 1 ?_;refine wTk 2 ?_;refine wTk 3 ?_;refine wTk 4 ?_;refine wTk 5 ?_;refine wTk 6 ?_;refine wRd 7 (fun K hK=>?_);go_simp
  (go_at_call 142; refine (CJ.out _ (zd_ _)).mono ?_; rintro e w2 ⟨rfl,hP⟩; have HP:Hid _:=hP; clear hP)
  (try simp only []);refine hK.out _ _ ?_ (fun hH'=>?_)
  ·(try dsimp only)
   (obtain ⟨_,_,W5,_,_,_,hb5,hg5⟩:=HP.out; have hx:=(BX.out.next (zd_ _)).next hb5; exact ⟨zN_ hx.c4.2.1 hg5 (by have:=hwl.out.2.1; omega),zN_ hx.c4.2.2.1 hg5 (by have:=hwl.out.2.1; omega)⟩)
  clear hK K hH;have hH:=hH';clear hH';refine wLy ?_;refine wTk 8 ?_;refine wDn ?_;clear hH;go_wp2;go_ret;exact ⟨rfl,DjP.back HP.out (HB.out.trans ((zd_ _).mono HB.out.size))⟩
 ·have CP:Hid (∀ W,Below w1.heap.size w1 W->Calls Tryz.prog 141 #[.pointer (some ⟨g,0,none⟩),.string C.k,.string ⟨(objT (vvT C.a C.b C.c) C.l).toArray⟩] W fun e w'=>e=.returned (.bool true)∧DpP W o lo g mb n M C w'):=fun W hW=>nt_ ((D0.out.next HB.out).next hW) HF.out.1 HF.out.2
  have k0:w1.cell? ⟨w.heap.size,0,none⟩=some (.string ⟨#[112,117,116]⟩):=BX.out.c4.1;go_upto_region 3 with fail;clear k0;refine wp_region_held_drew (S:=(fun w'=>w'.cell? ⟨w.heap.size,1,none⟩=some (.string C.k)∧w'.cell? ⟨w.heap.size,2,none⟩=some (.string ⟨(objT (vvT C.a C.b C.c) C.l).toArray⟩))) (by kernel_rfl) ?_ (fun hH=>?_)
  ·(try dsimp only);exact ⟨(BX.out.next (zd_ _)).c4.2.1,(BX.out.next (zd_ _)).c4.2.2.1⟩
  refine wTk 0 ?_;refine wTk 1 ?_;refine wTk 2 ?_;refine wTk 3 ?_;refine wTk 4 ?_;refine wTk 5 ?_;refine wTk 6 ?_;refine wRd 7 (fun K hK=>?_);go_simp
  (go_at_call 141; refine (CP.out _ (zd_ _)).mono ?_; rintro e w2 ⟨rfl,hP⟩; have HP:Hid _:=hP; clear hP)
  (try simp only []);refine hK.out _ _ ?_ (fun hH'=>?_)
  ·(try dsimp only)
   (obtain ⟨_,_,_,_,_,_,_,_,hk5,_,_⟩:=HP.out; have hx:=(BX.out.next (zd_ _)).kp hk5 (fun e=>by rcases e with e | e | e; have:=hwl.out.1; omega; have:=hwl.out.2.1; omega; have:=hwl.out.2.2 _ e; omega); exact ⟨hx.c4.2.1,hx.c4.2.2.1⟩)
  clear hK K hH;have hH:=hH';clear hH';refine wLy ?_;refine wTk 8 ?_;refine wDn ?_;clear hH;go_wp2;go_ret;exact ⟨rfl,DpP.back HP.out (HB.out.trans ((zd_ _).mono HB.out.size))⟩
end Go.Proofs.YtijcjhcgpmnchaaGreatDoor
