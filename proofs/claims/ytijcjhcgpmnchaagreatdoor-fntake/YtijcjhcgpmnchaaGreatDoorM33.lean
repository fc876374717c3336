/- Nodes, part 33 of the law FnTake. -/
import Derived.Test.YtijcjhcgpmnchaaGreatDoorM05
import Derived.Test.YtijcjhcgpmnchaaGreatDoorM24
import Derived.Test.YtijcjhcgpmnchaaGreatDoorM31
namespace Go.Proofs.YtijcjhcgpmnchaaGreatDoor
open Go.RowKit
set_option maxRecDepth 100000
set_option maxHeartbeats 16000000
set_option linter.unusedSimpArgs false
set_option linter.unusedVariables false
section
variable {C H:Cl} {M:ByteArray->Option Value} {W W' w:World} {b i mb n q1 vc:Nat} {kk:ByteArray} {t:TypeId} {v:Value} {vo:Option Addr}
def yx_ (C:Cl) (vo:Option Addr) (vc:Nat):Value:=.agg #[.string C.k,.slice vo C.l.length vc,.int .i64 C.a,.int .i64 C.b,.int .i64 C.c]
theorem wJ_ (w:World):(zeroValue 91).run Tryz.prog w=.ok (.agg #[.string ⟨#[]⟩,.slice none 0 0,.int .i64 0,.int .i64 0,.int .i64 0]) w:=by
 go_simp
theorem oD_ {P:Program} {k e:TypeId} (h:MapF w P k b n M) (ht:P.underlying t=some (.map k e)):∃ m:Nat,m<=n∧∀ ty,(Builtin.len_ #[t] ty #[.map (some b)]).run P w=.ok (.int .i64 m) w:=by
 obtain ⟨D,⟨es,clock,hb,F,hn,hD⟩,h2,h3⟩:=h.view;refine ⟨es.size,hn,fun ty=>?_⟩;simp [Builtin.len_,run_underlying ht,MapKept.run_getObj_map hb,goInt,Result.andThen]
theorem zN_ (h:W.cell? ⟨b,i,none⟩=some v) (hg:W.grownBy W' (some mb)) (hne:b≠mb):W'.cell? ⟨b,i,none⟩=some v:=by
 rw [World.cell?_of_block (w:=W) (hg.block b (zh_ h) (fun e=>hne (by cases e; rfl)))];exact h
structure TakI (w W:World) (C H:Cl) (kk:ByteArray) (vo p1:Option Addr) (vc q1 g7:Nat):Prop where
 x:Box W w.heap.size [.slice vo C.l.length vc,.int .i64 C.a,.int .i64 C.b,.int .i64 C.c]
 y:Box W g7 [.string kk,.slice p1 H.l.length q1,.int .i64 H.a,.int .i64 H.b,.int .i64 H.c]
 b:Below w.heap.size w W
theorem TakI.next {p1:Option Addr} {g7:Nat} (h:TakI w W C H kk vo p1 vc q1 g7) (hb:Below W.heap.size W W'):TakI w W' C H kk vo p1 vc q1 g7:=⟨h.x.next hb,h.y.next hb,h.b.trans (hb.mono h.b.size)⟩
theorem si_ (C H:Cl) (kk:ByteArray) (vo p1:Option Addr) (vc q1 g mb n:Nat) (M:ByteArray->Option Value) (w:World) (hk:keyP C.k) (hC:OkP C.l C.a C.b C.c) (hH:OkP H.l H.a H.b H.c) (hcov:sj C.a C.b C.c H.a H.b H.c C.l H.l=C.l) (hle:H.a<=C.a∧H.b<=C.b∧H.c<=C.c) (hne:¬ (H.l=C.l∧H.a=C.a∧H.b=C.b∧H.c=C.c)) (hn:n < 100) (hgm0:g≠mb) (hq:H.l.length<=q1)
  (hM:(M C.k).getD (.agg #[.string ⟨#[]⟩,.slice none 0 0,.int .i64 0,.int .i64 0,.int .i64 0])=.agg #[.string kk,.slice p1 H.l.length q1,.int .i64 H.a,.int .i64 H.b,.int .i64 H.c]) (h7:w.cell? ⟨g,7,none⟩=some (.map (some mb))) (hm:MapF w Tryz.prog 9 mb n M) (hr:zk_ w vo C.l) (hs:zk_ w p1 H.l) :
  Calls Tryz.prog 171 #[.pointer (some ⟨g,0,none⟩),.string C.k,.agg #[.slice vo C.l.length vc,.int .i64 C.a,.int .i64 C.b,.int .i64 C.c]] w fun e w'=>e=.returned (.bool true)∧MapF w' Tryz.prog 9 mb (n+1) (mset M C.k (yx_ C vo vc))∧∃ W5,Below w.heap.size w W5∧W5.grownBy w' (some mb):=by
 have hks:C.k.size<=6:=hk.2.1;have hsz:C.k.size<=maxLen:=by unfold maxLen; omega
 have hcl:(C.l.length:Int)<=1048576:=by have:=hC.1; omega
 have hhl:(H.l.length:Int)<=1048576:=by have:=hH.1; omega
 have CV:Hid (∀ W,Below w.heap.size w W->Calls Tryz.prog 27 #[.agg #[.slice vo C.l.length vc,.int .i64 C.a,.int .i64 C.b,.int .i64 C.c],.agg #[.slice p1 H.l.length q1,.int .i64 H.a,.int .i64 H.b,.int .i64 H.c]] W fun e w'=>e=.returned (.tuple #[.bool true,.int .i64 0])∧Below W.heap.size W w'):=fun W hW=>x2_ vc q1 vo p1 C.l H.l C.a C.b C.c H.a H.b H.c true true ⟨fun _=>hC,fun _=>rfl⟩ ⟨fun _=>hH,fun _=>rfl⟩ true 0 ⟨fun h=>(h ⟨rfl,rfl⟩).elim,fun _ _=>⟨rfl,fun _=>(by
   rw [hcov,show max C.a H.a=C.a by omega,show max C.b H.b=C.b by omega,show max C.c H.c=C.c by omega]
   exact y5_ _ _ _ _),fun _=>rfl⟩⟩ W hcl hhl hq (zk_.next hW hr) (zk_.next hW hs)
 have CK:Hid (∀ W,Calls Tryz.prog 85 #[.string C.k] W fun e w'=>e=.returned (.bool true)∧Below W.heap.size W w'):=fun W=>x6_ C.k true ⟨fun _=>hk,fun _=>rfl⟩ W (by omega)
 have CS:Hid (∀ W,Below w.heap.size w W->Calls Tryz.prog 69 #[.agg #[.slice vo C.l.length vc,.int .i64 C.a,.int .i64 C.b,.int .i64 C.c],.agg #[.slice p1 H.l.length q1,.int .i64 H.a,.int .i64 H.b,.int .i64 H.c]] W fun e w'=>e=.returned (.bool false)∧Below W.heap.size W w'):=fun W hW=>y2_ vc q1 vo p1 C.l H.l C.a C.b C.c H.a H.b H.c false ⟨fun h=>Bool.noConfusion h,fun h=>(hne (by have:=w0_ h; exact ⟨this.1.symm,this.2.1.symm,this.2.2.1.symm,this.2.2.2.symm⟩)).elim⟩ W hcl hhl (zk_.next hW hr) (zk_.next hW hs)
 have DD:Hid (∀ W,Below w.heap.size w W->W.cell? ⟨g,7,none⟩=some (.map (some mb))):=fun W hW=>za_ hW h7 (zh_ h7)
 have MM:Hid (∀ W,Below w.heap.size w W->MapF W Tryz.prog 9 mb n M):=fun W hW=>hm.next hW
 obtain ⟨fd,hfd⟩:∃ fd,fd=(M C.k).isSome:=⟨_,rfl⟩;have LK:=(hm.next (zb_ w (.cells #[.slice vo C.l.length vc,.int .i64 C.a,.int .i64 C.b,.int .i64 C.c] 37))).look (t:=124) Tryz.underlying9 Tryz.underlying124 (wJ_ _) true C.k hsz;rw [hM,<- hfd] at LK;simp only [if_true] at LK;have d7:=DD.out (w.alloc (.cells #[.slice vo C.l.length vc,.int .i64 C.a,.int .i64 C.b,.int .i64 C.c] 37)) (zb_ _ _);have T1:Hid (TakI w ((w.alloc (.cells #[.slice vo C.l.length vc,.int .i64 C.a,.int .i64 C.b,.int .i64 C.c] 37)).alloc (.cells #[.string kk,.slice p1 H.l.length q1,.int .i64 H.a,.int .i64 H.b,.int .i64 H.c] 91)) C H kk vo p1 vc q1 (w.heap.size+1)):=⟨zn_.alloc,by have:=zn_ (W:=(w.alloc (.cells #[.slice vo C.l.length vc,.int .i64 C.a,.int .i64 C.b,.int .i64 C.c] 37))) (t:=91) (vs:=[.string kk,.slice p1 H.l.length q1,.int .i64 H.a,.int .i64 H.b,.int .i64 H.c]); simpa using this,(zb_ _ _).trans ((zb_ _ _).mono (by simp))⟩;have HMS:Hid (n < 100):=hn;have hgm:Hid (g≠mb):=hgm0;have hwm:Hid (w.heap.size≠mb):=by have:=hm.lt; show _≠_; omega
 clear hk hC hH hcov hle hne hq hM h7 hm hr hs hfd hn hgm0;go_enter Tryz.func171,Tryz.ntmps171;go_upto_region 2 with fail;refine zH_ (fun W=>TakI w W C H kk vo p1 vc q1 (w.heap.size+1)) T1.out (fun W2 hI=>?_);clear T1 LK d7;have TI:=hm_ hI;clear hI;obtain ⟨x0,x1,x2,x3⟩:=TI.out.x.c4; obtain ⟨y0,y1,y2,y3,y4⟩:=TI.out.y.c5; have d7:=DD.out _ TI.out.b;cases fd
 focus
  go_upto_region 5 with (first | (go_at_call 27; refine (CV.out _ TI.out.b).mono ?_; rintro e W3 ⟨rfl,hb⟩; clear x0 x1 x2 x3 y0 y1 y2 y3 y4 d7; replace TI:Hid _:=TI.out.next hb; clear hb; obtain ⟨x0,x1,x2,x3⟩:=TI.out.x.c4; obtain ⟨y0,y1,y2,y3,y4⟩:=TI.out.y.c5; have d7:=DD.out _ TI.out.b) | (go_at_call 85; refine (CK.out _).mono ?_; rintro e W4 ⟨rfl,hb⟩; clear x0 x1 x2 x3 y0 y1 y2 y3 y4 d7; replace TI:Hid _:=TI.out.next hb; clear hb; obtain ⟨x0,x1,x2,x3⟩:=TI.out.x.c4; obtain ⟨y0,y1,y2,y3,y4⟩:=TI.out.y.c5; have d7:=DD.out _ TI.out.b) | (go_at_call 69; refine (CS.out _ TI.out.b).mono ?_; rintro e W5 ⟨rfl,hb⟩; clear x0 x1 x2 x3 y0 y1 y2 y3 y4 d7; replace TI:Hid _:=TI.out.next hb; clear hb; obtain ⟨x0,x1,x2,x3⟩:=TI.out.x.c4; obtain ⟨y0,y1,y2,y3,y4⟩:=TI.out.y.c5; have d7:=DD.out _ TI.out.b; obtain ⟨m,hm,hlen⟩:=oD_ (MM.out _ TI.out.b) (t:=124) Tryz.underlying124; have hm9:=HMS.out; have hm8:¬ (100:Int)<=(m:Int):=by omega))
 rotate_left
 focus
  go_upto_region 5 with (first | (go_at_call 27; refine (CV.out _ TI.out.b).mono ?_; rintro e W3 ⟨rfl,hb⟩; clear x0 x1 x2 x3 y0 y1 y2 y3 y4 d7; replace TI:Hid _:=TI.out.next hb; clear hb; obtain ⟨x0,x1,x2,x3⟩:=TI.out.x.c4; obtain ⟨y0,y1,y2,y3,y4⟩:=TI.out.y.c5; have d7:=DD.out _ TI.out.b) | (go_at_call 85; refine (CK.out _).mono ?_; rintro e W4 ⟨rfl,hb⟩; clear x0 x1 x2 x3 y0 y1 y2 y3 y4 d7; replace TI:Hid _:=TI.out.next hb; clear hb; obtain ⟨x0,x1,x2,x3⟩:=TI.out.x.c4; obtain ⟨y0,y1,y2,y3,y4⟩:=TI.out.y.c5; have d7:=DD.out _ TI.out.b) | (go_at_call 69; refine (CS.out _ TI.out.b).mono ?_; rintro e W5 ⟨rfl,hb⟩; clear x0 x1 x2 x3 y0 y1 y2 y3 y4 d7; replace TI:Hid _:=TI.out.next hb; clear hb; obtain ⟨x0,x1,x2,x3⟩:=TI.out.x.c4; obtain ⟨y0,y1,y2,y3,y4⟩:=TI.out.y.c5; have d7:=DD.out _ TI.out.b))
 rotate_left
 all_goals
  clear x0 x1 x2 x3 y0 y1 y2 y3 y4 d7;refine wp_region_held_drew (S:=(fun w'=>w'.cell? ⟨g,7,none⟩=some (.map (some mb))∧w'.cell? ⟨w.heap.size,0,none⟩=some (.slice vo C.l.length vc)∧w'.cell? ⟨w.heap.size,1,none⟩=some (.int .i64 C.a)∧w'.cell? ⟨w.heap.size,2,none⟩=some (.int .i64 C.b)∧w'.cell? ⟨w.heap.size,3,none⟩=some (.int .i64 C.c))) (by kernel_rfl) ?_ (fun hH=>?_)
  ·(try dsimp only);exact ⟨DD.out _ (TI.out.next (zd_ _)).b,(TI.out.next (zd_ _)).x.c4⟩
  replace TI:=hm_ (TI.out.next (zd_ _));refine wTk 0 ?_;refine wTk 1 ?_;refine wTk 2 ?_;refine wTk 3 ?_;refine wTk 4 ?_;refine wTk 5 ?_;refine wTk 6 ?_;refine wTk 7 ?_;generalize W5.drew=wd at *;obtain ⟨w9,hrun,hM9,hg9⟩:=(MM.out _ TI.out.b).store (t:=124) Tryz.underlying9 Tryz.underlying124 (by have:=HMS.out; unfold maxLen; omega) C.k hsz (yx_ C vo vc);unfold yx_ at hrun;refine wRd 8 (fun K hK=>?_);go_simp;(try simp only []);refine hK.out _ _ ?_ (fun hH'=>?_)
  ·(try dsimp only);obtain ⟨x0,x1,x2,x3⟩:=TI.out.x.c4; exact ⟨zN_ (DD.out _ TI.out.b) hg9 hgm.out,zN_ x0 hg9 hwm.out,zN_ x1 hg9 hwm.out,zN_ x2 hg9 hwm.out,zN_ x3 hg9 hwm.out⟩
  clear hK K hH;have hH:=hH';clear hH';refine wLy ?_;refine wDn ?_;clear hH hrun;have HM9:Hid (MapF w9 Tryz.prog 9 mb (n+1) (mset M C.k (yx_ C vo vc))∧wd.grownBy w9 (some mb)):=⟨hM9,hg9⟩;clear hM9 hg9;go_wp2;go_ret;exact ⟨rfl,HM9.out.1,wd,TI.out.b,HM9.out.2⟩
end
section
variable {W W':World} {g lo mb:Nat} {p:Option Addr} {v0 v1 v2 v3 v4 v5 v6:Value} {vs:List Value}
theorem Box.c8 {v7:Value} (h:Box W g [v0,v1,v2,v3,v4,v5,v6,v7]):W.cell? ⟨g,0,none⟩=some v0∧W.cell? ⟨g,1,none⟩=some v1∧W.cell? ⟨g,2,none⟩=some v2∧W.cell? ⟨g,3,none⟩=some v3∧W.cell? ⟨g,4,none⟩=some v4∧W.cell? ⟨g,5,none⟩=some v5∧W.cell? ⟨g,6,none⟩=some v6∧W.cell? ⟨g,7,none⟩=some v7:=⟨(h.is 0 (by simp)).1,(h.is 1 (by simp)).1,(h.is 2 (by simp)).1,(h.is 3 (by simp)).1,(h.is 4 (by simp)).1,(h.is 5 (by simp)).1,(h.is 6 (by simp)).1,(h.is 7 (by simp)).1⟩
theorem Box.f8 {v7:Value} (h:Box W g [v0,v1,v2,v3,v4,v5,v6,v7]):W.frozen? ⟨g,0,none⟩=false∧W.frozen? ⟨g,1,none⟩=false∧W.frozen? ⟨g,2,none⟩=false∧W.frozen? ⟨g,3,none⟩=false∧W.frozen? ⟨g,4,none⟩=false∧W.frozen? ⟨g,5,none⟩=false∧W.frozen? ⟨g,6,none⟩=false∧W.frozen? ⟨g,7,none⟩=false:=⟨(h.is 0 (by simp)).2,(h.is 1 (by simp)).2,(h.is 2 (by simp)).2,(h.is 3 (by simp)).2,(h.is 4 (by simp)).2,(h.is 5 (by simp)).2,(h.is 6 (by simp)).2,(h.is 7 (by simp)).2⟩
theorem w3_ (C:Cl) (hC:OkP C.l C.a C.b C.c) (w:World):Calls Tryz.prog 169 #[.string ⟨(objT (vvT C.a C.b C.c) C.l).toArray⟩] w fun e w'=>∃ vo vc,e=.returned (.tuple #[.agg #[.slice vo C.l.length vc,.int .i64 C.a,.int .i64 C.b,.int .i64 C.c],.int .i64 0])∧GRow w.heap.size w' vo (flat C.l)∧C.l.length<=vc∧Below w.heap.size w w':=by
 have hs:(objT (vvT C.a C.b C.c) C.l).length<=4000:=y9_ hC;have hz:(⟨(objT (vvT C.a C.b C.c) C.l).toArray⟩:ByteArray).size<=4000:=by rw [wZ_]; exact hs
 have hbl:bl (⟨(objT (vvT C.a C.b C.c) C.l).toArray⟩:ByteArray)=objT (vvT C.a C.b C.c) C.l:=by simp [bl]
 refine (ur_ ⟨(objT (vvT C.a C.b C.c) C.l).toArray⟩ C.l C.a C.b C.c 0 ⟨fun h=>by omega,fun _ x' y' z' m' h=>by rw [hbl] at h; obtain ⟨h1,h2,h3,h4⟩:=tk_ (wm_ hC) h; exact ⟨h1,h2,h3,h4,rfl⟩,fun _ hn=>by rw [hbl] at hn; exact (hn _ _ _ _ (wm_ hC)).elim⟩ w (by omega)).mono ?_;rintro e w' ⟨v,rfl,ho,hk,hb⟩;obtain ⟨p,c,rfl,hc,hG⟩:=yi_ ho (fun k h=>Nat.le_of_lt (hk k h));exact ⟨p,c,rfl,hG,hc,hb⟩
def DjP (w:World) (mb n:Nat) (M:ByteArray->Option Value) (C:Cl) (w':World):Prop:=∃ vo vc W5,MapF w' Tryz.prog 9 mb (n+1) (mset M C.k (yx_ C vo vc))∧GRow w.heap.size w' vo (flat C.l)∧C.l.length<=vc∧Below w.heap.size w W5∧W5.grownBy w' (some mb)
theorem oQ_ (h:GRow lo W p vs) (hg:W.grownBy W' (some mb)) (hm:mb < lo):GRow lo W' p vs:=h.keep (xf_ hg hm)
theorem qM_ (o:No) (C H:Cl) (kk:ByteArray) (p1:Option Addr) (q1 g mb n:Nat) (M:ByteArray->Option Value) (w:World) (hk:keyP C.k) (hC:OkP C.l C.a C.b C.c) (hH:OkP H.l H.a H.b H.c) (hcov:sj C.a C.b C.c H.a H.b H.c C.l H.l=C.l) (hle:H.a<=C.a∧H.b<=C.b∧H.c<=C.c) (hne:¬ (H.l=C.l∧H.a=C.a∧H.b=C.b∧H.c=C.c)) (hn:n < 100) (hgm0:g≠mb) (hq:H.l.length<=q1)
  (hid:0<=o.x.id∧o.x.id < 3) (hbn:0<=o.x.n∧o.x.n < 9999) (hj:comp C.a C.b C.c o.x.id<=o.x.n) (hM:(M C.k).getD (.agg #[.string ⟨#[]⟩,.slice none 0 0,.int .i64 0,.int .i64 0,.int .i64 0])=.agg #[.string kk,.slice p1 H.l.length q1,.int .i64 H.a,.int .i64 H.b,.int .i64 H.c]) (hx:Box w g [.int .i64 o.x.id,.int .i64 o.x.n,.int .i64 o.x.cut,.slice none 0 0,.slice o.p1 o.x.fd.length o.c1,.slice o.p2 o.su.length o.c2,.slice o.p3 o.un.length o.c3,.map (some mb)]) (hm:MapF w Tryz.prog 9 mb n M) (hs:zk_ w p1 H.l) :
  Calls Tryz.prog 142 #[.pointer (some ⟨g,0,none⟩),.string C.k,.string ⟨(objT (vvT C.a C.b C.c) C.l).toArray⟩] w fun e w'=>e=.returned (.bool true)∧DjP w mb n M C w':=by
 have CRO:Hid _:=w3_ C hC w;have CN:Hid (∀ W,Calls Tryz.prog 45 #[.agg #[.int .i64 o.x.id,.int .i64 o.x.n,.int .i64 o.x.cut,.slice none 0 0,.slice o.p1 o.x.fd.length o.c1,.slice o.p2 o.su.length o.c2,.slice o.p3 o.un.length o.c3]] W fun e w'=>e=.returned (.agg #[.int .i64 o.x.id,.int .i64 (o.x.n+1)])∧Below W.heap.size W w'):=fun W=>x3_ ⟨o.x,[],none,0,o.p1,o.c1,o.p2,o.c2,o.p3,o.c3,o.su,o.un⟩ W hbn.1 hbn.2
 have CK:Hid (∀ W,Calls Tryz.prog 87 #[.agg #[.int .i64 C.a,.int .i64 C.b,.int .i64 C.c],.agg #[.int .i64 o.x.id,.int .i64 (o.x.n+1)]] W fun e w'=>e=.returned (.bool false)∧Below W.heap.size W w'):=fun W=>by
  have h:=wk_ C.a C.b C.c o.x.id (o.x.n+1) W hid.1 hid.2;rw [show decide (o.x.n+1<=comp C.a C.b C.c o.x.id)=false by simp; omega] at h;exact h
 have CTK:Hid (∀ W vo vc,Below w.heap.size w W->zk_ W vo C.l->Calls Tryz.prog 171 #[.pointer (some ⟨g,0,none⟩),.string C.k,.agg #[.slice vo C.l.length vc,.int .i64 C.a,.int .i64 C.b,.int .i64 C.c]] W fun e w'=>e=.returned (.bool true)∧MapF w' Tryz.prog 9 mb (n+1) (mset M C.k (yx_ C vo vc))∧∃ W5,Below W.heap.size W W5∧W5.grownBy w' (some mb)):=fun W vo vc hW hr=>
  si_ C H kk vo p1 vc q1 g mb n M W hk hC hH hcov hle hne hn hgm0 hq hM (hx.next hW).c8.2.2.2.2.2.2.2 (hm.next hW) hr (zk_.next hW hs)
 have HX:=hm_ hx;have NG:Hid (g≠mb):=hgm0;have HML:=hm_ hm.lt;clear hk hC hH hcov hle hne hn hgm0 hq hid hbn hj hM hx hm hs;go_enter Tryz.func142,Tryz.ntmps142;go_wp2_with fail;refine Calls.mono CRO.out ?_;rintro e w1 ⟨vo,vc,rfl,hg,hvc,hb⟩;have HV:Hid (GRow w.heap.size w1 vo (flat C.l)∧C.l.length<=vc∧Below w.heap.size w w1):=⟨hg,hvc,hb⟩;clear hg hvc hb;go_upto_region 2 with fail;refine zH_ (fun W=>Box W w1.heap.size [.slice vo C.l.length vc,.int .i64 C.a,.int .i64 C.b,.int .i64 C.c]∧Box W g [.int .i64 o.x.id,.int .i64 o.x.n,.int .i64 o.x.cut,.slice none 0 0,.slice o.p1 o.x.fd.length o.c1,.slice o.p2 o.su.length o.c2,.slice o.p3 o.un.length o.c3,.map (some mb)]∧GRow w.heap.size W vo (flat C.l)∧Below w.heap.size w W∧w1.heap.size≠mb) ⟨zn_,(HX.out.next HV.out.2.2).alloc,HV.out.1.next (zb_ _ _),HV.out.2.2.trans ((zb_ _ _).mono HV.out.2.2.size),by have:=HML.out; have:=HV.out.2.2.size; omega⟩ (fun W1 hI=>?_);have HVC:Hid (C.l.length<=vc):=HV.out.2.1;clear HV CRO HX;generalize w1.heap.size=g7 at *;have B1:=hm_ hI.1;have D1:=hm_ hI.2.1;have G1:=hm_ hI.2.2.1;have BB:=hm_ hI.2.2.2.1;have N7:Hid (g7≠mb):=hI.2.2.2.2;clear hI;have CT:Hid (∀ W,Below W1.heap.size W1 W->Calls Tryz.prog 171 #[.pointer (some ⟨g,0,none⟩),.string C.k,.agg #[.slice vo C.l.length vc,.int .i64 C.a,.int .i64 C.b,.int .i64 C.c]] W fun e w'=>e=.returned (.bool true)∧MapF w' Tryz.prog 9 mb (n+1) (mset M C.k (yx_ C vo vc))∧∃ W5,Below W.heap.size W W5∧W5.grownBy w' (some mb)):=fun W hW=>CTK.out W vo vc (BB.out.trans (hW.mono BB.out.size)) (G1.out.next hW).sib
 clear CTK;refine wp_region_held_drew (S:=(fun w'=>(w'.cell? ⟨g7,0,none⟩=some (.slice vo C.l.length vc)∧w'.cell? ⟨g7,1,none⟩=some (.int .i64 C.a)∧w'.cell? ⟨g7,2,none⟩=some (.int .i64 C.b)∧w'.cell? ⟨g7,3,none⟩=some (.int .i64 C.c))∧(w'.cell? ⟨g,0,none⟩=some (.int .i64 o.x.id)∧w'.cell? ⟨g,1,none⟩=some (.int .i64 o.x.n)∧w'.cell? ⟨g,2,none⟩=some (.int .i64 o.x.cut)∧w'.cell? ⟨g,3,none⟩=some (.slice none 0 0)∧w'.cell? ⟨g,4,none⟩=some (.slice o.p1 o.x.fd.length o.c1)∧w'.cell? ⟨g,5,none⟩=some (.slice o.p2 o.su.length o.c2)∧w'.cell? ⟨g,6,none⟩=some (.slice o.p3 o.un.length o.c3)∧w'.cell? ⟨g,7,none⟩=some (.map (some mb))))) (by kernel_rfl) ?_ (fun hH=>?_)
 ·(try dsimp only);exact ⟨(B1.out.next (zd_ _)).c4,(D1.out.next (zd_ _)).c8⟩
 have BW:Hid (Below W1.heap.size W1 W1.drew):=zd_ _;refine wTk 0 ?_;refine wTk 1 ?_;refine wTk 2 ?_;refine wTk 3 ?_;refine wTk 4 ?_;refine wTk 5 ?_;refine wTk 6 ?_;refine wTk 7 ?_;refine wTk 8 ?_;generalize W1.drew=wd at *;refine wRd 9 (fun K hK=>?_);go_simp
 (go_at_call 45; refine (CN.out _).mono ?_; rintro e x9 ⟨rfl,hb⟩; replace BW:=ze_ BW hb; clear hb)
 (try simp only []);refine wHk hK (⟨(B1.out.next BW.out).c4,(D1.out.next BW.out).c8⟩) ?_;clear hK K hH;intro hH;refine wRd 10 (fun K hK=>?_);go_simp
 (go_at_call 87; refine (CK.out _).mono ?_; rintro e x10 ⟨rfl,hb⟩; replace BW:=ze_ BW hb; clear hb)
 (try simp only []);refine wHk hK (⟨(B1.out.next BW.out).c4,(D1.out.next BW.out).c8⟩) ?_;clear hK K hH;intro hH;refine wTk 11 ?_;refine wTk 12 ?_;refine wTk 13 ?_;refine wTk 14 ?_;refine wTk 15 ?_;refine wTk 16 ?_;refine wRd 17 (fun K hK=>?_);go_simp
 (go_at_call 171; refine (CT.out _ BW.out).mono ?_; rintro e x17 ⟨rfl,hM9,W5,hb5,hg5⟩; have TP:Hid (MapF x17 Tryz.prog 9 mb (n+1) (mset M C.k (yx_ C vo vc))∧Below _ _ W5∧W5.grownBy x17 (some mb)):=⟨hM9,hb5,hg5⟩; clear hM9 hb5 hg5)
 (try simp only []);refine hK.out _ _ ?_ (fun hH'=>?_)
 ·(try dsimp only)
  (obtain ⟨y0,y1,y2,y3⟩:=(B1.out.next (BW.out.trans (TP.out.2.1.mono BW.out.size))).c4; obtain ⟨z0,z1,z2,z3,z4,z5,z6,z7⟩:=(D1.out.next (BW.out.trans (TP.out.2.1.mono BW.out.size))).c8; exact ⟨⟨zN_ y0 TP.out.2.2 N7.out,zN_ y1 TP.out.2.2 N7.out,zN_ y2 TP.out.2.2 N7.out,zN_ y3 TP.out.2.2 N7.out⟩,⟨zN_ z0 TP.out.2.2 NG.out,zN_ z1 TP.out.2.2 NG.out,zN_ z2 TP.out.2.2 NG.out,zN_ z3 TP.out.2.2 NG.out,zN_ z4 TP.out.2.2 NG.out,zN_ z5 TP.out.2.2 NG.out,zN_ z6 TP.out.2.2 NG.out,zN_ z7 TP.out.2.2 NG.out⟩⟩)
 clear hK K hH;have hH:=hH';clear hH';refine wLy ?_;refine wTk 18 ?_;refine wTk 19 ?_;refine wDn ?_;clear hH;go_wp2;go_ret;have hb9:=BW.out.trans (TP.out.2.1.mono BW.out.size);exact ⟨rfl,vo,vc,_,TP.out.1,oQ_ (G1.out.next hb9) TP.out.2.2 HML.out,HVC.out,BB.out.trans (hb9.mono BB.out.size),TP.out.2.2⟩
end
section
variable {M:ByteArray->Option Value} {W W' w w':World} {b base e g i lo mb n:Nat} {p:Option Addr} {u v v':Value} {vs xs:List Value}
structure Kp (E:Nat->Prop) (w w':World):Prop where
 os:w'.os=w.os
 tape:w'.tape=w.tape
 output:w'.output=w.output
 size:w.heap.size<=w'.heap.size
 block:∀ b,b < w.heap.size->¬ E b->w'.heap[b]? = w.heap[b]?
theorem Kp.of_below {E:Nat->Prop} (h:Below w.heap.size w w'):Kp E w w':=⟨h.os,h.tape,h.output,h.size,fun b hb _=>h.block b hb⟩
theorem Kp.of_grown (h:w.grownBy w' (some mb)):Kp (· = mb) w w':=⟨h.os,h.tape,h.output,h.size,fun b hb hn=>h.block b hb (fun e=>hn (by cases e; rfl))⟩
theorem Kp.of_gro (h:Gro w w' v v'):Kp (fun b=>v.ownBlock=some b) w w':=⟨h.grown.os,h.grown.tape,h.grown.output,h.grown.size,fun b hb hn=>h.grown.block b hb (fun e=>hn e.symm)⟩
theorem Kp.set:Kp (· = g) W (W.setCell ⟨g,i,none⟩ u):=⟨rfl,rfl,rfl,by simp [World.setCell],fun b _ hn=>Below.heap_setCell W ⟨g,i,none⟩ u b hn⟩
theorem Kp.trans {E E' E2:Nat->Prop} {a b c:World} (h:Kp E a b) (k:Kp E' b c) (h1:∀ x,x < a.heap.size->E x->E2 x) (h2:∀ x,x < a.heap.size->E' x->E2 x):Kp E2 a c:=
 ⟨k.os.trans h.os,k.tape.trans h.tape,k.output.trans h.output,Nat.le_trans h.size k.size,fun x hx hn=>(k.block x (Nat.lt_of_lt_of_le hx h.size) (fun e=>hn (h2 x hx e))).trans (h.block x hx (fun e=>hn (h1 x hx e)))⟩
theorem Kp.below {E:Nat->Prop} (h:Kp E w w') (hb:base<=w.heap.size) (he:∀ b,b < base->¬ E b):Below base w w':=⟨h.os,h.tape,h.output,h.size,fun b hb'=>h.block b (by omega) (he b hb')⟩
theorem Box.kp {E:Nat->Prop} (h:Box W g vs) (k:Kp E W W') (hn:¬ E g):Box W' g vs:=
 ⟨fun j hj=>⟨by rw [World.cell?_of_block (w:=W) (k.block g h.lt hn)]; exact (h.is j hj).1,by rw [World.frozen?_of_block (w:=W) (k.block g h.lt hn)]; exact (h.is j hj).2⟩,Nat.lt_of_lt_of_le h.lt k.size⟩
theorem GRow.kp {E:Nat->Prop} (h:GRow lo W p vs) (k:Kp E W W') (hn:∀ x,p=some x->vs≠[]->¬ E x.block):GRow lo W' p vs:=by
 rcases h with h | ⟨b,off,h1,h2,h3⟩
 ·exact .inl h
 ·by_cases hv:vs=[]
  ·exact .inl hv
  ·refine .inr ⟨b,off,h1,h2,fun j hj=>?_⟩;rw [World.cell?_of_block (w:=W) (k.block b (zh_ (h3 j hj)) (hn _ h1 hv))];exact h3 j hj
theorem MapF.kp {E:Nat->Prop} {P:Program} {k:TypeId} (h:MapF w P k b n M) (q:Kp E w w') (hn:¬ E b):MapF w' P k b n M:=by
 have hl:=h.lt;obtain ⟨D,⟨es,clock,hb,F,hn',hD⟩,h2,h3⟩:=h.view;exact ⟨⟨D,⟨es,clock,(q.block b hl hn).trans hb,F,hn',hD⟩,h2,h3⟩⟩
theorem OwnG.kp {E:Nat->Prop} {size:Nat} (h:OwnG W e size v n xs lo) (q:Kp E W W') (hn:∀ k,v.ownBlock=some k->¬ E k):OwnG W' e size v n xs lo:=by
 refine ⟨⟨h.own.1,?_⟩,h.ge⟩;rcases h.own.2 with h' | ⟨g,cap,cur,rfl,hb,hh,r⟩
 ·exact .inl h'
 ·exact .inr ⟨g,cap,cur,rfl,hb,(q.block g (h.own.lt g rfl).2 (hn g rfl)).trans hh,r⟩
structure PI (E:Nat->Prop) (w W:World) (ds:List Value) (o:No) (C:Cl) (vo:Option Addr) (vc lo g mb n g9:Nat) (M:ByteArray->Option Value):Prop where
 k:Kp E w W
 m:MapF W Tryz.prog 9 mb (n+1) (mset M C.k (yx_ C vo vc))
 e:Box W g9 [.int .i64 o.x.id,.int .i64 (o.x.n+1)]
 d:Box W g ds
 v:GRow w.heap.size W vo (flat C.l)
 f:OwnG W 52 3 (Value.slice o.p1 o.x.fd.length o.c1) o.x.fd.length (zl_ o.x.fd) lo
def DpP (w:World) (o:No) (lo g mb n:Nat) (M:ByteArray->Option Value) (C:Cl) (w':World):Prop:=∃ vo vc pf cf,MapF w' Tryz.prog 9 mb (n+1) (mset M C.k (yx_ C vo vc))∧(GRow w.heap.size w' vo (flat C.l)∧C.l.length<=vc)∧Box w' g [.int .i64 o.x.id,.int .i64 (o.x.n+1),.int .i64 o.x.cut,.slice none 0 0,.slice pf (o.x.fd.length+1) cf,.slice o.p2 o.su.length o.c2,.slice o.p3 o.un.length o.c3,.map (some mb)]∧OwnG w' 52 3 (Value.slice pf (o.x.fd.length+1) cf) (o.x.fd.length+1) (zl_ (o.x.fd++[⟨o.x.id,o.x.n+1,C.k⟩])) lo∧Kp (fun b=>b=g∨b=mb∨(Value.slice o.p1 o.x.fd.length o.c1).ownBlock=some b) w w'∧(∀ k,(Value.slice pf (o.x.fd.length+1) cf).ownBlock=some k->(Value.slice o.p1 o.x.fd.length o.c1).ownBlock=some k∨w.heap.size<=k)∧(∀ x,vo=some x->flat C.l≠[]->(Value.slice pf (o.x.fd.length+1) cf).ownBlock≠some x.block)
theorem xg_ {x:Addr} (h:GRow lo W p vs) (hx:p=some x) (hv:vs≠[]):x.block < W.heap.size:=by
 rcases h with h | ⟨b,off,h1,_,h3⟩
 ·exact (hv h).elim
 ·rw [h1] at hx;cases hx;exact zh_ (h3 0 (List.length_pos_iff.2 hv))
theorem pO_ (o:No) (C H:Cl) (kk:ByteArray) (p1:Option Addr) (q1 lo g mb n:Nat) (M:ByteArray->Option Value) (w:World) (hk:keyP C.k) (hC:OkP C.l C.a C.b C.c) (hH:OkP H.l H.a H.b H.c) (hcov:sj C.a C.b C.c H.a H.b H.c C.l H.l=C.l) (hle:H.a<=C.a∧H.b<=C.b∧H.c<=C.c) (hne:¬ (H.l=C.l∧H.a=C.a∧H.b=C.b∧H.c=C.c)) (hn:n < 100) (hgm0:g≠mb) (hq:H.l.length<=q1)
  (hid:o.x.id=0∨o.x.id=1∨o.x.id=2) (hbn:0<=o.x.n∧o.x.n < 9999) (hfl:o.x.fd.length<=100000) (hp:HasD C.l o.x.id (o.x.n+1)) (hj:comp C.a C.b C.c o.x.id=o.x.n+1) (hlo:lo<=w.heap.size∧g < w.heap.size∧mb < w.heap.size∧∀ k,(Value.slice o.p1 o.x.fd.length o.c1).ownBlock=some k->k≠g∧k≠mb) (hf:OwnG w 52 3 (Value.slice o.p1 o.x.fd.length o.c1) o.x.fd.length (zl_ o.x.fd) lo) (hM:(M C.k).getD (.agg #[.string ⟨#[]⟩,.slice none 0 0,.int .i64 0,.int .i64 0,.int .i64 0])=.agg #[.string kk,.slice p1 H.l.length q1,.int .i64 H.a,.int .i64 H.b,.int .i64 H.c]) (hx:Box w g [.int .i64 o.x.id,.int .i64 o.x.n,.int .i64 o.x.cut,.slice none 0 0,.slice o.p1 o.x.fd.length o.c1,.slice o.p2 o.su.length o.c2,.slice o.p3 o.un.length o.c3,.map (some mb)]) (hm:MapF w Tryz.prog 9 mb n M) (hs:zk_ w p1 H.l) :
  Calls Tryz.prog 141 #[.pointer (some ⟨g,0,none⟩),.string C.k,.string ⟨(objT (vvT C.a C.b C.c) C.l).toArray⟩] w fun e w'=>e=.returned (.bool true)∧DpP w o lo g mb n M C w':=by
 have CRO:Hid _:=w3_ C hC w;have hcl:(C.l.length:Int)<=1048576:=by have:=hC.1; omega
 have CN:Hid (∀ W,Calls Tryz.prog 45 #[.agg #[.int .i64 o.x.id,.int .i64 o.x.n,.int .i64 o.x.cut,.slice none 0 0,.slice o.p1 o.x.fd.length o.c1,.slice o.p2 o.su.length o.c2,.slice o.p3 o.un.length o.c3]] W fun e w'=>e=.returned (.agg #[.int .i64 o.x.id,.int .i64 (o.x.n+1)])∧Below W.heap.size W w'):=fun W=>x3_ ⟨o.x,[],none,0,o.p1,o.c1,o.p2,o.c2,o.p3,o.c3,o.su,o.un⟩ W hbn.1 hbn.2
 have CHS:Hid (∀ W vo vc,zk_ W vo C.l->Calls Tryz.prog 170 #[.agg #[.slice vo C.l.length vc,.int .i64 C.a,.int .i64 C.b,.int .i64 C.c],.agg #[.int .i64 o.x.id,.int .i64 (o.x.n+1)]] W fun e w'=>e=.returned (.bool true)∧Below W.heap.size W w'):=fun W vo vc hr=>vs_ vc vo C.l C.a C.b C.c o.x.id (o.x.n+1) W hcl hp hr
 have CTK:Hid (∀ W vo vc,Below w.heap.size w W->zk_ W vo C.l->Calls Tryz.prog 171 #[.pointer (some ⟨g,0,none⟩),.string C.k,.agg #[.slice vo C.l.length vc,.int .i64 C.a,.int .i64 C.b,.int .i64 C.c]] W fun e w'=>e=.returned (.bool true)∧MapF w' Tryz.prog 9 mb (n+1) (mset M C.k (yx_ C vo vc))∧∃ W5,Below W.heap.size W W5∧W5.grownBy w' (some mb)):=fun W vo vc hW hr=>
  si_ C H kk vo p1 vc q1 g mb n M W hk hC hH hcov hle hne hn hgm0 hq hM (hx.next hW).c8.2.2.2.2.2.2.2 (hm.next hW) hr (zk_.next hW hs)
 have HX:=hm_ hx;have NG:Hid (g≠mb):=hgm0;have HML:=hm_ hm.lt;have HLO:=hm_ hlo;have HFD:=hm_ hf;have HFB:Hid (∀ k,(Value.slice o.p1 o.x.fd.length o.c1).ownBlock=some k->k < w.heap.size):=fun k hk=>(hf.lt k hk).2
 have HID:=hm_ hid;have HCMP:=hm_ hj;clear hk hC hH hcov hle hne hn hgm0 hq hid hj hp hM hx hm hs hlo hf;go_enter Tryz.func141,Tryz.ntmps141;go_wp2_with fail;refine Calls.mono CRO.out ?_;rintro e w1 ⟨vo,vc,rfl,hg,hvc,hb⟩;have HV:Hid (GRow w.heap.size w1 vo (flat C.l)∧C.l.length<=vc∧Below w.heap.size w w1):=⟨hg,hvc,hb⟩;clear hg hvc hb;go_upto_region 2 with fail;refine zH_ (fun W=>Box W w1.heap.size [.slice vo C.l.length vc,.int .i64 C.a,.int .i64 C.b,.int .i64 C.c]∧Box W g [.int .i64 o.x.id,.int .i64 o.x.n,.int .i64 o.x.cut,.slice none 0 0,.slice o.p1 o.x.fd.length o.c1,.slice o.p2 o.su.length o.c2,.slice o.p3 o.un.length o.c3,.map (some mb)]∧GRow w.heap.size W vo (flat C.l)∧Below w.heap.size w W∧w.heap.size<=w1.heap.size∧OwnG W 52 3 (Value.slice o.p1 o.x.fd.length o.c1) o.x.fd.length (zl_ o.x.fd) lo) ⟨zn_,(HX.out.next HV.out.2.2).alloc,HV.out.1.next (zb_ _ _),HV.out.2.2.trans ((zb_ _ _).mono HV.out.2.2.size),HV.out.2.2.size,(HFD.out.next HV.out.2.2).next (zb_ _ _)⟩ (fun W1 hI=>?_);have HVC:Hid (C.l.length<=vc):=HV.out.2.1;clear HV CRO HX HFD;generalize w1.heap.size=g7 at *;obtain ⟨d0,d1,d2,d3,d4,d5,d6,d7⟩:=hI.2.1.c8;have HI:=hm_ hI;clear hI;go_wp2_with fail;refine Calls.mono (CN.out _) ?_;rintro e w2 ⟨rfl,hb⟩;have HB2:=hm_ hb;clear hb d0 d1 d2 d3 d4 d5 d6 d7;go_upto_region 3 with fail
 refine zH_ (fun W=>Box W g7 [.slice vo C.l.length vc,.int .i64 C.a,.int .i64 C.b,.int .i64 C.c]∧Box W g [.int .i64 o.x.id,.int .i64 o.x.n,.int .i64 o.x.cut,.slice none 0 0,.slice o.p1 o.x.fd.length o.c1,.slice o.p2 o.su.length o.c2,.slice o.p3 o.un.length o.c3,.map (some mb)]∧GRow w.heap.size W vo (flat C.l)∧Below w.heap.size w W∧Box W w2.heap.size [.int .i64 o.x.id,.int .i64 (o.x.n+1)]∧OwnG W 52 3 (Value.slice o.p1 o.x.fd.length o.c1) o.x.fd.length (zl_ o.x.fd) lo∧(g7≠mb∧w2.heap.size≠mb)∧(w2.heap.size≠g∧w.heap.size<=w2.heap.size)) (by
  obtain ⟨h1,h2,h3,h4,h5,h6⟩:=HI.out;have hb:=HB2.out;have hs:=hb.size;have hl:=h1.lt;have hm:=HML.out;have hL:=HLO.out
  exact ⟨(h1.next hb).alloc,(h2.next hb).alloc,(h3.next hb).next (zb_ _ _),(h4.trans (hb.mono h4.size)).trans ((zb_ _ _).mono (h4.trans (hb.mono h4.size)).size),zn_,(h6.next hb).next (zb_ _ _),⟨by omega,by omega⟩,by omega,by omega⟩) (fun W2 hI=>?_)
 clear HI HB2;generalize w2.heap.size=g9 at *;have B2:=hm_ hI.1;have D2_:=hm_ hI.2.1;have G2:=hm_ hI.2.2.1;have BB:=hm_ hI.2.2.2.1;have E2:=hm_ hI.2.2.2.2.1;have F2:=hm_ hI.2.2.2.2.2.1;have N7:=hm_ hI.2.2.2.2.2.2.1;have N9G:Hid (g9≠g):=hI.2.2.2.2.2.2.2.1;have N9W:=hm_ hI.2.2.2.2.2.2.2.2;clear hI;have CT:Hid (∀ W,Below W2.heap.size W2 W->Calls Tryz.prog 171 #[.pointer (some ⟨g,0,none⟩),.string C.k,.agg #[.slice vo C.l.length vc,.int .i64 C.a,.int .i64 C.b,.int .i64 C.c]] W fun e w'=>e=.returned (.bool true)∧MapF w' Tryz.prog 9 mb (n+1) (mset M C.k (yx_ C vo vc))∧∃ W5,Below W.heap.size W W5∧W5.grownBy w' (some mb)):=fun W hW=>CTK.out W vo vc (BB.out.trans (hW.mono BB.out.size)) (G2.out.next hW).sib
 have CH:Hid (∀ W,zk_ W vo C.l->Calls Tryz.prog 170 #[.agg #[.slice vo C.l.length vc,.int .i64 C.a,.int .i64 C.b,.int .i64 C.c],.agg #[.int .i64 o.x.id,.int .i64 (o.x.n+1)]] W fun e w'=>e=.returned (.bool true)∧Below W.heap.size W w'):=fun W h=>CHS.out W vo vc h
 have HO9:Hid ((Value.slice o.p1 o.x.fd.length o.c1).ownBlock≠some g9∧(∀ x,vo=some x->flat C.l≠[]->(Value.slice o.p1 o.x.fd.length o.c1).ownBlock≠some x.block)):=⟨fun e=>by have h1:=HFB.out _ e; have h2:=N9W.out; omega,fun x hx hv e=>by have h1:=HFB.out _ e; rcases G2.out with h | ⟨b,off,h2,h3,_⟩; exact hv h; rw [h2] at hx; cases hx; dsimp only at h1; omega⟩;clear CTK CHS CN
 go_cut [44] from 20 to 44 (fun s44 wc=>s44=.bool false∧PI (· = mb) w wc [.int .i64 o.x.id,.int .i64 o.x.n,.int .i64 o.x.cut,.slice none 0 0,.slice o.p1 o.x.fd.length o.c1,.slice o.p2 o.su.length o.c2,.slice o.p3 o.un.length o.c3,.map (some mb)] o C vo vc lo g mb n g9 M)
 case first=>
  rcases HID.out with h | h | h
  focus
   have H0:Hid _:=h;clear h;have hcmp:C.a=o.x.n+1:=by have:=HCMP.out; rw [show o.x.id=_ from H0.out] at this; simpa [comp] using this
   have hq1:(C.a == o.x.n+1)=true:=by simp [hcmp]
   have hq2:(C.a != o.x.n+1)=false:=by simp [hcmp]
  rotate_left
  focus
   have H0:Hid _:=h;clear h;have hcmp:C.b=o.x.n+1:=by have:=HCMP.out; rw [show o.x.id=_ from H0.out] at this; simpa [comp] using this
   have hq1:(C.b == o.x.n+1)=true:=by simp [hcmp]
   have hq2:(C.b != o.x.n+1)=false:=by simp [hcmp]
  rotate_left
  focus
   have H0:Hid _:=h;clear h;have hcmp:C.c=o.x.n+1:=by have:=HCMP.out; rw [show o.x.id=_ from H0.out] at this; simpa [comp] using this
   have hq1:(C.c == o.x.n+1)=true:=by simp [hcmp]
   have hq2:(C.c != o.x.n+1)=false:=by simp [hcmp]
  rotate_left
  all_goals
   clear hcmp;refine wp_region_held_drew (S:=(fun w'=>(w'.cell? ⟨g7,0,none⟩=some (.slice vo C.l.length vc)∧w'.cell? ⟨g7,1,none⟩=some (.int .i64 C.a)∧w'.cell? ⟨g7,2,none⟩=some (.int .i64 C.b)∧w'.cell? ⟨g7,3,none⟩=some (.int .i64 C.c))∧(w'.cell? ⟨g9,0,none⟩=some (.int .i64 o.x.id)∧w'.cell? ⟨g9,1,none⟩=some (.int .i64 (o.x.n+1))))) (by kernel_rfl) ?_ (fun hH=>?_)
   ·(try dsimp only);exact ⟨(B2.out.next (zd_ _)).c4,(E2.out.next (zd_ _)).c2⟩
   have BW:Hid (Below W2.heap.size W2 W2.drew):=zd_ _;refine wTk 0 ?_;refine wTk 1 ?_;refine wTk 2 ?_;refine wTk 3 ?_;refine wTk 4 ?_;refine wTk 5 ?_;refine wpAnyH_take (i:=6) (v:=?_) rfl (by kernel_rfl) (by kernel_rfl) (by kernel_rfl) (fun _ _ _ h=>h) (Or.inl ⟨by rfl,?_⟩) (by assumption) ?_;rotate_left
   ·intro w' hSw;(try dsimp only at hSw);have h0:=H0.out;go_simp
    all_goals (try with_reducible rfl)
   refine wLy ?_;refine wTk 7 ?_;refine wTk 8 ?_;refine wTk 9 ?_;refine wTk 10 ?_;refine wTk 11 ?_;refine wTk 12 ?_;refine wTk 13 ?_;refine wTk 14 ?_;refine wRd 15 (fun K hK=>?_);go_simp
   (go_at_call 170; refine (CH.out _ (G2.out.next BW.out).sib).mono ?_; rintro e x15 ⟨rfl,hb⟩; replace BW:=ze_ BW hb; clear hb)
   (try simp only []);refine wHk hK (⟨(B2.out.next BW.out).c4,(E2.out.next BW.out).c2⟩) ?_;clear hK K hH;intro hH;refine wTk 16 ?_;refine wTk 17 ?_;refine wTk 18 ?_;refine wTk 19 ?_;refine wTk 20 ?_;refine wTk 21 ?_;refine wRd 22 (fun K hK=>?_);go_simp
   (go_at_call 171; refine (CT.out _ BW.out).mono ?_; rintro e x22 ⟨rfl,hM9,W5,hb5,hg5⟩; have TP:Hid (MapF x22 Tryz.prog 9 mb (n+1) (mset M C.k (yx_ C vo vc))∧Below _ _ W5∧W5.grownBy x22 (some mb)):=⟨hM9,hb5,hg5⟩; clear hM9 hb5 hg5)
   (try simp only []);refine hK.out _ _ ?_ (fun hH'=>?_)
   ·(try dsimp only)
    (obtain ⟨y0,y1,y2,y3⟩:=(B2.out.next (BW.out.trans (TP.out.2.1.mono BW.out.size))).c4; obtain ⟨z0,z1⟩:=(E2.out.next (BW.out.trans (TP.out.2.1.mono BW.out.size))).c2; exact ⟨⟨zN_ y0 TP.out.2.2 N7.out.1,zN_ y1 TP.out.2.2 N7.out.1,zN_ y2 TP.out.2.2 N7.out.1,zN_ y3 TP.out.2.2 N7.out.1⟩,zN_ z0 TP.out.2.2 N7.out.2,zN_ z1 TP.out.2.2 N7.out.2⟩)
   clear hK K hH;have hH:=hH';clear hH';refine wLy ?_;refine wTk 23 ?_;refine wTk 24 ?_;refine wDn ?_;clear hH;have hb9:=BW.out.trans (TP.out.2.1.mono BW.out.size);have PX:Hid (PI (· = mb) w x22 [.int .i64 o.x.id,.int .i64 o.x.n,.int .i64 o.x.cut,.slice none 0 0,.slice o.p1 o.x.fd.length o.c1,.slice o.p2 o.su.length o.c2,.slice o.p3 o.un.length o.c3,.map (some mb)] o C vo vc lo g mb n g9 M):=⟨(Kp.of_below (BB.out.trans (hb9.mono BB.out.size))).trans (Kp.of_grown TP.out.2.2) (fun _ _ h=>h) (fun _ _ h=>h),TP.out.1,(E2.out.next hb9).kp (Kp.of_grown TP.out.2.2) N7.out.2,(D2_.out.next hb9).kp (Kp.of_grown TP.out.2.2) NG.out,(G2.out.next hb9).kp (Kp.of_grown TP.out.2.2) (fun x hx hv=>by have:=HML.out; rcases G2.out with h | ⟨b,off,h1,h2,_⟩; exact (hv h).elim; rw [h1] at hx; cases hx; dsimp only; omega),(F2.out.next hb9).kp (Kp.of_grown TP.out.2.2) (fun k hk e=>(HLO.out.2.2.2 k hk).2 e)⟩;clear hb9;go_wp2_with fail;go_meet
   case rel=>exact ⟨rfl,PX.out⟩
 case rest=>
  obtain ⟨rfl,hP⟩:=hcut;generalize wc=W3 at *;have P3:=hm_ hP;clear hP B2 D2_ G2 BB E2 F2 CT CH;obtain ⟨d0,d1,d2,d3,d4,d5,d6,d7⟩:=P3.out.d.c8;obtain ⟨f0,f1,f2,f3,f4,f5,f6,f7⟩:=P3.out.d.f8;obtain ⟨e0,e1⟩:=P3.out.e.c2;go_upto_region 6 with fail
  refine zH_ (fun W=>PI (fun b=>b=g∨b=mb) w W [.int .i64 o.x.id,.int .i64 (o.x.n+1),.int .i64 o.x.cut,.slice none 0 0,.slice o.p1 o.x.fd.length o.c1,.slice o.p2 o.su.length o.c2,.slice o.p3 o.un.length o.c3,.map (some mb)] o C vo vc lo g mb n g9 M) (by
   have hL:=HLO.out;refine ⟨P3.out.k.trans Kp.set (fun _ _ h=>.inr h) (fun _ _ h=>.inl h),P3.out.m.kp Kp.set (fun e=>NG.out e.symm),P3.out.e.kp Kp.set N9G.out,?_,P3.out.v.kp Kp.set (fun x hx hv e=>?_),P3.out.f.kp Kp.set (fun k hk e=>(HLO.out.2.2.2 k hk).1 e)⟩
   ·have:=P3.out.d.set (i:=1) (u:=.int .i64 (o.x.n+1)) (by simp)
    simpa using this
   ·rcases P3.out.v with h | ⟨b,off,h1,h2,_⟩
    ·exact hv h
    ·rw [h1] at hx; cases hx; dsimp only at e; omega) (fun W4 hI=>?_)
  clear d0 d1 d2 d3 d4 d5 d6 d7 f0 f1 f2 f3 f4 f5 f6 f7 e0 e1 P3;have P4:=hm_ hI;clear hI;have NE9:Hid (¬ (Value.slice o.p1 o.x.fd.length o.c1).ownBlock=some g9):=HO9.out.1;have NEV:Hid (∀ x,vo=some x->flat C.l≠[]->¬ (Value.slice o.p1 o.x.fd.length o.c1).ownBlock=some x.block):=HO9.out.2;have NEG:Hid (¬ (Value.slice o.p1 o.x.fd.length o.c1).ownBlock=some g):=fun e=>(HLO.out.2.2.2 g e).1 rfl
  have NEM:Hid (¬ (Value.slice o.p1 o.x.fd.length o.c1).ownBlock=some mb):=fun e=>(HLO.out.2.2.2 mb e).2 rfl
  refine wp_region_held_drew (S:=(fun w'=>w'.cell? ⟨g9,0,none⟩=some (.int .i64 o.x.id)∧w'.cell? ⟨g9,1,none⟩=some (.int .i64 (o.x.n+1)))) (by kernel_rfl) ?_ (fun hH=>?_)
  ·(try dsimp only);exact (P4.out.e.next (zd_ _)).c2
  have BW:Hid (Below W4.heap.size W4 W4.drew):=zd_ _;refine wTk 0 ?_;refine wTk 1 ?_;refine wTk 2 ?_;refine wTk 3 ?_;refine wTk 4 ?_;refine wTk 6 ?_;refine wTk 7 ?_;refine wTk 8 ?_;generalize W4.drew=wd at *;refine wpAnyH_ready (rs:=[5,9]) (by kernel_rfl) (by simp) ?_;refine .cons rfl (fun K hK=>?_) (.cons rfl (fun K hK=>?_) .nil)
  focus
   obtain ⟨b0,b1,b2,b3,b4,b5,b6,b7⟩:=(P4.out.d.next BW.out).c8;refine wLy ?_;go_simp;(try simp only []);refine wHk hK ((P4.out.e.next BW.out).c2) ?_;clear hK K hH;intro hH;clear b0 b1 b2 b3 b4 b5 b6 b7;refine wRd 9 (fun K hK=>?_);go_simp;(try simp only []);have LT:Hid (GRow 0 (wd.alloc (.cells #[.int .i64 o.x.id,.int .i64 (o.x.n+1),.string C.k] 52)) (some ⟨wd.heap.size,0,none⟩) (zl_ [⟨o.x.id,o.x.n+1,C.k⟩])):=yD_;replace BW:=ze_ BW (zb_ wd (.cells #[.int .i64 o.x.id,.int .i64 (o.x.n+1),.string C.k] 52));refine wHk hK ((P4.out.e.next BW.out).c2) ?_;clear hK K hH;intro hH;generalize wd.alloc (.cells #[.int .i64 o.x.id,.int .i64 (o.x.n+1),.string C.k] 52)=x0 at *;generalize wd.heap.size=gl at *
  rotate_left
  focus
   refine wLy ?_;go_simp;(try simp only []);have LT:Hid (GRow 0 (wd.alloc (.cells #[.int .i64 o.x.id,.int .i64 (o.x.n+1),.string C.k] 52)) (some ⟨wd.heap.size,0,none⟩) (zl_ [⟨o.x.id,o.x.n+1,C.k⟩])):=yD_;replace BW:=ze_ BW (zb_ wd (.cells #[.int .i64 o.x.id,.int .i64 (o.x.n+1),.string C.k] 52));refine wHk hK ((P4.out.e.next BW.out).c2) ?_;clear hK K hH;intro hH;generalize wd.alloc (.cells #[.int .i64 o.x.id,.int .i64 (o.x.n+1),.string C.k] 52)=x0 at *;generalize wd.heap.size=gl at *;refine wpAnyH_ready (rs:=[5]) (by kernel_rfl) (by simp) ?_;refine .cons rfl (fun K hK=>?_) .nil;obtain ⟨b0,b1,b2,b3,b4,b5,b6,b7⟩:=(P4.out.d.next BW.out).c8;refine wLy ?_;go_simp;(try simp only []);refine wHk hK ((P4.out.e.next BW.out).c2) ?_;clear hK K hH;intro hH;clear b0 b1 b2 b3 b4 b5 b6 b7
  rotate_left
  all_goals
   refine wRd 10 (fun K hK=>?_);rw [if_pos (by rfl)];refine zx_ elE (.tmp 56) (.tmp 60) rfl (Value.slice o.p1 o.x.fd.length o.c1) o.x.fd.length (zl_ o.x.fd) lo (o.x.fd.length+1) rfl (P4.out.f.next BW.out) (by have:=HLO.out; have:=P4.out.k.size; have:=BW.out.size; omega) (some ⟨gl,0,none⟩) 1 1 (zl_ [⟨o.x.id,o.x.n+1,C.k⟩]) rfl rfl (zv_ _) 0 LT.out (by omega) rfl ?_;intro pf cf x1 hO8 hG8 hS8;have OW:Hid (OwnG x1 52 3 (Value.slice pf (o.x.fd.length+1) cf) (o.x.fd.length+1) (zl_ o.x.fd++zl_ [⟨o.x.id,o.x.n+1,C.k⟩]) lo∧Gro x0 x1 (Value.slice o.p1 o.x.fd.length o.c1) (Value.slice pf (o.x.fd.length+1) cf)):=⟨hO8,hG8⟩;clear hO8 hG8 hS8;refine wHk hK (((P4.out.e.next BW.out).kp (Kp.of_gro OW.out.2) NE9.out).c2) ?_;clear hK K hH;intro hH;refine wTk 11 ?_;refine wTk 12 ?_;refine wTk 13 ?_;have DX:Hid (Box x1 g [.int .i64 o.x.id,.int .i64 (o.x.n+1),.int .i64 o.x.cut,.slice none 0 0,.slice o.p1 o.x.fd.length o.c1,.slice o.p2 o.su.length o.c2,.slice o.p3 o.un.length o.c3,.map (some mb)]):=(P4.out.d.next BW.out).kp (Kp.of_gro OW.out.2) NEG.out;obtain ⟨b0,b1,b2,b3,b4,b5,b6,b7⟩:=DX.out.c8;obtain ⟨f0,f1,f2,f3,f4,f5,f6,f7⟩:=DX.out.f8;have E9:Hid (Box (x1.setCell ⟨g,4,none⟩ (.slice pf (o.x.fd.length+1) cf)) g9 [.int .i64 o.x.id,.int .i64 (o.x.n+1)]):=((P4.out.e.next BW.out).kp (Kp.of_gro OW.out.2) NE9.out).oth N9G.out
   have PX:Hid (DpP w o lo g mb n M C (x1.setCell ⟨g,4,none⟩ (.slice pf (o.x.fd.length+1) cf))):=by
    refine ⟨vo,vc,pf,cf,?_,⟨?_,HVC.out⟩,?_,?_,?_,?_,?_⟩
    ·exact ((P4.out.m.next BW.out).kp (Kp.of_gro OW.out.2) NEM.out).kp Kp.set (fun e=>NG.out e.symm)
    ·refine ((P4.out.v.next BW.out).kp (Kp.of_gro OW.out.2) NEV.out).kp Kp.set (fun x hx hv=>?_)
     have:=HLO.out
     rcases P4.out.v with h | ⟨b,off,h1,h2,_⟩
     ·exact (hv h).elim
     ·rw [h1] at hx; cases hx; dsimp only; omega
    ·have:=DX.out.set (i:=4) (u:=.slice pf (o.x.fd.length+1) cf) (by simp)
     simpa using this
    ·rw [z9_];exact OW.out.1.kp Kp.set (fun k hk e=>by rcases OW.out.2.fresh k hk with h | h; exact (HLO.out.2.2.2 k h).1 e; have:=HLO.out.2.1; have:=P4.out.k.size; have:=BW.out.size; omega)
    ·refine ((P4.out.k.trans (Kp.of_below (E:=fun _=>False) BW.out) (E2:=fun b=>b=g∨b=mb) (fun _ _ h=>h) (fun _ _ h=>h.elim)).trans (Kp.of_gro OW.out.2) (E2:=fun b=>b=g∨b=mb∨(Value.slice o.p1 o.x.fd.length o.c1).ownBlock=some b) (fun x _ h=>by rcases h with h | h; exact .inl h; exact .inr (.inl h)) (fun x _ h=>.inr (.inr h))).trans Kp.set (fun _ _ h=>h) (fun x _ h=>.inl h)
    ·intro k hk;rcases OW.out.2.fresh k hk with h | h
     ·exact .inl h
     ·exact .inr (Nat.le_trans (Nat.le_trans P4.out.k.size BW.out.size) h)
    ·intro x hx hv e;rcases OW.out.2.fresh _ e with h | h
     ·exact NEV.out x hx hv h
     ·have:=xg_ (P4.out.v.next BW.out) hx hv
      omega
   refine wRd 14 (fun K hK=>?_);go_simp;(try simp only []);refine wHk hK (E9.out.c2) ?_;clear hK K hH;intro hH;refine wDn ?_;clear hH b0 b1 b2 b3 b4 b5 b6 b7 f0 f1 f2 f3 f4 f5 f6 f7;go_wp2;go_ret;exact ⟨rfl,PX.out⟩
end
section
variable {W W' w:World} {b co g gb i n off q:Nat} {cs:List Cm} {o:No} {p po:Option Addr}
theorem o4_ {ms:List Cm} {m:Cm} (hi:i < ms.length) (th:zQ_ W g n) (hn:i * 5+4 < n) (hk:m.c.k=ms[i].c.k) (h:∀ j (h:j < ms.length),CmAt W g (0+j * 5) ms[j]) :
  ∀ j (h:j < (ms.set i m).length),CmAt ((((W.setCell ⟨g,i * 5+1,none⟩ (.slice m.p m.c.l.length m.q)).setCell ⟨g,i * 5+2,none⟩ (.int .i64 m.c.a)).setCell ⟨g,i * 5+3,none⟩ (.int .i64 m.c.b)).setCell ⟨g,i * 5+4,none⟩ (.int .i64 m.c.c)) g (0+j * 5) (ms.set i m)[j]:=by
 intro j hj;rw [Nat.zero_add];by_cases e:i=j
 ·subst e;rw [List.getElem_set_self];refine ⟨?_,?_,?_,?_,?_⟩
  ·rw [zo_ (by omega),zo_ (by omega),zo_ (by omega),zo_ (by omega),hk]; have:=(h i hi).1; rwa [Nat.zero_add] at this
  ·rw [zo_ (by omega),zo_ (by omega),zo_ (by omega)]; exact zB_ (th _ (by omega)).1
  ·rw [zo_ (by omega),zo_ (by omega)]; exact zB_ (th.set _ (by omega)).1
  ·rw [zo_ (by omega)]; exact zB_ (th.set.set _ (by omega)).1
  ·exact zB_ (th.set.set.set _ (by omega)).1
 ·rw [List.getElem_set_ne e];obtain ⟨c0,c1,c2,c3,c4⟩:=h j (by simpa using hj);rw [Nat.zero_add] at c0 c1 c2 c3 c4;refine ⟨?_,?_,?_,?_,?_⟩ <;> (rw [zo_ (by omega),zo_ (by omega),zo_ (by omega),zo_ (by omega)]; assumption)
theorem nm_ {ds:List Cm} {m:Cm} {d:Cm}:(cs++d :: ds).set cs.length m=(cs++[m])++ds:=by simp
theorem x1_ {a b:Obj}:Below w.heap.size w ((w.alloc a).alloc b):=(zb_ _ _).trans ((zb_ _ _).mono (by simp))
structure CqI (w W:World) (gb i:Nat) (o:No) (po:Option Addr) (co:Nat) (cs:List Cm):Prop where
 x:Box W w.heap.size [.int .i64 o.x.id,.int .i64 o.x.n,.int .i64 o.x.cut,.slice po o.ms.length co,.slice o.p1 o.x.fd.length o.c1,.slice o.p2 o.su.length o.c2,.slice o.p3 o.un.length o.c3]
 z:Box W (w.heap.size+1) nZ
 hc:cs.map (·.c)=(o.ms.map (·.c)).take i
 r:∀ y ∈ cs,GRow (gb+1) W y.p (flat y.c.l)∧y.c.l.length<=y.q
 row:o.ms=[]∨(po=some ⟨gb,0,none⟩∧o.ms.length<=co∧gb < W.heap.size∧zQ_ W gb (co * 5)∧∀ j (h:j < (cs++o.ms.drop i).length),CmAt W gb (0+j * 5) (cs++o.ms.drop i)[j])
 l:w.heap.size+1 < gb
 b:Below w.heap.size w W
theorem CmAt.next {m:Cm} (h:CmAt W b off m) (hb:Below W.heap.size W W'):CmAt W' b off m:=⟨za_ hb h.1 (zh_ h.1),za_ hb h.2.1 (zh_ h.2.1),za_ hb h.2.2.1 (zh_ h.2.2.1),za_ hb h.2.2.2.1 (zh_ h.2.2.2.1),za_ hb h.2.2.2.2 (zh_ h.2.2.2.2)⟩
theorem CqI.next (h:CqI w W gb i o po co cs) (hb:Below W.heap.size W W'):CqI w W' gb i o po co cs:=
 ⟨h.x.next hb,h.z.next hb,h.hc,fun y hy=>⟨(h.r y hy).1.next hb,(h.r y hy).2⟩,h.row.imp (fun e=>e) (fun ⟨h1,h2,h3,h4,h5⟩=>⟨h1,h2,Nat.lt_of_lt_of_le h3 hb.size,h4.next hb h3,fun j hj=>(h5 j hj).next hb⟩),h.l,h.b.trans (hb.mono h.b.size)⟩
theorem CqI.len (h:CqI w W gb i o po co cs) (hi:i<=o.ms.length):cs.length=i:=by
 have:=congrArg List.length h.hc
 simp at this;omega
theorem CqI.put (h:CqI w W gb i o po co cs) (hi:i < o.ms.length) (hr:GRow (gb+1) W p (flat o.ms[i].c.l)) (hq:o.ms[i].c.l.length<=q) :
  CqI w ((((W.setCell ⟨gb,i * 5+1,none⟩ (.slice p o.ms[i].c.l.length q)).setCell ⟨gb,i * 5+2,none⟩ (.int .i64 o.ms[i].c.a)).setCell ⟨gb,i * 5+3,none⟩ (.int .i64 o.ms[i].c.b)).setCell ⟨gb,i * 5+4,none⟩ (.int .i64 o.ms[i].c.c)) gb (i+1) o po co (cs++[⟨o.ms[i].c,p,q⟩]):=by
 have hl:=h.l;have hlen:=h.len (by omega);rcases h.row with h' | ⟨h1,h2,h3,h4,h5⟩
 ·rw [h'] at hi; simp at hi
 have hd:o.ms.drop i=o.ms[i] :: o.ms.drop (i+1):=List.drop_eq_getElem_cons hi;have hK:∀ {p:Option Addr} {vs:List Value},GRow (gb+1) W p vs->GRow (gb+1) ((((W.setCell ⟨gb,i * 5+1,none⟩ (.slice p o.ms[i].c.l.length q)).setCell ⟨gb,i * 5+2,none⟩ (.int .i64 o.ms[i].c.a)).setCell ⟨gb,i * 5+3,none⟩ (.int .i64 o.ms[i].c.b)).setCell ⟨gb,i * 5+4,none⟩ (.int .i64 o.ms[i].c.c)) p vs:=fun h=>(((h.keep (zc_ (by omega))).keep (zc_ (by omega))).keep (zc_ (by omega))).keep (zc_ (by omega))
 refine ⟨(((h.x.oth (by omega)).oth (by omega)).oth (by omega)).oth (by omega),(((h.z.oth (by omega)).oth (by omega)).oth (by omega)).oth (by omega),?_,fun y hy=>?_,.inr ⟨h1,h2,?_,h4.set.set.set.set,?_⟩,hl,zt_ (zt_ (zt_ (zt_ h.b (by omega)) (by omega)) (by omega)) (by omega)⟩
 ·rw [List.map_append,h.hc,List.take_succ_eq_append_getElem (by simpa using hi)];simp
 ·rcases List.mem_append.1 hy with hy | hy
  ·exact ⟨(((((h.r y hy).1.keep (zc_ (by omega))).keep (zc_ (by omega))).keep (zc_ (by omega))).keep (zc_ (by omega))),(h.r y hy).2⟩
  ·simp at hy;subst hy;exact ⟨(((hr.keep (zc_ (by omega))).keep (zc_ (by omega))).keep (zc_ (by omega))).keep (zc_ (by omega)),hq⟩
 ·simpa [World.setCell] using h3
 ·have hh:i < (cs++o.ms.drop i).length:=by simp; omega
  have hk:(cs++o.ms.drop i)[i]=o.ms[i]:=by
   rw [List.getElem_append_right (by omega)];simp [hlen]
  have h6:=o4_ (m:=⟨o.ms[i].c,p,q⟩) hh h4 (by omega) (by rw [hk]) h5
  have e:(cs++o.ms.drop i).set i ⟨o.ms[i].c,p,q⟩=(cs++[⟨o.ms[i].c,p,q⟩])++o.ms.drop (i+1):=by
   rw [hd]
   have:=nm_ (cs:=cs) (ds:=o.ms.drop (i+1)) (m:=⟨o.ms[i].c,p,q⟩) (d:=o.ms[i])
   rwa [hlen] at this
  rw [e] at h6;exact h6
structure CpN (w w':World) (o u:No):Prop where
 r:NoR w.heap.size w' u
 x:u.x=o.x
 su:u.su=o.su
 un:u.un=o.un
 f:OwnG w' 52 3 (Value.slice u.p1 u.x.fd.length u.c1) u.x.fd.length (zl_ u.x.fd) w.heap.size
 d:Own2 w' (.slice u.p2 u.su.length u.c2) (.slice u.p3 u.un.length u.c3) u.su u.un w.heap.size w'.heap.size
 ne:∀ k,(Value.slice u.p1 u.x.fd.length u.c1).ownBlock=some k->(Value.slice u.p2 u.su.length u.c2).ownBlock≠some k∧(Value.slice u.p3 u.un.length u.c3).ownBlock≠some k
 b:Below w.heap.size w w'
theorem vX_ (lo:Nat) (o:No) (w:World) (hm:o.ms.length<=1000) (hf:o.x.fd.length<=100000) (hs:o.su.length+o.un.length<=100000) (hl:∀ m ∈ o.ms,m.c.l.length<=1000) (h0:NoR lo w o) :
  Calls Tryz.prog 42 #[nV o] w fun e w'=>∃ u:No,e=.returned (nV u)∧CpN w w' o u:=by
 (try unfold nV);have H0:Hid (NoR lo w o∧(∀ m ∈ o.ms,m.c.l.length<=1000)):=⟨h0,hl⟩;have X0:Hid (Box ((w.alloc (.cells (nL o).toArray 29)).alloc (.cells nZ.toArray 29)) w.heap.size (nL o)∧Box ((w.alloc (.cells (nL o).toArray 29)).alloc (.cells nZ.toArray 29)) (w.heap.size+1) nZ∧Below w.heap.size w ((w.alloc (.cells (nL o).toArray 29)).alloc (.cells nZ.toArray 29))):=⟨zn_.alloc,by have:=zn_ (W:=(w.alloc (.cells (nL o).toArray 29))) (t:=29) (vs:=nZ); simpa using this,x1_⟩;have HXC:=hm_ h0.cs;clear h0 hl;go_enter Tryz.func42,Tryz.ntmps42;go_upto_region 1 with fail;generalize ((w.alloc (.cells (nL o).toArray 29)).alloc (.cells nZ.toArray 29))=W1 at *;obtain ⟨a0,a1,a2,a3,a4,a5,a6⟩:=X0.out.1.c7;obtain ⟨f0,f1,f2,f3,f4,f5,f6⟩:=X0.out.1.f7;go_wp2_with fail;refine Calls.mono (rw_ lo o.c0 o.p0 o.ms _ (by omega) (H0.out.1.r0.next X0.out.2.2)) ?_;rintro e W2 ⟨po,co,rfl,hO,hb⟩
 obtain ⟨gb,hI⟩:∃ gb,CqI w (W2.setCell ⟨w.heap.size,3,none⟩ (.slice po o.ms.length co)) gb 0 o po co []:=by
  have hx:Box (W2.setCell ⟨w.heap.size,3,none⟩ (.slice po o.ms.length co)) w.heap.size [.int .i64 o.x.id,.int .i64 o.x.n,.int .i64 o.x.cut,.slice po o.ms.length co,.slice o.p1 o.x.fd.length o.c1,.slice o.p2 o.su.length o.c2,.slice o.p3 o.un.length o.c3]:=by
   have:=(X0.out.1.next hb).set (i:=3) (u:=.slice po o.ms.length co) (by simp)
   simpa using this
  have hz:Box (W2.setCell ⟨w.heap.size,3,none⟩ (.slice po o.ms.length co)) (w.heap.size+1) nZ:=(X0.out.2.1.next hb).oth (by omega);have hbb:=zt_ (i:=3) (u:=.slice po o.ms.length co) (X0.out.2.2.trans (hb.mono X0.out.2.2.size)) (Nat.le_refl w.heap.size);by_cases hz0:o.ms=[]
  ·exact ⟨w.heap.size+2,hx,hz,by simp,fun y hy=>(by cases hy),.inl hz0,by omega,hbb⟩
  ·obtain ⟨k,hk⟩:∃ k,(Value.slice po o.ms.length co).ownBlock=some k:=by
    rcases hO.own.2 with ⟨h',h2⟩ | ⟨k,cap,cur,h',_⟩
    ·exact absurd (List.length_eq_zero_iff.1 h2) hz0
    ·rw [h']; exact ⟨k,rfl⟩
   obtain ⟨gb,rfl⟩:=sv_ hO ⟨k,hk⟩;have hge:W1.heap.size<=gb:=hO.ge gb rfl;have hlt:=(hO.lt gb rfl).2;have hz1:=X0.out.2.1.lt;refine ⟨gb,hx,hz,by simp,fun y hy=>(by cases hy),.inr ⟨rfl,r5_ hO,by simpa [World.setCell] using hlt,(w4_ hO).set,fun j hj=>?_⟩,by omega,hbb⟩;have hc:=p3_ hO j (by simpa using hj);simp only [List.nil_append,List.drop_zero];exact ⟨zg_ hc.1 (by omega),zg_ hc.2.1 (by omega),zg_ hc.2.2.1 (by omega),zg_ hc.2.2.2.1 (by omega),zg_ hc.2.2.2.2 (by omega)⟩
 have b3:=za_ hb a3 (zh_ a3);have f3':W2.frozen? ⟨w.heap.size,3,none⟩=false:=(X0.out.1.next hb).f7.2.2.2.1;clear hO hb a0 a1 a2 a3 a4 a5 a6 f0 f1 f2 f3 f4 f5 f6;go_upto_region 2 with fail;refine zH_ (fun W=>CqI w W gb 0 o po co []) hI (fun W3 hI=>?_);have Q0:=hm_ hI;clear hI X0 b3 f3';obtain ⟨a0,a1,a2,a3,a4,a5,a6⟩:=Q0.out.x.c7;go_wp2;go_loopw [12] (fun s12 wr=>∃ (i:Nat) (cs:List Cm),i<=o.ms.length∧s12=.int .i64 i∧CqI w wr gb i o po co cs) (fun s12 _=>o.ms.length - (intOf s12).toNat)
 case atStart=>exact ⟨0,[],by omega,rfl,Q0.out⟩
 case round=>
  obtain ⟨i,cs,hi,rfl,hI⟩:=hrel;have Q:=hm_ hI;clear hI Q0 a0 a1 a2 a3 a4 a5 a6;have kk:(0:Int)<=(i:Int):=by omega
  by_cases hil:i < o.ms.length
  ·have hil':(i:Int) < (o.ms.length:Int):=by omega
   have hlen:=Q.out.len hi;rcases Q.out.row with h' | ⟨hp,hco,hgb,hth,hcm⟩
   ·rw [h'] at hil; simp at hil
   have hix:i < (cs++o.ms.drop i).length:=by simp; omega
   have hx:=hcm i hix;rw [show (cs++o.ms.drop i)[i]'hix=o.ms[i] from by rw [List.getElem_append_right (by omega)]; simp [hlen]] at hx
   obtain ⟨x0,x1,x2,x3,x4⟩:=hx;rw [Nat.zero_add] at x0 x1 x2 x3 x4;have CO:Hid (∀ W,Below w.heap.size w W->Calls Tryz.prog 91 #[.agg #[.slice o.ms[i].p o.ms[i].c.l.length o.ms[i].q,.int .i64 o.ms[i].c.a,.int .i64 o.ms[i].c.b,.int .i64 o.ms[i].c.c]] W fun e w'=>∃ po co,e=.returned (.agg #[.slice po o.ms[i].c.l.length co,.int .i64 o.ms[i].c.a,.int .i64 o.ms[i].c.b,.int .i64 o.ms[i].c.c])∧GRow W.heap.size w' po (flat o.ms[i].c.l)∧o.ms[i].c.l.length<=co∧Below W.heap.size W w'):=fun W hW=>vk_ lo _ _ _ _ _ _ W (by have:=H0.out.2 _ (List.getElem_mem hil); omega) ((H0.out.1.rs _ (List.getElem_mem hil)).1.next hW)
   have PT:Hid (∀ W (p:Option Addr) (q:Nat),CqI w W gb i o po co cs->GRow (gb+1) W p (flat o.ms[i].c.l)->o.ms[i].c.l.length<=q->CqI w ((((W.setCell ⟨gb,i * 5+1,none⟩ (.slice p o.ms[i].c.l.length q)).setCell ⟨gb,i * 5+2,none⟩ (.int .i64 o.ms[i].c.a)).setCell ⟨gb,i * 5+3,none⟩ (.int .i64 o.ms[i].c.b)).setCell ⟨gb,i * 5+4,none⟩ (.int .i64 o.ms[i].c.c)) gb (i+1) o po co (cs++[⟨o.ms[i].c,p,q⟩])):=fun W p q h1 h2 h3=>h1.put hil h2 h3
   have TH:Hid (∀ W,CqI w W gb i o po co cs->gb < W.heap.size∧zQ_ W gb (co * 5)):=fun W h=>by
    rcases h.row with h' | ⟨_,_,h3,h4,_⟩
    ·rw [h'] at hil; simp at hil
    ·exact ⟨h3,h4⟩
   have HCO:Hid (i < co):=by show _ < _; omega
   have HIL:=hm_ hil;subst hp;clear hcm hth hlen hgb;generalize o.ms[i]=m at *;obtain ⟨a0,a1,a2,a3,a4,a5,a6⟩:=Q.out.x.c7;clear hil;go_upto_region 5 with fail;refine zH_ (fun W=>Box W wr.heap.size [.string m.c.k,.slice m.p m.c.l.length m.q,.int .i64 m.c.a,.int .i64 m.c.b,.int .i64 m.c.c]∧CqI w W gb i o (some ⟨gb,0,none⟩) co cs∧gb < wr.heap.size) ⟨zn_,Q.out.next (zb_ _ _),(TH.out _ Q.out).1⟩ (fun W4 hI=>?_);clear Q x0 x1 x2 x3 x4 a0 a1 a2 a3 a4 a5 a6;have Q1:=hm_ hI;clear hI;generalize wr.heap.size=gc at *;refine wp_region_held_drew (S:=(fun w'=>w'.cell? ⟨w.heap.size,3,none⟩=some (.slice (some ⟨gb,0,none⟩) o.ms.length co)∧w'.cell? ⟨gc,0,none⟩=some (.string m.c.k)∧w'.cell? ⟨gc,1,none⟩=some (.slice m.p m.c.l.length m.q)∧w'.cell? ⟨gc,2,none⟩=some (.int .i64 m.c.a)∧w'.cell? ⟨gc,3,none⟩=some (.int .i64 m.c.b)∧w'.cell? ⟨gc,4,none⟩=some (.int .i64 m.c.c))) (by kernel_rfl) ?_ (fun hH=>?_)
   ·(try dsimp only);exact ⟨(Q1.out.2.1.next (zd_ _)).x.c7.2.2.2.1,(Q1.out.1.next (zd_ _)).c5⟩
   replace Q1:Hid (Box W4.drew gc [.string m.c.k,.slice m.p m.c.l.length m.q,.int .i64 m.c.a,.int .i64 m.c.b,.int .i64 m.c.c]∧CqI w W4.drew gb i o (some ⟨gb,0,none⟩) co cs∧gb < gc):=⟨Q1.out.1.next (zd_ _),Q1.out.2.1.next (zd_ _),Q1.out.2.2⟩;generalize W4.drew=W5 at *;refine wTk 0 ?_;refine wTk 1 ?_;refine wTk 2 ?_;refine wTk 3 ?_;refine wTk 4 ?_;refine wRd 5 (fun K hK=>?_);go_simp;go_at_call 91;refine (CO.out _ Q1.out.2.1.b).mono ?_;rintro e W6 ⟨pn,qn,rfl,hg,hc,hb⟩;(try simp only []);have R6:Hid (GRow W5.heap.size W6 pn (flat m.c.l)∧m.c.l.length<=qn∧gb < W5.heap.size):=⟨hg,hc,(TH.out _ Q1.out.2.1).1⟩;replace Q1:Hid (Box W6 gc [.string m.c.k,.slice m.p m.c.l.length m.q,.int .i64 m.c.a,.int .i64 m.c.b,.int .i64 m.c.c]∧CqI w W6 gb i o (some ⟨gb,0,none⟩) co cs∧gb < gc):=⟨Q1.out.1.next hb,Q1.out.2.1.next hb,Q1.out.2.2⟩;refine wHk hK (⟨Q1.out.2.1.x.c7.2.2.2.1,Q1.out.1.c5⟩) ?_;clear hK K hH hg hc hb CO;intro hH;refine wTk 6 ?_;refine wTk 7 ?_;have hco:=HCO.out;obtain ⟨t1,e1⟩:=isx ((TH.out _ Q1.out.2.1).2 (i * 5+1) (by omega)).1;obtain ⟨t2,e2⟩:=isx ((TH.out _ Q1.out.2.1).2 (i * 5+2) (by omega)).1;obtain ⟨t3,e3⟩:=isx ((TH.out _ Q1.out.2.1).2 (i * 5+3) (by omega)).1;obtain ⟨t4,e4⟩:=isx ((TH.out _ Q1.out.2.1).2 (i * 5+4) (by omega)).1;have g1:=((TH.out _ Q1.out.2.1).2 (i * 5+1) (by omega)).2;have g2:=((TH.out _ Q1.out.2.1).2 (i * 5+2) (by omega)).2;have g3:=((TH.out _ Q1.out.2.1).2 (i * 5+3) (by omega)).2;have g4:=((TH.out _ Q1.out.2.1).2 (i * 5+4) (by omega)).2;refine wRd 8 (fun K hK=>?_);go_simp;(try simp only []);refine hK.out _ _ ?_ (fun hH'=>?_)
   ·(try dsimp only);have h1:=Q1.out.2.1.l;have h2:=Q1.out.2.2;exact ⟨((((Q1.out.2.1.x.oth (by omega)).oth (by omega)).oth (by omega)).oth (by omega)).c7.2.2.2.1,((((Q1.out.1.oth (by omega)).oth (by omega)).oth (by omega)).oth (by omega)).c5⟩
   clear hK K hH hH';refine wLy ?_;refine wDn ?_;have Q9:Hid _:=PT.out _ pn qn Q1.out.2.1 (R6.out.1.weak (by have:=R6.out.2.2; omega)) R6.out.2.1;clear e1 e2 e3 e4 g1 g2 g3 g4 Q1 R6 PT TH;go_wp2
   go_roundw
   case rel=>exact ⟨i+1,_,HIL.out,by go_num,Q9.out⟩
   case measure=>simp [intOf]; have:=HIL.out; omega
  ·have hil':¬ (i:Int) < (o.ms.length:Int):=by omega
   obtain ⟨a0,a1,a2,a3,a4,a5,a6⟩:=Q.out.x.c7
   have QZ:Hid (Box wr w.heap.size [.int .i64 o.x.id,.int .i64 o.x.n,.int .i64 o.x.cut,.slice po o.ms.length co,.slice o.p1 o.x.fd.length o.c1,.slice o.p2 o.su.length o.c2,.slice o.p3 o.un.length o.c3]∧Box wr (w.heap.size+1) nZ∧GRow (w.heap.size+2) wr po (zp_ cs)∧cs.map (·.c)=o.ms.map (·.c)∧(∀ y ∈ cs,GRow (w.heap.size+2) wr y.p (flat y.c.l)∧y.c.l.length<=y.q)∧cs.length<=co∧Below w.heap.size w wr):=by
    have hl:=Q.out.l;have hlen:=Q.out.len hi;have hn:i=o.ms.length:=by omega
    refine ⟨Q.out.x,Q.out.z,?_,by rw [Q.out.hc,List.take_of_length_le (by simp; omega)],fun y hy=>⟨(Q.out.r y hy).1.weak (by omega),(Q.out.r y hy).2⟩,?_,Q.out.b⟩
    ·rcases Q.out.row with h' | ⟨h1,h2,h3,h4,h5⟩
     ·left
      have:cs=[]:=List.length_eq_zero_iff.1 (by rw [hlen,hn,h']; rfl)
      rw [this]; rfl
     ·refine .inr ⟨gb,0,h1,by omega,qP_ cs 0 (fun j hj=>?_)⟩
      have:=h5 j (by simp; omega)
      rwa [List.getElem_append_left hj] at this
    ·rcases Q.out.row with h' | ⟨h1,h2,h3,h4,h5⟩
     ·rw [hlen,hn,h']; simp
     ·omega
   have HLC:Hid (cs.length=o.ms.length):=by have:=Q.out.len hi; show _=_; omega
   clear Q a0 a1 a2 a3 a4 a5 a6;go_upto_region 7 with fail;obtain ⟨a0,a1,a2,a3,a4,a5,a6⟩:=QZ.out.1.c7;obtain ⟨f0,f1,f2,f3,f4,f5,f6⟩:=QZ.out.1.f7;go_wp2_with fail;refine Calls.mono (ru_ lo o.c1 o.p1 o.x.fd _ (by omega) (H0.out.1.r1.next QZ.out.2.2.2.2.2.2)) ?_;rintro e W7 ⟨pe,ce,rfl,hO,hb⟩
   have Q7:Hid (Box (W7.setCell ⟨w.heap.size,4,none⟩ (.slice pe o.x.fd.length ce)) w.heap.size [.int .i64 o.x.id,.int .i64 o.x.n,.int .i64 o.x.cut,.slice po o.ms.length co,.slice pe o.x.fd.length ce,.slice o.p2 o.su.length o.c2,.slice o.p3 o.un.length o.c3]∧Box (W7.setCell ⟨w.heap.size,4,none⟩ (.slice pe o.x.fd.length ce)) (w.heap.size+1) nZ∧GRow (w.heap.size+2) (W7.setCell ⟨w.heap.size,4,none⟩ (.slice pe o.x.fd.length ce)) po (zp_ cs)∧cs.map (·.c)=o.ms.map (·.c)∧(∀ y ∈ cs,GRow (w.heap.size+2) (W7.setCell ⟨w.heap.size,4,none⟩ (.slice pe o.x.fd.length ce)) y.p (flat y.c.l)∧y.c.l.length<=y.q)∧cs.length<=co∧Below w.heap.size w (W7.setCell ⟨w.heap.size,4,none⟩ (.slice pe o.x.fd.length ce))∧OwnG (W7.setCell ⟨w.heap.size,4,none⟩ (.slice pe o.x.fd.length ce)) 52 3 (.slice pe o.x.fd.length ce) o.x.fd.length (zl_ o.x.fd) (w.heap.size+2)):=by
    obtain ⟨h1,h2,h3,h4,h5,h6,h7⟩:=QZ.out;have hz:=h2.lt;refine ⟨?_,(h2.next hb).oth (by omega),(h3.next hb).keep (zc_ (by omega)),h4,fun y hy=>⟨((h5 y hy).1.next hb).keep (zc_ (by omega)),(h5 y hy).2⟩,h6,zt_ (h7.trans (hb.mono h7.size)) (Nat.le_refl _),(hO.weak (by omega)).kp Kp.set (fun k hk e=>by have:=hO.ge k hk; omega)⟩
    have:=(h1.next hb).set (i:=4) (u:=.slice pe o.x.fd.length ce) (by simp)
    simpa using this
   have b4:=za_ hb a4 (zh_ a4);have f4':W7.frozen? ⟨w.heap.size,4,none⟩=false:=(QZ.out.1.next hb).f7.2.2.2.2.1;clear hO hb a0 a1 a2 a3 a4 a5 a6 f0 f1 f2 f3 f4 f5 f6 QZ;go_upto_region 8 with fail;generalize W7.setCell ⟨w.heap.size,4,none⟩ (.slice pe o.x.fd.length ce)=W8 at *;clear b4 f4';obtain ⟨a0,a1,a2,a3,a4,a5,a6⟩:=Q7.out.1.c7;obtain ⟨f0,f1,f2,f3,f4,f5,f6⟩:=Q7.out.1.f7;go_wp2_with fail;refine Calls.mono (wG_ (.slice o.p2 o.su.length o.c2) (.slice o.p3 o.un.length o.c3) o.su o.un _ (by omega) (by omega) (H0.out.1.next Q7.out.2.2.2.2.2.2.1).row.1 (H0.out.1.next Q7.out.2.2.2.2.2.2.1).row.2) ?_;rintro e W9 ⟨p2,c2,p3,c3,rfl,hb,hO⟩
   have Q9:Hid (Box W9 w.heap.size [.int .i64 o.x.id,.int .i64 o.x.n,.int .i64 o.x.cut,.slice po o.ms.length co,.slice pe o.x.fd.length ce,.slice o.p2 o.su.length o.c2,.slice o.p3 o.un.length o.c3]∧Box W9 (w.heap.size+1) nZ∧GRow (w.heap.size+2) W9 po (zp_ cs)∧cs.map (·.c)=o.ms.map (·.c)∧(∀ y ∈ cs,GRow (w.heap.size+2) W9 y.p (flat y.c.l)∧y.c.l.length<=y.q)∧cs.length<=co∧Below w.heap.size w W9∧OwnG W9 52 3 (.slice pe o.x.fd.length ce) o.x.fd.length (zl_ o.x.fd) (w.heap.size+2)∧Own2 W9 (.slice p2 o.su.length c2) (.slice p3 o.un.length c3) o.su o.un (w.heap.size+2) W9.heap.size∧∀ k,(Value.slice pe o.x.fd.length ce).ownBlock=some k->(Value.slice p2 o.su.length c2).ownBlock≠some k∧(Value.slice p3 o.un.length c3).ownBlock≠some k):=by
    obtain ⟨h1,h2,h3,h4,h5,h6,h7,h8⟩:=Q7.out;have hz:=h2.lt;exact ⟨h1.next hb,h2.next hb,h3.next hb,h4,fun y hy=>⟨(h5 y hy).1.next hb,(h5 y hy).2⟩,h6,h7.trans (hb.mono h7.size),h8.next hb,hO.weak (by omega) (Nat.le_refl _),fun k hk=>⟨fun e=>by have h9:=(hO.b0 k e).1; have:=(h8.lt k hk).2; omega,fun e=>by have h9:=(hO.b1 k e).1; have:=(h8.lt k hk).2; omega⟩⟩
   clear hO hb a0 a1 a2 a3 a4 a5 a6 f0 f1 f2 f3 f4 f5 f6 Q7 H0;obtain ⟨a0,a1,a2,a3,a4,a5,a6⟩:=Q9.out.1.c7;obtain ⟨f0,f1,f2,f3,f4,f5,f6⟩:=Q9.out.1.f7;obtain ⟨b0,b1,b2,b3,b4,b5,b6⟩:=Q9.out.2.1.c7;obtain ⟨g0,g1,g2,g3,g4,g5,g6⟩:=Q9.out.2.1.f7;go_wp2;refine bodyPost_ret (v:=.agg #[.int .i64 o.x.id,.int .i64 o.x.n,.int .i64 o.x.cut,.slice po o.ms.length co,.slice pe o.x.fd.length ce,.slice p2 o.su.length c2,.slice p3 o.un.length c3]) (by simp [results,Tryz.results42,go_sem, *]) rfl ?_;obtain ⟨h1,h2,h3,h4,h5,h6,h7,h8,h9,h10⟩:=Q9.out;have hlc:=HLC.out;clear a0 a1 a2 a3 a4 a5 a6 f0 f1 f2 f3 f4 f5 f6 b0 b1 b2 b3 b4 b5 b6 g0 g1 g2 g3 g4 g5 g6 Q9;have hK:∀ (V1:World) (i b:Nat) (u:Value),b < w.heap.size+2->Kp (fun k=>k < w.heap.size+2) V1 (V1.setCell ⟨b,i,none⟩ u):=fun V1 i b u hb=>⟨rfl,rfl,rfl,by simp [World.setCell],fun k _ hn=>Below.heap_setCell V1 ⟨b,i,none⟩ u k (by simp; omega)⟩
   have hT:∀ (A B D:World),Kp (fun k=>k < w.heap.size+2) A B->Kp (fun k=>k < w.heap.size+2) B D->Kp (fun k=>k < w.heap.size+2) A D:=fun A B D h1 h2=>h1.trans h2 (fun _ _ h=>h) (fun _ _ h=>h)
   have main:∀ Wz,Kp (fun k=>k < w.heap.size+2) W9 Wz->Below w.heap.size w Wz->∃ u:No,(Ending.returned (.agg #[.int .i64 o.x.id,.int .i64 o.x.n,.int .i64 o.x.cut,.slice po o.ms.length co,.slice pe o.x.fd.length ce,.slice p2 o.su.length c2,.slice p3 o.un.length c3])=.returned (nV u))∧CpN w Wz o u:=fun Wz hk hbz=>by
    have hkp:Kept (w.heap.size+2) W9 Wz:=fun b h1 h2=>hk.block b h2 (by omega)
    have o1:OwnG Wz 52 3 (.slice pe o.x.fd.length ce) o.x.fd.length (zl_ o.x.fd) (w.heap.size+2):=h8.kp hk (fun k hk e=>by have:=h8.ge k hk; omega);have q2:OwnG Wz 9 1 (.slice p2 o.su.length c2) o.su.length (V o.su) (w.heap.size+2):=(show OwnG W9 9 1 _ _ _ _ from ⟨h9.r0,fun k hk=>(h9.b0 k hk).1⟩).kp hk (fun k hk e=>by have:=(h9.b0 k hk).1; omega)
    have q3:OwnG Wz 9 1 (.slice p3 o.un.length c3) o.un.length (V o.un) (w.heap.size+2):=(show OwnG W9 9 1 _ _ _ _ from ⟨h9.r1,fun k hk=>(h9.b1 k hk).1⟩).kp hk (fun k hk e=>by have:=(h9.b1 k hk).1; omega)
    obtain ⟨_,_,e1,hc1,hg1⟩:=o1.grow;cases e1;obtain ⟨_,_,e2,hc2,hg2⟩:=q2.grow;cases e2;obtain ⟨_,_,e3,hc3,hg3⟩:=q3.grow;cases e3;refine ⟨⟨o.x,cs,po,co,pe,ce,p2,c2,p3,c3,o.su,o.un⟩,by simp [hlc],⟨?_,rfl,rfl,rfl,o1.weak (by omega),⟨q2.own,q3.own,fun k hk=>⟨by have:=q2.ge k hk; omega,(q2.lt k hk).2⟩,fun k hk=>⟨by have:=q3.ge k hk; omega,(q3.lt k hk).2⟩,h9.ne⟩,h10,hbz⟩⟩;have hxc:o.x.cs=cs.map (·.c):=by rw [h4]; exact HXC.out
    exact ⟨hxc,(h3.keep hkp).weak (by omega),hg1.weak (by omega),hg2.weak (by omega),hg3.weak (by omega),fun m hm=>⟨((h5 m hm).1.keep hkp).weak (by omega),(h5 m hm).2⟩,h6,hc1,hc2,hc3⟩
   refine main _ ?_ ?_
   ·repeat (with_reducible refine hT _ _ _ ?_ (hK _ _ _ _ (by omega)))
    with_reducible exact ⟨rfl,rfl,rfl,Nat.le_refl _,fun _ _ _=>rfl⟩
   ·repeat (with_reducible refine zt_ ?_ (by omega))
    with_reducible exact h7
end
end Go.Proofs.YtijcjhcgpmnchaaGreatDoor
