/- Nodes and their buckets, part 39 of the law FnDigest. -/
import Derived.Test.YtiokjphefpicbaaGreatDoorM07
import Derived.Test.YtiokjphefpicbaaGreatDoorM37
namespace Go.Proofs.YtiokjphefpicbaaGreatDoor
open Go.RowKit
set_option maxRecDepth 100000
set_option maxHeartbeats 16000000
set_option linter.unusedSimpArgs false
set_option linter.unusedVariables false
section
variable {C H:Cl} {M:ByteArray→Option Value} {W W' w:World} {b i mb n q1 vc:Nat} {kk:ByteArray} {t:TypeId} {v:Value} {vo:Option Addr}
def xD_ (C:Cl) (vo:Option Addr) (vc:Nat):Value:=.agg #[.string C.k,.slice vo C.l.length vc,.int .i64 C.a,.int .i64 C.b,.int .i64 C.c]
theorem tR_ (w:World):(zeroValue 91).run Tryz.prog w=.ok (.agg #[.string ⟨#[]⟩,.slice none 0 0,.int .i64 0,.int .i64 0,.int .i64 0]) w:=by
 go_simp
theorem oC_ {P:Program} {k e:TypeId} (h:MapF w P k b n M) (ht:P.underlying t=some (.map k e)):∃ m:Nat,m≤n∧∀ ty,(Builtin.len_ #[t] ty #[.map (some b)]).run P w=.ok (.int .i64 m) w:=by
 obtain ⟨D,⟨es,clock,hb,F,hn,hD⟩,h2,h3⟩:=h.view
 refine ⟨es.size,hn,fun ty=>?_⟩
 simp [Builtin.len_,run_underlying ht,MapKept.run_getObj_map hb,goInt,Result.andThen]
theorem zN_ (h:W.cell? ⟨b,i,none⟩=some v) (hg:W.grownBy W' (some mb)) (hne:b≠mb):W'.cell? ⟨b,i,none⟩=some v:=by
 rw [World.cell?_of_block (w:=W) (hg.block b (zg_ h) (fun e=>hne (by cases e; rfl)))]
 exact h
structure TakI (w W:World) (C H:Cl) (kk:ByteArray) (vo p1:Option Addr) (vc q1 g7:Nat):Prop where
 x:Box W w.heap.size [.slice vo C.l.length vc,.int .i64 C.a,.int .i64 C.b,.int .i64 C.c]
 y:Box W g7 [.string kk,.slice p1 H.l.length q1,.int .i64 H.a,.int .i64 H.b,.int .i64 H.c]
 b:Below w.heap.size w W
theorem TakI.next {p1:Option Addr} {g7:Nat} (h:TakI w W C H kk vo p1 vc q1 g7) (hb:Below W.heap.size W W'):TakI w W' C H kk vo p1 vc q1 g7:=⟨h.x.next hb,h.y.next hb,h.b.trans (hb.mono h.b.size)⟩
theorem tU_ (C H:Cl) (kk:ByteArray) (vo p1:Option Addr) (vc q1 g mb n:Nat) (M:ByteArray→Option Value) (w:World) (hk:keyP C.k) (hC:OkP C.l C.a C.b C.c) (hH:OkP H.l H.a H.b H.c) (hcov:sj C.a C.b C.c H.a H.b H.c C.l H.l=C.l) (hle:H.a≤C.a∧H.b≤C.b∧H.c≤C.c) (hne:¬ (H.l=C.l∧H.a=C.a∧H.b=C.b∧H.c=C.c)) (hn:n < 100) (hgm0:g≠mb) (hq:H.l.length≤q1)
  (hM:(M C.k).getD (.agg #[.string ⟨#[]⟩,.slice none 0 0,.int .i64 0,.int .i64 0,.int .i64 0])=.agg #[.string kk,.slice p1 H.l.length q1,.int .i64 H.a,.int .i64 H.b,.int .i64 H.c]) (h7:w.cell? ⟨g,7,none⟩=some (.map (some mb))) (hm:MapF w Tryz.prog 9 mb n M) (hr:zk_ w vo C.l) (hs:zk_ w p1 H.l) :
  Calls Tryz.prog 170 #[.pointer (some ⟨g,0,none⟩),.string C.k,.agg #[.slice vo C.l.length vc,.int .i64 C.a,.int .i64 C.b,.int .i64 C.c]] w fun e w'=>e=.returned (.bool true)∧MapF w' Tryz.prog 9 mb (n+1) (mset M C.k (xD_ C vo vc))∧∃ W5,Below w.heap.size w W5∧W5.grownBy w' (some mb):=by
 have hks:C.k.size≤6:=hk.2.1
 have hsz:C.k.size≤maxLen:=by unfold maxLen; omega
 have hcl:(C.l.length:Int)≤1048576:=by have:=hC.1; omega
 have hhl:(H.l.length:Int)≤1048576:=by have:=hH.1; omega
 have CV:Hid (∀ W,Below w.heap.size w W→Calls Tryz.prog 27 #[.agg #[.slice vo C.l.length vc,.int .i64 C.a,.int .i64 C.b,.int .i64 C.c],.agg #[.slice p1 H.l.length q1,.int .i64 H.a,.int .i64 H.b,.int .i64 H.c]] W fun e w'=>e=.returned (.tuple #[.bool true,.int .i64 0])∧Below W.heap.size W w'):=fun W hW=>vh_ vc q1 vo p1 C.l H.l C.a C.b C.c H.a H.b H.c true true ⟨fun _=>hC,fun _=>rfl⟩ ⟨fun _=>hH,fun _=>rfl⟩ true 0 ⟨fun h=>(h ⟨rfl,rfl⟩).elim,fun _ _=>⟨rfl,fun _=>(by
   rw [hcov,show max C.a H.a=C.a by omega,show max C.b H.b=C.b by omega,show max C.c H.c=C.c by omega]
   exact wK_ _ _ _ _),fun _=>rfl⟩⟩ W hcl hhl hq (zk_.next hW hr) (zk_.next hW hs)
 have CK:Hid (∀ W,Calls Tryz.prog 86 #[.string C.k] W fun e w'=>e=.returned (.bool true)∧Below W.heap.size W w'):=fun W=>w3_ C.k true ⟨fun _=>hk,fun _=>rfl⟩ W (by omega)
 have CS:Hid (∀ W,Below w.heap.size w W→Calls Tryz.prog 68 #[.agg #[.slice vo C.l.length vc,.int .i64 C.a,.int .i64 C.b,.int .i64 C.c],.agg #[.slice p1 H.l.length q1,.int .i64 H.a,.int .i64 H.b,.int .i64 H.c]] W fun e w'=>e=.returned (.bool false)∧Below W.heap.size W w'):=fun W hW=>xB_ vc q1 vo p1 C.l H.l C.a C.b C.c H.a H.b H.c false ⟨fun h=>Bool.noConfusion h,fun h=>(hne (by have:=rJ_ h; exact ⟨this.1.symm,this.2.1.symm,this.2.2.1.symm,this.2.2.2.symm⟩)).elim⟩ W hcl hhl (zk_.next hW hr) (zk_.next hW hs)
 have DD:Hid (∀ W,Below w.heap.size w W→W.cell? ⟨g,7,none⟩=some (.map (some mb))):=fun W hW=>za_ hW h7 (zg_ h7)
 have MM:Hid (∀ W,Below w.heap.size w W→MapF W Tryz.prog 9 mb n M):=fun W hW=>hm.next hW
 obtain ⟨fd,hfd⟩:∃ fd,fd=(M C.k).isSome:=⟨_,rfl⟩
 have LK:=(hm.next (zb_ w (.cells #[.slice vo C.l.length vc,.int .i64 C.a,.int .i64 C.b,.int .i64 C.c] 37))).look (t:=125) Tryz.underlying9 Tryz.underlying125 (tR_ _) true C.k hsz
 rw [hM,← hfd] at LK
 simp only [if_true] at LK
 have d7:=DD.out (w.alloc (.cells #[.slice vo C.l.length vc,.int .i64 C.a,.int .i64 C.b,.int .i64 C.c] 37)) (zb_ _ _)
 have T1:Hid (TakI w ((w.alloc (.cells #[.slice vo C.l.length vc,.int .i64 C.a,.int .i64 C.b,.int .i64 C.c] 37)).alloc (.cells #[.string kk,.slice p1 H.l.length q1,.int .i64 H.a,.int .i64 H.b,.int .i64 H.c] 91)) C H kk vo p1 vc q1 (w.heap.size+1)):=⟨zo_.alloc,by have:=zo_ (W:=(w.alloc (.cells #[.slice vo C.l.length vc,.int .i64 C.a,.int .i64 C.b,.int .i64 C.c] 37))) (t:=91) (vs:=[.string kk,.slice p1 H.l.length q1,.int .i64 H.a,.int .i64 H.b,.int .i64 H.c]); simpa using this,(zb_ _ _).trans ((zb_ _ _).mono (by simp))⟩
 have HMS:Hid (n < 100):=hn
 have hgm:Hid (g≠mb):=hgm0
 have hwm:Hid (w.heap.size≠mb):=by have:=hm.lt; show _≠_; omega
 clear hk hC hH hcov hle hne hq hM h7 hm hr hs hfd hn hgm0
 go_enter Tryz.func170,Tryz.ntmps170
 go_upto_region 2 with fail
 refine zQ_ (fun W=>TakI w W C H kk vo p1 vc q1 (w.heap.size+1)) T1.out (fun W2 hI=>?_)
 clear T1 LK d7
 have TI:=hm_ hI
 clear hI
 obtain ⟨x0,x1,x2,x3⟩:=TI.out.x.c4; obtain ⟨y0,y1,y2,y3,y4⟩:=TI.out.y.c5; have d7:=DD.out _ TI.out.b
 cases fd
 focus
  go_upto_region 5 with (first | (go_at_call 27; refine (CV.out _ TI.out.b).mono ?_; rintro e W3 ⟨rfl,hb⟩; clear x0 x1 x2 x3 y0 y1 y2 y3 y4 d7; replace TI:Hid _:=TI.out.next hb; clear hb; obtain ⟨x0,x1,x2,x3⟩:=TI.out.x.c4; obtain ⟨y0,y1,y2,y3,y4⟩:=TI.out.y.c5; have d7:=DD.out _ TI.out.b) | (go_at_call 86; refine (CK.out _).mono ?_; rintro e W4 ⟨rfl,hb⟩; clear x0 x1 x2 x3 y0 y1 y2 y3 y4 d7; replace TI:Hid _:=TI.out.next hb; clear hb; obtain ⟨x0,x1,x2,x3⟩:=TI.out.x.c4; obtain ⟨y0,y1,y2,y3,y4⟩:=TI.out.y.c5; have d7:=DD.out _ TI.out.b) | (go_at_call 68; refine (CS.out _ TI.out.b).mono ?_; rintro e W5 ⟨rfl,hb⟩; clear x0 x1 x2 x3 y0 y1 y2 y3 y4 d7; replace TI:Hid _:=TI.out.next hb; clear hb; obtain ⟨x0,x1,x2,x3⟩:=TI.out.x.c4; obtain ⟨y0,y1,y2,y3,y4⟩:=TI.out.y.c5; have d7:=DD.out _ TI.out.b; obtain ⟨m,hm,hlen⟩:=oC_ (MM.out _ TI.out.b) (t:=125) Tryz.underlying125; have hm9:=HMS.out; have hm8:¬ (100:Int)≤(m:Int):=by omega))
 rotate_left
 focus
  go_upto_region 5 with (first | (go_at_call 27; refine (CV.out _ TI.out.b).mono ?_; rintro e W3 ⟨rfl,hb⟩; clear x0 x1 x2 x3 y0 y1 y2 y3 y4 d7; replace TI:Hid _:=TI.out.next hb; clear hb; obtain ⟨x0,x1,x2,x3⟩:=TI.out.x.c4; obtain ⟨y0,y1,y2,y3,y4⟩:=TI.out.y.c5; have d7:=DD.out _ TI.out.b) | (go_at_call 86; refine (CK.out _).mono ?_; rintro e W4 ⟨rfl,hb⟩; clear x0 x1 x2 x3 y0 y1 y2 y3 y4 d7; replace TI:Hid _:=TI.out.next hb; clear hb; obtain ⟨x0,x1,x2,x3⟩:=TI.out.x.c4; obtain ⟨y0,y1,y2,y3,y4⟩:=TI.out.y.c5; have d7:=DD.out _ TI.out.b) | (go_at_call 68; refine (CS.out _ TI.out.b).mono ?_; rintro e W5 ⟨rfl,hb⟩; clear x0 x1 x2 x3 y0 y1 y2 y3 y4 d7; replace TI:Hid _:=TI.out.next hb; clear hb; obtain ⟨x0,x1,x2,x3⟩:=TI.out.x.c4; obtain ⟨y0,y1,y2,y3,y4⟩:=TI.out.y.c5; have d7:=DD.out _ TI.out.b))
 rotate_left
 all_goals
  clear x0 x1 x2 x3 y0 y1 y2 y3 y4 d7
  refine wp_region_held_drew (S:=(fun w'=>w'.cell? ⟨g,7,none⟩=some (.map (some mb))∧w'.cell? ⟨w.heap.size,0,none⟩=some (.slice vo C.l.length vc)∧w'.cell? ⟨w.heap.size,1,none⟩=some (.int .i64 C.a)∧w'.cell? ⟨w.heap.size,2,none⟩=some (.int .i64 C.b)∧w'.cell? ⟨w.heap.size,3,none⟩=some (.int .i64 C.c))) (by kernel_rfl) ?_ (fun hH=>?_)
  ·(try dsimp only)
   exact ⟨DD.out _ (TI.out.next (zc_ _)).b,(TI.out.next (zc_ _)).x.c4⟩
  replace TI:=hm_ (TI.out.next (zc_ _))
  refine wTk 0 ?_
  refine wTk 1 ?_
  refine wTk 2 ?_
  refine wTk 3 ?_
  refine wTk 4 ?_
  refine wTk 5 ?_
  refine wTk 6 ?_
  refine wTk 7 ?_
  generalize W5.drew=wd at *
  obtain ⟨w9,hrun,hM9,hg9⟩:=(MM.out _ TI.out.b).store (t:=125) Tryz.underlying9 Tryz.underlying125 (by have:=HMS.out; unfold maxLen; omega) C.k hsz (xD_ C vo vc)
  unfold xD_ at hrun
  refine wRd 8 (fun K hK=>?_)
  go_simp
  (try simp only [])
  refine hK.out _ _ ?_ (fun hH'=>?_)
  ·(try dsimp only)
   obtain ⟨x0,x1,x2,x3⟩:=TI.out.x.c4; exact ⟨zN_ (DD.out _ TI.out.b) hg9 hgm.out,zN_ x0 hg9 hwm.out,zN_ x1 hg9 hwm.out,zN_ x2 hg9 hwm.out,zN_ x3 hg9 hwm.out⟩
  clear hK K hH
  have hH:=hH'
  clear hH'
  refine wLy ?_
  refine wDn ?_
  clear hH hrun
  have HM9:Hid (MapF w9 Tryz.prog 9 mb (n+1) (mset M C.k (xD_ C vo vc))∧wd.grownBy w9 (some mb)):=⟨hM9,hg9⟩
  clear hM9 hg9
  go_wp2
  go_ret
  exact ⟨rfl,HM9.out.1,wd,TI.out.b,HM9.out.2⟩
end
section
variable {W W':World} {g lo mb:Nat} {p:Option Addr} {v0 v1 v2 v3 v4 v5 v6:Value} {vs:List Value}
theorem Box.c8 {v7:Value} (h:Box W g [v0,v1,v2,v3,v4,v5,v6,v7]):W.cell? ⟨g,0,none⟩=some v0∧W.cell? ⟨g,1,none⟩=some v1∧W.cell? ⟨g,2,none⟩=some v2∧W.cell? ⟨g,3,none⟩=some v3∧W.cell? ⟨g,4,none⟩=some v4∧W.cell? ⟨g,5,none⟩=some v5∧W.cell? ⟨g,6,none⟩=some v6∧W.cell? ⟨g,7,none⟩=some v7:=⟨(h.is 0 (by simp)).1,(h.is 1 (by simp)).1,(h.is 2 (by simp)).1,(h.is 3 (by simp)).1,(h.is 4 (by simp)).1,(h.is 5 (by simp)).1,(h.is 6 (by simp)).1,(h.is 7 (by simp)).1⟩
theorem Box.f8 {v7:Value} (h:Box W g [v0,v1,v2,v3,v4,v5,v6,v7]):W.frozen? ⟨g,0,none⟩=false∧W.frozen? ⟨g,1,none⟩=false∧W.frozen? ⟨g,2,none⟩=false∧W.frozen? ⟨g,3,none⟩=false∧W.frozen? ⟨g,4,none⟩=false∧W.frozen? ⟨g,5,none⟩=false∧W.frozen? ⟨g,6,none⟩=false∧W.frozen? ⟨g,7,none⟩=false:=⟨(h.is 0 (by simp)).2,(h.is 1 (by simp)).2,(h.is 2 (by simp)).2,(h.is 3 (by simp)).2,(h.is 4 (by simp)).2,(h.is 5 (by simp)).2,(h.is 6 (by simp)).2,(h.is 7 (by simp)).2⟩
theorem wO_ (C:Cl) (hC:OkP C.l C.a C.b C.c) (w:World):Calls Tryz.prog 168 #[.string ⟨(objT (vvT C.a C.b C.c) C.l).toArray⟩] w fun e w'=>∃ vo vc,e=.returned (.tuple #[.agg #[.slice vo C.l.length vc,.int .i64 C.a,.int .i64 C.b,.int .i64 C.c],.int .i64 0])∧GRow w.heap.size w' vo (flat C.l)∧C.l.length≤vc∧Below w.heap.size w w':=by
 have hs:(objT (vvT C.a C.b C.c) C.l).length≤4000:=xy_ hC
 have hz:(⟨(objT (vvT C.a C.b C.c) C.l).toArray⟩:ByteArray).size≤4000:=by rw [vF_]; exact hs
 have hbl:bl (⟨(objT (vvT C.a C.b C.c) C.l).toArray⟩:ByteArray)=objT (vvT C.a C.b C.c) C.l:=by simp [bl]
 refine (v4_ ⟨(objT (vvT C.a C.b C.c) C.l).toArray⟩ C.l C.a C.b C.c 0 ⟨fun h=>by omega,fun _ x' y' z' m' h=>by rw [hbl] at h; obtain ⟨h1,h2,h3,h4⟩:=uV_ (x7_ hC) h; exact ⟨h1,h2,h3,h4,rfl⟩,fun _ hn=>by rw [hbl] at hn; exact (hn _ _ _ _ (x7_ hC)).elim⟩ w (by omega)).mono ?_
 rintro e w' ⟨v,rfl,ho,hk,hb⟩
 obtain ⟨p,c,rfl,hc,hG⟩:=yl_ ho (fun k h=>Nat.le_of_lt (hk k h))
 exact ⟨p,c,rfl,hG,hc,hb⟩
def DjP (w:World) (mb n:Nat) (M:ByteArray→Option Value) (C:Cl) (w':World):Prop:=∃ vo vc W5,MapF w' Tryz.prog 9 mb (n+1) (mset M C.k (xD_ C vo vc))∧GRow w.heap.size w' vo (flat C.l)∧C.l.length≤vc∧Below w.heap.size w W5∧W5.grownBy w' (some mb)
theorem oQ_ (h:GRow lo W p vs) (hg:W.grownBy W' (some mb)) (hm:mb < lo):GRow lo W' p vs:=h.keep (wh_ hg hm)
theorem qE_ (o:No) (C H:Cl) (kk:ByteArray) (p1:Option Addr) (q1 g mb n:Nat) (M:ByteArray→Option Value) (w:World) (hk:keyP C.k) (hC:OkP C.l C.a C.b C.c) (hH:OkP H.l H.a H.b H.c) (hcov:sj C.a C.b C.c H.a H.b H.c C.l H.l=C.l) (hle:H.a≤C.a∧H.b≤C.b∧H.c≤C.c) (hne:¬ (H.l=C.l∧H.a=C.a∧H.b=C.b∧H.c=C.c)) (hn:n < 100) (hgm0:g≠mb) (hq:H.l.length≤q1)
  (hid:0≤o.x.id∧o.x.id < 3) (hbn:0≤o.x.n∧o.x.n < 9999) (hj:comp C.a C.b C.c o.x.id≤o.x.n) (hM:(M C.k).getD (.agg #[.string ⟨#[]⟩,.slice none 0 0,.int .i64 0,.int .i64 0,.int .i64 0])=.agg #[.string kk,.slice p1 H.l.length q1,.int .i64 H.a,.int .i64 H.b,.int .i64 H.c]) (hx:Box w g [.int .i64 o.x.id,.int .i64 o.x.n,.int .i64 o.x.cut,.slice none 0 0,.slice o.p1 o.x.fd.length o.c1,.slice o.p2 o.su.length o.c2,.slice o.p3 o.un.length o.c3,.map (some mb)]) (hm:MapF w Tryz.prog 9 mb n M) (hs:zk_ w p1 H.l) :
  Calls Tryz.prog 141 #[.pointer (some ⟨g,0,none⟩),.string C.k,.string ⟨(objT (vvT C.a C.b C.c) C.l).toArray⟩] w fun e w'=>e=.returned (.bool true)∧DjP w mb n M C w':=by
 have CRO:Hid _:=wO_ C hC w
 have CN:Hid (∀ W,Calls Tryz.prog 45 #[.agg #[.int .i64 o.x.id,.int .i64 o.x.n,.int .i64 o.x.cut,.slice none 0 0,.slice o.p1 o.x.fd.length o.c1,.slice o.p2 o.su.length o.c2,.slice o.p3 o.un.length o.c3]] W fun e w'=>e=.returned (.agg #[.int .i64 o.x.id,.int .i64 (o.x.n+1)])∧Below W.heap.size W w'):=fun W=>wX_ ⟨o.x,[],none,0,o.p1,o.c1,o.p2,o.c2,o.p3,o.c3,o.su,o.un⟩ W hbn.1 hbn.2
 have CK:Hid (∀ W,Calls Tryz.prog 66 #[.agg #[.int .i64 C.a,.int .i64 C.b,.int .i64 C.c],.agg #[.int .i64 o.x.id,.int .i64 (o.x.n+1)]] W fun e w'=>e=.returned (.bool false)∧Below W.heap.size W w'):=fun W=>by
  have h:=w0_ C.a C.b C.c o.x.id (o.x.n+1) W hid.1 hid.2
  rw [show decide (o.x.n+1≤comp C.a C.b C.c o.x.id)=false by simp; omega] at h
  exact h
 have CTK:Hid (∀ W vo vc,Below w.heap.size w W→zk_ W vo C.l→Calls Tryz.prog 170 #[.pointer (some ⟨g,0,none⟩),.string C.k,.agg #[.slice vo C.l.length vc,.int .i64 C.a,.int .i64 C.b,.int .i64 C.c]] W fun e w'=>e=.returned (.bool true)∧MapF w' Tryz.prog 9 mb (n+1) (mset M C.k (xD_ C vo vc))∧∃ W5,Below W.heap.size W W5∧W5.grownBy w' (some mb)):=fun W vo vc hW hr=>
  tU_ C H kk vo p1 vc q1 g mb n M W hk hC hH hcov hle hne hn hgm0 hq hM (hx.next hW).c8.2.2.2.2.2.2.2 (hm.next hW) hr (zk_.next hW hs)
 have HX:=hm_ hx
 have NG:Hid (g≠mb):=hgm0
 have HML:=hm_ hm.lt
 clear hk hC hH hcov hle hne hn hgm0 hq hid hbn hj hM hx hm hs
 go_enter Tryz.func141,Tryz.ntmps141
 go_wp2_with fail
 refine Calls.mono CRO.out ?_
 rintro e w1 ⟨vo,vc,rfl,hg,hvc,hb⟩
 have HV:Hid (GRow w.heap.size w1 vo (flat C.l)∧C.l.length≤vc∧Below w.heap.size w w1):=⟨hg,hvc,hb⟩
 clear hg hvc hb
 go_upto_region 2 with fail
 refine zQ_ (fun W=>Box W w1.heap.size [.slice vo C.l.length vc,.int .i64 C.a,.int .i64 C.b,.int .i64 C.c]∧Box W g [.int .i64 o.x.id,.int .i64 o.x.n,.int .i64 o.x.cut,.slice none 0 0,.slice o.p1 o.x.fd.length o.c1,.slice o.p2 o.su.length o.c2,.slice o.p3 o.un.length o.c3,.map (some mb)]∧GRow w.heap.size W vo (flat C.l)∧Below w.heap.size w W∧w1.heap.size≠mb) ⟨zo_,(HX.out.next HV.out.2.2).alloc,HV.out.1.next (zb_ _ _),HV.out.2.2.trans ((zb_ _ _).mono HV.out.2.2.size),by have:=HML.out; have:=HV.out.2.2.size; omega⟩ (fun W1 hI=>?_)
 have HVC:Hid (C.l.length≤vc):=HV.out.2.1
 clear HV CRO HX
 generalize w1.heap.size=g7 at *
 have B1:=hm_ hI.1
 have D1:=hm_ hI.2.1
 have G1:=hm_ hI.2.2.1
 have BB:=hm_ hI.2.2.2.1
 have N7:Hid (g7≠mb):=hI.2.2.2.2
 clear hI
 have CT:Hid (∀ W,Below W1.heap.size W1 W→Calls Tryz.prog 170 #[.pointer (some ⟨g,0,none⟩),.string C.k,.agg #[.slice vo C.l.length vc,.int .i64 C.a,.int .i64 C.b,.int .i64 C.c]] W fun e w'=>e=.returned (.bool true)∧MapF w' Tryz.prog 9 mb (n+1) (mset M C.k (xD_ C vo vc))∧∃ W5,Below W.heap.size W W5∧W5.grownBy w' (some mb)):=fun W hW=>CTK.out W vo vc (BB.out.trans (hW.mono BB.out.size)) (G1.out.next hW).sib
 clear CTK
 refine wp_region_held_drew (S:=(fun w'=>(w'.cell? ⟨g7,0,none⟩=some (.slice vo C.l.length vc)∧w'.cell? ⟨g7,1,none⟩=some (.int .i64 C.a)∧w'.cell? ⟨g7,2,none⟩=some (.int .i64 C.b)∧w'.cell? ⟨g7,3,none⟩=some (.int .i64 C.c))∧(w'.cell? ⟨g,0,none⟩=some (.int .i64 o.x.id)∧w'.cell? ⟨g,1,none⟩=some (.int .i64 o.x.n)∧w'.cell? ⟨g,2,none⟩=some (.int .i64 o.x.cut)∧w'.cell? ⟨g,3,none⟩=some (.slice none 0 0)∧w'.cell? ⟨g,4,none⟩=some (.slice o.p1 o.x.fd.length o.c1)∧w'.cell? ⟨g,5,none⟩=some (.slice o.p2 o.su.length o.c2)∧w'.cell? ⟨g,6,none⟩=some (.slice o.p3 o.un.length o.c3)∧w'.cell? ⟨g,7,none⟩=some (.map (some mb))))) (by kernel_rfl) ?_ (fun hH=>?_)
 ·(try dsimp only)
  exact ⟨(B1.out.next (zc_ _)).c4,(D1.out.next (zc_ _)).c8⟩
 have BW:Hid (Below W1.heap.size W1 W1.drew):=zc_ _
 refine wTk 0 ?_
 refine wTk 1 ?_
 refine wTk 2 ?_
 refine wTk 3 ?_
 refine wTk 4 ?_
 refine wTk 5 ?_
 refine wTk 6 ?_
 refine wTk 7 ?_
 refine wTk 8 ?_
 generalize W1.drew=wd at *
 refine wRd 9 (fun K hK=>?_)
 go_simp
 (go_at_call 45; refine (CN.out _).mono ?_; rintro e x9 ⟨rfl,hb⟩; replace BW:=ze_ BW hb; clear hb)
 (try simp only [])
 refine wHk hK (⟨(B1.out.next BW.out).c4,(D1.out.next BW.out).c8⟩) ?_
 clear hK K hH
 intro hH
 refine wRd 10 (fun K hK=>?_)
 go_simp
 (go_at_call 66; refine (CK.out _).mono ?_; rintro e x10 ⟨rfl,hb⟩; replace BW:=ze_ BW hb; clear hb)
 (try simp only [])
 refine wHk hK (⟨(B1.out.next BW.out).c4,(D1.out.next BW.out).c8⟩) ?_
 clear hK K hH
 intro hH
 refine wTk 11 ?_
 refine wTk 12 ?_
 refine wTk 13 ?_
 refine wTk 14 ?_
 refine wTk 15 ?_
 refine wTk 16 ?_
 refine wRd 17 (fun K hK=>?_)
 go_simp
 (go_at_call 170; refine (CT.out _ BW.out).mono ?_; rintro e x17 ⟨rfl,hM9,W5,hb5,hg5⟩; have TP:Hid (MapF x17 Tryz.prog 9 mb (n+1) (mset M C.k (xD_ C vo vc))∧Below _ _ W5∧W5.grownBy x17 (some mb)):=⟨hM9,hb5,hg5⟩; clear hM9 hb5 hg5)
 (try simp only [])
 refine hK.out _ _ ?_ (fun hH'=>?_)
 ·(try dsimp only)
  (obtain ⟨y0,y1,y2,y3⟩:=(B1.out.next (BW.out.trans (TP.out.2.1.mono BW.out.size))).c4; obtain ⟨z0,z1,z2,z3,z4,z5,z6,z7⟩:=(D1.out.next (BW.out.trans (TP.out.2.1.mono BW.out.size))).c8; exact ⟨⟨zN_ y0 TP.out.2.2 N7.out,zN_ y1 TP.out.2.2 N7.out,zN_ y2 TP.out.2.2 N7.out,zN_ y3 TP.out.2.2 N7.out⟩,⟨zN_ z0 TP.out.2.2 NG.out,zN_ z1 TP.out.2.2 NG.out,zN_ z2 TP.out.2.2 NG.out,zN_ z3 TP.out.2.2 NG.out,zN_ z4 TP.out.2.2 NG.out,zN_ z5 TP.out.2.2 NG.out,zN_ z6 TP.out.2.2 NG.out,zN_ z7 TP.out.2.2 NG.out⟩⟩)
 clear hK K
 clear hH
 have hH:=hH'
 clear hH'
 refine wLy ?_
 refine wTk 18 ?_
 refine wTk 19 ?_
 refine wDn ?_
 clear hH
 go_wp2
 go_ret
 have hb9:=BW.out.trans (TP.out.2.1.mono BW.out.size)
 exact ⟨rfl,vo,vc,_,TP.out.1,oQ_ (G1.out.next hb9) TP.out.2.2 HML.out,HVC.out,BB.out.trans (hb9.mono BB.out.size),TP.out.2.2⟩
end
end Go.Proofs.YtiokjphefpicbaaGreatDoor
