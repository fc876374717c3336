/- Nodes and their buckets, part 40 of the law FnDigest. -/
import Derived.Test.YtiokjphefpicbaaGreatDoorM39
namespace Go.Proofs.YtiokjphefpicbaaGreatDoor
open Go.RowKit
set_option maxRecDepth 100000
set_option maxHeartbeats 16000000
set_option linter.unusedSimpArgs false
set_option linter.unusedVariables false
variable {M:ByteArray→Option Value} {W W' w w':World} {b base e g i lo mb n:Nat} {p:Option Addr} {u v v':Value} {vs xs:List Value}
structure Kp (E:Nat→Prop) (w w':World):Prop where
 os:w'.os=w.os
 tape:w'.tape=w.tape
 output:w'.output=w.output
 size:w.heap.size≤w'.heap.size
 block:∀ b,b < w.heap.size→¬ E b→w'.heap[b]? = w.heap[b]?
theorem Kp.of_below {E:Nat→Prop} (h:Below w.heap.size w w'):Kp E w w':=⟨h.os,h.tape,h.output,h.size,fun b hb _=>h.block b hb⟩
theorem Kp.of_grown (h:w.grownBy w' (some mb)):Kp (· = mb) w w':=⟨h.os,h.tape,h.output,h.size,fun b hb hn=>h.block b hb (fun e=>hn (by cases e; rfl))⟩
theorem Kp.of_gro (h:Gro w w' v v'):Kp (fun b=>v.ownBlock=some b) w w':=⟨h.grown.os,h.grown.tape,h.grown.output,h.grown.size,fun b hb hn=>h.grown.block b hb (fun e=>hn e.symm)⟩
theorem Kp.set:Kp (· = g) W (W.setCell ⟨g,i,none⟩ u):=⟨rfl,rfl,rfl,by simp [World.setCell],fun b _ hn=>Below.heap_setCell W ⟨g,i,none⟩ u b hn⟩
theorem Kp.trans {E E' E2:Nat→Prop} {a b c:World} (h:Kp E a b) (k:Kp E' b c) (h1:∀ x,x < a.heap.size→E x→E2 x) (h2:∀ x,x < a.heap.size→E' x→E2 x):Kp E2 a c:=
 ⟨k.os.trans h.os,k.tape.trans h.tape,k.output.trans h.output,Nat.le_trans h.size k.size,fun x hx hn=>(k.block x (Nat.lt_of_lt_of_le hx h.size) (fun e=>hn (h2 x hx e))).trans (h.block x hx (fun e=>hn (h1 x hx e)))⟩
theorem Kp.below {E:Nat→Prop} (h:Kp E w w') (hb:base≤w.heap.size) (he:∀ b,b < base→¬ E b):Below base w w':=⟨h.os,h.tape,h.output,h.size,fun b hb'=>h.block b (by omega) (he b hb')⟩
theorem Box.kp {E:Nat→Prop} (h:Box W g vs) (k:Kp E W W') (hn:¬ E g):Box W' g vs:=
 ⟨fun j hj=>⟨by rw [World.cell?_of_block (w:=W) (k.block g h.lt hn)]; exact (h.is j hj).1,by rw [World.frozen?_of_block (w:=W) (k.block g h.lt hn)]; exact (h.is j hj).2⟩,Nat.lt_of_lt_of_le h.lt k.size⟩
theorem GRow.kp {E:Nat→Prop} (h:GRow lo W p vs) (k:Kp E W W') (hn:∀ x,p=some x→vs≠[]→¬ E x.block):GRow lo W' p vs:=by
 rcases h with h | ⟨b,off,h1,h2,h3⟩
 ·exact .inl h
 ·by_cases hv:vs=[]
  ·exact .inl hv
  ·refine .inr ⟨b,off,h1,h2,fun j hj=>?_⟩
   rw [World.cell?_of_block (w:=W) (k.block b (zg_ (h3 j hj)) (hn _ h1 hv))]
   exact h3 j hj
theorem MapF.kp {E:Nat→Prop} {P:Program} {k:TypeId} (h:MapF w P k b n M) (q:Kp E w w') (hn:¬ E b):MapF w' P k b n M:=by
 have hl:=h.lt
 obtain ⟨D,⟨es,clock,hb,F,hn',hD⟩,h2,h3⟩:=h.view
 exact ⟨⟨D,⟨es,clock,(q.block b hl hn).trans hb,F,hn',hD⟩,h2,h3⟩⟩
theorem OwnG.kp {E:Nat→Prop} {size:Nat} (h:OwnG W e size v n xs lo) (q:Kp E W W') (hn:∀ k,v.ownBlock=some k→¬ E k):OwnG W' e size v n xs lo:=by
 refine ⟨⟨h.own.1,?_⟩,h.ge⟩
 rcases h.own.2 with h' | ⟨g,cap,cur,rfl,hb,hh,r⟩
 ·exact .inl h'
 ·exact .inr ⟨g,cap,cur,rfl,hb,(q.block g (h.own.lt g rfl).2 (hn g rfl)).trans hh,r⟩
structure PI (E:Nat→Prop) (w W:World) (ds:List Value) (o:No) (C:Cl) (vo:Option Addr) (vc lo g mb n g9:Nat) (M:ByteArray→Option Value):Prop where
 k:Kp E w W
 m:MapF W Tryz.prog 9 mb (n+1) (mset M C.k (xD_ C vo vc))
 e:Box W g9 [.int .i64 o.x.id,.int .i64 (o.x.n+1)]
 d:Box W g ds
 v:GRow w.heap.size W vo (flat C.l)
 f:OwnG W 52 3 (Value.slice o.p1 o.x.fd.length o.c1) o.x.fd.length (zm_ o.x.fd) lo
def DpP (w:World) (o:No) (lo g mb n:Nat) (M:ByteArray→Option Value) (C:Cl) (w':World):Prop:=∃ vo vc pf cf,MapF w' Tryz.prog 9 mb (n+1) (mset M C.k (xD_ C vo vc))∧(GRow w.heap.size w' vo (flat C.l)∧C.l.length≤vc)∧Box w' g [.int .i64 o.x.id,.int .i64 (o.x.n+1),.int .i64 o.x.cut,.slice none 0 0,.slice pf (o.x.fd.length+1) cf,.slice o.p2 o.su.length o.c2,.slice o.p3 o.un.length o.c3,.map (some mb)]∧OwnG w' 52 3 (Value.slice pf (o.x.fd.length+1) cf) (o.x.fd.length+1) (zm_ (o.x.fd++[⟨o.x.id,o.x.n+1,C.k⟩])) lo∧Kp (fun b=>b=g∨b=mb∨(Value.slice o.p1 o.x.fd.length o.c1).ownBlock=some b) w w'∧(∀ k,(Value.slice pf (o.x.fd.length+1) cf).ownBlock=some k→(Value.slice o.p1 o.x.fd.length o.c1).ownBlock=some k∨w.heap.size≤k)∧(∀ x,vo=some x→flat C.l≠[]→(Value.slice pf (o.x.fd.length+1) cf).ownBlock≠some x.block)
theorem w5_ {x:Addr} (h:GRow lo W p vs) (hx:p=some x) (hv:vs≠[]):x.block < W.heap.size:=by
 rcases h with h | ⟨b,off,h1,_,h3⟩
 ·exact (hv h).elim
 ·rw [h1] at hx
  cases hx
  exact zg_ (h3 0 (List.length_pos_iff.2 hv))
theorem pN_ (o:No) (C H:Cl) (kk:ByteArray) (p1:Option Addr) (q1 lo g mb n:Nat) (M:ByteArray→Option Value) (w:World) (hk:keyP C.k) (hC:OkP C.l C.a C.b C.c) (hH:OkP H.l H.a H.b H.c) (hcov:sj C.a C.b C.c H.a H.b H.c C.l H.l=C.l) (hle:H.a≤C.a∧H.b≤C.b∧H.c≤C.c) (hne:¬ (H.l=C.l∧H.a=C.a∧H.b=C.b∧H.c=C.c)) (hn:n < 100) (hgm0:g≠mb) (hq:H.l.length≤q1)
  (hid:o.x.id=0∨o.x.id=1∨o.x.id=2) (hbn:0≤o.x.n∧o.x.n < 9999) (hfl:o.x.fd.length≤100000) (hp:HasD C.l o.x.id (o.x.n+1)) (hj:comp C.a C.b C.c o.x.id=o.x.n+1) (hlo:g < lo∧mb < lo∧lo≤w.heap.size) (hf:OwnG w 52 3 (Value.slice o.p1 o.x.fd.length o.c1) o.x.fd.length (zm_ o.x.fd) lo) (hM:(M C.k).getD (.agg #[.string ⟨#[]⟩,.slice none 0 0,.int .i64 0,.int .i64 0,.int .i64 0])=.agg #[.string kk,.slice p1 H.l.length q1,.int .i64 H.a,.int .i64 H.b,.int .i64 H.c]) (hx:Box w g [.int .i64 o.x.id,.int .i64 o.x.n,.int .i64 o.x.cut,.slice none 0 0,.slice o.p1 o.x.fd.length o.c1,.slice o.p2 o.su.length o.c2,.slice o.p3 o.un.length o.c3,.map (some mb)]) (hm:MapF w Tryz.prog 9 mb n M) (hs:zk_ w p1 H.l) :
  Calls Tryz.prog 140 #[.pointer (some ⟨g,0,none⟩),.string C.k,.string ⟨(objT (vvT C.a C.b C.c) C.l).toArray⟩] w fun e w'=>e=.returned (.bool true)∧DpP w o lo g mb n M C w':=by
 have CRO:Hid _:=wO_ C hC w
 have hcl:(C.l.length:Int)≤1048576:=by have:=hC.1; omega
 have CN:Hid (∀ W,Calls Tryz.prog 45 #[.agg #[.int .i64 o.x.id,.int .i64 o.x.n,.int .i64 o.x.cut,.slice none 0 0,.slice o.p1 o.x.fd.length o.c1,.slice o.p2 o.su.length o.c2,.slice o.p3 o.un.length o.c3]] W fun e w'=>e=.returned (.agg #[.int .i64 o.x.id,.int .i64 (o.x.n+1)])∧Below W.heap.size W w'):=fun W=>wX_ ⟨o.x,[],none,0,o.p1,o.c1,o.p2,o.c2,o.p3,o.c3,o.su,o.un⟩ W hbn.1 hbn.2
 have CHS:Hid (∀ W vo vc,zk_ W vo C.l→Calls Tryz.prog 169 #[.agg #[.slice vo C.l.length vc,.int .i64 C.a,.int .i64 C.b,.int .i64 C.c],.agg #[.int .i64 o.x.id,.int .i64 (o.x.n+1)]] W fun e w'=>e=.returned (.bool true)∧Below W.heap.size W w'):=fun W vo vc hr=>vi_ vc vo C.l C.a C.b C.c o.x.id (o.x.n+1) W hcl hp hr
 have CTK:Hid (∀ W vo vc,Below w.heap.size w W→zk_ W vo C.l→Calls Tryz.prog 170 #[.pointer (some ⟨g,0,none⟩),.string C.k,.agg #[.slice vo C.l.length vc,.int .i64 C.a,.int .i64 C.b,.int .i64 C.c]] W fun e w'=>e=.returned (.bool true)∧MapF w' Tryz.prog 9 mb (n+1) (mset M C.k (xD_ C vo vc))∧∃ W5,Below W.heap.size W W5∧W5.grownBy w' (some mb)):=fun W vo vc hW hr=>
  tU_ C H kk vo p1 vc q1 g mb n M W hk hC hH hcov hle hne hn hgm0 hq hM (hx.next hW).c8.2.2.2.2.2.2.2 (hm.next hW) hr (zk_.next hW hs)
 have HX:=hm_ hx
 have NG:Hid (g≠mb):=hgm0
 have HML:=hm_ hm.lt
 have HLO:=hm_ hlo
 have HFD:=hm_ hf
 have HFB:Hid (∀ k,(Value.slice o.p1 o.x.fd.length o.c1).ownBlock=some k→k < w.heap.size):=fun k hk=>(hf.lt k hk).2
 have HID:=hm_ hid
 have HCMP:=hm_ hj
 clear hk hC hH hcov hle hne hn hgm0 hq hid hj hp hM hx hm hs hlo hf
 go_enter Tryz.func140,Tryz.ntmps140
 go_wp2_with fail
 refine Calls.mono CRO.out ?_
 rintro e w1 ⟨vo,vc,rfl,hg,hvc,hb⟩
 have HV:Hid (GRow w.heap.size w1 vo (flat C.l)∧C.l.length≤vc∧Below w.heap.size w w1):=⟨hg,hvc,hb⟩
 clear hg hvc hb
 go_upto_region 2 with fail
 refine zQ_ (fun W=>Box W w1.heap.size [.slice vo C.l.length vc,.int .i64 C.a,.int .i64 C.b,.int .i64 C.c]∧Box W g [.int .i64 o.x.id,.int .i64 o.x.n,.int .i64 o.x.cut,.slice none 0 0,.slice o.p1 o.x.fd.length o.c1,.slice o.p2 o.su.length o.c2,.slice o.p3 o.un.length o.c3,.map (some mb)]∧GRow w.heap.size W vo (flat C.l)∧Below w.heap.size w W∧w.heap.size≤w1.heap.size∧OwnG W 52 3 (Value.slice o.p1 o.x.fd.length o.c1) o.x.fd.length (zm_ o.x.fd) lo) ⟨zo_,(HX.out.next HV.out.2.2).alloc,HV.out.1.next (zb_ _ _),HV.out.2.2.trans ((zb_ _ _).mono HV.out.2.2.size),HV.out.2.2.size,(HFD.out.next HV.out.2.2).next (zb_ _ _)⟩ (fun W1 hI=>?_)
 have HVC:Hid (C.l.length≤vc):=HV.out.2.1
 clear HV CRO HX HFD
 generalize w1.heap.size=g7 at *
 obtain ⟨d0,d1,d2,d3,d4,d5,d6,d7⟩:=hI.2.1.c8
 have HI:=hm_ hI
 clear hI
 go_wp2_with fail
 refine Calls.mono (CN.out _) ?_
 rintro e w2 ⟨rfl,hb⟩
 have HB2:=hm_ hb
 clear hb d0 d1 d2 d3 d4 d5 d6 d7
 go_upto_region 3 with fail
 refine zQ_ (fun W=>Box W g7 [.slice vo C.l.length vc,.int .i64 C.a,.int .i64 C.b,.int .i64 C.c]∧Box W g [.int .i64 o.x.id,.int .i64 o.x.n,.int .i64 o.x.cut,.slice none 0 0,.slice o.p1 o.x.fd.length o.c1,.slice o.p2 o.su.length o.c2,.slice o.p3 o.un.length o.c3,.map (some mb)]∧GRow w.heap.size W vo (flat C.l)∧Below w.heap.size w W∧Box W w2.heap.size [.int .i64 o.x.id,.int .i64 (o.x.n+1)]∧OwnG W 52 3 (Value.slice o.p1 o.x.fd.length o.c1) o.x.fd.length (zm_ o.x.fd) lo∧(g7≠mb∧w2.heap.size≠mb)∧(w2.heap.size≠g∧w.heap.size≤w2.heap.size)) (by
  obtain ⟨h1,h2,h3,h4,h5,h6⟩:=HI.out
  have hb:=HB2.out
  have hs:=hb.size
  have hl:=h1.lt
  have hm:=HML.out
  have hL:=HLO.out
  exact ⟨(h1.next hb).alloc,(h2.next hb).alloc,(h3.next hb).next (zb_ _ _),(h4.trans (hb.mono h4.size)).trans ((zb_ _ _).mono (h4.trans (hb.mono h4.size)).size),zo_,(h6.next hb).next (zb_ _ _),⟨by omega,by omega⟩,by omega,by omega⟩) (fun W2 hI=>?_)
 clear HI HB2
 generalize w2.heap.size=g9 at *
 have B2:=hm_ hI.1
 have D2_:=hm_ hI.2.1
 have G2:=hm_ hI.2.2.1
 have BB:=hm_ hI.2.2.2.1
 have E2:=hm_ hI.2.2.2.2.1
 have F2:=hm_ hI.2.2.2.2.2.1
 have N7:=hm_ hI.2.2.2.2.2.2.1
 have N9G:Hid (g9≠g):=hI.2.2.2.2.2.2.2.1
 have N9W:=hm_ hI.2.2.2.2.2.2.2.2
 clear hI
 have CT:Hid (∀ W,Below W2.heap.size W2 W→Calls Tryz.prog 170 #[.pointer (some ⟨g,0,none⟩),.string C.k,.agg #[.slice vo C.l.length vc,.int .i64 C.a,.int .i64 C.b,.int .i64 C.c]] W fun e w'=>e=.returned (.bool true)∧MapF w' Tryz.prog 9 mb (n+1) (mset M C.k (xD_ C vo vc))∧∃ W5,Below W.heap.size W W5∧W5.grownBy w' (some mb)):=fun W hW=>CTK.out W vo vc (BB.out.trans (hW.mono BB.out.size)) (G2.out.next hW).sib
 have CH:Hid (∀ W,zk_ W vo C.l→Calls Tryz.prog 169 #[.agg #[.slice vo C.l.length vc,.int .i64 C.a,.int .i64 C.b,.int .i64 C.c],.agg #[.int .i64 o.x.id,.int .i64 (o.x.n+1)]] W fun e w'=>e=.returned (.bool true)∧Below W.heap.size W w'):=fun W h=>CHS.out W vo vc h
 have HO9:Hid ((Value.slice o.p1 o.x.fd.length o.c1).ownBlock≠some g9∧(∀ x,vo=some x→flat C.l≠[]→(Value.slice o.p1 o.x.fd.length o.c1).ownBlock≠some x.block)):=⟨fun e=>by have h1:=HFB.out _ e; have h2:=N9W.out; omega,fun x hx hv e=>by have h1:=HFB.out _ e; rcases G2.out with h | ⟨b,off,h2,h3,_⟩; exact hv h; rw [h2] at hx; cases hx; dsimp only at h1; omega⟩
 clear CTK CHS CN
 go_cut [44] from 20 to 44 (fun s44 wc=>s44=.bool false∧PI (· = mb) w wc [.int .i64 o.x.id,.int .i64 o.x.n,.int .i64 o.x.cut,.slice none 0 0,.slice o.p1 o.x.fd.length o.c1,.slice o.p2 o.su.length o.c2,.slice o.p3 o.un.length o.c3,.map (some mb)] o C vo vc lo g mb n g9 M)
 case first=>
  rcases HID.out with h | h | h
  focus
   have H0:Hid _:=h
   clear h
   have hcmp:C.a=o.x.n+1:=by have:=HCMP.out; rw [show o.x.id=_ from H0.out] at this; simpa [comp] using this
   have hq1:(C.a == o.x.n+1)=true:=by simp [hcmp]
   have hq2:(C.a != o.x.n+1)=false:=by simp [hcmp]
  rotate_left
  focus
   have H0:Hid _:=h
   clear h
   have hcmp:C.b=o.x.n+1:=by have:=HCMP.out; rw [show o.x.id=_ from H0.out] at this; simpa [comp] using this
   have hq1:(C.b == o.x.n+1)=true:=by simp [hcmp]
   have hq2:(C.b != o.x.n+1)=false:=by simp [hcmp]
  rotate_left
  focus
   have H0:Hid _:=h
   clear h
   have hcmp:C.c=o.x.n+1:=by have:=HCMP.out; rw [show o.x.id=_ from H0.out] at this; simpa [comp] using this
   have hq1:(C.c == o.x.n+1)=true:=by simp [hcmp]
   have hq2:(C.c != o.x.n+1)=false:=by simp [hcmp]
  rotate_left
  all_goals
   clear hcmp
   refine wp_region_held_drew (S:=(fun w'=>(w'.cell? ⟨g7,0,none⟩=some (.slice vo C.l.length vc)∧w'.cell? ⟨g7,1,none⟩=some (.int .i64 C.a)∧w'.cell? ⟨g7,2,none⟩=some (.int .i64 C.b)∧w'.cell? ⟨g7,3,none⟩=some (.int .i64 C.c))∧(w'.cell? ⟨g9,0,none⟩=some (.int .i64 o.x.id)∧w'.cell? ⟨g9,1,none⟩=some (.int .i64 (o.x.n+1))))) (by kernel_rfl) ?_ (fun hH=>?_)
   ·(try dsimp only)
    exact ⟨(B2.out.next (zc_ _)).c4,(E2.out.next (zc_ _)).c2⟩
   have BW:Hid (Below W2.heap.size W2 W2.drew):=zc_ _
   refine wTk 0 ?_
   refine wTk 1 ?_
   refine wTk 2 ?_
   refine wTk 3 ?_
   refine wTk 4 ?_
   refine wTk 5 ?_
   refine wpAnyH_take (i:=6) (v:=?_) rfl (by kernel_rfl) (by kernel_rfl) (by kernel_rfl) (fun _ _ _ h=>h) (Or.inl ⟨by rfl,?_⟩) (by assumption) ?_
   rotate_left
   ·intro w' hSw
    (try dsimp only at hSw)
    have h0:=H0.out
    go_simp
    all_goals (try with_reducible rfl)
   refine wLy ?_
   refine wTk 7 ?_
   refine wTk 8 ?_
   refine wTk 9 ?_
   refine wTk 10 ?_
   refine wTk 11 ?_
   refine wTk 12 ?_
   refine wTk 13 ?_
   refine wTk 14 ?_
   refine wRd 15 (fun K hK=>?_)
   go_simp
   (go_at_call 169; refine (CH.out _ (G2.out.next BW.out).sib).mono ?_; rintro e x15 ⟨rfl,hb⟩; replace BW:=ze_ BW hb; clear hb)
   (try simp only [])
   refine wHk hK (⟨(B2.out.next BW.out).c4,(E2.out.next BW.out).c2⟩) ?_
   clear hK K hH
   intro hH
   refine wTk 16 ?_
   refine wTk 17 ?_
   refine wTk 18 ?_
   refine wTk 19 ?_
   refine wTk 20 ?_
   refine wTk 21 ?_
   refine wRd 22 (fun K hK=>?_)
   go_simp
   (go_at_call 170; refine (CT.out _ BW.out).mono ?_; rintro e x22 ⟨rfl,hM9,W5,hb5,hg5⟩; have TP:Hid (MapF x22 Tryz.prog 9 mb (n+1) (mset M C.k (xD_ C vo vc))∧Below _ _ W5∧W5.grownBy x22 (some mb)):=⟨hM9,hb5,hg5⟩; clear hM9 hb5 hg5)
   (try simp only [])
   refine hK.out _ _ ?_ (fun hH'=>?_)
   ·(try dsimp only)
    (obtain ⟨y0,y1,y2,y3⟩:=(B2.out.next (BW.out.trans (TP.out.2.1.mono BW.out.size))).c4; obtain ⟨z0,z1⟩:=(E2.out.next (BW.out.trans (TP.out.2.1.mono BW.out.size))).c2; exact ⟨⟨zN_ y0 TP.out.2.2 N7.out.1,zN_ y1 TP.out.2.2 N7.out.1,zN_ y2 TP.out.2.2 N7.out.1,zN_ y3 TP.out.2.2 N7.out.1⟩,zN_ z0 TP.out.2.2 N7.out.2,zN_ z1 TP.out.2.2 N7.out.2⟩)
   clear hK K
   clear hH
   have hH:=hH'
   clear hH'
   refine wLy ?_
   refine wTk 23 ?_
   refine wTk 24 ?_
   refine wDn ?_
   clear hH
   have hb9:=BW.out.trans (TP.out.2.1.mono BW.out.size)
   have PX:Hid (PI (· = mb) w x22 [.int .i64 o.x.id,.int .i64 o.x.n,.int .i64 o.x.cut,.slice none 0 0,.slice o.p1 o.x.fd.length o.c1,.slice o.p2 o.su.length o.c2,.slice o.p3 o.un.length o.c3,.map (some mb)] o C vo vc lo g mb n g9 M):=⟨(Kp.of_below (BB.out.trans (hb9.mono BB.out.size))).trans (Kp.of_grown TP.out.2.2) (fun _ _ h=>h) (fun _ _ h=>h),TP.out.1,(E2.out.next hb9).kp (Kp.of_grown TP.out.2.2) N7.out.2,(D2_.out.next hb9).kp (Kp.of_grown TP.out.2.2) NG.out,(G2.out.next hb9).kp (Kp.of_grown TP.out.2.2) (fun x hx hv=>by have:=HML.out; rcases G2.out with h | ⟨b,off,h1,h2,_⟩; exact (hv h).elim; rw [h1] at hx; cases hx; dsimp only; omega),(F2.out.next hb9).kp (Kp.of_grown TP.out.2.2) (fun k hk e=>by have h1:=F2.out.ge k hk; have h2:=HLO.out; omega)⟩
   clear hb9
   go_wp2_with fail
   go_meet
   case rel=>exact ⟨rfl,PX.out⟩
 case rest=>
  obtain ⟨rfl,hP⟩:=hcut
  generalize wc=W3 at *
  have P3:=hm_ hP
  clear hP B2 D2_ G2 BB E2 F2 CT CH
  obtain ⟨d0,d1,d2,d3,d4,d5,d6,d7⟩:=P3.out.d.c8
  obtain ⟨f0,f1,f2,f3,f4,f5,f6,f7⟩:=P3.out.d.f8
  obtain ⟨e0,e1⟩:=P3.out.e.c2
  go_upto_region 6 with fail
  refine zQ_ (fun W=>PI (fun b=>b=g∨b=mb) w W [.int .i64 o.x.id,.int .i64 (o.x.n+1),.int .i64 o.x.cut,.slice none 0 0,.slice o.p1 o.x.fd.length o.c1,.slice o.p2 o.su.length o.c2,.slice o.p3 o.un.length o.c3,.map (some mb)] o C vo vc lo g mb n g9 M) (by
   have hL:=HLO.out
   refine ⟨P3.out.k.trans Kp.set (fun _ _ h=>.inr h) (fun _ _ h=>.inl h),P3.out.m.kp Kp.set (fun e=>NG.out e.symm),P3.out.e.kp Kp.set N9G.out,?_,P3.out.v.kp Kp.set (fun x hx hv e=>?_),P3.out.f.kp Kp.set (fun k hk e=>by have:=P3.out.f.ge k hk; omega)⟩
   ·have:=P3.out.d.set (i:=1) (u:=.int .i64 (o.x.n+1)) (by simp)
    simpa using this
   ·rcases P3.out.v with h | ⟨b,off,h1,h2,_⟩
    ·exact hv h
    ·rw [h1] at hx; cases hx; dsimp only at e; omega) (fun W4 hI=>?_)
  clear d0 d1 d2 d3 d4 d5 d6 d7 f0 f1 f2 f3 f4 f5 f6 f7 e0 e1 P3
  have P4:=hm_ hI
  clear hI
  have NE9:Hid (¬ (Value.slice o.p1 o.x.fd.length o.c1).ownBlock=some g9):=HO9.out.1
  have NEV:Hid (∀ x,vo=some x→flat C.l≠[]→¬ (Value.slice o.p1 o.x.fd.length o.c1).ownBlock=some x.block):=HO9.out.2
  have NEG:Hid (¬ (Value.slice o.p1 o.x.fd.length o.c1).ownBlock=some g):=fun e=>by have:=P4.out.f.ge g e; have:=HLO.out; omega
  have NEM:Hid (¬ (Value.slice o.p1 o.x.fd.length o.c1).ownBlock=some mb):=fun e=>by have:=P4.out.f.ge mb e; have:=HLO.out; omega
  refine wp_region_held_drew (S:=(fun w'=>w'.cell? ⟨g9,0,none⟩=some (.int .i64 o.x.id)∧w'.cell? ⟨g9,1,none⟩=some (.int .i64 (o.x.n+1)))) (by kernel_rfl) ?_ (fun hH=>?_)
  ·(try dsimp only)
   exact (P4.out.e.next (zc_ _)).c2
  have BW:Hid (Below W4.heap.size W4 W4.drew):=zc_ _
  refine wTk 0 ?_
  refine wTk 1 ?_
  refine wTk 2 ?_
  refine wTk 3 ?_
  refine wTk 4 ?_
  refine wTk 6 ?_
  refine wTk 7 ?_
  refine wTk 8 ?_
  generalize W4.drew=wd at *
  refine wpAnyH_ready (rs:=[5,9]) (by kernel_rfl) (by simp) ?_
  refine AllReadyH.cons rfl (fun K hK=>?_) (AllReadyH.cons rfl (fun K hK=>?_) AllReadyH.nil)
  focus
   obtain ⟨b0,b1,b2,b3,b4,b5,b6,b7⟩:=(P4.out.d.next BW.out).c8
   refine wLy ?_
   go_simp
   (try simp only [])
   refine wHk hK ((P4.out.e.next BW.out).c2) ?_
   clear hK K hH
   intro hH
   clear b0 b1 b2 b3 b4 b5 b6 b7
   refine wRd 9 (fun K hK=>?_)
   go_simp
   (try simp only [])
   have LT:Hid (GRow 0 (wd.alloc (.cells #[.int .i64 o.x.id,.int .i64 (o.x.n+1),.string C.k] 52)) (some ⟨wd.heap.size,0,none⟩) (zm_ [⟨o.x.id,o.x.n+1,C.k⟩])):=yz_
   replace BW:=ze_ BW (zb_ wd (.cells #[.int .i64 o.x.id,.int .i64 (o.x.n+1),.string C.k] 52))
   refine wHk hK ((P4.out.e.next BW.out).c2) ?_
   clear hK K hH
   intro hH
   generalize wd.alloc (.cells #[.int .i64 o.x.id,.int .i64 (o.x.n+1),.string C.k] 52)=x0 at *
   generalize wd.heap.size=gl at *
  rotate_left
  focus
   refine wLy ?_
   go_simp
   (try simp only [])
   have LT:Hid (GRow 0 (wd.alloc (.cells #[.int .i64 o.x.id,.int .i64 (o.x.n+1),.string C.k] 52)) (some ⟨wd.heap.size,0,none⟩) (zm_ [⟨o.x.id,o.x.n+1,C.k⟩])):=yz_
   replace BW:=ze_ BW (zb_ wd (.cells #[.int .i64 o.x.id,.int .i64 (o.x.n+1),.string C.k] 52))
   refine wHk hK ((P4.out.e.next BW.out).c2) ?_
   clear hK K hH
   intro hH
   generalize wd.alloc (.cells #[.int .i64 o.x.id,.int .i64 (o.x.n+1),.string C.k] 52)=x0 at *
   generalize wd.heap.size=gl at *
   refine wpAnyH_ready (rs:=[5]) (by kernel_rfl) (by simp) ?_
   refine AllReadyH.cons rfl (fun K hK=>?_) AllReadyH.nil
   obtain ⟨b0,b1,b2,b3,b4,b5,b6,b7⟩:=(P4.out.d.next BW.out).c8
   refine wLy ?_
   go_simp
   (try simp only [])
   refine wHk hK ((P4.out.e.next BW.out).c2) ?_
   clear hK K hH
   intro hH
   clear b0 b1 b2 b3 b4 b5 b6 b7
  rotate_left
  all_goals
   refine wRd 10 (fun K hK=>?_)
   rw [if_pos (by rfl)]
   refine zx_ elE (.tmp 56) (.tmp 60) rfl (Value.slice o.p1 o.x.fd.length o.c1) o.x.fd.length (zm_ o.x.fd) lo (o.x.fd.length+1) rfl (P4.out.f.next BW.out) (by have:=HLO.out; have:=P4.out.k.size; have:=BW.out.size; omega) (some ⟨gl,0,none⟩) 1 1 (zm_ [⟨o.x.id,o.x.n+1,C.k⟩]) rfl rfl (zu_ _) 0 LT.out (by omega) rfl ?_
   intro pf cf x1 hO8 hG8 hS8
   have OW:Hid (OwnG x1 52 3 (Value.slice pf (o.x.fd.length+1) cf) (o.x.fd.length+1) (zm_ o.x.fd++zm_ [⟨o.x.id,o.x.n+1,C.k⟩]) lo∧Gro x0 x1 (Value.slice o.p1 o.x.fd.length o.c1) (Value.slice pf (o.x.fd.length+1) cf)):=⟨hO8,hG8⟩
   clear hO8 hG8 hS8
   refine wHk hK (((P4.out.e.next BW.out).kp (Kp.of_gro OW.out.2) NE9.out).c2) ?_
   clear hK K hH
   intro hH
   refine wTk 11 ?_
   refine wTk 12 ?_
   refine wTk 13 ?_
   have DX:Hid (Box x1 g [.int .i64 o.x.id,.int .i64 (o.x.n+1),.int .i64 o.x.cut,.slice none 0 0,.slice o.p1 o.x.fd.length o.c1,.slice o.p2 o.su.length o.c2,.slice o.p3 o.un.length o.c3,.map (some mb)]):=(P4.out.d.next BW.out).kp (Kp.of_gro OW.out.2) NEG.out
   obtain ⟨b0,b1,b2,b3,b4,b5,b6,b7⟩:=DX.out.c8
   obtain ⟨f0,f1,f2,f3,f4,f5,f6,f7⟩:=DX.out.f8
   have E9:Hid (Box (x1.setCell ⟨g,4,none⟩ (.slice pf (o.x.fd.length+1) cf)) g9 [.int .i64 o.x.id,.int .i64 (o.x.n+1)]):=((P4.out.e.next BW.out).kp (Kp.of_gro OW.out.2) NE9.out).oth N9G.out
   have PX:Hid (DpP w o lo g mb n M C (x1.setCell ⟨g,4,none⟩ (.slice pf (o.x.fd.length+1) cf))):=by
    refine ⟨vo,vc,pf,cf,?_,⟨?_,HVC.out⟩,?_,?_,?_,?_,?_⟩
    ·exact ((P4.out.m.next BW.out).kp (Kp.of_gro OW.out.2) NEM.out).kp Kp.set (fun e=>NG.out e.symm)
    ·refine ((P4.out.v.next BW.out).kp (Kp.of_gro OW.out.2) NEV.out).kp Kp.set (fun x hx hv=>?_)
     have:=HLO.out
     rcases P4.out.v with h | ⟨b,off,h1,h2,_⟩
     ·exact (hv h).elim
     ·rw [h1] at hx; cases hx; dsimp only; omega
    ·have:=DX.out.set (i:=4) (u:=.slice pf (o.x.fd.length+1) cf) (by simp)
     simpa using this
    ·rw [z8_]
     exact OW.out.1.kp Kp.set (fun k hk e=>by have h1:=OW.out.1.ge k hk; have h2:=HLO.out; omega)
    ·refine ((P4.out.k.trans (Kp.of_below (E:=fun _=>False) BW.out) (E2:=fun b=>b=g∨b=mb) (fun _ _ h=>h) (fun _ _ h=>h.elim)).trans (Kp.of_gro OW.out.2) (E2:=fun b=>b=g∨b=mb∨(Value.slice o.p1 o.x.fd.length o.c1).ownBlock=some b) (fun x _ h=>by rcases h with h | h; exact .inl h; exact .inr (.inl h)) (fun x _ h=>.inr (.inr h))).trans Kp.set (fun _ _ h=>h) (fun x _ h=>.inl h)
    ·intro k hk
     rcases OW.out.2.fresh k hk with h | h
     ·exact .inl h
     ·exact .inr (Nat.le_trans (Nat.le_trans P4.out.k.size BW.out.size) h)
    ·intro x hx hv e
     rcases OW.out.2.fresh _ e with h | h
     ·exact NEV.out x hx hv h
     ·have:=w5_ (P4.out.v.next BW.out) hx hv
      omega
   refine wRd 14 (fun K hK=>?_)
   go_simp
   (try simp only [])
   refine wHk hK (E9.out.c2) ?_
   clear hK K hH
   intro hH
   refine wDn ?_
   clear hH b0 b1 b2 b3 b4 b5 b6 b7 f0 f1 f2 f3 f4 f5 f6 f7
   go_wp2
   go_ret
   exact ⟨rfl,PX.out⟩
end Go.Proofs.YtiokjphefpicbaaGreatDoor
