/- Nodes, part 36 of the law FnTake. -/
import Derived.Test.YtijcjhcgpmnchaaGreatDoorM35
import Derived.Sort.KeysCollected
namespace Go.Proofs.YtijcjhcgpmnchaaGreatDoor
open Go.RowKit
set_option maxRecDepth 100000
set_option maxHeartbeats 16000000
set_option linter.unusedSimpArgs false
set_option linter.unusedVariables false
section
variable {M:ByteArray->Option Value} {W:World} {mb n:Nat} {s:ByteArray}
def vu_ (m:Cm):Value:=yx_ m.c m.p m.q
theorem xi_ {k:ByteArray}:∀ {ms:List Cm} {m:Cm},getM k ms=some m->m ∈ ms∧m.c.k=k
 | y :: ys,m,h=>by
  unfold getM at h;split at h
  ·cases h; exact ⟨List.mem_cons_self,by assumption⟩
  ·exact ⟨List.mem_cons_of_mem _ (xi_ h).1,(xi_ h).2⟩
theorem tm_ {k:ByteArray}:∀ {ms:List Cm},(∃ m ∈ ms,m.c.k=k)->(getM k ms).isSome=true
 | y :: ys,⟨m,hm,hk⟩=>by
  unfold getM;split
  ·rfl
  ·rcases List.mem_cons.1 hm with rfl | hm
   ·contradiction
   ·exact tm_ ⟨m,hm,hk⟩
theorem nI_ {D:DataW Value} {o:Option Value} (h:∀ z,D.atKey (keyL s) z=(match o with | some v=>.held v | none=>z)) (hi:Maps.IsMap D):Maps.has D (keyL s)=o.isSome:=by
 obtain ⟨es,rfl⟩:=hi;cases o with
 | some v=>exact Maps.has_true_of_atKey h
 | none=>
  cases hh:Maps.has (.map es:DataW Value) (keyL s) with
  | false=>rfl
  | true=>
   rw [Maps.has_eq,List.any_eq_true] at hh;have h1:=h .nil;have h2:=h (.held (.bool true));unfold DataW.atKey at h1 h2;cases hf:es.find? (fun p=>p.1.sameKey (keyL s)) with
   | none=>
    obtain ⟨p,hp,hs⟩:=hh
    have:=List.find?_eq_none.1 hf p hp
    exact absurd hs this
   | some p=>
    simp only [hf] at h1 h2;rw [h1] at h2;cases h2
theorem t1_ {ms:List Cm} (h:MapF W Tryz.prog 9 mb n M) (hM:∀ s,M s=(getM s ms).map vu_) (hu:Up (ms.map (·.c))) :
  ∃ D:DataW Value,W.ownsMap Tryz.prog 9 rawE mb n D∧∀ ss:List (List UInt8),ss.Perm (strKeys D)->ss.mergeSort (fun x y=>decide (x<=y))=ms.map (fun m=>bl m.c.k):=by
 obtain ⟨D,h1,h2,h3⟩:=h.view;refine ⟨D,h1,fun ss hp=>?_⟩
 have hlt:(ms.map (fun m=>bl m.c.k)).Pairwise (fun a b=>a < b):=by
  have:=List.pairwise_map.1 hu
  exact List.pairwise_map.2 this
 have hC:Collected D (fun _=>false) (ms.map (fun m=>bl m.c.k)):=by
  refine ⟨hlt.imp (fun {a b} hab e=>?_),fun x=>?_⟩
  ·subst e;exact List.lt_irrefl a hab
  ·have hb:keyL (⟨x.toArray⟩:ByteArray)=.string x:=rfl;have hh:=nI_ (h3 ⟨x.toArray⟩) h2;rw [hb] at hh;rw [hh,hM];simp only [and_true];constructor
   ·intro hx;obtain ⟨m,hm,rfl⟩:=List.mem_map.1 hx
    have:=tm_ (k:=⟨(bl m.c.k).toArray⟩) ⟨m,hm,by apply s1_; simp [bl]⟩
    simpa using this
   ·intro hx;have hx':(getM ⟨x.toArray⟩ ms).isSome=true:=by simpa using hx
    obtain ⟨m,hm⟩:=isx hx';obtain ⟨h5,h6⟩:=xi_ hm;refine List.mem_map.2 ⟨m,h5,?_⟩;rw [h6];simp [bl]
 have hq:=hC.perm h1 (Maps.string_keyed Tryz.underlying9) Tryz.underlying9 (fun _=>rfl);have e:=mergeSort_of_perm (hp.trans hq.symm);show ss.mergeSort leB=_
 rw [e];exact List.mergeSort_of_pairwise (hlt.imp (fun hab=>decide_eq_true (List.le_of_lt hab)))
end
section
variable {W W' w:World} {g i lo:Nat} {o:No} {p po:Option Addr} {v0 v1 v2 v3 v4 v5 v6:Value} {vs:List Value}
theorem qQ_ {y:Cm}:GRow 0 (W.alloc (.cells #[.string y.c.k,.slice y.p y.c.l.length y.q,.int .i64 y.c.a,.int .i64 y.c.b,.int .i64 y.c.c] 91)) (some ⟨W.heap.size,0,none⟩) (zp_ [y]):=.inr ⟨W.heap.size,0,rfl,Nat.zero_le _,fun j hj=>by
 rw [World.cell?_alloc_at _ _ _ _ rfl,Nat.zero_add,List.getElem?_toArray]
 exact List.getElem?_eq_getElem hj⟩
theorem pH_ (hg:g < lo+1) (h:GRow (lo+1) W p vs):GRow lo (((((((W.setCell ⟨g,0,none⟩ v0).setCell ⟨g,1,none⟩ v1).setCell ⟨g,2,none⟩ v2).setCell ⟨g,3,none⟩ v3).setCell ⟨g,4,none⟩ v4).setCell ⟨g,5,none⟩ v5).setCell ⟨g,6,none⟩ v6) p vs:=(vd_ hg h).weak (by omega)
structure MdI (w W:World) (o:No) (ms:List Cm) (i:Nat) (po:Option Addr) (pc L:Nat):Prop where
 z:Box W w.heap.size nZ
 x:Box W (w.heap.size+1) [.int .i64 o.x.id,.int .i64 o.x.n,.int .i64 o.x.cut,.slice po i pc,.slice o.p1 o.x.fd.length o.c1,.slice o.p2 o.su.length o.c2,.slice o.p3 o.un.length o.c3]
 f:OwnG W 91 5 (.slice po i pc) i (zp_ (ms.take i)) L
 b:Below w.heap.size w W
theorem MdI.next {ms:List Cm} {pc L:Nat} (h:MdI w W o ms i po pc L) (hb:Below W.heap.size W W'):MdI w W' o ms i po pc L:=⟨h.z.next hb,h.x.next hb,h.f.next hb,h.b.trans (hb.mono h.b.size)⟩
def SKs (mb:Nat) (ms:List Cm) (w:World):Prop:=∀ W,Below w.heap.size w W->Calls Tryz.prog 146 #[.map (some mb)] W (fun e w'=>e=.returned (.func (.func 179) #[] #[.pointer (some ⟨W.heap.size,0,none⟩)])∧w'=W.alloc (.cells #[.map (some mb)] 124))∧Calls Tryz.prog 145 #[.func (.func 179) #[] #[.pointer (some ⟨W.heap.size,0,none⟩)]] (W.alloc (.cells #[.map (some mb)] 124)) (fun e w'=>∃ p c,e=.returned (.slice p ms.length c)∧GRow W.heap.size w' p (V (ms.map (·.c.k)))∧Below (W.alloc (.cells #[.map (some mb)] 124)).heap.size (W.alloc (.cells #[.map (some mb)] 124)) w')
theorem sI_ (o:No) (g mb n:Nat) (M:ByteArray->Option Value) (ms:List Cm) (w:World) (hl:ms.length<=100000) (hk:∀ m ∈ ms,m.c.k.size<=6) (hx:Box w g [.int .i64 o.x.id,.int .i64 o.x.n,.int .i64 o.x.cut,.slice none 0 0,.slice o.p1 o.x.fd.length o.c1,.slice o.p2 o.su.length o.c2,.slice o.p3 o.un.length o.c3,.map (some mb)]) (hm:MapF w Tryz.prog 9 mb n M) (hM:∀ y ∈ ms,M y.c.k=some (vu_ y)) (hs:SKs mb ms w) :
  Calls Tryz.prog 97 #[.pointer (some ⟨g,0,none⟩)] w fun e w'=>∃ p c,e=.returned (.agg #[.int .i64 o.x.id,.int .i64 o.x.n,.int .i64 o.x.cut,.slice p ms.length c,.slice o.p1 o.x.fd.length o.c1,.slice o.p2 o.su.length o.c2,.slice o.p3 o.un.length o.c3])∧GRow w.heap.size w' p (zp_ ms)∧ms.length<=c∧Below w.heap.size w w':=by
 have DD:Hid (∀ W,Below w.heap.size w W->W.cell? ⟨g,7,none⟩=some (.map (some mb))):=fun W hW=>(hx.next hW).c8.2.2.2.2.2.2.2
 have LKA:Hid (∀ y ∈ ms,∀ W,Below w.heap.size w W->(Instr.lookup 124 (.map (some mb)) (.string y.c.k) false).run Tryz.prog W=.ok (.agg #[.string y.c.k,.slice y.p y.c.l.length y.q,.int .i64 y.c.a,.int .i64 y.c.b,.int .i64 y.c.c]) W):=fun y hy W hW=>by
  have h:=(hm.next hW).look (t:=124) Tryz.underlying9 Tryz.underlying124 (wJ_ _) false y.c.k (by have:=hk y hy; unfold maxLen; omega);rw [hM y hy] at h
  simpa [vu_,yx_] using h
 have HX:=hm_ hx;have SK:Hid (SKs mb ms w):=hs;clear hk hm hM hs hx;have e8:Hid (∀ W,Below w.heap.size w W->Box W g [.int .i64 o.x.id,.int .i64 o.x.n,.int .i64 o.x.cut,.slice none 0 0,.slice o.p1 o.x.fd.length o.c1,.slice o.p2 o.su.length o.c2,.slice o.p3 o.un.length o.c3,.map (some mb)]):=fun W hW=>HX.out.next hW
 obtain ⟨d0,d1,d2,d3,d4,d5,d6,d7⟩:=(HX.out.next (zb_ w (.cells nZ.toArray 29))).c8;have I1:Hid (MdI w ((w.alloc (.cells nZ.toArray 29)).alloc (.cells #[.int .i64 o.x.id,.int .i64 o.x.n,.int .i64 o.x.cut,.slice none 0 0,.slice o.p1 o.x.fd.length o.c1,.slice o.p2 o.su.length o.c2,.slice o.p3 o.un.length o.c3] 29)) o ms 0 none 0 0):=⟨zn_.alloc,by have:=zn_ (W:=w.alloc (.cells nZ.toArray 29)) (t:=29) (vs:=[.int .i64 o.x.id,.int .i64 o.x.n,.int .i64 o.x.cut,.slice none 0 0,.slice o.p1 o.x.fd.length o.c1,.slice o.p2 o.su.length o.c2,.slice o.p3 o.un.length o.c3]); simpa using this,OwnG.nil _ _ _ _,(zb_ _ _).trans ((zb_ _ _).mono (by simp))⟩;go_enter Tryz.func97,Tryz.ntmps97;go_upto_region 2 with fail;clear d0 d1 d2 d3 d4 d5 d6 d7;generalize ((w.alloc (.cells nZ.toArray 29)).alloc (.cells #[.int .i64 o.x.id,.int .i64 o.x.n,.int .i64 o.x.cut,.slice none 0 0,.slice o.p1 o.x.fd.length o.c1,.slice o.p2 o.su.length o.c2,.slice o.p3 o.un.length o.c3] 29))=W1 at *;have d7:=DD.out _ I1.out.b;go_wp2_with fail;refine Calls.mono (SK.out W1 I1.out.b).1 ?_;rintro e w2 ⟨rfl,rfl⟩;go_wp2_with fail;refine Calls.mono (SK.out W1 I1.out.b).2 ?_;rintro e w3 ⟨pk,ck,rfl,hT,hb⟩
 have I3:Hid (MdI w w3 o ms 0 none 0 w3.heap.size):=by
  have h:=(I1.out.next (zb_ _ _)).next hb;exact ⟨h.z,h.x,OwnG.nil _ _ _ _,h.b⟩
 have T3:Hid (GRow (w.heap.size+2) w3 pk (V (ms.map (·.c.k)))):=hT.weak I1.out.x.lt;have HLL:Hid (w.heap.size+2<=w3.heap.size):=I3.out.x.lt;clear hT hb I1 d7 SK;go_wp2;go_loopw [17] (fun s17 wr=>∃ (i:Nat) (po:Option Addr) (pc:Nat),i<=ms.length∧s17=.int .i64 i∧(MdI w wr o ms i po pc w3.heap.size∧Kp (· = w.heap.size+1) w3 wr)) (fun s17 _=>ms.length - (intOf s17).toNat)
 case atStart=>exact ⟨0,none,0,by omega,rfl,I3.out,Kp.of_below (Below.refl _ _)⟩
 case round=>
  obtain ⟨i,po,pc,hi,rfl,hI,hB3⟩:=hrel;have I0:=hm_ hI;have KQ:=hm_ hB3;clear hI hB3 I3;have kk:(0:Int)<=(i:Int):=by omega
  by_cases hil:i < ms.length
  ·have hil':(i:Int) < (ms.length:Int):=by omega
   obtain ⟨y,hy⟩:∃ y,y=ms[i]:=⟨_,rfl⟩;have HY:Hid (ms[i]=y):=hy.symm;have LKT:Hid (∀ W,Below w.heap.size w W->(Instr.lookup 124 (.map (some mb)) (.string y.c.k) false).run Tryz.prog W=.ok (.agg #[.string y.c.k,.slice y.p y.c.l.length y.q,.int .i64 y.c.a,.int .i64 y.c.b,.int .i64 y.c.c]) W):=LKA.out y (hy ▸ List.getElem_mem hil)
   have G0:Hid (GRow (w.heap.size+2) wr pk (V (ms.map (·.c.k)))):=T3.out.kp KQ.out (fun x hx hv e=>by
    rcases T3.out with h | ⟨b,off,h1,h2,_⟩
    ·exact hv h
    ·rw [h1] at hx; cases hx; dsimp only at e; omega)
   rcases G0.out.txt with h' | ⟨b,off,rfl,hc⟩
   ·have:=congrArg List.length h'
    simp at this;rw [this] at hil;simp at hil
   have x0:wr.cell? ⟨b,off+i,none⟩=some (.string y.c.k):=by
    have:=hc i (by simpa using hil)
    simpa [HY.out] using this
   clear hc hy G0;generalize hLz:w3.heap.size=L at *;go_upto_region 5 with fail;clear x0;refine wp_region_held_drew (S:=(fun w'=>w'.cell? ⟨g,7,none⟩=some (.map (some mb)))) (by kernel_rfl) ?_ (fun hH=>?_)
   ·(try dsimp only);exact DD.out _ (I0.out.next (zd_ _)).b
   have BW:Hid (Below wr.heap.size wr wr.drew):=zd_ _;refine wTk 0 ?_;refine wTk 2 ?_;refine wTk 3 ?_;refine wTk 4 ?_;refine wTk 5 ?_;refine wTk 6 ?_;generalize wr.drew=wd at *;refine wpAnyH_ready (rs:=[1,7]) (by kernel_rfl) (by simp) ?_;refine .cons rfl (fun K hK=>?_) (.cons rfl (fun K hK=>?_) .nil)
   ·obtain ⟨b0,b1,b2,b3,b4,b5,b6⟩:=(I0.out.next BW.out).x.c7;refine wLy ?_;go_simp;(try simp only []);refine wHk hK (DD.out _ (I0.out.next BW.out).b) ?_;clear hK K hH;intro hH;clear b0 b1 b2 b3 b4 b5 b6;refine wpAnyH_ready (rs:=[7]) (by kernel_rfl) (by simp) ?_;refine .cons rfl (fun K hK=>?_) .nil;have LK:=LKT.out _ (I0.out.next BW.out).b;refine wLy ?_;go_simp;(try simp only []);refine wHk hK (DD.out _ (I0.out.next BW.out).b) ?_;clear hK K hH;intro hH;clear LK;refine wRd 8 (fun K hK=>?_);go_simp;(try simp only []);have LT:Hid (GRow 0 (wd.alloc (.cells #[.string y.c.k,.slice y.p y.c.l.length y.q,.int .i64 y.c.a,.int .i64 y.c.b,.int .i64 y.c.c] 91)) (some ⟨wd.heap.size,0,none⟩) (zp_ [y])):=qQ_;replace BW:=ze_ BW (zb_ wd (.cells #[.string y.c.k,.slice y.p y.c.l.length y.q,.int .i64 y.c.a,.int .i64 y.c.b,.int .i64 y.c.c] 91));refine wHk hK (DD.out _ (I0.out.next BW.out).b) ?_;clear hK K hH;intro hH;generalize wd.alloc (.cells #[.string y.c.k,.slice y.p y.c.l.length y.q,.int .i64 y.c.a,.int .i64 y.c.b,.int .i64 y.c.c] 91)=x0 at *;generalize wd.heap.size=gl at *;refine wRd 9 (fun K hK=>?_);rw [if_pos (by rfl)];refine zx_ elC (.tmp 22) (.tmp 29) rfl (.slice po i pc) i (zp_ (ms.take i)) L (i+1) rfl (I0.out.next BW.out).f (by have:=KQ.out.size; have:=BW.out.size; omega) (some ⟨gl,0,none⟩) 1 1 (zp_ [y]) rfl rfl (ya_ _) 0 LT.out (by omega) rfl ?_;intro pf cf x1 hO8 hG8 hS8;have OW:Hid (OwnG x1 91 5 (.slice pf (i+1) cf) (i+1) (zp_ (ms.take i)++zp_ [y]) L∧Gro x0 x1 (.slice po i pc) (.slice pf (i+1) cf)):=⟨hO8,hG8⟩;clear hO8 hG8 hS8;have KB:Hid (Below w.heap.size w x1):=(I0.out.next BW.out).b.trans (OW.out.2.below (I0.out.next BW.out).b.size (fun k hk=>by have:=(I0.out.next BW.out).f.ge k hk; have:=HLL.out; omega));refine wHk hK (DD.out _ KB.out) ?_;clear hK K hH;intro hH;refine wTk 10 ?_;have NEX:¬ (Value.slice po i pc).ownBlock=some (w.heap.size+1):=fun e=>by have:=(I0.out.next BW.out).f.ge _ e; have:=HLL.out; omega
    have NEZ:¬ (Value.slice po i pc).ownBlock=some w.heap.size:=fun e=>by have:=(I0.out.next BW.out).f.ge _ e; have:=HLL.out; omega
    have DX:Hid (Box x1 (w.heap.size+1) [.int .i64 o.x.id,.int .i64 o.x.n,.int .i64 o.x.cut,.slice po i pc,.slice o.p1 o.x.fd.length o.c1,.slice o.p2 o.su.length o.c2,.slice o.p3 o.un.length o.c3]):=(I0.out.next BW.out).x.kp (Kp.of_gro OW.out.2) NEX
    have PX:Hid (MdI w (x1.setCell ⟨w.heap.size+1,3,none⟩ (.slice pf (i+1) cf)) o ms (i+1) pf cf L):=by
     refine ⟨((I0.out.next BW.out).z.kp (Kp.of_gro OW.out.2) NEZ).oth (by omega),?_,?_,zt_ KB.out (by omega)⟩
     ·have:=DX.out.set (i:=3) (u:=.slice pf (i+1) cf) (by simp)
      simpa using this
     ·have e:zp_ (ms.take (i+1))=zp_ (ms.take i)++zp_ [y]:=by rw [List.take_succ_eq_append_getElem hil,yQ_,HY.out]
      rw [e];exact OW.out.1.kp Kp.set (fun k hk e=>by have:=OW.out.1.ge k hk; have:=HLL.out; omega)
    have KN:Hid (Kp (· = w.heap.size+1) w3 (x1.setCell ⟨w.heap.size+1,3,none⟩ (.slice pf (i+1) cf))):=((KQ.out.trans (Kp.of_below (E:=fun _=>False) BW.out) (E2:=(· = w.heap.size+1)) (fun _ _ h=>h) (fun _ _ h=>h.elim)).trans (Kp.of_gro OW.out.2) (E2:=(· = w.heap.size+1)) (fun _ _ h=>h) (fun x hx e=>by have h1:=(I0.out.next BW.out).f.ge _ e; omega)).trans Kp.set (fun _ _ h=>h) (fun _ _ h=>h);obtain ⟨b0,b1,b2,b3,b4,b5,b6⟩:=DX.out.c7;obtain ⟨f0,f1,f2,f3,f4,f5,f6⟩:=DX.out.f7;refine wRd 11 (fun K hK=>?_);go_simp;(try simp only []);refine wHk hK (DD.out _ PX.out.b) ?_;clear hK K hH;intro hH;refine wDn ?_;clear hH b0 b1 b2 b3 b4 b5 b6 f0 f1 f2 f3 f4 f5 f6;go_wp2
    go_roundw
    case rel=>exact ⟨i+1,pf,cf,by omega,by go_num,PX.out,KN.out⟩
    case measure=>simp [intOf]; omega
   ·have LK:=LKT.out _ (I0.out.next BW.out).b;refine wLy ?_;go_simp;(try simp only []);refine wHk hK (DD.out _ (I0.out.next BW.out).b) ?_;clear hK K hH;intro hH;clear LK;refine wpAnyH_ready (rs:=[1,8]) (by kernel_rfl) (by simp) ?_;refine .cons rfl (fun K hK=>?_) (.cons rfl (fun K hK=>?_) .nil)
    focus
     obtain ⟨b0,b1,b2,b3,b4,b5,b6⟩:=(I0.out.next BW.out).x.c7;refine wLy ?_;go_simp;(try simp only []);refine wHk hK (DD.out _ (I0.out.next BW.out).b) ?_;clear hK K hH;intro hH;clear b0 b1 b2 b3 b4 b5 b6;refine wRd 8 (fun K hK=>?_);go_simp;(try simp only []);have LT:Hid (GRow 0 (wd.alloc (.cells #[.string y.c.k,.slice y.p y.c.l.length y.q,.int .i64 y.c.a,.int .i64 y.c.b,.int .i64 y.c.c] 91)) (some ⟨wd.heap.size,0,none⟩) (zp_ [y])):=qQ_;replace BW:=ze_ BW (zb_ wd (.cells #[.string y.c.k,.slice y.p y.c.l.length y.q,.int .i64 y.c.a,.int .i64 y.c.b,.int .i64 y.c.c] 91));refine wHk hK (DD.out _ (I0.out.next BW.out).b) ?_;clear hK K hH;intro hH;generalize wd.alloc (.cells #[.string y.c.k,.slice y.p y.c.l.length y.q,.int .i64 y.c.a,.int .i64 y.c.b,.int .i64 y.c.c] 91)=x0 at *;generalize wd.heap.size=gl at *
    rotate_left
    focus
     refine wLy ?_;go_simp;(try simp only []);have LT:Hid (GRow 0 (wd.alloc (.cells #[.string y.c.k,.slice y.p y.c.l.length y.q,.int .i64 y.c.a,.int .i64 y.c.b,.int .i64 y.c.c] 91)) (some ⟨wd.heap.size,0,none⟩) (zp_ [y])):=qQ_;replace BW:=ze_ BW (zb_ wd (.cells #[.string y.c.k,.slice y.p y.c.l.length y.q,.int .i64 y.c.a,.int .i64 y.c.b,.int .i64 y.c.c] 91));refine wHk hK (DD.out _ (I0.out.next BW.out).b) ?_;clear hK K hH;intro hH;generalize wd.alloc (.cells #[.string y.c.k,.slice y.p y.c.l.length y.q,.int .i64 y.c.a,.int .i64 y.c.b,.int .i64 y.c.c] 91)=x0 at *;generalize wd.heap.size=gl at *;refine wpAnyH_ready (rs:=[1]) (by kernel_rfl) (by simp) ?_;refine .cons rfl (fun K hK=>?_) .nil;obtain ⟨b0,b1,b2,b3,b4,b5,b6⟩:=(I0.out.next BW.out).x.c7;refine wLy ?_;go_simp;(try simp only []);refine wHk hK (DD.out _ (I0.out.next BW.out).b) ?_;clear hK K hH;intro hH;clear b0 b1 b2 b3 b4 b5 b6
    rotate_left
    all_goals
     refine wRd 9 (fun K hK=>?_);rw [if_pos (by rfl)];refine zx_ elC (.tmp 22) (.tmp 29) rfl (.slice po i pc) i (zp_ (ms.take i)) L (i+1) rfl (I0.out.next BW.out).f (by have:=KQ.out.size; have:=BW.out.size; omega) (some ⟨gl,0,none⟩) 1 1 (zp_ [y]) rfl rfl (ya_ _) 0 LT.out (by omega) rfl ?_;intro pf cf x1 hO8 hG8 hS8;have OW:Hid (OwnG x1 91 5 (.slice pf (i+1) cf) (i+1) (zp_ (ms.take i)++zp_ [y]) L∧Gro x0 x1 (.slice po i pc) (.slice pf (i+1) cf)):=⟨hO8,hG8⟩;clear hO8 hG8 hS8;have KB:Hid (Below w.heap.size w x1):=(I0.out.next BW.out).b.trans (OW.out.2.below (I0.out.next BW.out).b.size (fun k hk=>by have:=(I0.out.next BW.out).f.ge k hk; have:=HLL.out; omega));refine wHk hK (DD.out _ KB.out) ?_;clear hK K hH;intro hH;refine wTk 10 ?_;have NEX:¬ (Value.slice po i pc).ownBlock=some (w.heap.size+1):=fun e=>by have:=(I0.out.next BW.out).f.ge _ e; have:=HLL.out; omega
     have NEZ:¬ (Value.slice po i pc).ownBlock=some w.heap.size:=fun e=>by have:=(I0.out.next BW.out).f.ge _ e; have:=HLL.out; omega
     have DX:Hid (Box x1 (w.heap.size+1) [.int .i64 o.x.id,.int .i64 o.x.n,.int .i64 o.x.cut,.slice po i pc,.slice o.p1 o.x.fd.length o.c1,.slice o.p2 o.su.length o.c2,.slice o.p3 o.un.length o.c3]):=(I0.out.next BW.out).x.kp (Kp.of_gro OW.out.2) NEX
     have PX:Hid (MdI w (x1.setCell ⟨w.heap.size+1,3,none⟩ (.slice pf (i+1) cf)) o ms (i+1) pf cf L):=by
      refine ⟨((I0.out.next BW.out).z.kp (Kp.of_gro OW.out.2) NEZ).oth (by omega),?_,?_,zt_ KB.out (by omega)⟩
      ·have:=DX.out.set (i:=3) (u:=.slice pf (i+1) cf) (by simp)
       simpa using this
      ·have e:zp_ (ms.take (i+1))=zp_ (ms.take i)++zp_ [y]:=by rw [List.take_succ_eq_append_getElem hil,yQ_,HY.out]
       rw [e];exact OW.out.1.kp Kp.set (fun k hk e=>by have:=OW.out.1.ge k hk; have:=HLL.out; omega)
     have KN:Hid (Kp (· = w.heap.size+1) w3 (x1.setCell ⟨w.heap.size+1,3,none⟩ (.slice pf (i+1) cf))):=((KQ.out.trans (Kp.of_below (E:=fun _=>False) BW.out) (E2:=(· = w.heap.size+1)) (fun _ _ h=>h) (fun _ _ h=>h.elim)).trans (Kp.of_gro OW.out.2) (E2:=(· = w.heap.size+1)) (fun _ _ h=>h) (fun x hx e=>by have h1:=(I0.out.next BW.out).f.ge _ e; omega)).trans Kp.set (fun _ _ h=>h) (fun _ _ h=>h);obtain ⟨b0,b1,b2,b3,b4,b5,b6⟩:=DX.out.c7;obtain ⟨f0,f1,f2,f3,f4,f5,f6⟩:=DX.out.f7;refine wRd 11 (fun K hK=>?_);go_simp;(try simp only []);refine wHk hK (DD.out _ PX.out.b) ?_;clear hK K hH;intro hH;refine wDn ?_;clear hH b0 b1 b2 b3 b4 b5 b6 f0 f1 f2 f3 f4 f5 f6;go_wp2
     go_roundw
     case rel=>exact ⟨i+1,pf,cf,by omega,by go_num,PX.out,KN.out⟩
     case measure=>simp [intOf]; omega
  ·have hil':¬ (i:Int) < (ms.length:Int):=by omega
   obtain rfl:i=ms.length:=by omega
   obtain ⟨b0,b1,b2,b3,b4,b5,b6⟩:=I0.out.x.c7;obtain ⟨a0,a1,a2,a3,a4,a5,a6⟩:=I0.out.z.c7;obtain ⟨f0,f1,f2,f3,f4,f5,f6⟩:=I0.out.z.f7;have hL:=HLL.out;go_wp2;refine bodyPost_ret (v:=.agg #[.int .i64 o.x.id,.int .i64 o.x.n,.int .i64 o.x.cut,.slice po ms.length pc,.slice o.p1 o.x.fd.length o.c1,.slice o.p2 o.su.length o.c2,.slice o.p3 o.un.length o.c3]) (by simp [results,Tryz.results97,go_sem, *]) rfl ?_;obtain ⟨q0,d0,e0,hc0,hg0⟩:=I0.out.f.grow;cases e0;rw [List.take_length] at hg0;exact ⟨po,pc,rfl,pH_ (by omega) (hg0.weak (by omega)),hc0,yq_ I0.out.b (by omega)⟩
end
section
variable {W W' w:World} {o:No}
theorem xo_ (c d:Nat) (p p':Option Addr) (l:List ByteArray) (w:World) (hl:l.length<=100000) (hr:GRow 0 w p (V l)) (hs:GRow 0 w p' (V l)) :
  Calls Tryz.prog 53 #[.slice p l.length c,.slice p' l.length d] w fun e w'=>e=.returned (.bool true)∧Below w.heap.size w w':=by
 have HR:Hid (GRow 0 w p (V l)∧GRow 0 w p' (V l)):=⟨hr,hs⟩;clear hr hs;go_enter Tryz.func53,Tryz.ntmps53;go_wp2;go_loopw [5] (fun s5 wr=>∃ i:Nat,i<=l.length∧s5=.int .i64 i∧Below w.heap.size w wr) (fun s5 _=>l.length - (intOf s5).toNat)
 case atStart=>exact ⟨0,by omega,rfl,Below.refl _ _⟩
 case round=>
  obtain ⟨i,hi,rfl,hB⟩:=hrel;have CB:=hm_ hB;clear hB;have kk:(0:Int)<=(i:Int):=by omega
  by_cases hil:i < l.length
  ·have hil':(i:Int) < (l.length:Int):=by omega
   have hv:(V l)[i]? = some (.string l[i]):=V_at l i hil;rcases HR.out.1.next CB.out with h' | ⟨b,off,hp,_,h2⟩
   ·rw [h'] at hv; simp at hv
   rcases HR.out.2.next CB.out with h' | ⟨b',off',hp',_,h3⟩
   ·rw [h'] at hv; simp at hv
   have x0:=GRow.at (lo:=0) h2 hv;have t0:=GRow.at (lo:=0) h3 hv;subst hp;subst hp';clear h2 h3 hv;generalize l[i]=s at *;go_wp2
   go_quiet (fail)
   go_wp2
   go_roundw
   case rel=>exact ⟨i+1,by omega,by go_num,by first | exact CB.out | exact CB.out.trans ((below_drewN (Below.refl _ _) _).mono CB.out.size) | exact CB.out.trans ((zd_ _).mono CB.out.size)⟩
   case measure=>simp [intOf]; omega
  ·have hil':¬ (i:Int) < (l.length:Int):=by omega
   go_wp2;go_ret;exact ⟨rfl,CB.out⟩
theorem uO_ (c d n m:Nat) (p p':Option Addr) (w:World) (hne:n≠m) :
  Calls Tryz.prog 53 #[.slice p n c,.slice p' m d] w fun e w'=>e=.returned (.bool false)∧Below w.heap.size w w':=by
 have h1:¬ (n:Int)=(m:Int):=by omega
 have h2:((n:Int) == (m:Int))=false:=beq_eq_false_iff_ne.2 h1;have h3:(n == m)=false:=beq_eq_false_iff_ne.2 hne;go_enter Tryz.func53,Tryz.ntmps53;go_wp2;go_ret;exact ⟨rfl,Below.refl _ _⟩
theorem xG_ (c d:Nat) (p p':Option Addr) (l:List En) (w:World) (hl:l.length<=100000) (hr:GRow 0 w p (zl_ l)) (hs:GRow 0 w p' (zl_ l)) :
  Calls Tryz.prog 52 #[.slice p l.length c,.slice p' l.length d] w fun e w'=>e=.returned (.bool true)∧Below w.heap.size w w':=by
 have HR:Hid (GRow 0 w p (zl_ l)∧GRow 0 w p' (zl_ l)):=⟨hr,hs⟩;clear hr hs;go_enter Tryz.func52,Tryz.ntmps52;go_wp2;go_loopw [5] (fun s5 wr=>∃ i:Nat,i<=l.length∧s5=.int .i64 i∧Below w.heap.size w wr) (fun s5 _=>l.length - (intOf s5).toNat)
 case atStart=>exact ⟨0,by omega,rfl,Below.refl _ _⟩
 case round=>
  obtain ⟨i,hi,rfl,hB⟩:=hrel;have CB:=hm_ hB;clear hB;have kk:(0:Int)<=(i:Int):=by omega
  by_cases hil:i < l.length
  ·have hil':(i:Int) < (l.length:Int):=by omega
   rcases (HR.out.1.next CB.out).en with h' | ⟨b,off,hp,_,h2⟩
   ·rw [h'] at hil; simp at hil
   rcases (HR.out.2.next CB.out).en with h' | ⟨b',off',hp',_,h3⟩
   ·rw [h'] at hil; simp at hil
   obtain ⟨x0,x1,x2⟩:=h2 i hil;obtain ⟨t0,t1,t2⟩:=h3 i hil;subst hp;subst hp';clear h2 h3;generalize l[i]=s at *;obtain ⟨ep,en,ek⟩:=s;dsimp only at x0 x1 x2 t0 t1 t2;have ev:=eqe ep en ek;go_wp2
   go_quiet (fail)
   go_wp2
   go_roundw
   case rel=>exact ⟨i+1,by omega,by go_num,by first | exact CB.out | exact CB.out.trans ((below_drewN (Below.refl _ _) _).mono CB.out.size) | exact CB.out.trans ((zd_ _).mono CB.out.size)⟩
   case measure=>simp [intOf]; omega
  ·have hil':¬ (i:Int) < (l.length:Int):=by omega
   go_wp2;go_ret;exact ⟨rfl,CB.out⟩
structure SnI (w W:World) (o u:No):Prop where
 x:Box W w.heap.size (nL o)
 y:Box W (w.heap.size+1) [.int .i64 o.x.id,.int .i64 o.x.n,.int .i64 o.x.cut,.slice u.p0 o.ms.length u.c0,.slice u.p1 o.x.fd.length u.c1,.slice u.p2 o.su.length u.c2,.slice u.p3 o.un.length u.c3]
 b:Below w.heap.size w W
theorem SnI.next {u:No} (h:SnI w W o u) (hb:Below W.heap.size W W'):SnI w W' o u:=⟨h.x.next hb,h.y.next hb,h.b.trans (hb.mono h.b.size)⟩
theorem wE_ (lo lo2:Nat) (o u:No) (w:World) (hm:o.ms.length<=100000) (hf:o.x.fd.length<=100000) (hd:o.su.length+o.un.length<=100000) (hl:∀ m ∈ o.ms,m.c.l.length<=1000) (hx:u.x=o.x) (hsu:u.su=o.su) (hun:u.un=o.un) (h0:NoR lo w o) (g0:NoR lo2 w u) :
  Calls Tryz.prog 15 #[nV o,nV u] w fun e w'=>e=.returned (.bool true)∧Below w.heap.size w w':=by
 (try unfold nV);have hcs:o.ms.map (·.c)=u.ms.map (·.c):=by rw [<- h0.cs,<- g0.cs,hx]
 have hlen:u.ms.length=o.ms.length:=by have:=congrArg List.length hcs; simpa using this.symm
 have hat:∀ i (h:i < o.ms.length) (h':i < u.ms.length),u.ms[i].c=o.ms[i].c:=fun i h h'=>by
  have e1:(o.ms.map (·.c))[i]? = some o.ms[i].c:=by simp [h]
  have e2:(u.ms.map (·.c))[i]? = some u.ms[i].c:=by simp [h']
  rw [hcs,e2] at e1;exact Option.some.inj e1
 have g1:=g0.r1;have g2:=g0.r2;have g3:=g0.r3;rw [hx] at g1;rw [hsu] at g2;rw [hun] at g3;have h:Hid (NoR lo w o):=h0;have g:Hid (NoR lo2 w u):=g0;have CE:Hid (∀ W,Below w.heap.size w W->Calls Tryz.prog 52 #[.slice o.p1 o.x.fd.length o.c1,.slice u.p1 o.x.fd.length u.c1] W fun e w'=>e=.returned (.bool true)∧Below W.heap.size W w'):=fun W hW=>xG_ _ _ _ _ _ W hf ((h0.r1.weak (Nat.zero_le _)).next hW) ((g1.weak (Nat.zero_le _)).next hW)
 have CT:Hid (∀ W,Below w.heap.size w W->Calls Tryz.prog 53 #[.slice o.p2 o.su.length o.c2,.slice u.p2 o.su.length u.c2] W fun e w'=>e=.returned (.bool true)∧Below W.heap.size W w'):=fun W hW=>xo_ _ _ _ _ _ W (by omega) ((h0.r2.weak (Nat.zero_le _)).next hW) ((g2.weak (Nat.zero_le _)).next hW)
 have CU:Hid (∀ W,Below w.heap.size w W->Calls Tryz.prog 53 #[.slice o.p3 o.un.length o.c3,.slice u.p3 o.un.length u.c3] W fun e w'=>e=.returned (.bool true)∧Below W.heap.size W w'):=fun W hW=>xo_ _ _ _ _ _ W (by omega) ((h0.r3.weak (Nat.zero_le _)).next hW) ((g3.weak (Nat.zero_le _)).next hW)
 have HL:=hm_ hl;have HAT:=hm_ hat;have HLEN:=hm_ hlen;rw [hx,hlen,hsu,hun];clear h0 g0 g1 g2 g3 hl hat hcs hx hlen hsu hun;have I0:Hid (SnI w ((w.alloc (.cells (nL o).toArray 29)).alloc (.cells #[.int .i64 o.x.id,.int .i64 o.x.n,.int .i64 o.x.cut,.slice u.p0 o.ms.length u.c0,.slice u.p1 o.x.fd.length u.c1,.slice u.p2 o.su.length u.c2,.slice u.p3 o.un.length u.c3] 29)) o u):=⟨zn_.alloc,by have:=zn_ (W:=w.alloc (.cells (nL o).toArray 29)) (t:=29) (vs:=[.int .i64 o.x.id,.int .i64 o.x.n,.int .i64 o.x.cut,.slice u.p0 o.ms.length u.c0,.slice u.p1 o.x.fd.length u.c1,.slice u.p2 o.su.length u.c2,.slice u.p3 o.un.length u.c3]); simpa using this,(zb_ _ _).trans ((zb_ _ _).mono (by simp))⟩;go_enter Tryz.func15,Tryz.ntmps15;go_upto_region 1 with fail;generalize ((w.alloc (.cells (nL o).toArray 29)).alloc (.cells #[.int .i64 o.x.id,.int .i64 o.x.n,.int .i64 o.x.cut,.slice u.p0 o.ms.length u.c0,.slice u.p1 o.x.fd.length u.c1,.slice u.p2 o.su.length u.c2,.slice u.p3 o.un.length u.c3] 29))=V0 at *;obtain ⟨b0,b1,b2,b3,b4,b5,b6⟩:=I0.out.x.c7;obtain ⟨d0,d1,d2,d3,d4,d5,d6⟩:=I0.out.y.c7;go_wp2_with fail;refine Calls.mono (CE.out _ I0.out.b) ?_;rintro e V1 ⟨rfl,hb⟩;replace I0:=hm_ (I0.out.next hb);clear b0 b1 b2 b3 b4 b5 b6 d0 d1 d2 d3 d4 d5 d6 hb CE;obtain ⟨b0,b1,b2,b3,b4,b5,b6⟩:=I0.out.x.c7;obtain ⟨d0,d1,d2,d3,d4,d5,d6⟩:=I0.out.y.c7;go_wp2_with fail;refine Calls.mono (CT.out _ I0.out.b) ?_;rintro e V2 ⟨rfl,hb⟩;replace I0:=hm_ (I0.out.next hb);clear b0 b1 b2 b3 b4 b5 b6 d0 d1 d2 d3 d4 d5 d6 hb CT;obtain ⟨b0,b1,b2,b3,b4,b5,b6⟩:=I0.out.x.c7;obtain ⟨d0,d1,d2,d3,d4,d5,d6⟩:=I0.out.y.c7;go_wp2_with fail;refine Calls.mono (CU.out _ I0.out.b) ?_;rintro e V3 ⟨rfl,hb⟩;replace I0:=hm_ (I0.out.next hb);clear b0 b1 b2 b3 b4 b5 b6 d0 d1 d2 d3 d4 d5 d6 hb CU;go_wp2;go_loopw [5] (fun s5 wr=>∃ i:Nat,i<=o.ms.length∧s5=.int .i64 i∧SnI w wr o u) (fun s5 _=>o.ms.length - (intOf s5).toNat)
 case atStart=>exact ⟨0,by omega,rfl,I0.out⟩
 case round=>
  obtain ⟨i,hi,rfl,hI⟩:=hrel;have CI:Hid (SnI w wr o u):=hI;clear hI I0;have kk:(0:Int)<=(i:Int):=by omega
  by_cases hil:i < o.ms.length
  ·have hil':(i:Int) < (o.ms.length:Int):=by omega
   have hiu:i < u.ms.length:=by rw [HLEN.out]; exact hil
   have hcu:=HAT.out i hil hiu;obtain ⟨b0,b1,b2,b3,b4,b5,b6⟩:=CI.out.x.c7;obtain ⟨d0,d1,d2,d3,d4,d5,d6⟩:=CI.out.y.c7;clear b0 b1 b2 b4 b5 b6 d0 d1 d2 d4 d5 d6;have RO:Hid (GRow lo w o.ms[i].p (flat o.ms[i].c.l)):=(h.out.rs _ (List.getElem_mem hil)).1;have RU:Hid (GRow lo2 w u.ms[i].p (flat o.ms[i].c.l)):=by show GRow _ _ _ _; rw [<- hcu]; exact (g.out.rs _ (List.getElem_mem hiu)).1
   have hll:=HL.out _ (List.getElem_mem hil);rcases (h.out.r0.next CI.out.b).cm with h' | ⟨b,off,hp,_,h2⟩
   ·rw [h'] at hil; simp at hil
   rcases (g.out.r0.next CI.out.b).cm with h' | ⟨b',off',hp',_,h3⟩
   ·rw [h'] at hiu; simp at hiu
   obtain ⟨x0,x1,x2,x3,x4⟩:=h2 i hil;obtain ⟨t0,t1,t2,t3,t4⟩:=h3 i hiu;rw [hcu] at t0 t1 t2 t3 t4;rw [hp] at b3;rw [hp'] at d3;clear h2 h3 hp hp' hcu;generalize o.ms[i].p=po at *;generalize o.ms[i].q=qo at *;generalize u.ms[i].p=pu at *;generalize u.ms[i].q=qu at *;generalize o.ms[i].c=c at *;obtain ⟨ck,cl,ca,cb,cc⟩:=c;dsimp only at x0 x1 x2 x3 x4 t0 t1 t2 t3 t4 RO RU hll;have CS:Hid (∀ W,Below w.heap.size w W->Calls Tryz.prog 54 #[.agg #[.slice po cl.length qo,.int .i64 ca,.int .i64 cb,.int .i64 cc],.agg #[.slice pu cl.length qu,.int .i64 ca,.int .i64 cb,.int .i64 cc]] W fun e w'=>e=.returned (.bool true)∧Below W.heap.size W w'):=fun W hW=>qj_ qo qu po pu cl cl ca cb cc ca cb cc true ⟨fun _=>y5_ _ _ _ _,fun _=>rfl⟩ W (by omega) (by omega) (RO.out.next hW).sib (RU.out.next hW).sib
   clear RO RU;go_upto_region 6 with fail;refine wp_region_held_drew (S:=(fun w'=>w'.cell? ⟨w.heap.size,3,none⟩=some (.slice (some ⟨b,off,none⟩) o.ms.length o.c0)∧w'.cell? ⟨w.heap.size+1,3,none⟩=some (.slice (some ⟨b',off',none⟩) o.ms.length u.c0)∧w'.cell? ⟨b,off+i * 5,none⟩=some (.string ck)∧w'.cell? ⟨b,off+i * 5+1,none⟩=some (.slice po cl.length qo)∧w'.cell? ⟨b,off+i * 5+2,none⟩=some (.int .i64 ca)∧w'.cell? ⟨b,off+i * 5+3,none⟩=some (.int .i64 cb)∧w'.cell? ⟨b,off+i * 5+4,none⟩=some (.int .i64 cc)∧w'.cell? ⟨b',off'+i * 5,none⟩=some (.string ck)∧w'.cell? ⟨b',off'+i * 5+1,none⟩=some (.slice pu cl.length qu)∧w'.cell? ⟨b',off'+i * 5+2,none⟩=some (.int .i64 ca)∧w'.cell? ⟨b',off'+i * 5+3,none⟩=some (.int .i64 cb)∧w'.cell? ⟨b',off'+i * 5+4,none⟩=some (.int .i64 cc))) (by kernel_rfl) ?_ (fun hH=>?_)
   ·(try dsimp only);exact ⟨b3,d3,x0,x1,x2,x3,x4,t0,t1,t2,t3,t4⟩
   have CD:Hid _:=CI.out.next (zd_ wr);generalize wr.drew=wd at *;refine wTk 0 ?_;refine wTk 1 ?_;refine wTk 2 ?_;refine wTk 3 ?_;refine wTk 4 ?_;refine wTk 5 ?_;refine wTk 6 ?_;refine wTk 7 ?_;refine wTk 8 ?_;refine wTk 9 ?_;refine wTk 10 ?_;refine wTk 11 ?_;refine wTk 12 ?_;refine wTk 13 ?_;refine wTk 14 ?_;refine wTk 15 ?_;refine wTk 16 ?_;refine wTk 17 ?_;refine wTk 18 ?_;refine wTk 19 ?_;refine wTk 20 ?_;refine wTk 21 ?_;refine wTk 22 ?_;refine wTk 23 ?_;refine wTk 24 ?_;refine wTk 25 ?_;refine wRd 26 (fun K hK=>?_);go_simp;go_at_call 54; refine (CS.out _ CD.out.b).mono ?_; rintro e z0 ⟨rfl,hb2⟩; replace CD:Hid _:=CD.out.next hb2; obtain ⟨y0,y1,y2,y3,y4,y5,y6,y7,y8,y9,y10,y11⟩:=hH;(try simp only []);refine hK.out _ _ ?_ (fun hH'=>?_)
   ·(try dsimp only);exact ⟨za_ hb2 y0 (zh_ y0),za_ hb2 y1 (zh_ y1),za_ hb2 y2 (zh_ y2),za_ hb2 y3 (zh_ y3),za_ hb2 y4 (zh_ y4),za_ hb2 y5 (zh_ y5),za_ hb2 y6 (zh_ y6),za_ hb2 y7 (zh_ y7),za_ hb2 y8 (zh_ y8),za_ hb2 y9 (zh_ y9),za_ hb2 y10 (zh_ y10),za_ hb2 y11 (zh_ y11)⟩
   clear hK K;have hH:=hH';clear hH';clear hb2 y0 y1 y2 y3 y4 y5 y6 y7 y8 y9 y10 y11;refine wLy ?_;refine wTk 27 ?_;refine wTk 28 ?_;refine wDn ?_;clear hH b3 d3 x0 x1 x2 x3 x4 t0 t1 t2 t3 t4;go_wp2
   go_roundw
   case rel=>exact ⟨i+1,by omega,by go_num,CD.out⟩
   case measure=>simp [intOf]; omega
  ·have hil':¬ (i:Int) < (o.ms.length:Int):=by omega
   obtain ⟨b0,b1,b2,b3,b4,b5,b6⟩:=CI.out.x.c7;go_wp2;go_ret;exact ⟨rfl,CI.out.b⟩
structure SoI (w W:World) (o u:No):Prop where
 x:Box W w.heap.size (nL o)
 y:Box W (w.heap.size+1) [.int .i64 o.x.id,.int .i64 o.x.n,.int .i64 o.x.cut,.slice u.p0 u.ms.length u.c0,.slice u.p1 o.x.fd.length u.c1,.slice u.p2 o.su.length u.c2,.slice u.p3 u.un.length u.c3]
 b:Below w.heap.size w W
theorem SoI.next {u:No} (h:SoI w W o u) (hb:Below W.heap.size W W'):SoI w W' o u:=⟨h.x.next hb,h.y.next hb,h.b.trans (hb.mono h.b.size)⟩
theorem tF_ (lo lo2:Nat) (o u:No) (w:World) (hf:o.x.fd.length<=100000) (hd:o.su.length<=100000) (hid:u.x.id=o.x.id) (hxn:u.x.n=o.x.n) (hcut:u.x.cut=o.x.cut) (hfd:u.x.fd=o.x.fd) (hsu:u.su=o.su) (hun:o.un.length≠u.un.length) (h0:NoR lo w o) (g0:NoR lo2 w u) :
  Calls Tryz.prog 15 #[nV o,nV u] w fun e w'=>e=.returned (.bool false)∧Below w.heap.size w w':=by
 (try unfold nV);have g1:=g0.r1;have g2:=g0.r2;rw [hfd] at g1;rw [hsu] at g2;have CE:Hid (∀ W,Below w.heap.size w W->Calls Tryz.prog 52 #[.slice o.p1 o.x.fd.length o.c1,.slice u.p1 o.x.fd.length u.c1] W fun e w'=>e=.returned (.bool true)∧Below W.heap.size W w'):=fun W hW=>xG_ _ _ _ _ _ W hf ((h0.r1.weak (Nat.zero_le _)).next hW) ((g1.weak (Nat.zero_le _)).next hW)
 have CT:Hid (∀ W,Below w.heap.size w W->Calls Tryz.prog 53 #[.slice o.p2 o.su.length o.c2,.slice u.p2 o.su.length u.c2] W fun e w'=>e=.returned (.bool true)∧Below W.heap.size W w'):=fun W hW=>xo_ _ _ _ _ _ W (by omega) ((h0.r2.weak (Nat.zero_le _)).next hW) ((g2.weak (Nat.zero_le _)).next hW)
 have CU:Hid (∀ W,Calls Tryz.prog 53 #[.slice o.p3 o.un.length o.c3,.slice u.p3 u.un.length u.c3] W fun e w'=>e=.returned (.bool false)∧Below W.heap.size W w'):=fun W=>uO_ _ _ _ _ _ _ W hun
 rw [hid,hxn,hcut,hfd,hsu];clear h0 g0 g1 g2 hid hxn hcut hfd hsu hun;have I0:Hid (SoI w ((w.alloc (.cells (nL o).toArray 29)).alloc (.cells #[.int .i64 o.x.id,.int .i64 o.x.n,.int .i64 o.x.cut,.slice u.p0 u.ms.length u.c0,.slice u.p1 o.x.fd.length u.c1,.slice u.p2 o.su.length u.c2,.slice u.p3 u.un.length u.c3] 29)) o u):=⟨zn_.alloc,by have:=zn_ (W:=w.alloc (.cells (nL o).toArray 29)) (t:=29) (vs:=[.int .i64 o.x.id,.int .i64 o.x.n,.int .i64 o.x.cut,.slice u.p0 u.ms.length u.c0,.slice u.p1 o.x.fd.length u.c1,.slice u.p2 o.su.length u.c2,.slice u.p3 u.un.length u.c3]); simpa using this,(zb_ _ _).trans ((zb_ _ _).mono (by simp))⟩;go_enter Tryz.func15,Tryz.ntmps15;go_upto_region 1 with fail;generalize ((w.alloc (.cells (nL o).toArray 29)).alloc (.cells #[.int .i64 o.x.id,.int .i64 o.x.n,.int .i64 o.x.cut,.slice u.p0 u.ms.length u.c0,.slice u.p1 o.x.fd.length u.c1,.slice u.p2 o.su.length u.c2,.slice u.p3 u.un.length u.c3] 29))=V0 at *;obtain ⟨b0,b1,b2,b3,b4,b5,b6⟩:=I0.out.x.c7;obtain ⟨d0,d1,d2,d3,d4,d5,d6⟩:=I0.out.y.c7;by_cases hml:o.ms.length=u.ms.length;rotate_left
 ·have h1:¬ (o.ms.length:Int)=(u.ms.length:Int):=by omega
  have h2:((o.ms.length:Int) == (u.ms.length:Int))=false:=beq_eq_false_iff_ne.2 h1;have h3:(o.ms.length == u.ms.length)=false:=beq_eq_false_iff_ne.2 hml;go_wp2;go_ret;exact ⟨rfl,I0.out.b⟩
 have h1:(o.ms.length:Int)=(u.ms.length:Int):=by omega
 have h2:((o.ms.length:Int) == (u.ms.length:Int))=true:=beq_iff_eq.2 h1;go_wp2_with fail;refine Calls.mono (CE.out _ I0.out.b) ?_;rintro e V1 ⟨rfl,hb⟩;replace I0:=hm_ (I0.out.next hb);clear b0 b1 b2 b3 b4 b5 b6 d0 d1 d2 d3 d4 d5 d6 hb CE;obtain ⟨b0,b1,b2,b3,b4,b5,b6⟩:=I0.out.x.c7;obtain ⟨d0,d1,d2,d3,d4,d5,d6⟩:=I0.out.y.c7;go_wp2_with fail;refine Calls.mono (CT.out _ I0.out.b) ?_;rintro e V2 ⟨rfl,hb⟩;replace I0:=hm_ (I0.out.next hb);clear b0 b1 b2 b3 b4 b5 b6 d0 d1 d2 d3 d4 d5 d6 hb CT;obtain ⟨b0,b1,b2,b3,b4,b5,b6⟩:=I0.out.x.c7;obtain ⟨d0,d1,d2,d3,d4,d5,d6⟩:=I0.out.y.c7;go_wp2_with fail;refine Calls.mono (CU.out _) ?_;rintro e V3 ⟨rfl,hb⟩;replace I0:=hm_ (I0.out.next hb);clear b0 b1 b2 b3 b4 b5 b6 d0 d1 d2 d3 d4 d5 d6 hb CU;go_wp2;go_ret;exact ⟨rfl,I0.out.b⟩
end
end Go.Proofs.YtijcjhcgpmnchaaGreatDoor
