/- Nodes and their buckets, part 43 of the law FnDigest. -/
import Derived.Test.YtiokjphefpicbaaGreatDoorM42
import Derived.Sort.KeysCollected
namespace Go.Proofs.YtiokjphefpicbaaGreatDoor
open Go.RowKit
set_option maxRecDepth 100000
set_option maxHeartbeats 16000000
set_option linter.unusedSimpArgs false
set_option linter.unusedVariables false
section
variable {M:ByteArray→Option Value} {W:World} {mb n:Nat} {s:ByteArray}
def qI_ (m:Cm):Value:=xD_ m.c m.p m.q
theorem x9_ {k:ByteArray}:∀ {ms:List Cm} {m:Cm},getM k ms=some m→m ∈ ms∧m.c.k=k
 | y :: ys,m,h=>by
  unfold getM at h
  split at h
  ·cases h; exact ⟨List.mem_cons_self,by assumption⟩
  ·exact ⟨List.mem_cons_of_mem _ (x9_ h).1,(x9_ h).2⟩
theorem uW_ {k:ByteArray}:∀ {ms:List Cm},(∃ m ∈ ms,m.c.k=k)→(getM k ms).isSome=true
 | y :: ys,⟨m,hm,hk⟩=>by
  unfold getM
  split
  ·rfl
  ·rcases List.mem_cons.1 hm with rfl | hm
   ·contradiction
   ·exact uW_ ⟨m,hm,hk⟩
theorem nN_ {D:DataW Value} {o:Option Value} (h:∀ z,D.atKey (keyL s) z=(match o with | some v=>.held v | none=>z)) (hi:Maps.IsMap D):Maps.has D (keyL s)=o.isSome:=by
 obtain ⟨es,rfl⟩:=hi
 cases o with
 | some v=>exact Maps.has_true_of_atKey h
 | none=>
  cases hh:Maps.has (.map es:DataW Value) (keyL s) with
  | false=>rfl
  | true=>
   rw [Maps.has_eq,List.any_eq_true] at hh
   have h1:=h .nil
   have h2:=h (.held (.bool true))
   unfold DataW.atKey at h1 h2
   cases hf:es.find? (fun p=>p.1.sameKey (keyL s)) with
   | none=>
    obtain ⟨p,hp,hs⟩:=hh
    have:=List.find?_eq_none.1 hf p hp
    exact absurd hs this
   | some p=>
    simp only [hf] at h1 h2
    rw [h1] at h2
    cases h2
theorem tB_ {ms:List Cm} (h:MapF W Tryz.prog 9 mb n M) (hM:∀ s,M s=(getM s ms).map qI_) (hu:Up (ms.map (·.c))) :
  ∃ D:DataW Value,W.ownsMap Tryz.prog 9 rawE mb n D∧∀ ss:List (List UInt8),ss.Perm (strKeys D)→ss.mergeSort (fun x y=>decide (x≤y))=ms.map (fun m=>bl m.c.k):=by
 obtain ⟨D,h1,h2,h3⟩:=h.view
 refine ⟨D,h1,fun ss hp=>?_⟩
 have hlt:(ms.map (fun m=>bl m.c.k)).Pairwise (fun a b=>a < b):=by
  have:=List.pairwise_map.1 hu
  exact List.pairwise_map.2 this
 have hC:Collected D (fun _=>false) (ms.map (fun m=>bl m.c.k)):=by
  refine ⟨hlt.imp (fun {a b} hab e=>?_),fun x=>?_⟩
  ·subst e
   exact List.lt_irrefl a hab
  ·have hb:keyL (⟨x.toArray⟩:ByteArray)=.string x:=rfl
   have hh:=nN_ (h3 ⟨x.toArray⟩) h2
   rw [hb] at hh
   rw [hh,hM]
   simp only [and_true]
   constructor
   ·intro hx
    obtain ⟨m,hm,rfl⟩:=List.mem_map.1 hx
    have:=uW_ (k:=⟨(bl m.c.k).toArray⟩) ⟨m,hm,by apply sE_; simp [bl]⟩
    simpa using this
   ·intro hx
    have hx':(getM ⟨x.toArray⟩ ms).isSome=true:=by simpa using hx
    obtain ⟨m,hm⟩:=isx hx'
    obtain ⟨h5,h6⟩:=x9_ hm
    refine List.mem_map.2 ⟨m,h5,?_⟩
    rw [h6]
    simp [bl]
 have hq:=hC.perm h1 (Maps.string_keyed Tryz.underlying9) Tryz.underlying9 (fun _=>rfl)
 have e:=mergeSort_of_perm (hp.trans hq.symm)
 show ss.mergeSort leB=_
 rw [e]
 exact List.mergeSort_of_pairwise (hlt.imp (fun hab=>decide_eq_true (List.le_of_lt hab)))
end
section
variable {W W' w:World} {g i lo:Nat} {o:No} {p:Option Addr} {v0 v1 v2 v3 v4 v5 v6:Value} {vs:List Value}
theorem qG_ {y:Cm}:GRow 0 (W.alloc (.cells #[.string y.c.k,.slice y.p y.c.l.length y.q,.int .i64 y.c.a,.int .i64 y.c.b,.int .i64 y.c.c] 91)) (some ⟨W.heap.size,0,none⟩) (zn_ [y]):=.inr ⟨W.heap.size,0,rfl,Nat.zero_le _,fun j hj=>by
 rw [World.cell?_alloc_at _ _ _ _ rfl,Nat.zero_add,List.getElem?_toArray]
 exact List.getElem?_eq_getElem hj⟩
theorem pG_ (hg:g < lo+1) (h:GRow (lo+1) W p vs):GRow lo (((((((W.setCell ⟨g,0,none⟩ v0).setCell ⟨g,1,none⟩ v1).setCell ⟨g,2,none⟩ v2).setCell ⟨g,3,none⟩ v3).setCell ⟨g,4,none⟩ v4).setCell ⟨g,5,none⟩ v5).setCell ⟨g,6,none⟩ v6) p vs:=(w1_ hg h).weak (by omega)
structure MdI (w W:World) (o:No) (ms:List Cm) (i:Nat) (po:Option Addr) (pc L:Nat):Prop where
 z:Box W w.heap.size nZ
 x:Box W (w.heap.size+1) [.int .i64 o.x.id,.int .i64 o.x.n,.int .i64 o.x.cut,.slice po i pc,.slice o.p1 o.x.fd.length o.c1,.slice o.p2 o.su.length o.c2,.slice o.p3 o.un.length o.c3]
 f:OwnG W 91 5 (.slice po i pc) i (zn_ (ms.take i)) L
 b:Below w.heap.size w W
theorem MdI.next {ms:List Cm} {po:Option Addr} {pc L:Nat} (h:MdI w W o ms i po pc L) (hb:Below W.heap.size W W'):MdI w W' o ms i po pc L:=⟨h.z.next hb,h.x.next hb,h.f.next hb,h.b.trans (hb.mono h.b.size)⟩
def SKs (mb:Nat) (ms:List Cm) (w:World):Prop:=∀ W,Below w.heap.size w W→Calls Tryz.prog 145 #[.map (some mb)] W (fun e w'=>e=.returned (.func (.func 178) #[] #[.pointer (some ⟨W.heap.size,0,none⟩)])∧w'=W.alloc (.cells #[.map (some mb)] 125))∧Calls Tryz.prog 144 #[.func (.func 178) #[] #[.pointer (some ⟨W.heap.size,0,none⟩)]] (W.alloc (.cells #[.map (some mb)] 125)) (fun e w'=>∃ p c,e=.returned (.slice p ms.length c)∧GRow W.heap.size w' p (V (ms.map (·.c.k)))∧Below (W.alloc (.cells #[.map (some mb)] 125)).heap.size (W.alloc (.cells #[.map (some mb)] 125)) w')
theorem pB_ (o:No) (g mb n:Nat) (M:ByteArray→Option Value) (ms:List Cm) (w:World) (hl:ms.length≤100000) (hk:∀ m ∈ ms,m.c.k.size≤6) (hx:Box w g [.int .i64 o.x.id,.int .i64 o.x.n,.int .i64 o.x.cut,.slice none 0 0,.slice o.p1 o.x.fd.length o.c1,.slice o.p2 o.su.length o.c2,.slice o.p3 o.un.length o.c3,.map (some mb)]) (hm:MapF w Tryz.prog 9 mb n M) (hM:∀ y ∈ ms,M y.c.k=some (qI_ y)) (hs:SKs mb ms w) :
  Calls Tryz.prog 96 #[.pointer (some ⟨g,0,none⟩)] w fun e w'=>∃ p c,e=.returned (.agg #[.int .i64 o.x.id,.int .i64 o.x.n,.int .i64 o.x.cut,.slice p ms.length c,.slice o.p1 o.x.fd.length o.c1,.slice o.p2 o.su.length o.c2,.slice o.p3 o.un.length o.c3])∧GRow w.heap.size w' p (zn_ ms)∧ms.length≤c∧Below w.heap.size w w':=by
 have DD:Hid (∀ W,Below w.heap.size w W→W.cell? ⟨g,7,none⟩=some (.map (some mb))):=fun W hW=>(hx.next hW).c8.2.2.2.2.2.2.2
 have LKA:Hid (∀ y ∈ ms,∀ W,Below w.heap.size w W→(Instr.lookup 125 (.map (some mb)) (.string y.c.k) false).run Tryz.prog W=.ok (.agg #[.string y.c.k,.slice y.p y.c.l.length y.q,.int .i64 y.c.a,.int .i64 y.c.b,.int .i64 y.c.c]) W):=fun y hy W hW=>by
  have h:=(hm.next hW).look (t:=125) Tryz.underlying9 Tryz.underlying125 (tR_ _) false y.c.k (by have:=hk y hy; unfold maxLen; omega)
  rw [hM y hy] at h
  simpa [qI_,xD_] using h
 have HX:=hm_ hx
 have SK:Hid (SKs mb ms w):=hs
 clear hk hm hM hs hx
 have e8:Hid (∀ W,Below w.heap.size w W→Box W g [.int .i64 o.x.id,.int .i64 o.x.n,.int .i64 o.x.cut,.slice none 0 0,.slice o.p1 o.x.fd.length o.c1,.slice o.p2 o.su.length o.c2,.slice o.p3 o.un.length o.c3,.map (some mb)]):=fun W hW=>HX.out.next hW
 obtain ⟨d0,d1,d2,d3,d4,d5,d6,d7⟩:=(HX.out.next (zb_ w (.cells nZ.toArray 29))).c8
 have I1:Hid (MdI w ((w.alloc (.cells nZ.toArray 29)).alloc (.cells #[.int .i64 o.x.id,.int .i64 o.x.n,.int .i64 o.x.cut,.slice none 0 0,.slice o.p1 o.x.fd.length o.c1,.slice o.p2 o.su.length o.c2,.slice o.p3 o.un.length o.c3] 29)) o ms 0 none 0 0):=⟨zo_.alloc,by have:=zo_ (W:=w.alloc (.cells nZ.toArray 29)) (t:=29) (vs:=[.int .i64 o.x.id,.int .i64 o.x.n,.int .i64 o.x.cut,.slice none 0 0,.slice o.p1 o.x.fd.length o.c1,.slice o.p2 o.su.length o.c2,.slice o.p3 o.un.length o.c3]); simpa using this,OwnG.nil _ _ _ _,(zb_ _ _).trans ((zb_ _ _).mono (by simp))⟩
 go_enter Tryz.func96,Tryz.ntmps96
 go_upto_region 2 with fail
 clear d0 d1 d2 d3 d4 d5 d6 d7
 generalize ((w.alloc (.cells nZ.toArray 29)).alloc (.cells #[.int .i64 o.x.id,.int .i64 o.x.n,.int .i64 o.x.cut,.slice none 0 0,.slice o.p1 o.x.fd.length o.c1,.slice o.p2 o.su.length o.c2,.slice o.p3 o.un.length o.c3] 29))=W1 at *
 have d7:=DD.out _ I1.out.b
 go_wp2_with fail
 refine Calls.mono (SK.out W1 I1.out.b).1 ?_
 rintro e w2 ⟨rfl,rfl⟩
 go_wp2_with fail
 refine Calls.mono (SK.out W1 I1.out.b).2 ?_
 rintro e w3 ⟨pk,ck,rfl,hT,hb⟩
 have I3:Hid (MdI w w3 o ms 0 none 0 w3.heap.size):=by
  have h:=(I1.out.next (zb_ _ _)).next hb
  exact ⟨h.z,h.x,OwnG.nil _ _ _ _,h.b⟩
 have T3:Hid (GRow (w.heap.size+2) w3 pk (V (ms.map (·.c.k)))):=hT.weak I1.out.x.lt
 have HLL:Hid (w.heap.size+2≤w3.heap.size):=I3.out.x.lt
 clear hT hb I1 d7 SK
 go_wp2
 go_loopw [17] (fun s17 wr=>∃ (i:Nat) (po:Option Addr) (pc:Nat),i≤ms.length∧s17=.int .i64 i∧(MdI w wr o ms i po pc w3.heap.size∧Kp (· = w.heap.size+1) w3 wr)) (fun s17 _=>ms.length - (intOf s17).toNat)
 case atStart=>exact ⟨0,none,0,by omega,rfl,I3.out,Kp.of_below (Below.refl _ _)⟩
 case round=>
  obtain ⟨i,po,pc,hi,rfl,hI,hB3⟩:=hrel
  have I0:=hm_ hI
  have KQ:=hm_ hB3
  clear hI hB3 I3
  have kk:(0:Int)≤(i:Int):=by omega
  by_cases hil:i < ms.length
  ·have hil':(i:Int) < (ms.length:Int):=by omega
   obtain ⟨y,hy⟩:∃ y,y=ms[i]:=⟨_,rfl⟩
   have HY:Hid (ms[i]=y):=hy.symm
   have LKT:Hid (∀ W,Below w.heap.size w W→(Instr.lookup 125 (.map (some mb)) (.string y.c.k) false).run Tryz.prog W=.ok (.agg #[.string y.c.k,.slice y.p y.c.l.length y.q,.int .i64 y.c.a,.int .i64 y.c.b,.int .i64 y.c.c]) W):=LKA.out y (hy ▸ List.getElem_mem hil)
   have G0:Hid (GRow (w.heap.size+2) wr pk (V (ms.map (·.c.k)))):=T3.out.kp KQ.out (fun x hx hv e=>by
    rcases T3.out with h | ⟨b,off,h1,h2,_⟩
    ·exact hv h
    ·rw [h1] at hx; cases hx; dsimp only at e; omega)
   rcases G0.out.txt with h' | ⟨b,off,rfl,hc⟩
   ·have:=congrArg List.length h'
    simp at this
    rw [this] at hil
    simp at hil
   have x0:wr.cell? ⟨b,off+i,none⟩=some (.string y.c.k):=by
    have:=hc i (by simpa using hil)
    simpa [HY.out] using this
   clear hc hy G0
   generalize hLz:w3.heap.size=L at *
   go_upto_region 5 with fail
   clear x0
   refine wp_region_held_drew (S:=(fun w'=>w'.cell? ⟨g,7,none⟩=some (.map (some mb)))) (by kernel_rfl) ?_ (fun hH=>?_)
   ·(try dsimp only)
    exact DD.out _ (I0.out.next (zc_ _)).b
   have BW:Hid (Below wr.heap.size wr wr.drew):=zc_ _
   refine wTk 0 ?_
   refine wTk 2 ?_
   refine wTk 3 ?_
   refine wTk 4 ?_
   refine wTk 5 ?_
   refine wTk 6 ?_
   generalize wr.drew=wd at *
   refine wpAnyH_ready (rs:=[1,7]) (by kernel_rfl) (by simp) ?_
   refine AllReadyH.cons rfl (fun K hK=>?_) (AllReadyH.cons rfl (fun K hK=>?_) AllReadyH.nil)
   ·obtain ⟨b0,b1,b2,b3,b4,b5,b6⟩:=(I0.out.next BW.out).x.c7
    refine wLy ?_
    go_simp
    (try simp only [])
    refine wHk hK (DD.out _ (I0.out.next BW.out).b) ?_
    clear hK K hH
    intro hH
    clear b0 b1 b2 b3 b4 b5 b6
    refine wpAnyH_ready (rs:=[7]) (by kernel_rfl) (by simp) ?_
    refine AllReadyH.cons rfl (fun K hK=>?_) AllReadyH.nil
    have LK:=LKT.out _ (I0.out.next BW.out).b
    refine wLy ?_
    go_simp
    (try simp only [])
    refine wHk hK (DD.out _ (I0.out.next BW.out).b) ?_
    clear hK K hH
    intro hH
    clear LK
    refine wRd 8 (fun K hK=>?_)
    go_simp
    (try simp only [])
    have LT:Hid (GRow 0 (wd.alloc (.cells #[.string y.c.k,.slice y.p y.c.l.length y.q,.int .i64 y.c.a,.int .i64 y.c.b,.int .i64 y.c.c] 91)) (some ⟨wd.heap.size,0,none⟩) (zn_ [y])):=qG_
    replace BW:=ze_ BW (zb_ wd (.cells #[.string y.c.k,.slice y.p y.c.l.length y.q,.int .i64 y.c.a,.int .i64 y.c.b,.int .i64 y.c.c] 91))
    refine wHk hK (DD.out _ (I0.out.next BW.out).b) ?_
    clear hK K hH
    intro hH
    generalize wd.alloc (.cells #[.string y.c.k,.slice y.p y.c.l.length y.q,.int .i64 y.c.a,.int .i64 y.c.b,.int .i64 y.c.c] 91)=x0 at *
    generalize wd.heap.size=gl at *
    refine wRd 9 (fun K hK=>?_)
    rw [if_pos (by rfl)]
    refine zx_ elC (.tmp 22) (.tmp 29) rfl (.slice po i pc) i (zn_ (ms.take i)) L (i+1) rfl (I0.out.next BW.out).f (by have:=KQ.out.size; have:=BW.out.size; omega) (some ⟨gl,0,none⟩) 1 1 (zn_ [y]) rfl rfl (yh_ _) 0 LT.out (by omega) rfl ?_
    intro pf cf x1 hO8 hG8 hS8
    have OW:Hid (OwnG x1 91 5 (.slice pf (i+1) cf) (i+1) (zn_ (ms.take i)++zn_ [y]) L∧Gro x0 x1 (.slice po i pc) (.slice pf (i+1) cf)):=⟨hO8,hG8⟩
    clear hO8 hG8 hS8
    have KB:Hid (Below w.heap.size w x1):=(I0.out.next BW.out).b.trans (OW.out.2.below (I0.out.next BW.out).b.size (fun k hk=>by have:=(I0.out.next BW.out).f.ge k hk; have:=HLL.out; omega))
    refine wHk hK (DD.out _ KB.out) ?_
    clear hK K hH
    intro hH
    refine wTk 10 ?_
    have NEX:¬ (Value.slice po i pc).ownBlock=some (w.heap.size+1):=fun e=>by have:=(I0.out.next BW.out).f.ge _ e; have:=HLL.out; omega
    have NEZ:¬ (Value.slice po i pc).ownBlock=some w.heap.size:=fun e=>by have:=(I0.out.next BW.out).f.ge _ e; have:=HLL.out; omega
    have DX:Hid (Box x1 (w.heap.size+1) [.int .i64 o.x.id,.int .i64 o.x.n,.int .i64 o.x.cut,.slice po i pc,.slice o.p1 o.x.fd.length o.c1,.slice o.p2 o.su.length o.c2,.slice o.p3 o.un.length o.c3]):=(I0.out.next BW.out).x.kp (Kp.of_gro OW.out.2) NEX
    have PX:Hid (MdI w (x1.setCell ⟨w.heap.size+1,3,none⟩ (.slice pf (i+1) cf)) o ms (i+1) pf cf L):=by
     refine ⟨((I0.out.next BW.out).z.kp (Kp.of_gro OW.out.2) NEZ).oth (by omega),?_,?_,zH_ KB.out (by omega)⟩
     ·have:=DX.out.set (i:=3) (u:=.slice pf (i+1) cf) (by simp)
      simpa using this
     ·have e:zn_ (ms.take (i+1))=zn_ (ms.take i)++zn_ [y]:=by rw [List.take_succ_eq_append_getElem hil,yL_,HY.out]
      rw [e]
      exact OW.out.1.kp Kp.set (fun k hk e=>by have:=OW.out.1.ge k hk; have:=HLL.out; omega)
    have KN:Hid (Kp (· = w.heap.size+1) w3 (x1.setCell ⟨w.heap.size+1,3,none⟩ (.slice pf (i+1) cf))):=((KQ.out.trans (Kp.of_below (E:=fun _=>False) BW.out) (E2:=(· = w.heap.size+1)) (fun _ _ h=>h) (fun _ _ h=>h.elim)).trans (Kp.of_gro OW.out.2) (E2:=(· = w.heap.size+1)) (fun _ _ h=>h) (fun x hx e=>by have h1:=(I0.out.next BW.out).f.ge _ e; omega)).trans Kp.set (fun _ _ h=>h) (fun _ _ h=>h)
    obtain ⟨b0,b1,b2,b3,b4,b5,b6⟩:=DX.out.c7
    obtain ⟨f0,f1,f2,f3,f4,f5,f6⟩:=DX.out.f7
    refine wRd 11 (fun K hK=>?_)
    go_simp
    (try simp only [])
    refine wHk hK (DD.out _ PX.out.b) ?_
    clear hK K hH
    intro hH
    refine wDn ?_
    clear hH b0 b1 b2 b3 b4 b5 b6 f0 f1 f2 f3 f4 f5 f6
    go_wp2
    go_roundw
    case rel=>exact ⟨i+1,pf,cf,by omega,by go_num,PX.out,KN.out⟩
    case measure=>simp [intOf]; omega
   ·have LK:=LKT.out _ (I0.out.next BW.out).b
    refine wLy ?_
    go_simp
    (try simp only [])
    refine wHk hK (DD.out _ (I0.out.next BW.out).b) ?_
    clear hK K hH
    intro hH
    clear LK
    refine wpAnyH_ready (rs:=[1,8]) (by kernel_rfl) (by simp) ?_
    refine AllReadyH.cons rfl (fun K hK=>?_) (AllReadyH.cons rfl (fun K hK=>?_) AllReadyH.nil)
    focus
     obtain ⟨b0,b1,b2,b3,b4,b5,b6⟩:=(I0.out.next BW.out).x.c7
     refine wLy ?_
     go_simp
     (try simp only [])
     refine wHk hK (DD.out _ (I0.out.next BW.out).b) ?_
     clear hK K hH
     intro hH
     clear b0 b1 b2 b3 b4 b5 b6
     refine wRd 8 (fun K hK=>?_)
     go_simp
     (try simp only [])
     have LT:Hid (GRow 0 (wd.alloc (.cells #[.string y.c.k,.slice y.p y.c.l.length y.q,.int .i64 y.c.a,.int .i64 y.c.b,.int .i64 y.c.c] 91)) (some ⟨wd.heap.size,0,none⟩) (zn_ [y])):=qG_
     replace BW:=ze_ BW (zb_ wd (.cells #[.string y.c.k,.slice y.p y.c.l.length y.q,.int .i64 y.c.a,.int .i64 y.c.b,.int .i64 y.c.c] 91))
     refine wHk hK (DD.out _ (I0.out.next BW.out).b) ?_
     clear hK K hH
     intro hH
     generalize wd.alloc (.cells #[.string y.c.k,.slice y.p y.c.l.length y.q,.int .i64 y.c.a,.int .i64 y.c.b,.int .i64 y.c.c] 91)=x0 at *
     generalize wd.heap.size=gl at *
    rotate_left
    focus
     refine wLy ?_
     go_simp
     (try simp only [])
     have LT:Hid (GRow 0 (wd.alloc (.cells #[.string y.c.k,.slice y.p y.c.l.length y.q,.int .i64 y.c.a,.int .i64 y.c.b,.int .i64 y.c.c] 91)) (some ⟨wd.heap.size,0,none⟩) (zn_ [y])):=qG_
     replace BW:=ze_ BW (zb_ wd (.cells #[.string y.c.k,.slice y.p y.c.l.length y.q,.int .i64 y.c.a,.int .i64 y.c.b,.int .i64 y.c.c] 91))
     refine wHk hK (DD.out _ (I0.out.next BW.out).b) ?_
     clear hK K hH
     intro hH
     generalize wd.alloc (.cells #[.string y.c.k,.slice y.p y.c.l.length y.q,.int .i64 y.c.a,.int .i64 y.c.b,.int .i64 y.c.c] 91)=x0 at *
     generalize wd.heap.size=gl at *
     refine wpAnyH_ready (rs:=[1]) (by kernel_rfl) (by simp) ?_
     refine AllReadyH.cons rfl (fun K hK=>?_) AllReadyH.nil
     obtain ⟨b0,b1,b2,b3,b4,b5,b6⟩:=(I0.out.next BW.out).x.c7
     refine wLy ?_
     go_simp
     (try simp only [])
     refine wHk hK (DD.out _ (I0.out.next BW.out).b) ?_
     clear hK K hH
     intro hH
     clear b0 b1 b2 b3 b4 b5 b6
    rotate_left
    all_goals
     refine wRd 9 (fun K hK=>?_)
     rw [if_pos (by rfl)]
     refine zx_ elC (.tmp 22) (.tmp 29) rfl (.slice po i pc) i (zn_ (ms.take i)) L (i+1) rfl (I0.out.next BW.out).f (by have:=KQ.out.size; have:=BW.out.size; omega) (some ⟨gl,0,none⟩) 1 1 (zn_ [y]) rfl rfl (yh_ _) 0 LT.out (by omega) rfl ?_
     intro pf cf x1 hO8 hG8 hS8
     have OW:Hid (OwnG x1 91 5 (.slice pf (i+1) cf) (i+1) (zn_ (ms.take i)++zn_ [y]) L∧Gro x0 x1 (.slice po i pc) (.slice pf (i+1) cf)):=⟨hO8,hG8⟩
     clear hO8 hG8 hS8
     have KB:Hid (Below w.heap.size w x1):=(I0.out.next BW.out).b.trans (OW.out.2.below (I0.out.next BW.out).b.size (fun k hk=>by have:=(I0.out.next BW.out).f.ge k hk; have:=HLL.out; omega))
     refine wHk hK (DD.out _ KB.out) ?_
     clear hK K hH
     intro hH
     refine wTk 10 ?_
     have NEX:¬ (Value.slice po i pc).ownBlock=some (w.heap.size+1):=fun e=>by have:=(I0.out.next BW.out).f.ge _ e; have:=HLL.out; omega
     have NEZ:¬ (Value.slice po i pc).ownBlock=some w.heap.size:=fun e=>by have:=(I0.out.next BW.out).f.ge _ e; have:=HLL.out; omega
     have DX:Hid (Box x1 (w.heap.size+1) [.int .i64 o.x.id,.int .i64 o.x.n,.int .i64 o.x.cut,.slice po i pc,.slice o.p1 o.x.fd.length o.c1,.slice o.p2 o.su.length o.c2,.slice o.p3 o.un.length o.c3]):=(I0.out.next BW.out).x.kp (Kp.of_gro OW.out.2) NEX
     have PX:Hid (MdI w (x1.setCell ⟨w.heap.size+1,3,none⟩ (.slice pf (i+1) cf)) o ms (i+1) pf cf L):=by
      refine ⟨((I0.out.next BW.out).z.kp (Kp.of_gro OW.out.2) NEZ).oth (by omega),?_,?_,zH_ KB.out (by omega)⟩
      ·have:=DX.out.set (i:=3) (u:=.slice pf (i+1) cf) (by simp)
       simpa using this
      ·have e:zn_ (ms.take (i+1))=zn_ (ms.take i)++zn_ [y]:=by rw [List.take_succ_eq_append_getElem hil,yL_,HY.out]
       rw [e]
       exact OW.out.1.kp Kp.set (fun k hk e=>by have:=OW.out.1.ge k hk; have:=HLL.out; omega)
     have KN:Hid (Kp (· = w.heap.size+1) w3 (x1.setCell ⟨w.heap.size+1,3,none⟩ (.slice pf (i+1) cf))):=((KQ.out.trans (Kp.of_below (E:=fun _=>False) BW.out) (E2:=(· = w.heap.size+1)) (fun _ _ h=>h) (fun _ _ h=>h.elim)).trans (Kp.of_gro OW.out.2) (E2:=(· = w.heap.size+1)) (fun _ _ h=>h) (fun x hx e=>by have h1:=(I0.out.next BW.out).f.ge _ e; omega)).trans Kp.set (fun _ _ h=>h) (fun _ _ h=>h)
     obtain ⟨b0,b1,b2,b3,b4,b5,b6⟩:=DX.out.c7
     obtain ⟨f0,f1,f2,f3,f4,f5,f6⟩:=DX.out.f7
     refine wRd 11 (fun K hK=>?_)
     go_simp
     (try simp only [])
     refine wHk hK (DD.out _ PX.out.b) ?_
     clear hK K hH
     intro hH
     refine wDn ?_
     clear hH b0 b1 b2 b3 b4 b5 b6 f0 f1 f2 f3 f4 f5 f6
     go_wp2
     go_roundw
     case rel=>exact ⟨i+1,pf,cf,by omega,by go_num,PX.out,KN.out⟩
     case measure=>simp [intOf]; omega
  ·have hil':¬ (i:Int) < (ms.length:Int):=by omega
   obtain rfl:i=ms.length:=by omega
   obtain ⟨b0,b1,b2,b3,b4,b5,b6⟩:=I0.out.x.c7
   obtain ⟨a0,a1,a2,a3,a4,a5,a6⟩:=I0.out.z.c7
   obtain ⟨f0,f1,f2,f3,f4,f5,f6⟩:=I0.out.z.f7
   have hL:=HLL.out
   go_wp2
   refine bodyPost_ret (v:=.agg #[.int .i64 o.x.id,.int .i64 o.x.n,.int .i64 o.x.cut,.slice po ms.length pc,.slice o.p1 o.x.fd.length o.c1,.slice o.p2 o.su.length o.c2,.slice o.p3 o.un.length o.c3]) (by simp [results,Tryz.results96,go_sem, *]) rfl ?_
   obtain ⟨q0,d0,e0,hc0,hg0⟩:=I0.out.f.grow
   cases e0
   rw [List.take_length] at hg0
   exact ⟨po,pc,rfl,pG_ (by omega) (hg0.weak (by omega)),hc0,vC_ I0.out.b (by omega)⟩
end
end Go.Proofs.YtiokjphefpicbaaGreatDoor
