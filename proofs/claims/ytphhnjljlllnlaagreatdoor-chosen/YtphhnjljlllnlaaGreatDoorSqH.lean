/- part -/
import Derived.Test.YtphhnjljlllnlaaGreatDoorSpR
import Derived.Sort.LoopGhostIn
set_option maxRecDepth 100000
set_option maxHeartbeats 8000000
namespace Go.Proofs.YtphhnjljlllnlaaGreatDoor
open Go.Proofs.Tryz
open Or
open Go.RowKit Go.Sort Go.Shelf
attribute [local go_sem] Oper.semAt_some
theorem I8{a b:List Rv}(h:iL a b<0):∃ x a',a=x::a'/\eI a b=(true,sR x.r,a',b):=by
 match a,b with
 | [],_=>simp [iL]at h
 | x::a,[]=>exact⟨x,a,rfl,rfl⟩
 | x::a,y::b =>
  refine⟨x,a,rfl,?_⟩;rw [ly,aS (show gv x.net y.net<0 from h)]
theorem I7{a b:List Rv}(h:0<iL a b)(h0:0<a.length+b.length):∃ y b',b=y::b'/\eI a b=(true,ov y.r,a,b'):=by
 match a,b with
 | [],[]=>simp at h0
 | [],y::b=>exact⟨y,b,rfl,rfl⟩
 | x::a,[]=>simp [iL]at h
 | x::a,y::b =>
  refine⟨y,b,rfl,?_⟩;have h:0<gv x.net y.net:=h;rw [ly,aG (by omega),aS h]
theorem I6{a b:List Rv}(h:iL a b=0):∃ x a' y b',a=x::a'/\b=y::b'/\eI a b=(!yt x.r y.r,ov y.r,a',b'):=by
 match a,b with
 | [],_=>simp [iL]at h
 | x::a,[]=>simp [iL]at h
 | x::a,y::b =>
  refine⟨x,a,y,b,rfl,rfl,?_⟩;have h:gv x.net y.net=0:=h;rw [ly,aG (by omega),aG (by omega)]
abbrev KJ:Obj:=.cells #[.slice none 0 0,.slice none 0 0,.slice none 0 0,.slice none 0 0,.int .i64 0,.int .i64 0] 87
structure zw(wr:World)(Bv Bm:Nat)(a b:List Rv)(wc:World)(x:MV):Prop where
 msg:x.m=(eI a b).2.1
 blk:wc.heap[wr.heap.size]?=some (.cells #[x.vg,x.vn,x.vp,x.vm,.int .i64 x.m.pref,.int .i64 x.m.med] 87 (0,0))
 mv:Fl wc x
 ch:pf wc Bv Bm (eI a b).2.2.1 (eI a b).2.2.2
 fr:Fr (λ k=>k=Bv\/k=Bm) wr (λ k=>k=Bv\/k=Bm) wc
theorem zw.drew{wr wc:World}{Bv Bm:Nat}{a b:List Rv}{x:MV}(h:zw wr Bv Bm a b wc x):zw wr Bv Bm a b wc.drew x :=
 have hb:Below wc.heap.size wc wc.drew:=(aY _ _).drew
 ⟨h.msg,h.blk,⟨h.mv.gone.below hb,h.mv.nets.below hb,h.mv.path.below hb,h.mv.marks.below hb,h.mv.ok⟩,h.ch.below hb,h.fr.drew⟩
theorem yi{wr w3 Y:World}{Bv Bm:Nat}{a b:List Rv}{v' u':Value}{x:MV}{z3:Nat×Nat}{cz:Array Value}(hb:Below wr.heap.size wr w3)(h4:w3.heap[wr.heap.size]?=some (.cells cz 87 z3))(hV:∃ v,w3.heap[Bv]?=some (.cells #[v] 105 (0,0)))(hM:∃ v,w3.heap[Bm]?=some (.cells #[v] 105 (0,0)))
  (hY:Fr (λ k=>k=wr.heap.size\/k=Bv\/k=Bm) w3 (λ k=>k=wr.heap.size\/k=Bv\/k=Bm) Y) (hu:Y.heap[wr.heap.size]?=some (.cells #[x.vg,x.vn,x.vp,x.vm,.int .i64 x.m.pref,.int .i64 x.m.med] 87 (0,0)))
  (hv:Y.heap[Bv]?=some (.cells #[v'] 105 (0,0))) (hm:Y.heap[Bm]?=some (.cells #[u'] 105 (0,0))) (r1:eR w3 v' (eI a b).2.2.1) (r2:eR w3 u' (eI a b).2.2.2) (ra:∀ y∈a,bK w3 y/\dh y.r=true) (rb:∀ y∈b,bK w3 y/\dh y.r=true)
  (hx:x.m=(eI a b).2.1) (mv:(∀ y:Rv,bK w3 y->bK Y y)->Fl Y x):zw wr Bv Bm a b Y x:=by
 obtain⟨v0,hV⟩:=hV;obtain⟨m0,hM⟩:=hM
 have key:∀(k:Nat) (c:Array Value) (T:TypeId) (z:Nat×Nat),w3.heap[k]?=some (.cells c T z)->T≠87->T≠105->Y.heap[k]?=w3.heap[k]?:=λ k c T z hk h1 h2=>hY.block k (ah hk) λ e=>by
  rcases e with e|e|e
  ·rw [e,h4]at hk;cases hk;exact h1 rfl
  ·rw [e,hV]at hk;cases hk;exact h2 rfl
  rw [e,hM]at hk;cases hk;exact h2 rfl
 have hR:∀ y:Rv,bK w3 y->bK Y y:=λ y hy=>hy.fr λ k _ ⟨cur,hc⟩=>key k _ _ _ hc (by decide) (by decide)
 refine⟨hx,hu,mv hR,⟨⟨v',hv,r1.of λ k cur hc=>(key k _ _ _ hc (by decide) (by decide)).trans hc⟩,⟨u',hm,r2.of λ k cur hc=>(key k _ _ _ hc (by decide) (by decide)).trans hc⟩,λ y hy=>?_,λ y hy=>?_⟩,?_⟩
 ·have:=ra y (BK.1 y hy);exact⟨hR y this.1,this.2⟩
 ·have:=rb y (BK.2 y hy);exact⟨hR y this.1,this.2⟩
 exact⟨hY.os.trans hb.os,hY.tape.trans hb.tape,hY.output.trans hb.output,gG hb.size hY.size,λ k hk hno=>(hY.block k (gY hk hb.size) λ e=>by
  rcases e with e|e
  ·omega
  ·exact hno e).trans (hb.block k hk),λ k hk=>inl hk⟩
abbrev uW(X:World)(b:Nat)(v0 v1 v2 v3 v4 v5:Value):World:=(((((X.setCell ⟨b,0,none⟩ v0).setCell ⟨b,1,none⟩ v1).setCell ⟨b,2,none⟩ v2).setCell ⟨b,3,none⟩ v3).setCell ⟨b,4,none⟩ v4).setCell ⟨b,5,none⟩ v5
theorem dE{X:World}{b k o:Nat}{v0 v1 v2 v3 v4 v5:Value}(h:k≠b):(uW X b v0 v1 v2 v3 v4 v5).cell? ⟨k,o,none⟩=X.cell? ⟨k,o,none⟩:=World.cell?_of_block (bg h)
theorem zc(X:World)(b Bv Bm:Nat)(v0 v1 v2 v3 v4 v5:Value):Fr (λ k=>k=b\/k=Bv\/k=Bm) X (λ k=>k=b\/k=Bv\/k=Bm) (uW X b v0 v1 v2 v3 v4 v5) :=
 ((((((dw (λ k=>k=b\/k=Bv\/k=Bm) X).setCell (p:=⟨b,0,none⟩) (inl (inl rfl)) v0).setCell (p:=⟨b,1,none⟩) (inl (inl rfl)) v1).setCell (p:=⟨b,2,none⟩) (inl (inl rfl)) v2).setCell (p:=⟨b,3,none⟩) (inl (inl rfl)) v3).setCell (p:=⟨b,4,none⟩) (inl (inl rfl)) v4).setCell (p:=⟨b,5,none⟩) (inl (inl rfl)) v5
theorem Ll{wr W2 w3:World}{Bv Bm g3:Nat}{x:Rv}{a b:List Rv}{v':Value}(h1:Below wr.heap.size wr W2)(h4:W2.heap[wr.heap.size]?=some KJ)(hch:pf W2 Bv Bm (x::a) b)(hb3:Below W2.heap.size W2 w3)(hn3:w3.heap[g3]?=some (.cells #[.int .i64 x.r.addr,.int .i64 x.r.len] 63 (0,0)))(hg3:W2.heap.size<=g3)
  (hv:Bv<wr.heap.size) (hm:Bm<wr.heap.size) (hne:Bv≠Bm) (hst:eI (x::a) b=(true,sR x.r,a,b)) (hv':eR W2 v' a) :
  zw wr Bv Bm (x::a) b ((uW w3 wr.heap.size (.slice (some ⟨g3,0,none⟩) 1 1) (.slice none 0 0) (.slice none 0 0) (.slice none 0 0) (.int .i64 0) (.int .i64 0)).setCell ⟨Bv,0,none⟩ v') ⟨sR x.r,.slice (some ⟨g3,0,none⟩) 1 1,.slice none 0 0,.slice none 0 0,.slice none 0 0⟩:=by
 have hch3:=hch.below hb3;obtain⟨⟨v0,hv0,rv0⟩,⟨u0,hu0,ru0⟩,hra,hrb⟩:=hch3;have h43:=(hb3.block _ (ah h4)).trans h4;have hlt:=ah h4;have hb:=h1.trans (hb3.mono h1.size);refine yi (v':=v') (u':=u0) hb h43 ⟨_,hv0⟩ ⟨_,hu0⟩ ((zc w3 wr.heap.size Bv Bm _ _ _ _ _ _).setCell (inl (inr (inl rfl))) _) ?_ ?_ ?_ ?_ ?_ hra hrb ?_ λ hR=>Of ?_ (hra x (by simp)).2
 ·rw [ai (by simp only;omega)];exact gT h43
 ·exact(aV (by rw [bg (by omega)];exact hv0)).trans rfl
 ·rw [ai (by simp only;omega),bg (by omega)];exact hu0
 ·rw [hst];exact hv'.of λ k cur hc=>(hb3.block k (ah hc)).trans hc
 ·rw [hst];exact ru0
 ·rw [hst]
 rw [ai (by simp only;have:=h1.size;omega),bg (by omega)];exact hn3
theorem Lj{wr W2 w3:World}{Bv Bm g3:Nat}{y:Rv}{a b:List Rv}{u':Value}(h1:Below wr.heap.size wr W2)(h4:W2.heap[wr.heap.size]?=some KJ)(hch:pf W2 Bv Bm a (y::b))(hb3:Below W2.heap.size W2 w3)(hn3:w3.heap[g3]?=some (.cells #[.int .i64 y.r.addr,.int .i64 y.r.len] 63 (0,0)))(hg3:W2.heap.size<=g3)
  (hv:Bv<wr.heap.size) (hm:Bm<wr.heap.size) (hne:Bv≠Bm) (hst:eI a (y::b)=(true,ov y.r,a,b)) (hu':eR W2 u' b) :
  zw wr Bv Bm a (y::b) ((uW w3 wr.heap.size (.slice none 0 0) (.slice (some ⟨g3,0,none⟩) 1 1) (.slice y.pq y.r.path.length y.pc) (.slice y.mq y.r.marks.length y.mc) (.int .i64 y.r.pref) (.int .i64 y.r.med)).setCell ⟨Bm,0,none⟩ u') ⟨ov y.r,.slice none 0 0,.slice (some ⟨g3,0,none⟩) 1 1,.slice y.pq y.r.path.length y.pc,.slice y.mq y.r.marks.length y.mc⟩:=by
 have hch3:=hch.below hb3;obtain⟨⟨v0,hv0,rv0⟩,⟨u0,hu0,ru0⟩,hra,hrb⟩:=hch3;have h43:=(hb3.block _ (ah h4)).trans h4;have hlt:=ah h4;have hb:=h1.trans (hb3.mono h1.size);refine yi (v':=v0) (u':=u') hb h43 ⟨_,hv0⟩ ⟨_,hu0⟩ ((zc w3 wr.heap.size Bv Bm _ _ _ _ _ _).setCell (inl (inr (inr rfl))) _) ?_ ?_ ?_ ?_ ?_ hra hrb ?_ λ hR=>M3 ?_ (hR _ (hrb y (by simp)).1) (hrb y (by simp)).2
 ·rw [ai (by simp only;omega)];exact gT h43
 ·rw [ai (by simp only;omega),bg (by omega)];exact hv0
 ·exact(aV (by rw [bg (by omega)];exact hu0)).trans rfl
 ·rw [hst];exact rv0
 ·rw [hst];exact hu'.of λ k cur hc=>(hb3.block k (ah hc)).trans hc
 ·rw [hst]
 rw [ai (by simp only;have:=h1.size;omega),bg (by omega)];exact hn3
theorem Lk{wr W2 w3:World}{Bv Bm g3:Nat}{x y:Rv}{a b:List Rv}{v' u':Value}(h1:Below wr.heap.size wr W2)(h4:W2.heap[wr.heap.size]?=some KJ)(hch:pf W2 Bv Bm (x::a) (y::b))(hb3:Below W2.heap.size W2 w3)(hn3:w3.heap[g3]?=some (.cells #[.int .i64 y.r.addr,.int .i64 y.r.len] 63 (0,0)))(hg3:W2.heap.size<=g3)
  (hv:Bv<wr.heap.size) (hm:Bm<wr.heap.size) (hne:Bv≠Bm) (hst:eI (x::a) (y::b)=(!yt x.r y.r,ov y.r,a,b)) (hv':eR W2 v' a) (hu':eR W2 u' b) :
  zw wr Bv Bm (x::a) (y::b) (((uW w3 wr.heap.size (.slice none 0 0) (.slice (some ⟨g3,0,none⟩) 1 1) (.slice y.pq y.r.path.length y.pc) (.slice y.mq y.r.marks.length y.mc) (.int .i64 y.r.pref) (.int .i64 y.r.med)).setCell ⟨Bv,0,none⟩ v').setCell ⟨Bm,0,none⟩ u') ⟨ov y.r,.slice none 0 0,.slice (some ⟨g3,0,none⟩) 1 1,.slice y.pq y.r.path.length y.pc,.slice y.mq y.r.marks.length y.mc⟩:=by
 have hch3:=hch.below hb3;obtain⟨⟨v0,hv0,rv0⟩,⟨u0,hu0,ru0⟩,hra,hrb⟩:=hch3;have h43:=(hb3.block _ (ah h4)).trans h4;have hlt:=ah h4;have hb:=h1.trans (hb3.mono h1.size);refine yi (v':=v') (u':=u') hb h43 ⟨_,hv0⟩ ⟨_,hu0⟩ (((zc w3 wr.heap.size Bv Bm _ _ _ _ _ _).setCell (inl (inr (inl rfl))) _).setCell (inl (inr (inr rfl))) _) ?_ ?_ ?_ ?_ ?_ hra hrb ?_ λ hR=>M3 ?_ (hR _ (hrb y (by simp)).1) (hrb y (by simp)).2
 ·rw [ai (by simp only;omega),ai (by simp only;omega)];exact gT h43
 ·rw [ai (by simp only;omega)];exact(aV (by rw [bg (by omega)];exact hv0)).trans rfl
 ·exact(aV (by rw [ai (by simp only;omega),bg (by omega)];exact hu0)).trans rfl
 ·rw [hst];exact hv'.of λ k cur hc=>(hb3.block k (ah hc)).trans hc
 ·rw [hst];exact hu'.of λ k cur hc=>(hb3.block k (ah hc)).trans hc
 ·rw [hst]
 rw [ai (by simp only;have:=h1.size;omega),ai (by simp only;have:=h1.size;omega),bg (by omega)];exact hn3
theorem zV(n:Nat)(hn:1<=n)(L Bv Bm:Nat)(a0 b0:List Rv)(hne:Bv≠Bm)(J:List MV->World->Prop)(W:World)(hJ:∀ pre X Y,J pre X->Fr (λ k=>k=Bv\/k=Bm) X (λ k=>k=Bv\/k=Bm) Y->J pre Y)
  (hY:∀ pre x X,J pre X->Fl X x->pre.length<1000->YieldAt Fence.wide (n-1) prog L #[x.val] X λ e Y=>e=.returned (.bool true)/\J (pre++[x]) Y/\zA X Y) (h0:J [] W) (hc:pf W Bv Bm a0 b0) (hl:a0.length+b0.length<=1000) :
  CallsIn Fence.wide n prog 103 #[.func (.yield L) #[] #[],au Bv 0,au Bm 0] W λ e Y=>(∃ v,e=.returned v)/\∃ xs:List MV,xs.map (·.m)=pH (a0.length+b0.length) (a0.map (·.r)) (b0.map (·.r))/\J xs Y:=by
 refine callsIn_of_wp func103 rfl trivial ?_ rfl;simp only [ntmps103,List.size_toArray,List.length_cons,List.length_nil,Nat.reduceAdd,Nat.reduceSub,Array.replicate_succ,Array.replicate_zero,List.push_toArray,List.append_toArray,List.nil_append,List.cons_append];have HJ:=af hJ;have HY:=af hY;have HC:=af hc;have DB:=af h0;clear hJ hY hc h0
 gi_wp2
 gi_loopg [] (a0.length+b0.length) (λ k wr=>∃(a b:List Rv) (pre:List MV) (f:Nat),a.length+b.length<=k/\a.length+b.length<=f/\pre.map (·.m)++pH f (a.map (·.r)) (b.map (·.r))=pH (a0.length+b0.length) (a0.map (·.r)) (b0.map (·.r))/\pre.length+(a.length+b.length)<=a0.length+b0.length/\J pre wr/\pf wr Bv Bm a b)
 case atStart=>exact⟨a0,b0,[],a0.length+b0.length,aL _,aL _,rfl,by simp,ae DB,ae HC⟩
 case round =>
  obtain⟨a,b,pre,f,hk,hf,heq,hpl,hJs,hch⟩:=hrel;have CB:=af hch;obtain⟨⟨v,hv,hrv⟩,⟨u,hu,hru⟩,hra,hrb⟩:=hch;have RV:=af hrv;have RU:=af hru;obtain⟨qv,cv,rfl,-⟩:=hrv;obtain⟨qu,cu,rfl,-⟩:=hru;have c1:wr.cell? ⟨Bv,0,none⟩=some (.slice qv a.length cv):=ag hv;have c2:wr.cell? ⟨Bm,0,none⟩=some (.slice qu b.length cu):=ag hu;have HV:=af hv;have HU:=af hu;have GB:=af hra;have HB:=af hrb;have AB:=af hJs;have TA:=af heq;clear hv hu hra hrb hJs heq;by_cases hpos:0<a.length+b.length
  ·have hal:a.length<=1000:=by omega
   have hbl:b.length<=1000:=by omega
   have lBv:Bv<wr.heap.size:=ah (ae HV);have lBm:Bm<wr.heap.size:=ah (ae HU);refine wpIn_wide.2 ?_;go_upto_region 0 with fail
   go_cut [14] (λ v14 wc=>v14=.bool true/\wc=wr)
   case first =>
    by_cases ha:0<a.length
    ·go_wp2_with fail
     go_meet
     case rel=>exact⟨rfl,rfl⟩
    have hb':0<b.length:=by omega
    go_wp2_with fail
    go_meet
    case rel=>exact⟨rfl,rfl⟩
   case rest =>
    obtain⟨rfl,rfl⟩:=hcut
    rename World=>wr
    go_upto_region 1 with fail
    go_cut [4,5] (λ v4 v5 wd=>v4=au wr.heap.size 0/\v5=.bool true/\wd=wr.alloc KJ)
    case first =>
     go_wp2_with fail
     go_meet
     case rel=>exact⟨rfl,rfl,rfl⟩
    case rest =>
     rename_i hK1
     rename World=>W1
     obtain⟨rfl,rfl,hW1⟩:=hcut;refine hK1 _ _ ?_;refine wp_seq_k λ K2 hK2=>?_
     go_cut [5] (λ v5 wx=>∃ x:MV,v5=.bool (eI a b).1/\zw wr Bv Bm a b wx x)
     case first =>
      have hB1:Below wr.heap.size wr W1:=by rw [hW1];exact(aY _ _).alloc (aL _) _
      have h41:W1.heap[wr.heap.size]?=some KJ:=by rw [hW1];exact cM wr _
      have KA:=af ((ae CB).below hB1);have d1:W1.cell? ⟨Bv,0,none⟩=some (.slice qv a.length cv):=(hB1.cell (p:=⟨Bv,0,none⟩) lBv).trans c1;have d2:W1.cell? ⟨Bm,0,none⟩=some (.slice qu b.length cu):=(hB1.cell (p:=⟨Bm,0,none⟩) lBm).trans c2;have XA:=af ((ae RV).of λ k cur hc=>(hB1.block k (ah hc)).trans hc);have WA:=af ((ae RU).of λ k cur hc=>(hB1.block k (ah hc)).trans hc);have OA:=af (qO a b _ _ W1 (ae XA).readV (ae WA).readV hal hbl);have PA:=af h41;have QA:=af hB1;obtain⟨z,hz⟩:∃ z,iL a b=z:=⟨_,rfl⟩
      rw [hz]at OA;have HZ:=af hz;have lu1:wr.heap.size<W1.heap.size:=ah h41;clear hz h41 hB1 hW1;go_upto_region 5 with(go_at_call 104;refine(ae OA).mono ?_;rintro e w2 ⟨rfl,q2,os2,hw2⟩;have ZA:Hid (bF W1 w2):=(af ⟨q2,os2,hw2⟩);clear hw2)
      have hbW:=(ae ZA).below;have hsz2:=hbW.size;have RA:=af ((ae QA).trans (hbW.mono (ae QA).size));have h42:=(hbW.block _ (ah (ae PA))).trans (ae PA);have AA:=af ((ae KA).below hbW);have e1:w2.cell? ⟨Bv,0,none⟩=some (.slice qv a.length cv):=(hbW.cell (p:=⟨Bv,0,none⟩) (by show Bv<W1.heap.size;omega)).trans d1;have e2:w2.cell? ⟨Bm,0,none⟩=some (.slice qu b.length cu):=(hbW.cell (p:=⟨Bm,0,none⟩) (by show Bm<W1.heap.size;omega)).trans d2;have NA:=af ((ae XA).of λ k cur hc=>(hbW.block k (ah hc)).trans hc);have MA:=af ((ae WA).of λ k cur hc=>(hbW.block k (ah hc)).trans hc);have CA:=af h42;have lu2:wr.heap.size<w2.heap.size:=ah h42;have lv2:Bv<w2.heap.size:=by omega
      have lm2:Bm<w2.heap.size:=by omega
      clear hbW h42 d1 d2 c1 c2 XA WA RV RU OA ZA KA PA QA;generalize hna:a.length=na at e1 NA ⊢;generalize hnb:b.length=nb at e2 MA ⊢;have EB:=af hna;have FB:=af hnb;by_cases hz1:z<0
      ·obtain⟨x,a',ha,hst⟩:=I8 (show iL a b<0 by rw [ae HZ];exact hz1);subst ha;obtain⟨g,o,rfl,hg,hn1,hnc,hcell,htail,hc1⟩:=(ae NA).tail
       obtain⟨A,hA,HTL⟩:∃ A:Addr,(if cv=1 then some (⟨g,o,none⟩:Addr)else some ⟨g,o+6,none⟩)=some A/\Hid (eR w2 (.slice (some A) a'.length (cv-1)) a'):=by
        by_cases h:cv=1
        ·exact⟨_,by rw [aS h],af (by rw [hc1 h];exact eR.nil _ _ _)⟩
        exact⟨_,by rw [aG h],af htail⟩
       have x0:w2.cell? ⟨g,o,none⟩=some (.int .i64 x.r.addr):=hcell 0 (by decide);have x1:w2.cell? ⟨g,o+1,none⟩=some (.int .i64 x.r.len):=hcell 1 (by decide);have x2:w2.cell? ⟨g,o+2,none⟩=some (.slice x.pq x.r.path.length x.pc):=hcell 2 (by decide);have x3:w2.cell? ⟨g,o+3,none⟩=some (.slice x.mq x.r.marks.length x.mc):=hcell 3 (by decide);have x4:w2.cell? ⟨g,o+4,none⟩=some (.int .i64 x.r.pref):=hcell 4 (by decide);have x5:w2.cell? ⟨g,o+5,none⟩=some (.int .i64 x.r.med):=hcell 5 (by decide);have WD:=af (λ W=>vA x W);have HA:=af (λ(w3:World) (g3:Nat) (v':Value) hb3 hn3 hg3 hv'=>Ll (ae RA) (ae CA) (ae AA) (w3:=w3) (g3:=g3) (v':=v') hb3 hn3 hg3 lBv lBm hne hst hv');obtain⟨v0,hvb,-⟩:=(ae AA).view;have JA:=af hvb;have BA:=af hst;obtain⟨m,hm⟩:∃ m,a'.length=m:=⟨_,rfl⟩
       have hm1:m<=1000:=by simp only [List.length_cons]at hal;omega
       rw [hm]at hn1 HTL;subst hn1;dsimp only [bQ]at WD;clear hst hvb hcell htail hc1 hm hna hal hk hf hpl hpos;have hcv:1<=cv:=by omega
       go_upto_region 6 with fail
       go_region_with (go_at_call 105;refine(ae WD _).mono ?_;rintro e w3 ⟨g3,rfl,hg3,hn3,hb3⟩;have DA:Hid (Below w2.heap.size w2 w3):=(af ⟨hb3.os,hb3.tape,hb3.output,hb3.size,hb3.block⟩);have f1:=((ae DA).cell (p:=⟨Bv,0,none⟩) lv2).trans e1;have h43:=((ae DA).block _ lu2).trans (ae CA);have y0:=ag h43 (o:=0);have y1:=ag h43 (o:=1);have y2:=ag h43 (o:=2);have y3:=ag h43 (o:=3);have y4:=ag h43 (o:=4);have y5:=ag h43 (o:=5);have fz:∀ j,w3.frozen? ⟨wr.heap.size,j,none⟩=false:=(λ j=>aj h43);have fv:w3.frozen? ⟨Bv,0,none⟩=false:=aj (((ae DA).block _ lv2).trans (ae JA));have IA:=af hg3;have FA:=af hn3;clear hg3 hn3 hb3 h43)
       all_goals
        go_wp2_with fail
        go_meet
        case rel=>exact⟨_,by rw [ae BA],ae HA w3 g3 _ (ae DA) (ae FA) (ae IA) (ae HTL)⟩
      by_cases hz2:0<z
      ·obtain⟨y,b',hb,hst⟩:=I7 (show 0<iL a b by rw [ae HZ];exact hz2) hpos;subst hb;obtain⟨g,o,rfl,hg,hn1,hnc,hcell,htail,hc1⟩:=(ae MA).tail
       obtain⟨A,hA,HTL⟩:∃ A:Addr,(if cu=1 then some (⟨g,o,none⟩:Addr)else some ⟨g,o+6,none⟩)=some A/\Hid (eR w2 (.slice (some A) b'.length (cu-1)) b'):=by
        by_cases h:cu=1
        ·exact⟨_,by rw [aS h],af (by rw [hc1 h];exact eR.nil _ _ _)⟩
        exact⟨_,by rw [aG h],af htail⟩
       have x0:w2.cell? ⟨g,o,none⟩=some (.int .i64 y.r.addr):=hcell 0 (by decide);have x1:w2.cell? ⟨g,o+1,none⟩=some (.int .i64 y.r.len):=hcell 1 (by decide);have x2:w2.cell? ⟨g,o+2,none⟩=some (.slice y.pq y.r.path.length y.pc):=hcell 2 (by decide);have x3:w2.cell? ⟨g,o+3,none⟩=some (.slice y.mq y.r.marks.length y.mc):=hcell 3 (by decide);have x4:w2.cell? ⟨g,o+4,none⟩=some (.int .i64 y.r.pref):=hcell 4 (by decide);have x5:w2.cell? ⟨g,o+5,none⟩=some (.int .i64 y.r.med):=hcell 5 (by decide);have WD:=af (λ W=>kR y W);have HA:=af (λ(w3:World) (g3:Nat) (v':Value) hb3 hn3 hg3 hv'=>Lj (ae RA) (ae CA) (ae AA) (w3:=w3) (g3:=g3) (u':=v') hb3 hn3 hg3 lBv lBm hne hst hv');obtain⟨v0,hvb,-⟩:=(ae AA).must;have JA:=af hvb;have BA:=af hst;obtain⟨m,hm⟩:∃ m,b'.length=m:=⟨_,rfl⟩
       have hm1:m<=1000:=by simp only [List.length_cons]at hbl;omega
       rw [hm]at hn1 HTL;subst hn1;dsimp only [bQ]at WD;clear hst hvb hcell htail hc1 hm hnb hbl hk hf hpl hpos;have hcv:1<=cu:=by omega
       go_upto_region 8 with fail
       go_region_with (go_at_call 106;refine(ae WD _).mono ?_;rintro e w3 ⟨g3,rfl,hg3,hn3,hb3⟩;have DA:Hid (Below w2.heap.size w2 w3):=(af ⟨hb3.os,hb3.tape,hb3.output,hb3.size,hb3.block⟩);have f1:=((ae DA).cell (p:=⟨Bm,0,none⟩) lm2).trans e2;have h43:=((ae DA).block _ lu2).trans (ae CA);have y0:=ag h43 (o:=0);have y1:=ag h43 (o:=1);have y2:=ag h43 (o:=2);have y3:=ag h43 (o:=3);have y4:=ag h43 (o:=4);have y5:=ag h43 (o:=5);have fz:∀ j,w3.frozen? ⟨wr.heap.size,j,none⟩=false:=(λ j=>aj h43);have fv:w3.frozen? ⟨Bm,0,none⟩=false:=aj (((ae DA).block _ lm2).trans (ae JA));have IA:=af hg3;have FA:=af hn3;clear hg3 hn3 hb3 h43)
       all_goals
        go_wp2_with fail
        go_meet
        case rel=>exact⟨_,by rw [ae BA],ae HA w3 g3 _ (ae DA) (ae FA) (ae IA) (ae HTL)⟩
      obtain⟨x,a',y,b',ha,hb,hst⟩:=I6 (show iL a b=0 by rw [ae HZ];omega);subst ha hb;obtain⟨g,o,rfl,hg,hn1,hnc,hcell,htail,hc1⟩:=(ae NA).tail;obtain⟨h,q,rfl,hh,hn2,hnc2,hcell2,htail2,hc2⟩:=(ae MA).tail
      obtain⟨A,hA,HTL⟩:∃ A:Addr,(if cv=1 then some (⟨g,o,none⟩:Addr)else some ⟨g,o+6,none⟩)=some A/\Hid (eR w2 (.slice (some A) a'.length (cv-1)) a'):=by
       by_cases h:cv=1
       ·exact⟨_,by rw [aS h],af (by rw [hc1 h];exact eR.nil _ _ _)⟩
       exact⟨_,by rw [aG h],af htail⟩
      obtain⟨B,hB,HTL2⟩:∃ B:Addr,(if cu=1 then some (⟨h,q,none⟩:Addr)else some ⟨h,q+6,none⟩)=some B/\Hid (eR w2 (.slice (some B) b'.length (cu-1)) b'):=by
       by_cases h:cu=1
       ·exact⟨_,by rw [aS h],af (by rw [hc2 h];exact eR.nil _ _ _)⟩
       exact⟨_,by rw [aG h],af htail2⟩
      have x0:w2.cell? ⟨g,o,none⟩=some (.int .i64 x.r.addr):=hcell 0 (by decide);have x1:w2.cell? ⟨g,o+1,none⟩=some (.int .i64 x.r.len):=hcell 1 (by decide);have x2:w2.cell? ⟨g,o+2,none⟩=some (.slice x.pq x.r.path.length x.pc):=hcell 2 (by decide);have x3:w2.cell? ⟨g,o+3,none⟩=some (.slice x.mq x.r.marks.length x.mc):=hcell 3 (by decide);have x4:w2.cell? ⟨g,o+4,none⟩=some (.int .i64 x.r.pref):=hcell 4 (by decide);have x5:w2.cell? ⟨g,o+5,none⟩=some (.int .i64 x.r.med):=hcell 5 (by decide);have y0:w2.cell? ⟨h,q,none⟩=some (.int .i64 y.r.addr):=hcell2 0 (by decide);have y1:w2.cell? ⟨h,q+1,none⟩=some (.int .i64 y.r.len):=hcell2 1 (by decide);have y2:w2.cell? ⟨h,q+2,none⟩=some (.slice y.pq y.r.path.length y.pc):=hcell2 2 (by decide);have y3:w2.cell? ⟨h,q+3,none⟩=some (.slice y.mq y.r.marks.length y.mc):=hcell2 3 (by decide);have y4:w2.cell? ⟨h,q+4,none⟩=some (.int .i64 y.r.pref):=hcell2 4 (by decide);have y5:w2.cell? ⟨h,q+5,none⟩=some (.int .i64 y.r.med):=hcell2 5 (by decide)
      have ngu:g≠wr.heap.size:=λ e=>by
       obtain⟨q',c',hv,hh|⟨g',o',cur,hq',hb',_⟩⟩:=ae NA
       ·cases hh
       cases hv;cases hq';rw [e,ae CA]at hb';cases hb'
      have nhu:h≠wr.heap.size:=λ e=>by
       obtain⟨q',c',hv,hh|⟨g',o',cur,hq',hb',_⟩⟩:=ae MA
       ·cases hh
       cases hv;cases hq';rw [e,ae CA]at hb';cases hb'
      have nvu:Bv≠wr.heap.size:=by omega
      have nmu:Bm≠wr.heap.size:=by omega
      have AN:=af (λ W=>kR y W);have hrx:=(ae AA).rowsA x (by simp);have hry:=(ae AA).rowsB y (by simp);have EQ:=af (λ W (hW:Below w2.heap.size w2 W)=>DP x y W (hrx.1.below hW) (hry.1.below hW) hrx.2 hry.2);have HA:=af (λ(w3:World) (g3:Nat) (v' u':Value) hb3 hn3 hg3 hv' hu'=>Lk (ae RA) (ae CA) (ae AA) (w3:=w3) (g3:=g3) (v':=v') (u':=u') hb3 hn3 hg3 lBv lBm hne hst hv' hu');obtain⟨v0,hvb,-⟩:=(ae AA).view;obtain⟨u0,hub,-⟩:=(ae AA).must;have JA:=af hvb;have BB:=af hub;have BA:=af hst;obtain⟨m,hm⟩:∃ m,a'.length=m:=⟨_,rfl⟩
      obtain⟨k,hk'⟩:∃ k,b'.length=k:=⟨_,rfl⟩
      have hm1:m<=1000:=by simp only [List.length_cons]at hal;omega
      have hk1:k<=1000:=by simp only [List.length_cons]at hbl;omega
      rw [hm]at hn1 HTL;rw [hk']at hn2 HTL2;subst hn1 hn2;have LA:Hid (∀ W',Below w2.heap.size w2 W'->W'.cell? ⟨Bv,0,none⟩=some (.slice (some ⟨g,o,none⟩) (m+1) cv)/\W'.cell? ⟨Bm,0,none⟩=some (.slice (some ⟨h,q,none⟩) (k+1) cu)/\W'.cell? ⟨g,o,none⟩=some (.int .i64 x.r.addr)/\W'.cell? ⟨g,o+1,none⟩=some (.int .i64 x.r.len)/\W'.cell? ⟨g,o+2,none⟩=some (.slice x.pq x.r.path.length x.pc)/\W'.cell? ⟨g,o+3,none⟩=some (.slice x.mq x.r.marks.length x.mc)/\W'.cell? ⟨g,o+4,none⟩=some (.int .i64 x.r.pref)/\W'.cell? ⟨g,o+5,none⟩=some (.int .i64 x.r.med)/\W'.cell? ⟨h,q,none⟩=some (.int .i64 y.r.addr)/\W'.cell? ⟨h,q+1,none⟩=some (.int .i64 y.r.len)/\W'.cell? ⟨h,q+2,none⟩=some (.slice y.pq y.r.path.length y.pc)/\W'.cell? ⟨h,q+3,none⟩=some (.slice y.mq y.r.marks.length y.mc)/\W'.cell? ⟨h,q+4,none⟩=some (.int .i64 y.r.pref)/\W'.cell? ⟨h,q+5,none⟩=some (.int .i64 y.r.med)):=af (λ W' hW=>⟨(hW.cell (p:=⟨Bv,0,none⟩) lv2).trans e1,(hW.cell (p:=⟨Bm,0,none⟩) lm2).trans e2,(hW.cell (p:=⟨g,_,none⟩) hg).trans x0,(hW.cell (p:=⟨g,_,none⟩) hg).trans x1,(hW.cell (p:=⟨g,_,none⟩) hg).trans x2,(hW.cell (p:=⟨g,_,none⟩) hg).trans x3,(hW.cell (p:=⟨g,_,none⟩) hg).trans x4,(hW.cell (p:=⟨g,_,none⟩) hg).trans x5,(hW.cell (p:=⟨h,_,none⟩) hh).trans y0,(hW.cell (p:=⟨h,_,none⟩) hh).trans y1,(hW.cell (p:=⟨h,_,none⟩) hh).trans y2,(hW.cell (p:=⟨h,_,none⟩) hh).trans y3,(hW.cell (p:=⟨h,_,none⟩) hh).trans y4,(hW.cell (p:=⟨h,_,none⟩) hh).trans y5⟩)
      have GA:Hid (∀ X,Below w2.heap.size w2 X->∀ v0 v1 v2 v3 v4 v5,(λ W'=>W'.cell? ⟨Bv,0,none⟩=some (.slice (some ⟨g,o,none⟩) (m+1) cv)/\W'.cell? ⟨Bm,0,none⟩=some (.slice (some ⟨h,q,none⟩) (k+1) cu)/\W'.cell? ⟨g,o,none⟩=some (.int .i64 x.r.addr)/\W'.cell? ⟨g,o+1,none⟩=some (.int .i64 x.r.len)/\W'.cell? ⟨g,o+2,none⟩=some (.slice x.pq x.r.path.length x.pc)/\W'.cell? ⟨g,o+3,none⟩=some (.slice x.mq x.r.marks.length x.mc)/\W'.cell? ⟨g,o+4,none⟩=some (.int .i64 x.r.pref)/\W'.cell? ⟨g,o+5,none⟩=some (.int .i64 x.r.med)/\W'.cell? ⟨h,q,none⟩=some (.int .i64 y.r.addr)/\W'.cell? ⟨h,q+1,none⟩=some (.int .i64 y.r.len)/\W'.cell? ⟨h,q+2,none⟩=some (.slice y.pq y.r.path.length y.pc)/\W'.cell? ⟨h,q+3,none⟩=some (.slice y.mq y.r.marks.length y.mc)/\W'.cell? ⟨h,q+4,none⟩=some (.int .i64 y.r.pref)/\W'.cell? ⟨h,q+5,none⟩=some (.int .i64 y.r.med)) (uW X wr.heap.size v0 v1 v2 v3 v4 v5)):=af (λ X hX v0 v1 v2 v3 v4 v5=>by
       obtain⟨k1,k2,a0',a1',a2',a3',a4',a5',b0',b1',b2',b3',b4',b5'⟩:=ae LA X hX;exact⟨(dE nvu).trans k1,(dE nmu).trans k2,(dE ngu).trans a0',(dE ngu).trans a1',(dE ngu).trans a2',(dE ngu).trans a3',(dE ngu).trans a4',(dE ngu).trans a5',(dE nhu).trans b0',(dE nhu).trans b1',(dE nhu).trans b2',(dE nhu).trans b3',(dE nhu).trans b4',(dE nhu).trans b5'⟩)
      have HT:Hid (Below w2.heap.size w2 w2.drew):=af (aY _ _).drew;obtain⟨bb,hbb⟩:∃ bb,yt x.r y.r=bb:=⟨_,rfl⟩
      rw [hbb]at EQ BA;dsimp only [bQ]at AN EQ;clear hst hvb hub hcell htail hc1 hm hna hal hcell2 htail2 hc2 hk' hnb hbl hk hf hpl hpos hrx hry hbb x0 x1 x2 x3 x4 x5 y0 y1 y2 y3 y4 y5;have hcv:1<=cv:=by omega
      have hcu:1<=cu:=by omega
      go_upto_region 3 with fail
      go_region_held3 (λ W'=>W'.cell? ⟨Bv,0,none⟩=some (.slice (some ⟨g,o,none⟩) (m+1) cv)/\W'.cell? ⟨Bm,0,none⟩=some (.slice (some ⟨h,q,none⟩) (k+1) cu)/\W'.cell? ⟨g,o,none⟩=some (.int .i64 x.r.addr)/\W'.cell? ⟨g,o+1,none⟩=some (.int .i64 x.r.len)/\W'.cell? ⟨g,o+2,none⟩=some (.slice x.pq x.r.path.length x.pc)/\W'.cell? ⟨g,o+3,none⟩=some (.slice x.mq x.r.marks.length x.mc)/\W'.cell? ⟨g,o+4,none⟩=some (.int .i64 x.r.pref)/\W'.cell? ⟨g,o+5,none⟩=some (.int .i64 x.r.med)/\W'.cell? ⟨h,q,none⟩=some (.int .i64 y.r.addr)/\W'.cell? ⟨h,q+1,none⟩=some (.int .i64 y.r.len)/\W'.cell? ⟨h,q+2,none⟩=some (.slice y.pq y.r.path.length y.pc)/\W'.cell? ⟨h,q+3,none⟩=some (.slice y.mq y.r.marks.length y.mc)/\W'.cell? ⟨h,q+4,none⟩=some (.int .i64 y.r.pref)/\W'.cell? ⟨h,q+5,none⟩=some (.int .i64 y.r.med)) (first|(with_reducible exact ae LA _ (ae HT))|(with_reducible exact ae GA _ (ae HT) _ _ _ _ _ _)) (first
       | (go_at_call 106;refine(ae AN _).mono ?_;clear AN;rintro e w3 ⟨g3,rfl,hg3,hn3,hb3⟩;have FA:=af hn3;have IA:=af (gG (ae HT).size hg3);replace HT:=af ((ae HT).trans (hb3.mono (ae HT).size));have h43:=((ae HT).block _ lu2).trans (ae CA);have z0:=ag h43 (o:=0);have z1:=ag h43 (o:=1);have z2:=ag h43 (o:=2);have z3:=ag h43 (o:=3);have z4:=ag h43 (o:=4);have z5:=ag h43 (o:=5);have fz:∀ j,w3.frozen? ⟨wr.heap.size,j,none⟩=false:=(λ j=>aj h43);have fv:w3.frozen? ⟨Bv,0,none⟩=false:=aj (((ae HT).block _ lv2).trans (ae JA));have fu:w3.frozen? ⟨Bm,0,none⟩=false:=aj (((ae HT).block _ lm2).trans (ae BB));obtain⟨k1,k2,a0',a1',a2',a3',a4',a5',b0',b1',b2',b3',b4',b5'⟩:=ae LA _ (ae HT);clear h43;clear hg3 hn3 hb3)
       | (go_at_call 107;refine(ae EQ _ (ae HT)).mono ?_;clear EQ;rintro e w4 ⟨rfl,q4,os4,hw4⟩;have hb4:=bF.below ⟨q4,os4,hw4⟩;have YA:=af hb4;replace HT:=af ((ae HT).trans (hb4.mono (ae HT).size));have h43:=((ae HT).block _ lu2).trans (ae CA);have z0:=ag h43 (o:=0);have z1:=ag h43 (o:=1);have z2:=ag h43 (o:=2);have z3:=ag h43 (o:=3);have z4:=ag h43 (o:=4);have z5:=ag h43 (o:=5);have fz:∀ j,w4.frozen? ⟨wr.heap.size,j,none⟩=false:=(λ j=>aj h43);have fv:w4.frozen? ⟨Bv,0,none⟩=false:=aj (((ae HT).block _ lv2).trans (ae JA));have fu:w4.frozen? ⟨Bm,0,none⟩=false:=aj (((ae HT).block _ lm2).trans (ae BB));obtain⟨k1,k2,a0',a1',a2',a3',a4',a5',b0',b1',b2',b3',b4',b5'⟩:=ae LA _ (ae HT);clear h43;clear hb4 hw4))
      obtain⟨k1',k2',-⟩:=ae GA w4 (ae HT) (.slice none 0 0) (.slice (some ⟨g3,0,none⟩) 1 1) (.slice y.pq y.r.path.length y.pc) (.slice y.mq y.r.marks.length y.mc) (.int .i64 y.r.pref) (.int .i64 y.r.med);have EA:=af (ae HA w4 g3 (.slice (some A) m (cv-1)) (.slice (some B) k (cu-1)) (ae HT) (((ae YA).block g3 (ah (ae FA))).trans (ae FA)) (ae IA) (ae HTL) (ae HTL2));have fv5:=(World.frozen?_of_block (bg (X:=w4) (v0:=.slice none 0 0) (v1:=.slice (some ⟨g3,0,none⟩) 1 1) (v2:=.slice y.pq y.r.path.length y.pc) (v3:=.slice y.mq y.r.marks.length y.mc) (v4:=.int .i64 y.r.pref) (v5:=.int .i64 y.r.med) nvu):_=w4.frozen? ⟨Bv,0,none⟩).trans fv;have fu5:=(World.frozen?_of_block (bg (X:=w4) (v0:=.slice none 0 0) (v1:=.slice (some ⟨g3,0,none⟩) 1 1) (v2:=.slice y.pq y.r.path.length y.pc) (v3:=.slice y.mq y.r.marks.length y.mc) (v4:=.int .i64 y.r.pref) (v5:=.int .i64 y.r.med) nmu):_=w4.frozen? ⟨Bm,0,none⟩).trans fu;dsimp only [uW]at EA k1' k2' fv5 fu5;generalize (((((w4.setCell ⟨wr.heap.size,0,none⟩ (.slice none 0 0)).setCell ⟨wr.heap.size,1,none⟩ (.slice (some ⟨g3,0,none⟩) 1 1)).setCell ⟨wr.heap.size,2,none⟩ (.slice y.pq y.r.path.length y.pc)).setCell ⟨wr.heap.size,3,none⟩ (.slice y.mq y.r.marks.length y.mc)).setCell ⟨wr.heap.size,4,none⟩ (.int .i64 y.r.pref)).setCell ⟨wr.heap.size,5,none⟩ (.int .i64 y.r.med)=W5 at EA k1' k2' fv5 fu5 ⊢;clear HA LA GA HT YA FA IA k1 k2 a0' a1' a2' a3' a4' a5' b0' b1' b2' b3' b4' b5' z0 z1 z2 z3 z4 z5 fz fv fu e1 e2;go_upto_region 4 with fail
      go_region
      all_goals
       go_wp2_with fail
       go_meet
       case rel=>exact⟨_,by rw [ae BA],(ae EA).drew⟩
     case rest =>
      rename World=>WX
      obtain⟨x,rfl,hto⟩:=hcut;refine hK2 _ _ ?_;refine(wpIn_wide (n:=n)).1 ?_;have hJ':=ae HJ pre wr WX (ae AB) hto.fr;obtain⟨f',rfl⟩:∃ f',f=f'+1:=⟨f-1,by omega⟩
      have BA:=af (IN hpos f');have hsl:=Kq hpos;have VA:=af hto;cases hnd:(eI a b).1 with
      | true =>
       obtain⟨fn,tmps,assign,body,hy,hR⟩:=(ae HY) pre x WX hJ' hto.mv (by omega);have u0:WX.cell? ⟨wr.heap.size,0,none⟩=some x.vg:=ag hto.blk;have u1:WX.cell? ⟨wr.heap.size,1,none⟩=some x.vn:=ag hto.blk;have u2:WX.cell? ⟨wr.heap.size,2,none⟩=some x.vp:=ag hto.blk;have u3:WX.cell? ⟨wr.heap.size,3,none⟩=some x.vm:=ag hto.blk;have u4:WX.cell? ⟨wr.heap.size,4,none⟩=some (.int .i64 x.m.pref):=ag hto.blk;have u5:WX.cell? ⟨wr.heap.size,5,none⟩=some (.int .i64 x.m.med):=ag hto.blk;have HR:=af hR;rw [hnd]at BA;clear hto hJ' hR hnd
       gi_wp2
       refine(ae HR).mono ?_;rintro e W3 ⟨rfl,hJ3,hk3⟩;have UA:=af hJ3;have SA:=af ((ae VA).ch.keepT hk3);clear hJ3 hk3 hy u0 u1 u2 u3 u4 u5
       gi_wp2
       gi_roundg ((eI a b).2.2.1.length+(eI a b).2.2.2.length)
       case measure=>omega
       case rel =>
        refine⟨_,_,pre++[x],f',aL _,by omega,?_,?_,ae UA,ae SA⟩
        ·rw [<-ae TA,ae BA,List.map_append,aS trivial,List.append_assoc,<-(ae VA).msg];rfl
        simp only [List.length_append,List.length_singleton];omega
      | false =>
       have UA:=af hJ';rw [hnd]at BA;clear hto hJ' hnd
       gi_wp2
       refine⟨λ _ h=>(by cases h),?_⟩
       gi_wp2
       gi_roundg ((eI a b).2.2.1.length+(eI a b).2.2.2.length)
       case measure=>omega
       case rel =>
        refine⟨_,_,pre,f',aL _,by omega,?_,by omega,ae UA,(ae VA).ch⟩;rw [<-ae TA,ae BA,aG (by decide)];rfl
  have ea:a=[]:=List.length_eq_zero_iff.1 (by omega);have eb:b=[]:=List.length_eq_zero_iff.1 (by omega);subst ea eb
  have HE:=af (show pre.map (·.m)=pH (a0.length+b0.length) (a0.map (·.r)) (b0.map (·.r))from by
   rw [<-ae TA];cases f<;>simp [pH])
  clear hk hf hpl hpos
  gi_wp2
  go_end0
  exact⟨⟨_,rfl⟩,pre,ae HE,ae AB⟩
