/- part -/
import Derived.Test.YtgdeeodifnegiaaGreatDoorRefH
set_option maxRecDepth 100000
set_option maxHeartbeats 3200000
namespace Go.Proofs.YtgdeeodifnegiaaGreatDoor
open Go.Proofs.Tryz
open Or
open Go.RowKit
namespace rf
mutual
theorem aP.keep{Q Q':Nat->Prop}{w w':World}(h1:∀ k,k<w.heap.size->¬Q k->w'.heap[k]?=w.heap[k]?)(h2:∀ k,k<w.heap.size->Q' k->Q k) :
  ∀(t:Tr) (v:Value),aP w Q t v->aP w' Q' t v
 | .mk op text n a kids,v,h=>by
  rw [aP]at h ⊢;obtain⟨kv,xs,e,ho,hq,ha⟩:=h;exact⟨kv,xs,e,ap ho (λ k hk=>h1 k (ho.lt k hk).2 (hq k hk)),λ k hk hQ=>hq k hk (h2 k (ho.lt k hk).2 hQ),bR.keep h1 h2 kids xs ha⟩
theorem bR.keep{Q Q':Nat->Prop}{w w':World}(h1:∀ k,k<w.heap.size->¬Q k->w'.heap[k]?=w.heap[k]?)(h2:∀ k,k<w.heap.size->Q' k->Q k) :
  ∀(ts:List Tr) (xs:List Value),bR w Q ts xs->bR w' Q' ts xs
 | [],xs,h=>by rw [bR]at h ⊢;exact h
 | t::ts,xs,h=>by
  rw [bR]at h ⊢;obtain⟨a,b,c,d,e,r,ex,ht,hr⟩:=h;exact⟨a,b,c,d,e,r,ex,aP.keep h1 h2 t _ ht,bR.keep h1 h2 ts r hr⟩
end
theorem PA.frame{w w':World}{pb:Nat}{s:ByteArray}{st:PS}{O:Nat->Prop}(h:PA w pb s st O)(hk:∀ k,O k->w'.heap[k]?=w.heap[k]?):PA w' pb s st O:=by
 obtain⟨tv,lv,hp,rfl⟩:=h;exact⟨tv,lv,⟨by rw [hk pb (inl rfl)];exact hp.blk,ap hp.own1 (λ k h=>hk k (inr (inl h))),ap hp.own2 (λ k h=>hk k (inr (inr h))),hp.ne1,hp.ne2,hp.ne3⟩,rfl⟩
def cH(w:World)(Q:Nat->Prop)(kids:List Tr)(kv:Value)(xs:List Value):Prop :=
 w.ownsRow 0 115 5 kv kids.length xs/\(∀ k,kv.ownBlock=some k->¬Q k)/\bR w (λ k=>Q k\/kv.ownBlock=some k) kids xs
theorem cH.nil(w:World)(Q:Nat->Prop):cH w Q [] (.slice none 0 0) [] :=
 ⟨jX _ _ _ _,λ k hk=>by simp [Value.ownBlock]at hk,by rw [bR]⟩
theorem cH.at{w:World}{Q:Nat->Prop}{kids:List Tr}{kv:Value}{xs:List Value}(h:cH w Q kids kv xs)(op text:ByteArray)(n a:Int):aP w Q (.mk op text n a kids) (bx op text n a kv):=by
 rw [aP];exact⟨kv,xs,rfl,h.1,h.2.1,bR.keep (λ _ _ _=>rfl) (λ k _ hq=>inl hq) _ _ h.2.2⟩
theorem cH.form{w:World}{Q:Nat->Prop}{kids:List Tr}{kv:Value}{xs:List Value}(h:cH w Q kids kv xs):∃ o c,kv=.slice o kids.length c:=by
 rcases h.1.2 with⟨e1,e2⟩|⟨g,cap,cur,e1,_⟩
 ·exact⟨none,0,by rw [e1,e2]⟩
 exact⟨_,_,e1⟩
theorem kG{w wr w2 w':World}{pb B g cap:Nat}{s:ByteArray}{s2:PS}{O O1 O2:Nat->Prop}{kids:List Tr}{x:Tr}{xs:List Value}{op text xop xtext:ByteArray}{n a xn xa:Int}{kv xk:Value}{obX obS:Obj}
  (HF:Fr O w O1 wr) (F2:Fr O1 wr O2 w2) (H2:PA w2 pb s s2 O2) (Q0:wr.heap[w.heap.size]?=some (.cells bj 115 (0,0))) (Q1:wr.heap[B]?=some (.cells (aj op text n a kv) 115 (0,0)))
  (NA:¬O1 w.heap.size) (NB:¬O1 B) (hB:w.heap.size<B) (TU:cH wr (λ k=>O1 k\/k<=w.heap.size\/k=B) kids kv xs) (T3:aP w2 (λ k=>O2 k\/k<wr.heap.size) x (bx xop xtext xn xa xk))
  (hgrow:((w2.alloc obX).alloc obS).grownBy w' kv.ownBlock) (hown:w'.ownsRow 0 115 5 (.slice (some ⟨g,0,none⟩) (kids.length+1) cap) (kids.length+1) (xs++[.string xop,.string xtext,.int .i64 xn,.int .i64 xa,xk]))
  (hat:kv.ownBlock=some g\/g=w2.heap.size+2) :
  PA (w'.setCell ⟨B,4,none⟩ (.slice (some ⟨g,0,none⟩) (kids.length+1) cap)) pb s s2 O2/\Fr O w O2 (w'.setCell ⟨B,4,none⟩ (.slice (some ⟨g,0,none⟩) (kids.length+1) cap))
  /\ (w'.setCell ⟨B,4,none⟩ (.slice (some ⟨g,0,none⟩) (kids.length+1) cap)).heap[w.heap.size]?=some (.cells bj 115 (0,0))
  /\ (w'.setCell ⟨B,4,none⟩ (.slice (some ⟨g,0,none⟩) (kids.length+1) cap)).heap[B]?=some (.cells (aj op text n a (.slice (some ⟨g,0,none⟩) (kids.length+1) cap)) 115 (0,0))
  /\ ¬O2 w.heap.size/\¬O2 B
  /\ cH (w'.setCell ⟨B,4,none⟩ (.slice (some ⟨g,0,none⟩) (kids.length+1) cap)) (λ k=>O2 k\/k<=w.heap.size\/k=B) (kids++[x]) (.slice (some ⟨g,0,none⟩) (kids.length+1) cap) (xs++[.string xop,.string xtext,.int .i64 xn,.int .i64 xa,xk]):=by
 obtain⟨t1,t2,t3⟩:=TU;have lB:B<wr.heap.size:=ai Q1;have lR:w.heap.size<wr.heap.size:=ai Q0;have l2:wr.heap.size<=w2.heap.size:=F2.size
 have hkv:∀ k,kv.ownBlock=some k->k<wr.heap.size/\¬O1 k/\w.heap.size<k/\k≠B:=λ k hk=>by
  have h1:=(t1.lt k hk).2;have h2:=t2 k hk;exact⟨h1,λ h=>h2 (inl h),Nat.lt_of_not_le (λ h=>h2 (inr (inl h))),λ h=>h2 (inr (inr h))⟩
 have hold:∀ k,k<w2.heap.size->some k≠kv.ownBlock->w'.heap[k]?=w2.heap[k]?:=λ k hk hn=>by
  rw [hgrow.block k (by simp;omega) hn,eW _ _ _ (by simp;omega),eW _ _ _ hk]
 have na:¬O2 w.heap.size:=λ h=>by rcases F2.own _ h with h|h;exact NA h;omega
 have nb:¬O2 B:=λ h=>by rcases F2.own _ h with h|h;exact NB h;omega
 have nkv:∀ k,kv.ownBlock=some k->¬O2 k:=λ k hk h=>by
  rcases F2.own _ h with h|h
  ·exact(hkv k hk).2.1 h
  have:=(hkv k hk).1;omega
 have hgB:g≠B:=by
  rcases hat with h|h
  ·exact(hkv g h).2.2.2
  omega
 have hgR:w.heap.size<g:=by
  rcases hat with h|h
  ·exact(hkv g h).2.2.1
  omega
 have hgO:¬O2 g:=by
  rcases hat with h|h
  ·exact nkv g h
  intro h3;have:=H2.lt h3;omega
 have q0:w'.heap[w.heap.size]?=some (.cells bj 115 (0,0)):=by
  rw [hold _ (by omega) (λ e=>by have:=(hkv _ e.symm).2.2.1;omega),F2.block _ lR NA];exact Q0
 have q1:w'.heap[B]?=some (.cells (aj op text n a kv) 115 (0,0)):=by
  rw [hold _ (by omega) (λ e=>(hkv _ e.symm).2.2.2 rfl),F2.block _ lB NB];exact Q1
 have hsz:w2.heap.size+2<=w'.heap.size:=by have:=hgrow.size;simp at this;omega
 refine⟨?_,?_,?_,?_,na,nb,?_,?_,?_⟩
 ·refine PA.other (H2.frame (λ k hk=>hold k (H2.lt hk) (λ e=>nkv k e.symm hk))) nb _ _
 ·have f1:=HF.trans F2;have f2:=((f1.alloc obX).alloc obS).grown hgrow (λ k hk=>inr (by have:=(hkv k hk).2.2.1;omega));exact f2.setCell (inr (by show w.heap.size<=B;omega)) _
 ·rw [ah (by show w.heap.size≠B;omega)];exact q0
 ·rw [aB q1];rfl
 ·rw [List.length_append];refine ap hown (λ k hk=>ah (λ e=>hgB ?_));simp [Value.ownBlock]at hk;rw [hk];exact e
 ·intro k hk;obtain rfl:g=k:=by simpa [Value.ownBlock]using hk
  rintro(h|h|h)
  ·exact hgO h
  ·omega
  exact hgB h
 have hset:∀ k,k≠B->(w'.setCell ⟨B,4,none⟩ (.slice (some ⟨g,0,none⟩) (kids.length+1) cap)).heap[k]?=w'.heap[k]?:=λ k hk=>ah hk
 refine bR.snoc kids xs x _ _ _ _ _ ?_ ?_
 ·refine bR.keep (w:=wr) (Q:=λ k=>(O1 k\/k<=w.heap.size\/k=B)\/kv.ownBlock=some k) (λ k hk hn=>?_) (λ k hk hq=>?_) kids xs t3
  ·rw [hset k (λ e=>hn (inl (inr (inr e)))),hold k (by omega) (λ e=>hn (inr e.symm)),F2.block k hk (λ h=>hn (inl (inl h)))]
  rcases hq with(h|h|h)|h
  ·rcases F2.own k h with h1|h1
   ·exact inl (inl h1)
   omega
  ·exact inl (inr (inl h))
  ·exact inl (inr (inr h))
  obtain rfl:g=k:=by simpa [Value.ownBlock]using h
  rcases hat with h|h
  ·exact inr h
  omega
 refine aP.keep (w:=w2) (Q:=λ k=>O2 k\/k<wr.heap.size) (λ k hk hn=>?_) (λ k hk hq=>?_) x _ T3
 ·have hk2:wr.heap.size<=k:=Nat.le_of_not_lt (λ h=>hn (inr h));rw [hset k (by omega),hold k hk (λ e=>by have:=(hkv _ e.symm).1;omega)]
 rcases hq with(h|h|h)|h
 ·exact inl h
 ·exact inr (by omega)
 ·exact inr (by omega)
 obtain rfl:g=k:=by simpa [Value.ownBlock]using h
 rcases hat with h|h
 ·exact inr (hkv g h).1
 omega
def oA(pb:Nat)(s:ByteArray)(f:Nat):Prop:=∀(w:World) (st:PS) (O:Nat->Prop) (r:PS×Tr),PA w pb s st O->Ok s st->dq s f st=some r->Calls prog 121 #[fX pb] w (eP pb s w O r)
def LY(pb:Nat)(s:ByteArray)(f:Nat):Prop:=∀(w:World) (st:PS) (O:Nat->Prop) (r:PS×Tr),PA w pb s st O->Ok s st->jn s f st=some r->Calls prog 173 #[fX pb] w (eP pb s w O r)
def LW(pb:Nat)(s:ByteArray)(f:Nat):Prop:=∀(w:World) (st:PS) (O:Nat->Prop) (r:PS×Tr),PA w pb s st O->Ok s st->gT s f st=some r->Calls prog 229 #[fX pb] w (eP pb s w O r)
theorem Ff(pb:Nat)(s:ByteArray)(f:Nat)(IH:oA pb s f)(w:World)(st:PS)(O:Nat->Prop)(h:PA w pb s st O)(hk:Ok s st)(hdot:aT st jV=false)(hop:aT st fu=true)(st1:PS)(t:Tr)(hsum:dq s f (ax s (cx st))=some (st1,t)) :
  Calls prog 229 #[fX pb] w (eP pb s w O (p8 (aJ s st1 mO),t)):=by
 have lp:pb<w.heap.size:=h.lt h.own;have hR:PA (w.alloc (.cells bj 115)) pb s st O:=h.alloc _;have N0:=ae (show ¬O w.heap.size from λ hk=>by have:=h.lt hk;omega);have HR:=ae hR;have K:=ae hk;have AA:=ae hsum;have BA:=ae IH;clear hR h hk hsum IH;go_enter func229,ntmps229;go_wp2_with fail;refine((ab HR).is _).mono ?_;rintro e w0 ⟨rfl,rfl⟩;rw [show aT st { data:=#[46] }=false from hdot];go_wp2_with fail;refine((ab HR).is _).mono ?_;rintro e w0 ⟨rfl,rfl⟩;rw [show aT st { data:=#[40] }=true from hop];go_wp2_with fail;refine((ab HR).opens).mono ?_;rintro e w2 ⟨rfl,hp2,hf2⟩;go_wp2_with fail;refine(aN hp2 (ab K).opens).mono ?_;rintro e w3 ⟨rfl,O3,hp3,hf3⟩;have H3:=ae hp3;have F3:=ae (hf2.trans hf3);clear hp2 hf2 hp3 hf3;go_wp2_with fail;refine(ab BA _ _ _ _ (ab H3) (ab K).opens.take (ab AA)).mono ?_;rintro e w4 ⟨v,O4,rfl,hp4,hf4,ht4,hk4⟩;obtain⟨op,text,n,a,o,c,l,rfl⟩:=ht4.form;have H4:=ae hp4;have F4:=ae ((ab F3).trans hf4);have T4:=ae ht4;have K4:=ae hk4;have Z3:=ae (show w.heap.size<w3.heap.size by have:=(ab F3).size;simp at this;omega);have N4:=ae (show ¬O4 w4.heap.size from λ hk=>by have:=hp4.lt hk;omega);clear hp4 hf4 ht4 hk4;go_wp2_with fail;refine(dr ((ab H4).alloc _) (ab K4) _).mono ?_;rintro e w' ⟨rfl,O',hp,hf5⟩;have b0:w'.heap[w4.heap.size]?=some (.cells (aj op text n a (.slice o c l)) 115 (0,0)):=(hf5.block w4.heap.size (by simp) (ab N4)).trans (cN w4 _);have F5:=ae (((bE O4 w4).alloc (.cells (aj op text n a (.slice o c l)) 115)).trans hf5);have hf:=(ab F4).trans (ab F5);obtain⟨s0,s1,s2,s3,s4⟩:=cX b0;have hzb:w4.heap.size<w'.heap.size:=ai b0;have hzc:w.heap.size<w4.heap.size:=by have:=(ab F4).size;simp at this;omega
 obtain⟨_,_,c8,zp⟩:=hp.cell;have HO:=ae hp.own;have hp:=hp.setOpn (wrap64 ((aJ s st1 ⟨#[41]⟩).opn-1));clear b0 hf5;obtain⟨hn0,hz,r0,r1,r2,r3,r4,zr,hfw⟩:=jN hf (ab N0);have HN:=ae hn0;have HP:=ae hp;have HF:=ae hfw;clear hn0 hfw hp hf;go_wp2_with fail;refine eO (v:=bx op text n a (.slice o c l)) (by simp [results,results229,go_sem,r0,r1,r2,r3,r4]) rfl ⟨_,O',rfl,?_,?_,?_,?_⟩
 ·refine(show PA _ pb s { aJ s st1 ⟨#[41]⟩with opn:=wrap64 ((aJ s st1 ⟨#[41]⟩).opn-1) } O' from ?_)
  repeat with_reducible first|refine PA.other ?_ (ab HN) _ _|refine PA.alloc ?_ _|refine PA.drew ?_|refine PA.drewN ?_ _|exact ab HP
 ·repeat with_reducible first|refine Fr.setCell ?_ (inr (aD _)) _|refine Fr.setCell ?_ (inl (ab HO)) _|refine Fr.alloc ?_ _|refine Fr.drew ?_|refine Fr.drewN ?_ _|exact ab HF|exact bE _ _
 ·refine aP.step (O:=λ k=>O4 k\/k=w.heap.size) (O':=λ k=>O' k\/k=w.heap.size) (w:=w4) ?_ ?_ ?_ t _ (ab T4)
  ·repeat with_reducible first|refine Fr.setCell ?_ (inl (inr rfl)) _|refine Fr.setCell ?_ (inl (inl (ab HO))) _|refine Fr.alloc ?_ _|refine Fr.drew ?_|refine Fr.drewN ?_ _|exact(ab F5).join _
  ·intro k hk;rcases hk with h|h
   ·exact inl h
   exact inr (by have:=ab Z3;omega)
  intro k hk;rcases hk with h|h
  ·rcases(ab F5).own k h with h1|h1
   ·exact inl (inl h1)
   exact inr h1
  exact inl (inr (by have:=ab Z3;omega))
 exact((ab K4).need _).opn _
theorem zI(pb:Nat)(s:ByteArray)(w:World)(st:PS)(O:Nat->Prop)(h:PA w pb s st O)(hk:Ok s st)(hop:aT st jV=true\/(aT st jV=false/\aT st fu=false)) :
  Calls prog 229 #[fX pb] w (eP pb s w O (if aT st jV=true then(ax s st,.mk jV ⟨#[]⟩ 0 0 [])else(aA s st 48,.mk cy ⟨#[]⟩ (bf st.next.text 4294967295) st.next.at_ []))):=by
 have lp:pb<w.heap.size:=h.lt h.own;have hR:PA (w.alloc (.cells bj 115)) pb s st O:=h.alloc _;have N0:=ae (show ¬O w.heap.size from λ hk=>by have:=h.lt hk;omega);have HR:=ae hR;have K0:=ae hk;have A1:=hR.is jV;have A2:=hR.is fu;clear hR h hk;rcases hop with hd|⟨hd,ho⟩
 ·rw [aC hd];go_enter func229,ntmps229;have H1:=ae A1;have H2:=ae A2;clear A1 A2;go_wp2_with fail;refine(ab H1).mono ?_;rintro e w0 ⟨rfl,rfl⟩;rw [hd];go_wp2_with fail;refine(ab H2).mono ?_;rintro e w0 ⟨rfl,rfl⟩;go_wp2_with fail;refine(aN (ab HR) (ab K0)).mono ?_;rintro e w' ⟨rfl,O',hp,hf⟩;obtain⟨hn0,hz,r0,r1,r2,r3,r4,zr,hfw⟩:=jN hf (ab N0);have HN:=ae hn0;have HP:=ae hp;have HF:=ae hfw;clear hn0 hfw hp hf;go_wp2_with fail;refine eO (v:=bx jV ⟨#[]⟩ 0 0 (.slice none 0 0)) (by simp [results,results229,go_sem,r0,r1,r2,r3,r4,jV]) rfl ⟨_,O',rfl,?_,?_,aP.leaf _ _ _ _ _ _,(ab K0).take⟩
  ·repeat with_reducible first|refine PA.other ?_ (ab HN) _ _|refine PA.alloc ?_ _|refine PA.drew ?_|refine PA.drewN ?_ _|exact ab HP
  repeat with_reducible first|refine Fr.setCell ?_ (inr (aD _)) _|refine Fr.setCell ?_ (inl (ab HO)) _|refine Fr.alloc ?_ _|refine Fr.drew ?_|refine Fr.drewN ?_ _|exact ab HF|exact bE _ _
 rw [au (by rw [hd];simp)];go_enter func229,ntmps229;have H1:=ae A1;have H2:=ae A2;clear A1 A2;go_wp2_with fail;refine(ab H1).mono ?_;rintro e w0 ⟨rfl,rfl⟩;rw [hd];go_wp2_with fail;refine(ab H2).mono ?_;rintro e w0 ⟨rfl,rfl⟩;rw [ho];go_wp2_with fail;refine(lu (ab HR) (ab K0) _).mono ?_;rintro e w' ⟨rfl,O',hp,hf⟩;obtain⟨hn0,hz,r0,r1,r2,r3,r4,zr,hfw⟩:=jN hf (ab N0);have HN:=ae hn0;have HP:=ae hp;have HF:=ae hfw;clear hn0 hfw hp hf;go_wp2_with fail;refine eO (v:=bx cy ⟨#[]⟩ (bf st.next.text 4294967295) st.next.at_ (.slice none 0 0)) (by simp [results,results229,go_sem,r0,r1,r2,r3,r4,cy]) rfl ⟨_,O',rfl,?_,?_,aP.leaf _ _ _ _ _ _,(ab K0).kind 48⟩
 ·repeat with_reducible first|refine PA.other ?_ (ab HN) _ _|refine PA.alloc ?_ _|refine PA.drew ?_|refine PA.drewN ?_ _|exact ab HP
 repeat with_reducible first|refine Fr.setCell ?_ (inr (aD _)) _|refine Fr.setCell ?_ (inl (ab HO)) _|refine Fr.alloc ?_ _|refine Fr.drew ?_|refine Fr.drewN ?_ _|exact ab HF|exact bE _ _
theorem KK(pb:Nat)(s:ByteArray)(f:Nat)(IH:oA pb s f):LW pb s (f+1):=by
 intro w st O r h hk hr;rw [gT]at hr;by_cases h1:aT st jV=true
 ·rw [aC h1]at hr;have:=zI pb s w st O h hk (inl h1);rw [aC h1]at this;obtain rfl:=fZ hr;exact this
 have h1':aT st jV=false:=by simpa using h1
 rw [au h1]at hr;by_cases h2:aT st fu=true
 ·rw [aC h2]at hr;cases ht:dq s f (ax s (cx st))with
  | none=>rw [ht]at hr;cases hr
  | some p =>
   rw [ht]at hr;obtain rfl:=fZ hr;exact Ff pb s f IH w st O h hk h1' h2 p.1 p.2 ht
 rw [au h2]at hr;have:=zI pb s w st O h hk (inr ⟨h1',by simpa using h2⟩);rw [au h1]at this;obtain rfl:=fZ hr;exact this
theorem Tryz.infoTree:(prog.info? 115).map (λ i=>(i.zero,i.size,i.bytes))=some (some (.agg bj),5,72):=by kernel_rfl
theorem cH.step{O O' Q Q':Nat->Prop}{w w':World}{kids:List Tr}{kv:Value}{xs:List Value}(h:cH w Q kids kv xs)(hf:Fr O w O' w')(h1:∀ k,O k->Q k)(h2:∀ k,Q' k->Q k\/w.heap.size<=k):cH w' Q' kids kv xs:=by
 obtain⟨a,b,c⟩:=h;refine⟨ap a (λ k hk=>hf.block k (a.lt k hk).2 (λ hO=>b k hk (h1 k hO))),λ k hk hQ=>?_,bR.step hf (λ k hk=>inl (h1 k hk)) (λ k hk=>?_) _ _ c⟩
 ·rcases h2 k hQ with h|h
  ·exact b k hk h
  have:=(a.lt k hk).2;omega
 rcases hk with h|h
 ·rcases h2 k h with h3|h3
  ·exact inl (inl h3)
  exact inr h3
 exact inl (inr h)
theorem xx{s:ByteArray}{k:Nat}{st:PS}{kids:List Tr}{r:PS×Tr}(h:dp s k st kids=some r):∃ g,k=g+1:=by
 cases k with
 | zero=>rw [dp]at h;cases h
 | succ g=>exact⟨g,rfl⟩
theorem uW{s:ByteArray}{g:Nat}{st:PS}{kids:List Tr}{r:PS×Tr}(h:dp s (g+1) st kids=some r) :
  ∃ s1 x,jn s g st=some (s1,x)/\((aT s1 AM=true/\dp s g (ax s s1) (kids++[x])=some r)\/(aT s1 AM=false/\r=(s1,.mk gF ⟨#[]⟩ 0 0 (kids++[x])))):=by
 rw [dp]at h;cases ht:jn s g st with
 | none=>rw [ht]at h;cases h
 | some p =>
  rw [ht]at h;refine⟨p.1,p.2,rfl,?_⟩;by_cases hb:aT p.1 AM=true
  ·left;simp only [hb,if_true]at h;exact⟨hb,h⟩
  right;have hb':aT p.1 AM=false:=by simpa using hb
  simp only [hb',Bool.false_eq_true,if_false]at h;exact⟨hb',(fZ h).symm⟩
theorem Bt(pb:Nat)(s:ByteArray)(f:Nat)(hf0:f<=1000000)(IH:∀ g,g<=f->LY pb s g):oA pb s (f+1):=by
 intro w st O r h hk hr;rw [dq]at hr;obtain⟨i0,hi0,hz0,hz1,hz2⟩:=info_parts Tryz.infoTree;have lp:pb<w.heap.size:=h.lt h.own;have N0:=ae (show ¬O w.heap.size from λ hk=>by have:=h.lt hk;omega);have N1:=ae (show ¬O (w.heap.size+1)from λ hk=>by have:=h.lt hk;omega);have DA:=ae ((h.alloc (.cells bj 115)).alloc (.cells (aj gF ⟨#[]⟩ 0 0 (.slice none 0 0)) 115));have CA:=ae (((bE O w).alloc (.cells bj 115)).alloc (.cells (aj gF ⟨#[]⟩ 0 0 (.slice none 0 0)) 115));have K:=ae hk;have HL:=ae hr;have EA:=ae IH;clear h hk hr IH;go_enter func121,ntmps121;go_wp2_with fail;go_loopg [4] f (λ k b4 wr=>∃(su:PS) (kids:List Tr) (kv:Value) (xs:List Value) (O1:Nat->Prop),kids.length+k<=f/\PA wr pb s su O1/\Ok s su/\Fr O w O1 wr/\wr.heap[w.heap.size]?=some (.cells bj 115 (0,0))/\wr.heap[w.heap.size+1]?=some (.cells (aj gF ⟨#[]⟩ 0 0 kv) 115 (0,0))/\¬O1 w.heap.size/\¬O1 (w.heap.size+1)/\cH wr (λ k=>O1 k\/k<=w.heap.size\/k=w.heap.size+1) kids kv xs/\((b4=.bool true/\dp s k su kids=some r)\/(b4=.bool false/\r=(su,.mk gF ⟨#[]⟩ 0 0 kids))))
 case atStart=>exact⟨st,[],_,[],O,by simp,ab DA,ab K,ab CA,(bM w _ _ _ _).1,(bM w _ _ _ _).2,ab N0,ab N1,cH.nil _ _,inl ⟨rfl,ab HL⟩⟩
 case round =>
  clear DA CA K HL N0 N1;obtain⟨su,kids,kv,xs,O1,hkl,hp,hk,hf,q0,q1,n0,n1,htu,hst⟩:=hrel;rcases hst with⟨rfl,hl⟩|⟨rfl,hre⟩
  ·obtain⟨g,rfl⟩:=xx hl;obtain⟨s1,x,hrow,hnx⟩:=uW hl;have HP:=ae hp;have HK:=ae hk;have HF:=ae hf;have Q0:=ae q0;have Q1:=ae q1;have NA:=ae n0;have NB:=ae n1;have TU:=ae htu;have AA:=ae hrow;have GA:=ae hnx;have hzB':w.heap.size+1<wr.heap.size:=ai q1;clear hp hk hf q0 q1 n0 n1 htu hl hrow hnx;go_wp2_with fail;refine(ab EA g (by omega) _ _ _ _ (ab HP) (ab HK) (ab AA)).mono ?_;rintro e w2 ⟨v,O2,rfl,hp2,hf2,ht2,hk2⟩;obtain⟨xop,xtext,xn,xa,xo,xc,xl,rfl⟩:=ht2.form;have qB:=(hf2.block (w.heap.size+1) hzB' (ab NB)).trans (ab Q1);have s4:w2.cell? ⟨w.heap.size+1,4,none⟩=some kv:=af qB;have hzB:w.heap.size+1<w2.heap.size:=ai qB;have OW:=ae (show w2.ownsRow 0 115 5 kv kids.length xs from ap (ab TU).1 (λ k hk=>hf2.block k ((ab TU).1.lt k hk).2 (λ h=>(ab TU).2.1 k hk (inl h))));have H2:=ae hp2;have F2:=ae hf2;have T2:=ae ht2;have K2:=ae hk2;have QB:=ae qB;have IA:=ae (show some (w.heap.size+1)≠kv.ownBlock from λ e=>(ab TU).2.1 _ e.symm (inr (inr rfl)));clear hp2 hf2 ht2 hk2 qB;go_wp2_with (at_builtin;refine wpList_append_lies _ rfl _ _ _ rfl 0 115 i0 _ 5 72 underlying113 hi0 hz0 hz1 hz2 rfl (by omega) kv kids.length xs rfl (((ab OW).alloc _).alloc _) ⟨w2.heap.size+1,0,none⟩ 1 1 [.string xop,.string xtext,.int .i64 xn,.int .i64 xa,.slice xo xc xl] rfl rfl (World.news_of_block (cs:=#[.string xop,.string xtext,.int .i64 xn,.int .i64 xa,.slice xo xc xl]) (t:=115) (fr:=(0,0)) (bM w2 _ _ _ _).2) (by simp [Value.oneCell']) (by omega) (by simp [maxLen];omega) (by omega) (by omega) (w2.heap.size+2) (by simp) ?_;intro gg cap w' hown hgrow hat hlt;have qB':w'.heap[w.heap.size+1]?=some (.cells (aj gF ⟨#[]⟩ 0 0 kv) 115 (0,0)):=((hgrow.block (w.heap.size+1) (by simp;omega) (ab IA)).trans ((eW _ _ _ (by simp;omega)).trans ((eW _ _ _ (by omega)).trans (ab QB))));have c4:w'.cell? ⟨w.heap.size+1,4,none⟩=some kv:=(af qB');have z4:w'.frozen? ⟨w.heap.size+1,4,none⟩=false:=(ak qB');clear qB')
   have BA:=ae (kG (ab HF) (ab F2) (ab H2) (ab Q0) (ab Q1) (ab NA) (ab NB) (by omega) (ab TU) (ab T2) hgrow hown hat);generalize hW:w'.setCell ⟨w.heap.size+1,4,none⟩ (.slice (some ⟨gg,0,none⟩) (kids.length+1) cap)=W at *;clear hW hown hgrow hat hlt c4 z4 s4;obtain⟨f1,f2,f3,f4,f5,f6,f7⟩:=ab BA;have G1:=ae f1;clear BA f1;have G2:=ae f2;have G3:=ae f3;have G4:=ae f4;have G5:=ae f5;have G6:=ae f6;have G7:=ae f7;clear f2 f3 f4 f5 f6 f7;refine((ab G1).is _).mono ?_;rintro e w0 ⟨rfl,rfl⟩;rcases ab GA with⟨hb,hl2⟩|⟨hb,hre⟩
   ·have FA:=ae hl2;clear hl2;rw [show aT s1 { data:=#[124] }=true from hb];go_wp2_with fail;refine(aN (ab G1) (ab K2)).mono ?_;rintro e w5 ⟨rfl,O5,hp5,hf5⟩;have H5:=ae hp5;have F5:=ae hf5;clear hp5 hf5;go_wp2_with fail;go_roundg g
    case measure=>omega
    case rel =>
     have hf5:=ab F5;have lR:=ai (ab G3);have lB:=ai (ab G4);refine⟨ax s s1,kids++[x],_,_,O5,by simp;omega,ab H5,(ab K2).take,(ab G2).trans hf5,(hf5.block _ lR (ab G5)).trans (ab G3),(hf5.block _ lB (ab G6)).trans (ab G4),λ h=>?_,λ h=>?_,(ab G7).step hf5 (λ k hk=>inl hk) (λ k hk=>?_),inl ⟨rfl,ab FA⟩⟩
     ·rcases hf5.own _ h with h|h
      ·exact ab G5 h
      omega
     ·rcases hf5.own _ h with h|h
      ·exact ab G6 h
      omega
     rcases hk with h|h|h
     ·rcases hf5.own _ h with h1|h1
      ·exact inl (inl h1)
      exact inr h1
     ·exact inl (inr (inl h))
     exact inl (inr (inr h))
   have HA:=ae hre;clear hre;rw [show aT s1 { data:=#[124] }=false from hb];go_wp2_with fail;go_roundg g
   case measure=>omega
   case rel=>exact⟨s1,kids++[x],_,_,O2,by simp;omega,ab G1,ab K2,ab G2,ab G3,ab G4,ab G5,ab G6,ab G7,inr ⟨rfl,ab HA⟩⟩
  subst hre;obtain⟨r0,r1,r2,r3,r4⟩:=cX q0;have zr:∀ ob,wr.frozen? ⟨w.heap.size,ob,none⟩=false:=λ ob=>ak q0
  obtain⟨s0,s1,s2',s3,s4⟩:=cX q1;obtain⟨oo,cc,hkv⟩:=htu.form;have TU:=ae (htu.at gF ⟨#[]⟩ 0 0);clear htu;subst hkv;have HP:=ae hp;have HK:=ae hk;have HF:=ae hf;have HN:=ae n0;clear hp hk hf q0 q1 n0 n1;go_wp2_with fail;refine eO (v:=bx gF ⟨#[]⟩ 0 0 (.slice oo kids.length cc)) (by simp [results,results121,go_sem,r0,r1,r2,r3,r4]) rfl ⟨_,O1,rfl,?_,?_,?_,ab HK⟩
  ·repeat with_reducible first|refine PA.other ?_ (ab HN) _ _|refine PA.alloc ?_ _|refine PA.drew ?_|refine PA.drewN ?_ _|exact ab HP
  ·repeat with_reducible first|refine Fr.setCell ?_ (inr (aD _)) _|refine Fr.setCell ?_ (inl (ab HO)) _|refine Fr.alloc ?_ _|refine Fr.drew ?_|refine Fr.drewN ?_ _|exact ab HF|exact bE _ _
  have f0:Fr (λ k=>O1 k\/k=w.heap.size) wr (λ k=>O1 k\/k=w.heap.size) wr:=(bE O1 wr).join (λ k=>k=w.heap.size);refine aP.step (O:=λ k=>O1 k\/k=w.heap.size) (O':=λ k=>O1 k\/k=w.heap.size) (w:=wr) ?_ ?_ ?_ _ _ (ab TU)
  ·repeat with_reducible first|refine Fr.setCell ?_ (inl (inr rfl)) _|exact f0
  ·intro k hk;rcases hk with h|h
   ·exact inl h
   exact inr (inl (by omega))
  intro k hk;rcases hk with h|h
  ·exact inl (inl h)
  exact inl (inr (inl (by omega)))
theorem BO{w wr w2 w':World}{pb B g cap:Nat}{s:ByteArray}{s2:PS}{O O1 O2:Nat->Prop}{kids:List Tr}{x:Tr}{xs:List Value}{op text xop xtext:ByteArray}{n a xn xa:Int}{kv xk:Value}{obS:Obj}
  (HF:Fr O w O1 wr) (F2:Fr O1 wr O2 w2) (H2:PA w2 pb s s2 O2) (Q0:wr.heap[w.heap.size]?=some (.cells bj 115 (0,0))) (Q1:wr.heap[B]?=some (.cells (aj op text n a kv) 115 (0,0)))
  (NA:¬O1 w.heap.size) (NB:¬O1 B) (hB:w.heap.size<B) (TU:cH wr (λ k=>O1 k\/k<=w.heap.size\/k=B) kids kv xs) (T3:aP w2 (λ k=>O2 k\/k<wr.heap.size) x (bx xop xtext xn xa xk))
  (hgrow:(w2.alloc obS).grownBy w' kv.ownBlock) (hown:w'.ownsRow 0 115 5 (.slice (some ⟨g,0,none⟩) (kids.length+1) cap) (kids.length+1) (xs++[.string xop,.string xtext,.int .i64 xn,.int .i64 xa,xk]))
  (hat:kv.ownBlock=some g\/g=w2.heap.size+1) :
  PA (w'.setCell ⟨B,4,none⟩ (.slice (some ⟨g,0,none⟩) (kids.length+1) cap)) pb s s2 O2/\Fr O w O2 (w'.setCell ⟨B,4,none⟩ (.slice (some ⟨g,0,none⟩) (kids.length+1) cap))
  /\ (w'.setCell ⟨B,4,none⟩ (.slice (some ⟨g,0,none⟩) (kids.length+1) cap)).heap[w.heap.size]?=some (.cells bj 115 (0,0))
  /\ (w'.setCell ⟨B,4,none⟩ (.slice (some ⟨g,0,none⟩) (kids.length+1) cap)).heap[B]?=some (.cells (aj op text n a (.slice (some ⟨g,0,none⟩) (kids.length+1) cap)) 115 (0,0))
  /\ ¬O2 w.heap.size/\¬O2 B
  /\ cH (w'.setCell ⟨B,4,none⟩ (.slice (some ⟨g,0,none⟩) (kids.length+1) cap)) (λ k=>O2 k\/k<=w.heap.size\/k=B) (kids++[x]) (.slice (some ⟨g,0,none⟩) (kids.length+1) cap) (xs++[.string xop,.string xtext,.int .i64 xn,.int .i64 xa,xk]):=by
 obtain⟨t1,t2,t3⟩:=TU;have lB:B<wr.heap.size:=ai Q1;have lR:w.heap.size<wr.heap.size:=ai Q0;have l2:wr.heap.size<=w2.heap.size:=F2.size
 have hkv:∀ k,kv.ownBlock=some k->k<wr.heap.size/\¬O1 k/\w.heap.size<k/\k≠B:=λ k hk=>by
  have h1:=(t1.lt k hk).2;have h2:=t2 k hk;exact⟨h1,λ h=>h2 (inl h),Nat.lt_of_not_le (λ h=>h2 (inr (inl h))),λ h=>h2 (inr (inr h))⟩
 have hold:∀ k,k<w2.heap.size->some k≠kv.ownBlock->w'.heap[k]?=w2.heap[k]?:=λ k hk hn=>by
  rw [hgrow.block k (by simp;omega) hn,eW _ _ _ hk]
 have na:¬O2 w.heap.size:=λ h=>by rcases F2.own _ h with h|h;exact NA h;omega
 have nb:¬O2 B:=λ h=>by rcases F2.own _ h with h|h;exact NB h;omega
 have nkv:∀ k,kv.ownBlock=some k->¬O2 k:=λ k hk h=>by
  rcases F2.own _ h with h|h
  ·exact(hkv k hk).2.1 h
  have:=(hkv k hk).1;omega
 have hgB:g≠B:=by
  rcases hat with h|h
  ·exact(hkv g h).2.2.2
  omega
 have hgR:w.heap.size<g:=by
  rcases hat with h|h
  ·exact(hkv g h).2.2.1
  omega
 have hgO:¬O2 g:=by
  rcases hat with h|h
  ·exact nkv g h
  intro h3;have:=H2.lt h3;omega
 have q0:w'.heap[w.heap.size]?=some (.cells bj 115 (0,0)):=by
  rw [hold _ (by omega) (λ e=>by have:=(hkv _ e.symm).2.2.1;omega),F2.block _ lR NA];exact Q0
 have q1:w'.heap[B]?=some (.cells (aj op text n a kv) 115 (0,0)):=by
  rw [hold _ (by omega) (λ e=>(hkv _ e.symm).2.2.2 rfl),F2.block _ lB NB];exact Q1
 have hsz:w2.heap.size+1<=w'.heap.size:=by have:=hgrow.size;simp at this;omega
 refine⟨?_,?_,?_,?_,na,nb,?_,?_,?_⟩
 ·refine PA.other (H2.frame (λ k hk=>hold k (H2.lt hk) (λ e=>nkv k e.symm hk))) nb _ _
 ·have f1:=HF.trans F2;have f2:=(f1.alloc obS).grown hgrow (λ k hk=>inr (by have:=(hkv k hk).2.2.1;omega));exact f2.setCell (inr (by show w.heap.size<=B;omega)) _
 ·rw [ah (by show w.heap.size≠B;omega)];exact q0
 ·rw [aB q1];rfl
 ·rw [List.length_append];refine ap hown (λ k hk=>ah (λ e=>hgB ?_));simp [Value.ownBlock]at hk;rw [hk];exact e
 ·intro k hk;obtain rfl:g=k:=by simpa [Value.ownBlock]using hk
  rintro(h|h|h)
  ·exact hgO h
  ·omega
  exact hgB h
 have hset:∀ k,k≠B->(w'.setCell ⟨B,4,none⟩ (.slice (some ⟨g,0,none⟩) (kids.length+1) cap)).heap[k]?=w'.heap[k]?:=λ k hk=>ah hk
 refine bR.snoc kids xs x _ _ _ _ _ ?_ ?_
 ·refine bR.keep (w:=wr) (Q:=λ k=>(O1 k\/k<=w.heap.size\/k=B)\/kv.ownBlock=some k) (λ k hk hn=>?_) (λ k hk hq=>?_) kids xs t3
  ·rw [hset k (λ e=>hn (inl (inr (inr e)))),hold k (by omega) (λ e=>hn (inr e.symm)),F2.block k hk (λ h=>hn (inl (inl h)))]
  rcases hq with(h|h|h)|h
  ·rcases F2.own k h with h1|h1
   ·exact inl (inl h1)
   omega
  ·exact inl (inr (inl h))
  ·exact inl (inr (inr h))
  obtain rfl:g=k:=by simpa [Value.ownBlock]using h
  rcases hat with h|h
  ·exact inr h
  omega
 refine aP.keep (w:=w2) (Q:=λ k=>O2 k\/k<wr.heap.size) (λ k hk hn=>?_) (λ k hk hq=>?_) x _ T3
 ·have hk2:wr.heap.size<=k:=Nat.le_of_not_lt (λ h=>hn (inr h));rw [hset k (by omega),hold k hk (λ e=>by have:=(hkv _ e.symm).1;omega)]
 rcases hq with(h|h|h)|h
 ·exact inl h
 ·exact inr (by omega)
 ·exact inr (by omega)
 obtain rfl:g=k:=by simpa [Value.ownBlock]using h
 rcases hat with h|h
 ·exact inr (hkv g h).1
 omega
theorem aP.lone{w:World}{Q:Nat->Prop}{S:Nat}{op:ByteArray}{t:Tr}{a0 a1 a2 a3 a4:Value}(ht:aP w Q t (.agg #[a0,a1,a2,a3,a4]))
  (hS:w.heap[S]?=some (.cells #[a0,a1,a2,a3,a4] 115 (0,0))) (hq:¬Q S):aP w Q (.mk op ⟨#[]⟩ 0 0 [t]) (bx op ⟨#[]⟩ 0 0 (.slice (some ⟨S,0,none⟩) 1 1)):=by
 rw [aP];refine⟨_,[a0,a1,a2,a3,a4],rfl,⟨rfl,inr ⟨S,1,_,rfl,iL _,hS,aD 1,by decide,rfl,rfl⟩⟩,?_,?_⟩
 ·intro k hk;obtain rfl:S=k:=by simpa [Value.ownBlock]using hk
  exact hq
 rw [bR];exact⟨_,_,_,_,_,_,rfl,ht,by rw [bR]⟩
def rL(w:World)(B:Nat)(op' text':ByteArray)(n' a':Int)(k':Value)(op:ByteArray):World :=
 (((((w.setCell ⟨B,0,none⟩ (.string op)).setCell ⟨B,1,none⟩ (.string ⟨#[]⟩)).setCell ⟨B,2,none⟩ (.int .i64 0)).setCell ⟨B,3,none⟩ (.int .i64 0)).setCell ⟨B,4,none⟩ (.slice (some ⟨w.heap.size,0,none⟩) 1 1)).alloc
  (.cells (aj op' text' n' a' k') 115)
theorem qy{wr wx w3:World}{pb B:Nat}{s:ByteArray}{s2:PS}{O1 Ox O3:Nat->Prop}{x:Tr}{op' text' op:ByteArray}{n' a':Int}{k':Value}
  (HF:Fr O1 wr Ox wx) (F:Fr Ox wx O3 w3) (H3:PA w3 pb s s2 O3) (Q1:wx.heap[B]?=some (.cells (aj op' text' n' a' k') 115 (0,0)))
  (NB:¬Ox B) (hB:wr.heap.size<=B) (TU:aP wx (λ k=>Ox k\/k<wr.heap.size\/k=B) x (bx op' text' n' a' k')) :
  PA (rL w3 B op' text' n' a' k' op) pb s s2 O3/\Fr O1 wr O3 (rL w3 B op' text' n' a' k' op)
  /\ (rL w3 B op' text' n' a' k' op).heap[B]?=some (.cells (aj op ⟨#[]⟩ 0 0 (.slice (some ⟨w3.heap.size,0,none⟩) 1 1)) 115 (0,0))
  /\ ¬O3 B
  /\ aP (rL w3 B op' text' n' a' k' op) (λ k=>O3 k\/k<wr.heap.size\/k=B) (.mk op ⟨#[]⟩ 0 0 [x]) (bx op ⟨#[]⟩ 0 0 (.slice (some ⟨w3.heap.size,0,none⟩) 1 1)):=by
 have lB:B<wx.heap.size:=ai Q1;have l3:wx.heap.size<=w3.heap.size:=F.size;have q1:=(F.block _ lB NB).trans Q1;have nb:¬O3 B:=λ h=>by rcases F.own _ h with h|h;exact NB h;omega
 obtain⟨W,hW⟩:∃ W,((((w3.setCell ⟨B,0,none⟩ (.string op)).setCell ⟨B,1,none⟩ (.string ⟨#[]⟩)).setCell ⟨B,2,none⟩ (.int .i64 0)).setCell ⟨B,3,none⟩ (.int .i64 0)).setCell ⟨B,4,none⟩ (.slice (some ⟨w3.heap.size,0,none⟩) 1 1)=W:=⟨_,rfl⟩
 have pW:PA W pb s s2 O3:=by rw [<-hW];exact((((H3.other nb _ _).other nb _ _).other nb _ _).other nb _ _).other nb _ _
 have sW:W.heap.size=w3.heap.size:=by rw [<-hW];simp [World.setCell]
 have bW:W.heap[B]?=some (.cells (aj op ⟨#[]⟩ 0 0 (.slice (some ⟨w3.heap.size,0,none⟩) 1 1)) 115 (0,0)):=by
  rw [<-hW,aB (aB (aB (aB (aB q1))))];rfl
 have fW:Fr (λ k=>O3 k\/k=B) w3 (λ k=>O3 k\/k=B) W:=by
  rw [<-hW];have f0:Fr (λ k=>O3 k\/k=B) w3 (λ k=>O3 k\/k=B) w3:=(bE O3 w3).join (λ k=>k=B);exact((((f0.setCell (inl (inr rfl)) _).setCell (inl (inr rfl)) _).setCell (inl (inr rfl)) _).setCell (inl (inr rfl)) _).setCell (inl (inr rfl)) _
 have gW:Fr O1 wr O3 W:=by
  rw [<-hW];exact(((((HF.trans F).setCell (inr hB) _).setCell (inr hB) _).setCell (inr hB) _).setCell (inr hB) _).setCell (inr hB) _
 have e:rL w3 B op' text' n' a' k' op=W.alloc (.cells (aj op' text' n' a' k') 115):=by
  unfold rL;rw [hW]
 rw [e];refine⟨pW.alloc _,gW.alloc _,?_,nb,?_⟩
 ·rw [eW _ _ _ (by omega)];exact bW
 have fF:Fr (λ k=>O3 k\/k=B) w3 (λ k=>O3 k\/k=B) (W.alloc (.cells (aj op' text' n' a' k') 115)):=fW.alloc _;refine aP.lone (a0:=.string op') (a1:=.string text') (a2:=.int .i64 n') (a3:=.int .i64 a') (a4:=k') ?_ ?_ ?_
 ·refine aP.step ((F.join (λ k=>k=B)).trans fF) (λ k hk=>?_) (λ k hk=>?_) x _ TU
  ·rcases hk with h|h
   ·exact inl h
   exact inr (inr h)
  rcases hk with h|h|h
  ·rcases F.own k h with h1|h1
   ·exact inl (inl h1)
   exact inr h1
  ·exact inl (inr (inl h))
  exact inl (inr (inr h))
 ·rw [<-sW];exact cN _ _
 rintro(h|h|h)
 ·have:=H3.lt h;omega
 ·have:=HF.size;omega
 omega
theorem iI(s:ByteArray)(st:PS)(x:Tr){i:Nat}(h:i<3):pG s st x (i+1)=bF s (lM i) (pG s st x i):=by
 rcases i with _|_|_|i
 ·rfl
 ·rfl
 ·rfl
 omega
theorem F9{s:ByteArray}{k:Nat}{st:PS}{t:Tr}{r:PS×Tr}(h:gi s k st t=some r):∃ g,k=g+1:=by
 cases k with
 | zero=>rw [gi]at h;cases h
 | succ g=>exact⟨g,rfl⟩
theorem Cy{s:ByteArray}{g:Nat}{st:PS}{t:Tr}{r:PS×Tr}(h:gi s (g+1) st t=some r) :
  ((jU s st t).2.2=true/\gi s g (jU s st t).1 (jU s st t).2.1=some r)\/((jU s st t).2.2=false/\r=((jU s st t).1,(jU s st t).2.1)):=by
 rw [gi]at h;by_cases hb:(jU s st t).2.2=true
 ·left;rw [aC hb]at h;exact⟨hb,h⟩
 right;rw [au hb]at h;exact⟨by simpa using hb,(fZ h).symm⟩
theorem FI{s:ByteArray}{k:Nat}{st:PS}{kids:List Tr}{r:PS×Tr}(h:gV s k st kids=some r):∃ g,k=g+1:=by
 cases k with
 | zero=>rw [gV]at h;cases h
 | succ g=>exact⟨g,rfl⟩
theorem Cn{s:ByteArray}{g:Nat}{st:PS}{kids:List Tr}{r:PS×Tr}(h:gV s (g+1) st kids=some r) :
  ∃ s1 x s2 x2,gT s g st=some (s1,x)/\gi s g s1 x=some (s2,x2)/\((lV s2=true/\gV s g s2 (kids++[x2])=some r)\/(lV s2=false/\r=(s2,.mk pK ⟨#[]⟩ 0 0 (kids++[x2])))):=by
 rw [gV]at h;cases ht:gT s g st with
 | none=>rw [ht]at h;cases h
 | some p =>
  rw [ht]at h;cases hu:gi s g p.1 p.2 with
  | none=>simp only [hu]at h;cases h
  | some q =>
   simp only [hu]at h;refine⟨p.1,p.2,q.1,q.2,rfl,hu,?_⟩;by_cases hb:lV q.1=true
   ·left;simp only [hb,if_true]at h;exact⟨hb,h⟩
   right;have hb':lV q.1=false:=by simpa using hb
   simp only [hb',Bool.false_eq_true,if_false]at h;exact⟨hb',(fZ h).symm⟩
