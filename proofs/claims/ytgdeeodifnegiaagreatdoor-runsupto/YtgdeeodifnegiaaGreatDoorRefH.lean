/- part -/
import Derived.Test.YtgdeeodifnegiaaGreatDoorRefE
import Derived.Deep.LoopGhost
set_option maxRecDepth 100000
set_option maxHeartbeats 3200000
namespace Go.Proofs.YtgdeeodifnegiaaGreatDoor
open Go.Proofs.Tryz
open Or
open Go.RowKit
namespace rf
mutual
def aP(w:World)(Q:Nat->Prop):Tr->Value->Prop
 | .mk op text n a kids,v=>∃ kv xs,v=bx op text n a kv/\w.ownsRow 0 115 5 kv kids.length xs/\(∀ k,kv.ownBlock=some k->¬Q k)/\bR w Q kids xs
def bR(w:World)(Q:Nat->Prop):List Tr->List Value->Prop
 | [],xs=>xs=[]
 | t::ts,xs=>∃ a b c d e r,xs=a::b::c::d::e::r/\aP w Q t (.agg #[a,b,c,d,e])/\bR w Q ts r
end
mutual
theorem aP.step{O O' Q Q':Nat->Prop}{w w':World}(hf:Fr O w O' w')(h1:∀ k,O k->Q k)(h2:∀ k,Q' k->Q k\/w.heap.size<=k) :
  ∀(t:Tr) (v:Value),aP w Q t v->aP w' Q' t v
 | .mk op text n a kids,v,h=>by
  rw [aP]at h ⊢;obtain⟨kv,xs,e,ho,hq,ha⟩:=h;refine⟨kv,xs,e,ap ho (λ k hk=>hf.block k (ho.lt k hk).2 (λ hO=>hq k hk (h1 k hO))),λ k hk hQ=>?_,bR.step hf h1 h2 kids xs ha⟩;rcases h2 k hQ with h|h
  ·exact hq k hk h
  have:=(ho.lt k hk).2;omega
theorem bR.step{O O' Q Q':Nat->Prop}{w w':World}(hf:Fr O w O' w')(h1:∀ k,O k->Q k)(h2:∀ k,Q' k->Q k\/w.heap.size<=k) :
  ∀(ts:List Tr) (xs:List Value),bR w Q ts xs->bR w' Q' ts xs
 | [],xs,h=>by rw [bR]at h ⊢;exact h
 | t::ts,xs,h=>by
  rw [bR]at h ⊢;obtain⟨a,b,c,d,e,r,ex,ht,hr⟩:=h;exact⟨a,b,c,d,e,r,ex,aP.step hf h1 h2 t _ ht,bR.step hf h1 h2 ts r hr⟩
end
theorem bR.snoc{Q:Nat->Prop}{w:World}:∀(ts:List Tr) (xs:List Value) (t:Tr) (a b c d e:Value),bR w Q ts xs->aP w Q t (.agg #[a,b,c,d,e])->bR w Q (ts++[t]) (xs++[a,b,c,d,e])
 | [],xs,t,a,b,c,d,e,h,ht=>by
  rw [bR]at h;subst h;rw [List.nil_append,List.nil_append,bR];exact⟨a,b,c,d,e,[],rfl,ht,by rw [bR]⟩
 | u::us,xs,t,a,b,c,d,e,h,ht=>by
  rw [bR]at h;obtain⟨a',b',c',d',e',r,ex,hu,hr⟩:=h;subst ex;rw [List.cons_append,bR];exact⟨a',b',c',d',e',r++[a,b,c,d,e],rfl,hu,bR.snoc us r t a b c d e hr ht⟩
theorem aP.leaf(w:World)(Q:Nat->Prop)(op text:ByteArray)(n a:Int):aP w Q (.mk op text n a []) (bx op text n a (.slice none 0 0)):=by
 rw [aP];exact⟨_,[],rfl,jX _ _ _ _,λ k hk=>by simp [Value.ownBlock]at hk,by rw [bR]⟩
theorem aP.form{w:World}{Q:Nat->Prop}{t:Tr}{v:Value}(h:aP w Q t v):∃ op text n a o c l,v=bx op text n a (.slice o c l):=by
 cases t with
 | mk op text n a kids =>
  rw [aP]at h;obtain⟨kv,xs,e,ho,_⟩:=h;rcases ho.2 with⟨e1,_⟩|⟨g,cap,cur,e1,_⟩
  ·exact⟨op,text,n,a,_,_,_,by rw [e,e1]⟩
  exact⟨op,text,n,a,_,_,_,by rw [e,e1]⟩
theorem PA.opens{w:World}{pb:Nat}{s:ByteArray}{st:PS}{O:Nat->Prop}(h:PA w pb s st O) :
  Calls prog 176 #[fX pb] w λ e w'=>e=.returned (.tuple #[])/\PA w' pb s (cx st) O/\Fr O w O w':=by
 obtain⟨tv,lv,hp,rfl⟩:=h;refine(Fg hp).mono ?_;rintro e w' ⟨rfl,h1,h2⟩;exact⟨rfl,⟨tv,lv,h1,rfl⟩,h2⟩
theorem Ok.opn{s:ByteArray}{st:PS}(h:Ok s st)(x:Int):Ok s { st with opn:=x }:=⟨h.hs,h.hi,h.tk0,h.tk,h.ln,h.tx⟩
theorem Ok.opens{s:ByteArray}{st:PS}(h:Ok s st):Ok s (cx st):=by unfold cx;split;exact h.fail.opn _;exact h.opn _
theorem PA.setOpn{w:World}{pb:Nat}{s:ByteArray}{st:PS}{O:Nat->Prop}(h:PA w pb s st O)(x:Int):PA (w.setCell ⟨pb,8,none⟩ (.int .i64 x)) pb s { st with opn:=x } O:=by
 obtain⟨tv,lv,hp,rfl⟩:=h;exact⟨tv,lv,hp.set rfl rfl rfl,rfl⟩
theorem PA.cell{w:World}{pb:Nat}{s:ByteArray}{st:PS}{O:Nat->Prop}(h:PA w pb s st O):w.cell? ⟨pb,1,none⟩=some (.int .u8 st.next.kind)/\w.cell? ⟨pb,7,none⟩=some (.int .i64 st.bad)/\w.cell? ⟨pb,8,none⟩=some (.int .i64 st.opn)/\(∀ o,w.frozen? ⟨pb,o,none⟩=false):=by
 obtain⟨tv,lv,hp,rfl⟩:=h;exact⟨af hp.blk,af hp.blk,af hp.blk,λ o=>ak hp.blk⟩
theorem iF(t:kA)(w:World):(Instr.field 121 (eG t) 1).run prog w=.ok (.string t.text) w:=by kernel_rfl
def eP(pb:Nat)(s:ByteArray)(w:World)(O:Nat->Prop)(r:PS×Tr)(e:Ending)(w':World):Prop :=
 ∃ v O',e=.returned v/\PA w' pb s r.1 O'/\Fr O w O' w'/\aP w' (λ k=>O' k\/k<w.heap.size) r.2 v/\Ok s r.1
def uJ(pb:Nat)(s:ByteArray)(f:Nat):Prop:=∀(w:World) (st:PS) (O:Nat->Prop) (r:PS×Tr),PA w pb s st O->Ok s st->sumTw s f st=some r->Calls prog 123 #[fX pb] w (eP pb s w O r)
def GI(pb:Nat)(s:ByteArray)(f:Nat):Prop:=∀(w:World) (st:PS) (O:Nat->Prop) (r:PS×Tr),PA w pb s st O->Ok s st->termTw s f st=some r->Calls prog 174 #[fX pb] w (eP pb s w O r)
theorem Hw(st:PS)(x:ByteArray):aT (aY st) x=false:=by
 have:=kF st;unfold aT;rw [gn (by omega)];rfl
theorem BS(s:ByteArray)(st:PS)(k:Int):aA s (aY st) k=aY st:=by
 unfold aA;split
 ·exact lN s st
 exact th st
theorem wG(pb:Nat)(s:ByteArray)(w:World)(st:PS)(O:Nat->Prop)(h:PA w pb s st O)(hk:Ok s st)(st0:PS)(hst:(fh st=true/\st0=st)\/(fh st=false/\st0=aY st))(hop:aT st0 fu=false) :
  Calls prog 174 #[fX pb] w (eP pb s w O (if st0.next.kind=48 then(aA s st0 48,.mk cy ⟨#[]⟩ (bf st0.next.text 4294967295) st0.next.at_ [])else(ax s st0,.mk st0.next.text ⟨#[]⟩ 0 0 []))):=by
 have lp:pb<w.heap.size:=h.lt h.own;have hR:PA (w.alloc (.cells bj 115)) pb s st O:=h.alloc _;have N0:=ae (show ¬O w.heap.size from λ hk=>by have:=h.lt hk;omega);have K0:Ok s st0:=by rcases hst with⟨_,rfl⟩|⟨_,rfl⟩;exact hk;exact hk.fail
 have c1:=hR.cell.1;have hfl:=iF st0.next;have HR:=ae hR;clear hR h hk;rcases hst with⟨hs1,rfl⟩|⟨hs1,rfl⟩
 ·by_cases h48:st0.next.kind=48
  ·rw [aC h48];have hb:(st0.next.kind==48)=true:=by simp [h48]
   clear h48;generalize st0=st at *;go_enter func174,ntmps174;go_wp2_with fail;refine(dY (ab HR)).mono ?_;rintro e w0 ⟨rfl,rfl⟩;rw [hs1];go_wp2_with fail;refine((ab HR).is _).mono ?_;rintro e w0 ⟨rfl,rfl⟩;rw [show aT st { data:=#[40] }=false from hop];go_wp2_with fail;refine(lu (ab HR) K0 _).mono ?_;rintro e w' ⟨rfl,O',hp,hf2⟩;have hf:=hf2;obtain⟨hn0,hz,r0,r1,r2,r3,r4,zr,hfw⟩:=jN hf (ab N0);have HN:=ae hn0;have HP:=ae hp;have HF:=ae hfw;clear hn0 hfw hp hf;go_wp2_with fail;refine eO (v:=bx cy ⟨#[]⟩ (bf st.next.text 4294967295) st.next.at_ (.slice none 0 0)) (by simp [results,results174,go_sem,r0,r1,r2,r3,r4,cy]) rfl ⟨_,O',rfl,?_,?_,aP.leaf _ _ _ _ _ _,?_⟩
   ·repeat with_reducible first|refine PA.other ?_ (ab HN) _ _|refine PA.alloc ?_ _|refine PA.drew ?_|refine PA.drewN ?_ _|exact ab HP
   ·repeat with_reducible first|refine Fr.setCell ?_ (inr (aD _)) _|refine Fr.setCell ?_ (inl (ab HO)) _|refine Fr.alloc ?_ _|refine Fr.drew ?_|refine Fr.drewN ?_ _|exact ab HF|exact bE _ _
   exact K0.kind 48
  rw [au h48];have hb:(st0.next.kind==48)=false:=by simp [h48]
  clear h48;generalize st0=st at *;go_enter func174,ntmps174;go_wp2_with fail;refine(dY (ab HR)).mono ?_;rintro e w0 ⟨rfl,rfl⟩;rw [hs1];go_wp2_with fail;refine((ab HR).is _).mono ?_;rintro e w0 ⟨rfl,rfl⟩;rw [show aT st { data:=#[40] }=false from hop];go_wp2_with fail;refine(aN (ab HR) K0).mono ?_;rintro e w' ⟨rfl,O',hp,hf2⟩;have hf:=hf2;obtain⟨hn0,hz,r0,r1,r2,r3,r4,zr,hfw⟩:=jN hf (ab N0);have HN:=ae hn0;have HP:=ae hp;have HF:=ae hfw;clear hn0 hfw hp hf;go_wp2_with fail;refine eO (v:=bx st.next.text ⟨#[]⟩ 0 0 (.slice none 0 0)) (by simp [results,results174,go_sem,r0,r1,r2,r3,r4]) rfl ⟨_,O',rfl,?_,?_,aP.leaf _ _ _ _ _ _,?_⟩
  ·repeat with_reducible first|refine PA.other ?_ (ab HN) _ _|refine PA.alloc ?_ _|refine PA.drew ?_|refine PA.drewN ?_ _|exact ab HP
  ·repeat with_reducible first|refine Fr.setCell ?_ (inr (aD _)) _|refine Fr.setCell ?_ (inl (ab HO)) _|refine Fr.alloc ?_ _|refine Fr.drew ?_|refine Fr.drewN ?_ _|exact ab HF|exact bE _ _
  exact K0.take
 rw [failP_next]at hfl ⊢;by_cases h48:st.next.kind=48
 ·rw [aC h48];have hb:(st.next.kind==48)=true:=by simp [h48]
  clear h48;go_enter func174,ntmps174;go_wp2_with fail;refine(dY (ab HR)).mono ?_;rintro e w0 ⟨rfl,rfl⟩;rw [hs1];go_wp2_with fail;refine((ab HR).fail).mono ?_;rintro e w1 ⟨rfl,hp1,hf1⟩;have H1:=ae hp1;have c1:w1.cell? ⟨pb,1,none⟩=some (.int .u8 st.next.kind):=by rw [<-failP_next];exact hp1.cell.1
  clear hp1;go_wp2_with fail;refine((ab H1).is _).mono ?_;rintro e w0 ⟨rfl,rfl⟩;rw [show aT (aY st) { data:=#[40] }=false from hop];go_wp2_with fail;refine(lu (ab H1) K0 _).mono ?_;rintro e w' ⟨rfl,O',hp,hf2⟩;have hf:=hf1.trans hf2;obtain⟨hn0,hz,r0,r1,r2,r3,r4,zr,hfw⟩:=jN hf (ab N0);have HN:=ae hn0;have HP:=ae hp;have HF:=ae hfw;clear hn0 hfw hp hf;go_wp2_with fail;refine eO (v:=bx cy ⟨#[]⟩ (bf st.next.text 4294967295) st.next.at_ (.slice none 0 0)) (by simp [results,results174,go_sem,r0,r1,r2,r3,r4,cy]) rfl ⟨_,O',rfl,?_,?_,aP.leaf _ _ _ _ _ _,?_⟩
  ·repeat with_reducible first|refine PA.other ?_ (ab HN) _ _|refine PA.alloc ?_ _|refine PA.drew ?_|refine PA.drewN ?_ _|exact ab HP
  ·repeat with_reducible first|refine Fr.setCell ?_ (inr (aD _)) _|refine Fr.setCell ?_ (inl (ab HO)) _|refine Fr.alloc ?_ _|refine Fr.drew ?_|refine Fr.drewN ?_ _|exact ab HF|exact bE _ _
  exact K0.kind 48
 rw [au h48];have hb:(st.next.kind==48)=false:=by simp [h48]
 clear h48;go_enter func174,ntmps174;go_wp2_with fail;refine(dY (ab HR)).mono ?_;rintro e w0 ⟨rfl,rfl⟩;rw [hs1];go_wp2_with fail;refine((ab HR).fail).mono ?_;rintro e w1 ⟨rfl,hp1,hf1⟩;have H1:=ae hp1;have c1:w1.cell? ⟨pb,1,none⟩=some (.int .u8 st.next.kind):=by rw [<-failP_next];exact hp1.cell.1
 clear hp1;go_wp2_with fail;refine((ab H1).is _).mono ?_;rintro e w0 ⟨rfl,rfl⟩;rw [show aT (aY st) { data:=#[40] }=false from hop];go_wp2_with fail;refine(aN (ab H1) K0).mono ?_;rintro e w' ⟨rfl,O',hp,hf2⟩;have hf:=hf1.trans hf2;obtain⟨hn0,hz,r0,r1,r2,r3,r4,zr,hfw⟩:=jN hf (ab N0);have HN:=ae hn0;have HP:=ae hp;have HF:=ae hfw;clear hn0 hfw hp hf;go_wp2_with fail;refine eO (v:=bx st.next.text ⟨#[]⟩ 0 0 (.slice none 0 0)) (by simp [results,results174,go_sem,r0,r1,r2,r3,r4]) rfl ⟨_,O',rfl,?_,?_,aP.leaf _ _ _ _ _ _,?_⟩
 ·repeat with_reducible first|refine PA.other ?_ (ab HN) _ _|refine PA.alloc ?_ _|refine PA.drew ?_|refine PA.drewN ?_ _|exact ab HP
 ·repeat with_reducible first|refine Fr.setCell ?_ (inr (aD _)) _|refine Fr.setCell ?_ (inl (ab HO)) _|refine Fr.alloc ?_ _|refine Fr.drew ?_|refine Fr.drewN ?_ _|exact ab HF|exact bE _ _
 exact K0.take
end rf
theorem Fr.join{O O':Nat->Prop}{w w':World}(h:Fr O w O' w')(A:Nat->Prop):Fr (λ k=>O k\/A k) w (λ k=>O' k\/A k) w' :=
 ⟨h.os,h.tape,h.output,h.size,λ k hk hn=>h.block k hk (λ ho=>hn (inl ho)),λ k hk=>by
  rcases hk with h1|h1
  ·rcases h.own k h1 with h2|h2
   ·exact inl (inl h2)
   ·exact inr h2
  ·exact inl (inr h1)⟩
namespace rf
theorem ou(pb:Nat)(s:ByteArray)(f:Nat)(IH:uJ pb s f)(w:World)(st:PS)(O:Nat->Prop)(h:PA w pb s st O)(hk:Ok s st)(hs1:fh st=true)(hop:aT st fu=true)(st1:PS)(t:Tr)(hsum:sumTw s f (ax s (cx st))=some (st1,t)) :
  Calls prog 174 #[fX pb] w (eP pb s w O (p8 (aJ s st1 mO),t)):=by
 have lp:pb<w.heap.size:=h.lt h.own;have hR:PA (w.alloc (.cells bj 115)) pb s st O:=h.alloc _;have N0:=ae (show ¬O w.heap.size from λ hk=>by have:=h.lt hk;omega);have HR:=ae hR;have K:=ae hk;have AA:=ae hsum;have BA:=ae IH;clear hR h hk hsum IH;go_enter func174,ntmps174;go_wp2_with fail;refine(dY (ab HR)).mono ?_;rintro e w0 ⟨rfl,rfl⟩;rw [hs1];go_wp2_with fail;refine((ab HR).is _).mono ?_;rintro e w0 ⟨rfl,rfl⟩;rw [show aT st { data:=#[40] }=true from hop];go_wp2_with fail;refine((ab HR).opens).mono ?_;rintro e w2 ⟨rfl,hp2,hf2⟩;go_wp2_with fail;refine(aN hp2 (ab K).opens).mono ?_;rintro e w3 ⟨rfl,O3,hp3,hf3⟩;have H3:=ae hp3;have F3:=ae (hf2.trans hf3);clear hp2 hf2 hp3 hf3;go_wp2_with fail;refine(ab BA _ _ _ _ (ab H3) (ab K).opens.take (ab AA)).mono ?_;rintro e w4 ⟨v,O4,rfl,hp4,hf4,ht4,hk4⟩;obtain⟨op,text,n,a,o,c,l,rfl⟩:=ht4.form;have H4:=ae hp4;have F4:=ae ((ab F3).trans hf4);have T4:=ae ht4;have K4:=ae hk4;have Z3:=ae (show w.heap.size<w3.heap.size by have:=(ab F3).size;simp at this;omega);have N4:=ae (show ¬O4 w4.heap.size from λ hk=>by have:=hp4.lt hk;omega);clear hp4 hf4 ht4 hk4;go_wp2_with fail;refine(dr ((ab H4).alloc _) (ab K4) _).mono ?_;rintro e w' ⟨rfl,O',hp,hf5⟩;have b0:w'.heap[w4.heap.size]?=some (.cells (aj op text n a (.slice o c l)) 115 (0,0)):=(hf5.block w4.heap.size (by simp) (ab N4)).trans (cN w4 _);have F5:=ae (((bE O4 w4).alloc (.cells (aj op text n a (.slice o c l)) 115)).trans hf5);have hf:=(ab F4).trans (ab F5);obtain⟨s0,s1,s2,s3,s4⟩:=cX b0;have hzb:w4.heap.size<w'.heap.size:=ai b0;have hzc:w.heap.size<w4.heap.size:=by have:=(ab F4).size;simp at this;omega
 obtain⟨_,_,c8,zp⟩:=hp.cell;have HO:=ae hp.own;have hp:=hp.setOpn (wrap64 ((aJ s st1 ⟨#[41]⟩).opn-1));clear b0 hf5;obtain⟨hn0,hz,r0,r1,r2,r3,r4,zr,hfw⟩:=jN hf (ab N0);have HN:=ae hn0;have HP:=ae hp;have HF:=ae hfw;clear hn0 hfw hp hf;go_wp2_with fail;refine eO (v:=bx op text n a (.slice o c l)) (by simp [results,results174,go_sem,r0,r1,r2,r3,r4]) rfl ⟨_,O',rfl,?_,?_,?_,?_⟩
 ·refine(show PA _ pb s { aJ s st1 ⟨#[41]⟩with opn:=wrap64 ((aJ s st1 ⟨#[41]⟩).opn-1) } O' from ?_)
  repeat with_reducible first|refine PA.other ?_ (ab HN) _ _|refine PA.alloc ?_ _|refine PA.drew ?_|refine PA.drewN ?_ _|exact ab HP
 ·repeat with_reducible first|refine Fr.setCell ?_ (inr (aD _)) _|refine Fr.setCell ?_ (inl (ab HO)) _|refine Fr.alloc ?_ _|refine Fr.drew ?_|refine Fr.drewN ?_ _|exact ab HF|exact bE _ _
 ·refine aP.step (O:=λ k=>O4 k\/k=w.heap.size) (O':=λ k=>O' k\/k=w.heap.size) (w:=w4) ?_ ?_ ?_ t _ (ab T4)
  ·repeat with_reducible first|refine Fr.setCell ?_ (inl (inr rfl)) _|refine Fr.setCell ?_ (inl (inl (ab HO))) _|refine Fr.alloc ?_ _|refine Fr.drew ?_|refine Fr.drewN ?_ _|exact(ab F5).join _
  ·intro k hk;rcases hk with h|h
   ·exact inl h
   exact inr (by have:=ab Z3;omega)
  intro k hk;rcases hk with h|h
  ·rcases(ab F5).own k h with h1|h1
   ·exact inl (inl h1)
   exact inr h1
  exact inl (inr (by have:=ab Z3;omega))
 exact((ab K4).need _).opn _
theorem aP.pair{w:World}{Q:Nat->Prop}{S:Nat}{op:ByteArray}{t x:Tr}{a0 a1 a2 a3 a4 b0 b1 b2 b3 b4:Value}(ht:aP w Q t (.agg #[a0,a1,a2,a3,a4]))(hx:aP w Q x (.agg #[b0,b1,b2,b3,b4]))
  (hS:w.heap[S]?=some (.cells #[a0,a1,a2,a3,a4,b0,b1,b2,b3,b4] 115 (0,0))) (hq:¬Q S):aP w Q (.mk op ⟨#[]⟩ 0 0 [t,x]) (bx op ⟨#[]⟩ 0 0 (.slice (some ⟨S,0,none⟩) 2 2)):=by
 rw [aP];refine⟨_,[a0,a1,a2,a3,a4,b0,b1,b2,b3,b4],rfl,⟨rfl,inr ⟨S,2,_,rfl,iL _,hS,aD 2,by decide,rfl,rfl⟩⟩,?_,?_⟩
 ·intro k hk;obtain rfl:S=k:=by simpa [Value.ownBlock]using hk
  exact hq
 rw [bR];refine⟨_,_,_,_,_,_,rfl,ht,?_⟩;rw [bR];exact⟨_,_,_,_,_,_,rfl,hx,by rw [bR]⟩
theorem qz{s:ByteArray}{k:Nat}{st:PS}{t:Tr}{r:PS×Tr}(h:sumLp s k st t=some r):∃ g,k=g+1:=by
 cases k with
 | zero=>rw [sumLp]at h;cases h
 | succ g=>exact⟨g,rfl⟩
theorem CE{s:ByteArray}{g:Nat}{st:PS}{t:Tr}{r:PS×Tr}(h:sumLp s (g+1) st t=some r)(h1:aT st dI=false)(h2:aT st iJ=false):r=(st,t):=by
 rw [sumLp,au (by simp [h1,h2])]at h;exact(fZ h).symm
theorem CD{s:ByteArray}{g:Nat}{st:PS}{t:Tr}{r:PS×Tr}(h:sumLp s (g+1) st t=some r)(h1:(aT st dI||aT st iJ)=true) :
  ∃ st2 x,termTw s g (ax s st)=some (st2,x)/\sumLp s g st2 (.mk st.next.text ⟨#[]⟩ 0 0 [t,x])=some r:=by
 rw [sumLp,aC h1]at h;cases ht:termTw s g (ax s st)with
 | none=>rw [ht]at h;cases h
 | some p=>rw [ht]at h;exact⟨p.1,p.2,rfl,h⟩
def uq(w:World)(B:Nat)(op' text':ByteArray)(n' a':Int)(k':Value)(xop xtext:ByteArray)(xn xa:Int)(xk:Value)(op:ByteArray):World :=
 ((((((w.setCell ⟨B,0,none⟩ (.string op)).setCell ⟨B,1,none⟩ (.string ⟨#[]⟩)).setCell ⟨B,2,none⟩ (.int .i64 0)).setCell ⟨B,3,none⟩ (.int .i64 0)).setCell ⟨B,4,none⟩ (.slice (some ⟨w.heap.size+1,0,none⟩) 2 2)).alloc
  (.cells (aj xop xtext xn xa xk) 115)).alloc (.cells #[.string op',.string text',.int .i64 n',.int .i64 a',k',.string xop,.string xtext,.int .i64 xn,.int .i64 xa,xk] 115)
theorem wE{w wr w2 w3:World}{pb B:Nat}{s:ByteArray}{s2:PS}{O Ou O2 O3:Nat->Prop}{tu x:Tr}{op' text' xop xtext op:ByteArray}{n' a' xn xa:Int}{k' xk:Value}
  (HF:Fr O w Ou wr) (F2:Fr Ou wr O2 w2) (F3:Fr O2 w2 O3 w3) (H3:PA w3 pb s s2 O3) (Q0:wr.heap[w.heap.size]?=some (.cells bj 115 (0,0))) (Q1:wr.heap[B]?=some (.cells (aj op' text' n' a' k') 115 (0,0)))
  (NA:¬Ou w.heap.size) (NB:¬Ou B) (hB:w.heap.size<B) (TU:aP wr (λ k=>Ou k\/k<=w.heap.size\/k=B) tu (bx op' text' n' a' k')) (T3:aP w3 (λ k=>O3 k\/k<w2.heap.size) x (bx xop xtext xn xa xk)) :
  PA (uq w3 B op' text' n' a' k' xop xtext xn xa xk op) pb s s2 O3/\Fr O w O3 (uq w3 B op' text' n' a' k' xop xtext xn xa xk op)
  /\ (uq w3 B op' text' n' a' k' xop xtext xn xa xk op).heap[w.heap.size]?=some (.cells bj 115 (0,0))
  /\ (uq w3 B op' text' n' a' k' xop xtext xn xa xk op).heap[B]?=some (.cells (aj op ⟨#[]⟩ 0 0 (.slice (some ⟨w3.heap.size+1,0,none⟩) 2 2)) 115 (0,0))
  /\ ¬O3 w.heap.size/\¬O3 B
  /\ aP (uq w3 B op' text' n' a' k' xop xtext xn xa xk op) (λ k=>O3 k\/k<=w.heap.size\/k=B) (.mk op ⟨#[]⟩ 0 0 [tu,x]) (bx op ⟨#[]⟩ 0 0 (.slice (some ⟨w3.heap.size+1,0,none⟩) 2 2)):=by
 have F:=F2.trans F3;have lB:B<wr.heap.size:=ai Q1;have lR:w.heap.size<wr.heap.size:=ai Q0;have l2:wr.heap.size<=w2.heap.size:=F2.size;have l3:w2.heap.size<=w3.heap.size:=F3.size;have q0:=(F.block _ lR NA).trans Q0;have q1:=(F.block _ lB NB).trans Q1;have na:¬O3 w.heap.size:=λ h=>by rcases F.own _ h with h|h;exact NA h;omega
 have nb:¬O3 B:=λ h=>by rcases F.own _ h with h|h;exact NB h;omega
 have hHN:Hid (¬O3 B):=nb;obtain⟨W,hW⟩:∃ W,((((w3.setCell ⟨B,0,none⟩ (.string op)).setCell ⟨B,1,none⟩ (.string ⟨#[]⟩)).setCell ⟨B,2,none⟩ (.int .i64 0)).setCell ⟨B,3,none⟩ (.int .i64 0)).setCell ⟨B,4,none⟩ (.slice (some ⟨w3.heap.size+1,0,none⟩) 2 2)=W:=⟨_,rfl⟩
 have pW:PA W pb s s2 O3:=by rw [<-hW];exact((((H3.other nb _ _).other nb _ _).other nb _ _).other nb _ _).other nb _ _
 have sW:W.heap.size=w3.heap.size:=by rw [<-hW];simp [World.setCell]
 have bW:W.heap[B]?=some (.cells (aj op ⟨#[]⟩ 0 0 (.slice (some ⟨w3.heap.size+1,0,none⟩) 2 2)) 115 (0,0)):=by
  rw [<-hW,aB (aB (aB (aB (aB q1))))];rfl
 have oW:∀ k,k≠B->W.heap[k]?=w3.heap[k]?:=λ k hk=>by
  rw [<-hW,ah hk,ah hk,ah hk,ah hk,ah hk]
 have fW:Fr (λ k=>O3 k\/k=B) w3 (λ k=>O3 k\/k=B) W:=by
  rw [<-hW];have f0:Fr (λ k=>O3 k\/k=B) w3 (λ k=>O3 k\/k=B) w3:=(bE O3 w3).join (λ k=>k=B);exact((((f0.setCell (inl (inr rfl)) _).setCell (inl (inr rfl)) _).setCell (inl (inr rfl)) _).setCell (inl (inr rfl)) _).setCell (inl (inr rfl)) _
 have gW:Fr O w O3 W:=by
  rw [<-hW];have hB':w.heap.size<=B:=by omega
  exact(((((HF.trans F).setCell (inr hB') _).setCell (inr hB') _).setCell (inr hB') _).setCell (inr hB') _).setCell (inr hB') _
 have e:uq w3 B op' text' n' a' k' xop xtext xn xa xk op=(W.alloc (.cells (aj xop xtext xn xa xk) 115)).alloc (.cells #[.string op',.string text',.int .i64 n',.int .i64 a',k',.string xop,.string xtext,.int .i64 xn,.int .i64 xa,xk] 115):=by
  unfold uq;rw [hW]
 rw [e]
 have aW:∀ k,k<W.heap.size->((W.alloc (.cells (aj xop xtext xn xa xk) 115)).alloc (.cells #[.string op',.string text',.int .i64 n',.int .i64 a',k',.string xop,.string xtext,.int .i64 xn,.int .i64 xa,xk] 115)).heap[k]?=W.heap[k]?:=λ k hk=>by
  rw [eW _ _ _ (by simp;omega),eW _ _ _ hk]
 refine⟨(pW.alloc _).alloc _,(gW.alloc _).alloc _,?_,?_,na,nb,?_⟩
 ·rw [aW _ (by omega),oW _ (by omega)];exact q0
 ·rw [aW _ (by omega)];exact bW
 have fF:Fr (λ k=>O3 k\/k=B) w3 (λ k=>O3 k\/k=B) ((W.alloc (.cells (aj xop xtext xn xa xk) 115)).alloc (.cells #[.string op',.string text',.int .i64 n',.int .i64 a',k',.string xop,.string xtext,.int .i64 xn,.int .i64 xa,xk] 115)):=(fW.alloc _).alloc _;refine aP.pair (a0:=.string op') (a1:=.string text') (a2:=.int .i64 n') (a3:=.int .i64 a') (a4:=k') (b0:=.string xop) (b1:=.string xtext) (b2:=.int .i64 xn) (b3:=.int .i64 xa) (b4:=xk) ?_ ?_ ?_ ?_
 ·refine aP.step ((F.join (λ k=>k=B)).trans fF) (λ k hk=>?_) (λ k hk=>?_) tu _ TU
  ·rcases hk with h|h
   ·exact inl h
   exact inr (inr h)
  rcases hk with h|h|h
  ·rcases F.own k h with h1|h1
   ·exact inl (inl h1)
   exact inr h1
  ·exact inl (inr (inl h))
  exact inl (inr (inr h))
 ·refine aP.step fF (λ k hk=>?_) (λ k hk=>?_) x _ T3
  ·rcases hk with h|h
   ·exact inl h
   exact inr (by omega)
  rcases hk with h|h|h
  ·exact inl (inl h)
  ·exact inl (inr (by omega))
  exact inl (inr (by omega))
 ·rw [show w3.heap.size+1=(W.alloc (.cells (aj xop xtext xn xa xk) 115)).heap.size by simp [sW]];exact cN _ _
 rintro(h|h|h)
 ·have:=H3.lt h;omega
 ·omega
 omega
theorem Li(pb:Nat)(s:ByteArray)(f:Nat)(IH:∀ g,g<=f->GI pb s g):uJ pb s (f+1):=by
 intro w st O r h hk hr;rw [sumTw]at hr;cases ht:termTw s f st with
 | none=>rw [ht]at hr;cases hr
 | some p =>
  obtain⟨st1,t⟩:=p;rw [ht]at hr;have lp:pb<w.heap.size:=h.lt h.own;have N0:=ae (show ¬O w.heap.size from λ hk=>by have:=h.lt hk;omega);have HR:=ae (h.alloc (.cells bj 115));have K:=ae hk;have HT:=ae ht;have HL:=ae (show sumLp s f st1 t=some r from hr);have BA:=ae IH;clear h hk ht hr IH;go_enter func123,ntmps123;go_wp2_with fail;refine(ab BA f (aD _) _ _ _ _ (ab HR) (ab K) (ab HT)).mono ?_;rintro e w1 ⟨v,O1,rfl,hp1,hf1,ht1,hk1⟩;obtain⟨op,text,n,a,o,c,l,rfl⟩:=ht1.form;have H1:=ae (hp1.alloc (.cells (aj op text n a (.slice o c l)) 115));have N1:=ae (show ¬O1 w1.heap.size from λ hk=>by have:=hp1.lt hk;omega);have F1:=ae ((((bE O w).alloc (.cells bj 115)).trans hf1).alloc (.cells (aj op text n a (.slice o c l)) 115));have hlt:w.heap.size<w1.heap.size:=by have:=hf1.size;simp at this;omega
  have Q1:=ae (show(w1.alloc (.cells (aj op text n a (.slice o c l)) 115)).heap[w.heap.size]?=some (.cells bj 115 (0,0))by rw [eW _ _ _ hlt];exact(hf1.block w.heap.size (by simp) (ab N0)).trans (cN w _))
  have N2:=ae (show ¬O1 w.heap.size from λ hk=>by
   rcases hf1.own _ hk with h|h
   ·exact ab N0 h
   ·simp at h;omega)
  have T1:=ae (show aP (w1.alloc (.cells (aj op text n a (.slice o c l)) 115)) (λ k=>O1 k\/k<=w.heap.size\/k=w1.heap.size) t (bx op text n a (.slice o c l))from by
   refine aP.step ((bE O1 w1).alloc _) (λ k hk=>inl hk) (λ k hk=>?_) t _ ht1;rcases hk with h|h|h
   ·exact inl (inl h)
   ·exact inl (inr (by simp;omega))
   ·exact inr (by omega))
  have K1:=ae hk1;clear hp1 hf1 ht1 hk1 HT HR;go_wp2_with fail;refine((ab H1).is _).mono ?_;rintro e w0 ⟨rfl,rfl⟩;go_wp2_with fail;refine((ab H1).is _).mono ?_;rintro e w0 ⟨rfl,rfl⟩;go_wp2_with fail;go_loopg [4,5] f (λ k b4 b5 wr=>∃(st1:PS) (t:Tr) (O1:Nat->Prop) (op text:ByteArray) (n a:Int) (o:Option Addr) (c l:Nat),b4=.bool (aT st1 dI)/\b5=.bool (aT st1 iJ)/\k<=f/\PA wr pb s st1 O1/\Ok s st1/\Fr O w O1 wr/\wr.heap[w.heap.size]?=some (.cells bj 115 (0,0))/\wr.heap[w1.heap.size]?=some (.cells (aj op text n a (.slice o c l)) 115 (0,0))/\¬O1 w.heap.size/\¬O1 w1.heap.size/\aP wr (λ k=>O1 k\/k<=w.heap.size\/k=w1.heap.size) t (bx op text n a (.slice o c l))/\sumLp s k st1 t=some r)
  case atStart=>exact⟨st1,t,O1,op,text,n,a,o,c,l,rfl,rfl,aD _,ab H1,ab K1,ab F1,ab Q1,cN _ _,ab N2,ab N1,ab T1,ab HL⟩
  case round =>
   clear H1 K1 F1 Q1 N2 N1 T1 HL;obtain⟨su,tu,Ou,op',text',n',a',o',c',l',rfl,rfl,hkf,hp,hk,hf,q0,q1,n0,n1,htu,hl⟩:=hrel;obtain⟨g,rfl⟩:=qz hl;have HP:=ae hp;have HK:=ae hk;have HF:=ae hf;have Q0:=ae q0;have Q1:=ae q1;have NA:=ae n0;have NB:=ae n1;have TU:=ae htu;have hzB':w1.heap.size<wr.heap.size:=ai q1;by_cases hc:(aT su dI||aT su iJ)=true
   ·obtain⟨s2,x,htm,hl2⟩:=CD hl hc;have EA:=ae htm;have DA:=ae hl2
    have hor:aT su dI=true\/(aT su dI=false/\aT su iJ=true):=by
     cases h1:aT su dI<;>simp_all
    have hfl:=iF su.next;clear hp hk hf q0 q1 n0 n1 htu hl hc htm hl2;rcases hor with h1|⟨h1,h2⟩
    all_goals
     go_wp2_with fail;refine(aN (ab HP) (ab HK)).mono ?_;rintro e w2 ⟨rfl,O2,hp2,hf2⟩;have H2:=ae hp2;have F2:=ae hf2;have hz2:w1.heap.size<w2.heap.size:=by have:=hf2.size;omega
     clear hp2 hf2;go_wp2_with fail;refine(ab BA g (by omega) _ _ _ _ (ab H2) (ab HK).take (ab EA)).mono ?_;rintro e w3 ⟨v,O3,rfl,hp3,hf3,ht3,hk3⟩;obtain⟨xop,xtext,xn,xa,xo,xc,xl,rfl⟩:=ht3.form;have F3:=ae ((ab F2).trans hf3);have qB:=((ab F3).block w1.heap.size hzB' (ab NB)).trans (ab Q1);obtain⟨s0,s1,s2',s3,s4⟩:=cX qB;have zB:∀ ob,w3.frozen? ⟨w1.heap.size,ob,none⟩=false:=λ ob=>ak qB
     have hzB:w1.heap.size<w3.heap.size:=ai qB;have H3:=ae hp3;have CA:=ae hf3;have T3:=ae ht3;have K3:=ae hk3;have QB:=ae qB;clear hp3 hf3 ht3 hk3 qB;go_wp2_with fail;have AA:=ae (wE (op:=su.next.text) (ab HF) (ab F2) (ab CA) (ab H3) (ab Q0) (ab Q1) (ab NA) (ab NB) hlt (ab TU) (ab T3));obtain⟨W,hW⟩:∃ W,uq w3 w1.heap.size op' text' n' a' (.slice o' c' l') xop xtext xn xa (.slice xo xc xl) su.next.text=W:=⟨_,rfl⟩
     rw [hW]at AA;have HW:=ae hW;unfold uq at hW;rw [hW];clear hW s0 s1 s2' s3 s4 zB;refine((ab AA).1.is _).mono ?_;rintro e w0 ⟨rfl,rfl⟩;go_wp2_with fail;refine((ab AA).1.is _).mono ?_;rintro e w0 ⟨rfl,rfl⟩;go_wp2_with fail;go_roundg g
     case measure=>omega
     case rel =>
      obtain⟨f1,f2,f3,f4,f5,f6,f7⟩:=ab AA;exact⟨s2,.mk su.next.text ⟨#[]⟩ 0 0 [tu,x],O3,su.next.text,⟨#[]⟩,0,0,_,_,_,rfl,rfl,by omega,f1,ab K3,f2,f3,f4,f5,f6,f7,ab DA⟩
   have hn1:aT su dI=false:=by cases h1:aT su dI<;>simp_all
   have hn2:aT su iJ=false:=by cases h1:aT su iJ<;>simp_all
   obtain rfl:=CE hl hn1 hn2;obtain⟨r0,r1,r2,r3,r4⟩:=cX q0;have zr:∀ ob,wr.frozen? ⟨w.heap.size,ob,none⟩=false:=λ ob=>ak q0
   obtain⟨s0,s1,s2',s3,s4⟩:=cX q1;have HN:=NA;clear hp hk hf q0 q1 n0 n1 htu hl hc;go_wp2_with fail;refine eO (v:=bx op' text' n' a' (.slice o' c' l')) (by simp [results,results123,go_sem,r0,r1,r2,r3,r4]) rfl ⟨_,Ou,rfl,?_,?_,?_,ab HK⟩
   ·repeat with_reducible first|refine PA.other ?_ (ab HN) _ _|refine PA.alloc ?_ _|refine PA.drew ?_|refine PA.drewN ?_ _|exact ab HP
   ·repeat with_reducible first|refine Fr.setCell ?_ (inr (aD _)) _|refine Fr.setCell ?_ (inl (ab HO)) _|refine Fr.alloc ?_ _|refine Fr.drew ?_|refine Fr.drewN ?_ _|exact ab HF|exact bE _ _
   have f0:Fr (λ k=>Ou k\/k=w.heap.size) wr (λ k=>Ou k\/k=w.heap.size) wr:=(bE Ou wr).join (λ k=>k=w.heap.size);refine aP.step (O:=λ k=>Ou k\/k=w.heap.size) (O':=λ k=>Ou k\/k=w.heap.size) (w:=wr) ?_ ?_ ?_ tu _ (ab TU)
   ·repeat with_reducible first|refine Fr.setCell ?_ (inl (inr rfl)) _|exact f0
   ·intro k hk;rcases hk with h|h
    ·exact inl h
    exact inr (inl (by omega))
   intro k hk;rcases hk with h|h
   ·exact inl (inl h)
   exact inl (inr (inl (by omega)))
theorem JD(pb:Nat)(s:ByteArray)(f:Nat)(IH:uJ pb s f):GI pb s (f+1):=by
 intro w st O r h hk hr;rw [termTw]at hr;by_cases h1:fh st=true
 ·rw [aC h1]at hr;by_cases h2:aT st fu=true
  ·rw [aC h2]at hr;cases ht:sumTw s f (ax s (cx st))with
   | none=>rw [ht]at hr;cases hr
   | some p =>
    rw [ht]at hr;obtain rfl:=fZ hr;exact ou pb s f IH w st O h hk h1 h2 p.1 p.2 ht
  rw [au h2]at hr;have:=wG pb s w st O h hk st (inl ⟨h1,rfl⟩) (by simpa using h2);by_cases h3:st.next.kind=48
  ·rw [aC h3]at hr this;obtain rfl:=fZ hr;exact this
  rw [au h3]at hr this;obtain rfl:=fZ hr;exact this
 rw [au h1]at hr;have:=wG pb s w st O h hk (aY st) (inr ⟨by simpa using h1,rfl⟩) (Hw _ _);rw [failP_next,BS,lN]at this;by_cases h3:st.next.kind=48
 ·rw [aC h3]at hr this;obtain rfl:=fZ hr;exact this
 rw [au h3]at hr this;obtain rfl:=fZ hr;exact this
theorem Av(pb:Nat)(s:ByteArray)(f:Nat):(∀ g,g<=f->uJ pb s g)/\(∀ g,g<=f->GI pb s g):=by
 induction f with
 | zero =>
  refine⟨λ g hg=>?_,λ g hg=>?_⟩
  ·obtain rfl:g=0:=by omega
   intro w st O r _ _ hr;rw [sumTw]at hr;cases hr
  obtain rfl:g=0:=by omega
  intro w st O r _ _ hr;rw [termTw]at hr;cases hr
 | succ f ih =>
  refine⟨λ g hg=>?_,λ g hg=>?_⟩
  ·by_cases e:g=f+1
   ·subst e;exact Li pb s f ih.2
   exact ih.1 g (by omega)
  by_cases e:g=f+1
  ·subst e;exact JD pb s f (ih.1 f (aD _))
  exact ih.2 g (by omega)
