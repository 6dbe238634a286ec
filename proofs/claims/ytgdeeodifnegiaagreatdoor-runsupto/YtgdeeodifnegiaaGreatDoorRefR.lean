/- part -/
import Derived.Test.YtgdeeodifnegiaaGreatDoorRefO
set_option maxRecDepth 100000
set_option maxHeartbeats 12800000
namespace Go.Proofs.YtgdeeodifnegiaaGreatDoor
open Go.Proofs.Tryz
open Or
open Go.RowKit
namespace rf
theorem Bh{s:ByteArray}{k lv:Nat}{st:PS}{t:Tr}{r:PS×Tr}(h:eJ s k lv st t=some r):∃ g,k=g+1:=by
 cases k with
 | zero=>rw [eJ]at h;cases h
 | succ g=>exact⟨g,rfl⟩
theorem yR{s:ByteArray}{g lv:Nat}{st:PS}{t:Tr}{r:PS×Tr}(h1:aT st (Cb lv)=false)(h:eJ s (g+1) lv st t=some r):r=(st,t):=by
 rw [eJ,au (by simp [h1])]at h;exact(fZ h).symm
theorem yQ{s:ByteArray}{g lv:Nat}{st:PS}{t:Tr}{r:PS×Tr}(h1:aT st (Cb lv)=true)(h:eJ s (g+1) lv st t=some r) :
  ∃ st2 x,cQ s g (lv+1) (ax s st)=some (st2,x)/\eJ s g lv st2 (.mk (Cb lv) ⟨#[]⟩ 0 0 [t,x])=some r:=by
 rw [eJ,aC h1]at h;cases ht:cQ s g (lv+1) (ax s st)with
 | none=>rw [ht]at h;cases h
 | some p=>rw [ht]at h;exact⟨p.1,p.2,rfl,h⟩
theorem Dr(pb:Nat)(s:ByteArray)(f:Nat)(IH:∀ g,g<=f->qI pb s g)(w:World)(st:PS)(O:Nat->Prop)(r:PS×Tr)(h:PA w pb s st O)(hk:Ok s st)(lv:Nat)(iv:Int)(wd:ByteArray)(hlv:(lv=0/\iv=0/\wd=⟨#[111,114]⟩)\/(lv=1/\iv=1/\wd=⟨#[97,110,100]⟩))(hop:Cb lv=wd)(hr:cQ s (f+1) lv st=some r) :
  Calls prog 125 #[fX pb,.int .i64 iv] w (eP pb s w O r):=by
 rw [cQ,aC (by omega)]at hr;cases ht:cQ s f (lv+1) st with
 | none=>rw [ht]at hr;cases hr
 | some p =>
  obtain⟨st1,t⟩:=p;rw [ht]at hr;have lp:pb<w.heap.size:=h.lt h.own;have N0:=ae (show ¬O w.heap.size from λ hk=>by have:=h.lt hk;omega);have HR:=ae ((h.alloc (.cells bj 115)).alloc (.cells #[.string ⟨#[111,114]⟩,.string ⟨#[97,110,100]⟩] 9));have K:=ae hk;have HT:=ae ht;have HL:=ae (show eJ s f lv st1 t=some r from hr);have BA:=ae IH;clear h hk ht hr IH;obtain⟨LP,hLP⟩:∃ LP:Nat->PS->Tr->Prop,∀ k a b,LP k a b↔eJ s k lv a b=some r:=⟨_,λ _ _ _=>Iff.rfl⟩
  rcases hlv with⟨rfl,rfl,hw⟩|⟨rfl,rfl,hw⟩
  all_goals
   go_enter func125,ntmps125;go_wp2_with fail;refine(ab BA f (aD _) _ _ _ _ _ (by omega) (ab HR) (ab K) (ab HT)).mono ?_;rintro e w1 ⟨v,O1,rfl,hp1,hf1,ht1,hk1⟩;obtain⟨op,text,n,a,o,c,l,rfl⟩:=ht1.form;have H1:=ae (hp1.alloc (.cells (aj op text n a (.slice o c l)) 115));have N1:=ae (show ¬O1 w1.heap.size from λ hk=>by have:=hp1.lt hk;omega);have F1:=ae (((((bE O w).alloc (.cells bj 115)).alloc (.cells #[.string ⟨#[111,114]⟩,.string ⟨#[97,110,100]⟩] 9)).trans hf1).alloc (.cells (aj op text n a (.slice o c l)) 115));have hlt:w.heap.size<w1.heap.size:=by have:=hf1.size;simp at this;omega
   have Q1:=ae (show(w1.alloc (.cells (aj op text n a (.slice o c l)) 115)).heap[w.heap.size]?=some (.cells bj 115 (0,0))by rw [eW _ _ _ hlt];exact(hf1.block w.heap.size (by simp;omega) (ab N0)).trans (bM w _ _ _ _).1)
   have N2:=ae (show ¬O1 w.heap.size from λ hk=>by
    rcases hf1.own _ hk with h|h
    ·exact ab N0 h
    ·simp at h;omega)
   have T1:=ae (show aP (w1.alloc (.cells (aj op text n a (.slice o c l)) 115)) (λ k=>O1 k\/k<=w.heap.size\/k=w1.heap.size) t (bx op text n a (.slice o c l))from by
    refine aP.step ((bE O1 w1).alloc _) (λ k hk=>inl hk) (λ k hk=>?_) t _ ht1;rcases hk with h|h|h
    ·exact inl (inl h)
    ·exact inl (inr (by simp;omega))
    ·exact inr (by omega))
   have K1:=ae hk1;clear hp1 hf1 ht1 hk1 HT HR;go_wp2_with fail;refine((ab H1).is _).mono ?_;rintro e w0 ⟨rfl,rfl⟩;go_wp2_with fail;go_loopg [7] f (λ k b7 wr=>∃(st1:PS) (t:Tr) (O1:Nat->Prop) (op text:ByteArray) (n a:Int) (o:Option Addr) (c l:Nat),b7=.bool (aT st1 wd)/\k<=f/\PA wr pb s st1 O1/\Ok s st1/\Fr O w O1 wr/\wr.heap[w.heap.size]?=some (.cells bj 115 (0,0))/\wr.heap[w1.heap.size]?=some (.cells (aj op text n a (.slice o c l)) 115 (0,0))/\¬O1 w.heap.size/\¬O1 w1.heap.size/\aP wr (λ k=>O1 k\/k<=w.heap.size\/k=w1.heap.size) t (bx op text n a (.slice o c l))/\LP k st1 t)
   case atStart=>exact⟨st1,t,O1,op,text,n,a,o,c,l,by rw [hw],aD _,ab H1,ab K1,ab F1,ab Q1,cN _ _,ab N2,ab N1,ab T1,(hLP _ _ _).2 (ab HL)⟩
   case round =>
    clear H1 K1 F1 Q1 N2 N1 T1 HL;obtain⟨su,tu,Ou,op',text',n',a',o',c',l',rfl,hkf,hp,hk,hf,q0,q1,n0,n1,htu,hl⟩:=hrel;replace hl:=(hLP _ _ _).1 hl;obtain⟨g,rfl⟩:=Bh hl;have HP:=ae hp;have HK:=ae hk;have HF:=ae hf;have Q0:=ae q0;have Q1:=ae q1;have NA:=ae n0;have NB:=ae n1;have TU:=ae htu;have hzB':w1.heap.size<wr.heap.size:=ai q1;by_cases hc:aT su wd=true
    ·obtain⟨s2,x,htm,hl2⟩:=yQ (by rw [hop];exact hc) hl;rw [hop]at hl2;have EA:=ae htm;have DA:=ae hl2;clear hp hk hf q0 q1 n0 n1 htu hl htm hl2;rw [hc];go_wp2_with fail;refine(aN (ab HP) (ab HK)).mono ?_;rintro e w2 ⟨rfl,O2,hp2,hf2⟩;have H2:=ae hp2;have F2:=ae hf2;have hz2:w1.heap.size<w2.heap.size:=by have:=hf2.size;omega
     clear hp2 hf2;go_wp2_with fail;refine(ab BA g (by omega) _ _ _ _ _ (by omega) (ab H2) (ab HK).take (ab EA)).mono ?_;rintro e w3 ⟨v,O3,rfl,hp3,hf3,ht3,hk3⟩;obtain⟨xop,xtext,xn,xa,xo,xc,xl,rfl⟩:=ht3.form;have F3:=ae ((ab F2).trans hf3);have qB:=((ab F3).block w1.heap.size hzB' (ab NB)).trans (ab Q1);obtain⟨s0,s1,s2',s3,s4⟩:=cX qB;have zB:∀ ob,w3.frozen? ⟨w1.heap.size,ob,none⟩=false:=λ ob=>ak qB
     have hzB:w1.heap.size<w3.heap.size:=ai qB;have H3:=ae hp3;have CA:=ae hf3;have T3:=ae ht3;have K3:=ae hk3;have QB:=ae qB;clear hp3 hf3 ht3 hk3 qB;go_wp2_with fail;have AA:=ae (wE (op:=wd) (ab HF) (ab F2) (ab CA) (ab H3) (ab Q0) (ab Q1) (ab NA) (ab NB) hlt (ab TU) (ab T3));obtain⟨W,hW⟩:∃ W,uq w3 w1.heap.size op' text' n' a' (.slice o' c' l') xop xtext xn xa (.slice xo xc xl) wd=W:=⟨_,rfl⟩
     rw [hW]at AA;have HW:=ae hW;unfold uq at hW;rw [hw]at hW;rw [hW];clear hW s0 s1 s2' s3 s4 zB;refine((ab AA).1.is _).mono ?_;rintro e w0 ⟨rfl,rfl⟩;go_wp2_with fail;go_roundg g
     case measure=>omega
     case rel =>
      obtain⟨f1,f2,f3,f4,f5,f6,f7⟩:=ab AA;exact⟨s2,.mk wd ⟨#[]⟩ 0 0 [tu,x],O3,wd,⟨#[]⟩,0,0,_,_,_,by rw [hw],by omega,f1,ab K3,f2,f3,f4,f5,f6,f7,(hLP _ _ _).2 (ab DA)⟩
    have hn1:aT su wd=false:=by simpa using hc
    obtain rfl:=yR (by rw [hop];exact hn1) hl;obtain⟨r0,r1,r2,r3,r4⟩:=cX q0;have zr:∀ ob,wr.frozen? ⟨w.heap.size,ob,none⟩=false:=λ ob=>ak q0
    obtain⟨s0,s1,s2',s3,s4⟩:=cX q1;have HN:=NA;clear hp hk hf q0 q1 n0 n1 htu hl hc;rw [hn1];go_wp2_with fail;refine eO (v:=bx op' text' n' a' (.slice o' c' l')) (by simp [results,results125,go_sem,r0,r1,r2,r3,r4]) rfl ⟨_,Ou,rfl,?_,?_,?_,ab HK⟩
    ·repeat with_reducible first|refine PA.other ?_ (ab HN) _ _|refine PA.alloc ?_ _|refine PA.drew ?_|refine PA.drewN ?_ _|exact ab HP
    ·repeat with_reducible first|refine Fr.setCell ?_ (inr (aD _)) _|refine Fr.setCell ?_ (inl (ab HO)) _|refine Fr.alloc ?_ _|refine Fr.drew ?_|refine Fr.drewN ?_ _|exact ab HF|exact bE _ _
    have f0:Fr (λ k=>Ou k\/k=w.heap.size) wr (λ k=>Ou k\/k=w.heap.size) wr:=(bE Ou wr).join (λ k=>k=w.heap.size);refine aP.step (O:=λ k=>Ou k\/k=w.heap.size) (O':=λ k=>Ou k\/k=w.heap.size) (w:=wr) ?_ ?_ ?_ tu _ (ab TU)
    ·repeat with_reducible first|refine Fr.setCell ?_ (inl (inr rfl)) _|exact f0
    ·intro k hk;rcases hk with h|h
     ·exact inl h
     exact inr (inl (by omega))
    intro k hk;rcases hk with h|h
    ·exact inl (inl h)
    exact inl (inr (inl (by omega)))
theorem Ha(pb:Nat)(s:ByteArray)(f:Nat)(IS:uJ pb s f)(IH:∀ g,g<=f->qI pb s g):qI pb s (f+1):=by
 intro lv w st O r hlv h hk hr;rcases lv with _|_|_|lv
 ·exact Dr pb s f IH w st O r h hk 0 0 _ (inl ⟨rfl,rfl,rfl⟩) rfl hr
 ·exact Dr pb s f IH w st O r h hk 1 1 _ (inr ⟨rfl,rfl,rfl⟩) rfl hr
 ·rw [cQ,au (by omega)]at hr;by_cases h0:aT st l8=true
  ·rw [aC h0]at hr;cases ht:cQ s f 2 (ax s (cx st))with
   | none=>rw [ht]at hr;cases hr
   | some p =>
    rw [ht]at hr;obtain rfl:=fZ hr;exact Hc pb s f (IH f (aD _)) w st O h hk h0 p.1 p.2 ht
  rw [au h0]at hr;have h0:aT st l8=false:=by simpa using h0
  by_cases h1:aT st jP=true
  ·rw [aC h1]at hr;cases ht:cQ s f 0 (ax s (cx st))with
   | none=>rw [ht]at hr;cases hr
   | some p =>
    rw [ht]at hr;obtain rfl:=fZ hr;exact xh pb s f (IH f (aD _)) w st O h hk h0 h1 p.1 p.2 ht
  rw [au h1]at hr;have h1:aT st jP=false:=by simpa using h1
  by_cases h2:aT st vh=true
  ·rw [aC h2]at hr;obtain rfl:=fZ hr;exact Hb pb s w st O h hk h0 h1 h2
  rw [au h2]at hr;have h2:aT st vh=false:=by simpa using h2
  by_cases h3:aT st pJ=true
  ·rw [aC h3]at hr;obtain rfl:=fZ hr;exact Er pb s w st O h hk h0 h1 h2 h3
  rw [au h3]at hr;have h3:aT st pJ=false:=by simpa using h3
  by_cases h4:aT st eo=true
  ·rw [aC h4]at hr;obtain rfl:=fZ hr;exact yT pb s w st O h hk h0 h1 h2 h3 h4
  rw [au h4]at hr;have h4:aT st eo=false:=by simpa using h4
  by_cases h5:fh st=false
  ·rw [aC h5]at hr;obtain rfl:=fZ hr;exact Eq pb s w st O h hk h0 h1 h2 h3 h4 h5
  rw [au h5]at hr;have h5:fh st=true:=by simpa using h5
  cases ht:sumTw s f st with
  | none=>rw [ht]at hr;cases hr
  | some p =>
   rw [ht]at hr;cases he:aT p.1 ku with
   | true =>
    simp only [he,if_true]at hr;cases hu:sumTw s f (aJ s p.1 ku)with
    | none=>rw [hu]at hr;cases hr
    | some q =>
     rw [hu]at hr;obtain rfl:=fZ hr;exact yS pb s f IS w st O h hk h0 h1 h2 h3 h4 h5 p.1 p.2 ht q.1 q.2 ku (inl ⟨he,rfl⟩) hu
   | false =>
    simp only [he,Bool.false_eq_true,if_false]at hr;cases hu:sumTw s f (aJ s p.1 jo)with
    | none=>rw [hu]at hr;cases hr
    | some q =>
     rw [hu]at hr;obtain rfl:=fZ hr;exact yS pb s f IS w st O h hk h0 h1 h2 h3 h4 h5 p.1 p.2 ht q.1 q.2 jo (inr ⟨he,rfl⟩) hu
 omega
theorem MW(pb:Nat)(s:ByteArray)(f:Nat):∀ g,g<=f->qI pb s g:=by
 induction f with
 | zero =>
  intro g hg;obtain rfl:g=0:=by omega
  intro lv w st O r _ _ _ hr;rw [cQ]at hr;cases hr
 | succ f ih =>
  intro g hg;by_cases e:g=f+1
  ·subst e;exact Ha pb s f ((Av pb s f).1 f (aD _)) ih
  exact ih g (by omega)
def wK(pb:Nat)(s:ByteArray)(f:Nat):Prop:=∀(w:World) (st:PS) (O:Nat->Prop) (r:PS×Tr),PA w pb s st O->Ok s st->ef s f st=some r->Calls prog 126 #[fX pb] w (eP pb s w O r)
def Gz(pb:Nat)(s:ByteArray)(f:Nat):Prop:=∀(w:World) (st:PS) (O:Nat->Prop) (r:PS×Tr),PA w pb s st O->Ok s st->stmtTw s f st=some r->Calls prog 70 #[fX pb] w (eP pb s w O r)
theorem Ok.line{s:ByteArray}{st:PS}(h:Ok s st):Ok s (fw st):=by
 unfold fw;split
 ·exact⟨h.hs,h.hi,h.tk0,h.tk,by show(st.lines.set _ true).length=_;rw [List.length_set];exact h.ln,h.tx⟩
 exact h
theorem PA.line{w:World}{pb:Nat}{s:ByteArray}{st:PS}{O:Nat->Prop}(h:PA w pb s st O)(hk:Ok s st)(hl:st.bad<0->0<st.lines.length) :
  Calls prog 177 #[fX pb] w λ e w'=>e=.returned (.tuple #[])/\PA w' pb s (fw st) O/\Fr O w O w':=by
 obtain⟨tv,lv,hp,rfl⟩:=h;have h1:=hk.tk0;have h2:=hk.hi;have h3:=hk.hs;have h4:=hk.ln;refine(Ik hp hl (by omega)).mono ?_;rintro e w' ⟨rfl,h1,h2⟩;exact⟨rfl,⟨tv,lv,h1,rfl⟩,h2⟩
theorem tH(s:ByteArray)(st:PS)(x:ByteArray)(h:(aJ s st x).bad<0):0<(aJ s st x).lines.length:=by
 unfold aJ at h ⊢;by_cases hi:aT st x=true
 ·rw [aC hi]at h ⊢;unfold ax at h ⊢;by_cases h1:st.next.kind=33\/st.next.kind=46
  ·rw [aC h1]at h;have:=kF st;omega
  rw [au h1]at h ⊢;by_cases h2:st.bad<0
  ·rw [aC h2];show 0<(st.lines++[gd st.next]).length;simp
  rw [au h2]at h;omega
 rw [au hi]at h;have:=kF st;omega
theorem yG{s:ByteArray}{k:Nat}{st:PS}{kids:List Tr}{r:PS×Tr}(h:dO s k st kids=some r):∃ g,k=g+1:=by
 cases k with
 | zero=>rw [dO]at h;cases h
 | succ g=>exact⟨g,rfl⟩
theorem wX{s:ByteArray}{g:Nat}{st:PS}{kids:List Tr}{r:PS×Tr}(h:dO s (g+1) st kids=some r)(h1:aT st fC=false/\st.bad<0):∃ s1 x,stmtTw s g st=some (s1,x)/\dO s g s1 (kids++[x])=some r:=by
 rw [dO,aC h1]at h;cases ht:stmtTw s g st with
 | none=>rw [ht]at h;cases h
 | some p=>rw [ht]at h;exact⟨p.1,p.2,rfl,h⟩
theorem wY{s:ByteArray}{g:Nat}{st:PS}{kids:List Tr}{r:PS×Tr}(h:dO s (g+1) st kids=some r)(h1:¬(aT st fC=false/\st.bad<0)):r=(p8 (fw (aJ s st fC)),.mk bP ⟨#[]⟩ 0 0 kids):=by
 rw [dO,au h1]at h;exact(fZ h).symm
theorem Ek(pb:Nat)(s:ByteArray)(f:Nat)(hf0:f<=1000000)(IH:∀ g,g<=f->Gz pb s g):wK pb s (f+1):=by
 intro w st O r h hk hr;rw [ef]at hr;obtain⟨i0,hi0,hz0,hz1,hz2⟩:=info_parts Tryz.infoTree;have lp:pb<w.heap.size:=h.lt h.own;have N0:=ae (show ¬O w.heap.size from λ hk=>by have:=h.lt hk;omega);have N1:=ae (show ¬O (w.heap.size+1)from λ hk=>by have:=h.lt hk;omega);have AA:=ae ((h.alloc (.cells bj 115)).alloc (.cells (aj bP ⟨#[]⟩ 0 0 (.slice none 0 0)) 115));have HA:=ae (((bE O w).alloc (.cells bj 115)).alloc (.cells (aj bP ⟨#[]⟩ 0 0 (.slice none 0 0)) 115));have K:=ae hk;have HL:=ae hr;have OA:=ae IH;clear h hk hr IH;go_enter func126,ntmps126;go_wp2_with fail;refine((ab AA).is _).mono ?_;rintro e w0 ⟨rfl,rfl⟩;have ahead:∃ st0,(if aT st iw=true then cx st else st)=st0:=⟨_,rfl⟩
 obtain⟨st0,hst0⟩:=ahead;rw [hst0]at HL;have K0:=ae (show Ok s st0 from by rw [<-hst0];split;exact(ab K).opens;exact ab K);have EA:=ae hst0;clear hst0;cases hbr:aT st iw
 focus
  have HE:=ae (show st0=st from by have h:=ab EA;rw [au (by rw [hbr];simp)]at h;exact h.symm);rw [show aT st { data:=#[123] }=false from hbr];have CA:=ae (show PA _ pb s st0 O from by rw [ab HE];exact ab AA);have BA:=ae (bE O ((w.alloc (.cells bj 115)).alloc (.cells (aj bP ⟨#[]⟩ 0 0 (.slice none 0 0)) 115)))
 rotate_left
 focus
  have HE:=ae (show st0=cx st from by have h:=ab EA;rw [aC hbr]at h;exact h.symm);rw [show aT st { data:=#[123] }=true from hbr];go_wp2_with fail;refine((ab AA).opens).mono ?_;rintro e wa ⟨rfl,hpa,hfa⟩;rw [<-ab HE]at hpa;have CA:=ae hpa;have BA:=ae hfa;clear hpa hfa
 all_goals
  go_wp2_with fail;refine(dr (ab CA) (ab K0) _).mono ?_;rintro e wb ⟨rfl,Ob,hpb,hfb⟩;have LA:=ae hpb;have IA:=ae ((ab BA).trans hfb);clear hpb hfb;go_wp2_with fail;refine((ab LA).line ((ab K0).need _) (tH s st0 _)).mono ?_;rintro e wc ⟨rfl,hpc,hfc⟩;have DA:=ae hpc;have JA:=ae ((ab IA).trans hfc);clear hpc hfc;go_wp2_with fail;refine((ab DA).is _).mono ?_;rintro e w0 ⟨rfl,rfl⟩;go_wp2_with fail;go_loopg [5] f (λ k b5 wr=>∃(su:PS) (kids:List Tr) (kv:Value) (xs:List Value) (O1:Nat->Prop),kids.length+k<=f/\PA wr pb s su O1/\Ok s su/\Fr O w O1 wr/\wr.heap[w.heap.size]?=some (.cells bj 115 (0,0))/\wr.heap[w.heap.size+1]?=some (.cells (aj bP ⟨#[]⟩ 0 0 kv) 115 (0,0))/\¬O1 w.heap.size/\¬O1 (w.heap.size+1)/\cH wr (λ k=>O1 k\/k<=w.heap.size\/k=w.heap.size+1) kids kv xs/\b5=.bool (aT su fC)/\dO s k su kids=some r)
  case atStart =>
   have hfc:=ab JA;refine⟨_,[],.slice none 0 0,[],Ob,by simp,ab DA,((ab K0).need _).line,(ab HA).trans hfc,(hfc.block _ (by simp;omega) (ab N0)).trans (bM w _ _ _ _).1,(hfc.block _ (by simp) (ab N1)).trans (bM w _ _ _ _).2,λ h=>?_,λ h=>?_,cH.nil _ _,rfl,ab HL⟩
   ·rcases hfc.own _ h with h|h
    ·exact ab N0 h
    simp at h;omega
   rcases hfc.own _ h with h|h
   ·exact ab N1 h
   simp at h;omega
  case round =>
   clear AA HA K HL N0 N1 CA BA LA IA DA JA K0 EA;obtain⟨su,kids,kv,xs,O1,hkl,hp,hk,hf,q0,q1,n0,n1,htu,rfl,hl⟩:=hrel;obtain⟨g,rfl⟩:=yG hl;by_cases hc:aT su fC=false/\su.bad<0
   ·obtain⟨s1,x,hstm,hl2⟩:=wX hl hc;obtain⟨hc1,hc2⟩:=hc;have c7:=hp.cell.2.1;have HP:=ae hp;have HK:=ae hk;have HF:=ae hf;have Q0:=ae q0;have Q1:=ae q1;have NA:=ae n0;have NB:=ae n1;have TU:=ae htu;have FA:=ae hstm;have QA:=ae hl2;have hzB':w.heap.size+1<wr.heap.size:=ai q1;clear hp hk hf q0 q1 n0 n1 htu hl hstm hl2;rw [hc1];go_wp2_with fail;refine(ab OA g (by omega) _ _ _ _ (ab HP) (ab HK) (ab FA)).mono ?_;rintro e w2 ⟨v,O2,rfl,hp2,hf2,ht2,hk2⟩;obtain⟨xop,xtext,xn,xa,xo,xc,xl,rfl⟩:=ht2.form;have qB:=(hf2.block (w.heap.size+1) hzB' (ab NB)).trans (ab Q1);have s4:w2.cell? ⟨w.heap.size+1,4,none⟩=some kv:=af qB;have hzB:w.heap.size+1<w2.heap.size:=ai qB;have OW:=ae (show w2.ownsRow 0 115 5 kv kids.length xs from ap (ab TU).1 (λ k hk=>hf2.block k ((ab TU).1.lt k hk).2 (λ h=>(ab TU).2.1 k hk (inl h))));have H2:=ae hp2;have F2:=ae hf2;have T2:=ae ht2;have K2:=ae hk2;have QB:=ae qB;have RA:=ae (show some (w.heap.size+1)≠kv.ownBlock from λ e=>(ab TU).2.1 _ e.symm (inr (inr rfl)));clear hp2 hf2 ht2 hk2 qB
    go_wp2_with (at_builtin;refine wpList_append_lies _ rfl _ _ _ rfl 0 115 i0 _ 5 72 underlying113 hi0 hz0 hz1 hz2 rfl (by omega) kv kids.length xs rfl (((ab OW).alloc _).alloc _) ⟨w2.heap.size+1,0,none⟩ 1 1 [.string xop,.string xtext,.int .i64 xn,.int .i64 xa,.slice xo xc xl] rfl rfl (World.news_of_block (cs:=#[.string xop,.string xtext,.int .i64 xn,.int .i64 xa,.slice xo xc xl]) (t:=115) (fr:=(0,0)) (bM w2 _ _ _ _).2) (by simp [Value.oneCell']) (by omega) (by simp [maxLen];omega) (by omega) (by omega) (w2.heap.size+2) (by simp) ?_;intro gg cap w' hown hgrow hat hlt;have qB':w'.heap[w.heap.size+1]?=some (.cells (aj bP ⟨#[]⟩ 0 0 kv) 115 (0,0)):=((hgrow.block (w.heap.size+1) (by simp;omega) (ab RA)).trans ((eW _ _ _ (by simp;omega)).trans ((eW _ _ _ (by omega)).trans (ab QB))));have c4:w'.cell? ⟨w.heap.size+1,4,none⟩=some kv:=(af qB');have z4:w'.frozen? ⟨w.heap.size+1,4,none⟩=false:=(ak qB');clear qB')
    have GA:=ae (kG (ab HF) (ab F2) (ab H2) (ab Q0) (ab Q1) (ab NA) (ab NB) (by omega) (ab TU) (ab T2) hgrow hown hat);generalize hW:w'.setCell ⟨w.heap.size+1,4,none⟩ (.slice (some ⟨gg,0,none⟩) (kids.length+1) cap)=W at *;clear hW hown hgrow hat hlt c4 z4 s4;obtain⟨f1,f2,f3,f4,f5,f6,f7⟩:=ab GA;have G1:=ae f1;clear GA f1;have G2:=ae f2;have G3:=ae f3;have G4:=ae f4;have G5:=ae f5;have G6:=ae f6;have G7:=ae f7;clear f2 f3 f4 f5 f6 f7;refine((ab G1).is _).mono ?_;rintro e w0 ⟨rfl,rfl⟩;go_wp2_with fail;go_roundg g
    case measure=>omega
    case rel=>exact⟨s1,kids++[x],_,_,O2,by simp;omega,ab G1,ab K2,ab G2,ab G3,ab G4,ab G5,ab G6,ab G7,rfl,ab QA⟩
   obtain rfl:=wY hl hc;have c7:=hp.cell.2.1;have HP:=ae hp;have HK:=ae hk;have HF:=ae hf;have Q0:=ae q0;have Q1:=ae q1;have NA:=ae n0;have NB:=ae n1;obtain⟨oo,cc,hkv⟩:=htu.form;have TU:=ae (htu.at bP ⟨#[]⟩ 0 0);have lR:=ai q0;have lB:=ai q1;clear htu;subst hkv
   have hor:aT su fC=true\/(aT su fC=false/\¬su.bad<0):=by
    cases h1:aT su fC
    ·right;exact⟨rfl,λ h2=>hc ⟨h1,h2⟩⟩
    left;rfl
   clear hp hk hf q0 q1 n0 n1 hl hc;rcases hor with h1|⟨h1,h2⟩
   all_goals
    rw [h1];go_wp2_with fail;refine(dr (ab HP) (ab HK) _).mono ?_;rintro e wd ⟨rfl,Od,hpd,hfd⟩;have MA:=ae hpd;have KA:=ae hfd;clear hpd hfd;go_wp2_with fail;refine((ab MA).line ((ab HK).need _) (tH s su _)).mono ?_;rintro e we ⟨rfl,hpe,hfe⟩;have hfx:=(ab KA).trans hfe;have qR:=(hfx.block _ lR (ab NA)).trans (ab Q0);have qB:=(hfx.block _ lB (ab NB)).trans (ab Q1);obtain⟨r0,r1,r2,r3,r4⟩:=cX qR;have zr:∀ ob,we.frozen? ⟨w.heap.size,ob,none⟩=false:=λ ob=>ak qR
    obtain⟨s0,s1,s2,s3,s4⟩:=cX qB;obtain⟨_,_,c8,zp⟩:=hpe.cell;have HO:=ae hpe.own
    have HN:=ae (show ¬Od w.heap.size from λ h=>by
     rcases(ab KA).own _ h with h|h
     ·exact ab NA h
     ·omega)
    have HP:=ae (hpe.setOpn (wrap64 ((fw (aJ s su ⟨#[125]⟩)).opn-1)));have F5:=ae hfx;have HF:=ae ((ab HF).trans hfx);clear hpe hfe hfx qR qB MA;go_wp2_with fail;refine eO (v:=bx bP ⟨#[]⟩ 0 0 (.slice oo kids.length cc)) (by simp [results,results126,go_sem,r0,r1,r2,r3,r4]) rfl ⟨_,Od,rfl,?_,?_,?_,(((ab HK).need _).line).opn _⟩
    ·refine(show PA _ pb s { fw (aJ s su ⟨#[125]⟩)with opn:=wrap64 ((fw (aJ s su ⟨#[125]⟩)).opn-1) } Od from ?_)
     repeat with_reducible first|refine PA.other ?_ (ab HN) _ _|refine PA.alloc ?_ _|refine PA.drew ?_|refine PA.drewN ?_ _|exact ab HP
    ·repeat with_reducible first|refine Fr.setCell ?_ (inr (aD _)) _|refine Fr.setCell ?_ (inl (ab HO)) _|refine Fr.alloc ?_ _|refine Fr.drew ?_|refine Fr.drewN ?_ _|exact ab HF|exact bE _ _
    refine aP.step (O:=λ k=>O1 k\/k=w.heap.size) (O':=λ k=>Od k\/k=w.heap.size) (w:=wr) ?_ ?_ ?_ _ _ (ab TU)
    ·repeat with_reducible first|refine Fr.setCell ?_ (inl (inr rfl)) _|refine Fr.setCell ?_ (inl (inl (ab HO))) _|refine Fr.alloc ?_ _|refine Fr.drew ?_|refine Fr.drewN ?_ _|exact(ab F5).join _
    ·intro k hk;rcases hk with h|h
     ·exact inl h
     exact inr (inl (by omega))
    intro k hk;rcases hk with h|h
    ·rcases(ab F5).own k h with h1|h1
     ·exact inl (inl h1)
     exact inr h1
    exact inl (inr (inl (by omega)))
theorem BP{w wr w2 w':World}{pb B g cap:Nat}{s:ByteArray}{s2:PS}{O O1 O2:Nat->Prop}{kids:List Tr}{x y:Tr}{xs:List Value}{op text xop xtext yop ytext:ByteArray}{n a xn xa yn ya:Int}{kv xk yk:Value}{obS:Obj}
  (HF:Fr O w O1 wr) (F2:Fr O1 wr O2 w2) (H2:PA w2 pb s s2 O2) (Q0:wr.heap[w.heap.size]?=some (.cells bj 115 (0,0))) (Q1:wr.heap[B]?=some (.cells (aj op text n a kv) 115 (0,0)))
  (NA:¬O1 w.heap.size) (NB:¬O1 B) (hB:w.heap.size<B) (TU:cH wr (λ k=>O1 k\/k<=w.heap.size\/k=B) kids kv xs) (T3:aP w2 (λ k=>O2 k\/k<wr.heap.size) x (bx xop xtext xn xa xk)) (T4:aP w2 (λ k=>O2 k\/k<wr.heap.size) y (bx yop ytext yn ya yk))
  (hgrow:(w2.alloc obS).grownBy w' kv.ownBlock) (hown:w'.ownsRow 0 115 5 (.slice (some ⟨g,0,none⟩) (kids.length+2) cap) (kids.length+2) (xs++[.string xop,.string xtext,.int .i64 xn,.int .i64 xa,xk,.string yop,.string ytext,.int .i64 yn,.int .i64 ya,yk]))
  (hat:kv.ownBlock=some g\/g=w2.heap.size+1) :
  PA (w'.setCell ⟨B,4,none⟩ (.slice (some ⟨g,0,none⟩) (kids.length+2) cap)) pb s s2 O2/\Fr O w O2 (w'.setCell ⟨B,4,none⟩ (.slice (some ⟨g,0,none⟩) (kids.length+2) cap))
  /\ (w'.setCell ⟨B,4,none⟩ (.slice (some ⟨g,0,none⟩) (kids.length+2) cap)).heap[w.heap.size]?=some (.cells bj 115 (0,0))
  /\ (w'.setCell ⟨B,4,none⟩ (.slice (some ⟨g,0,none⟩) (kids.length+2) cap)).heap[B]?=some (.cells (aj op text n a (.slice (some ⟨g,0,none⟩) (kids.length+2) cap)) 115 (0,0))
  /\ ¬O2 w.heap.size/\¬O2 B
  /\ cH (w'.setCell ⟨B,4,none⟩ (.slice (some ⟨g,0,none⟩) (kids.length+2) cap)) (λ k=>O2 k\/k<=w.heap.size\/k=B) (kids++[x,y]) (.slice (some ⟨g,0,none⟩) (kids.length+2) cap) (xs++[.string xop,.string xtext,.int .i64 xn,.int .i64 xa,xk,.string yop,.string ytext,.int .i64 yn,.int .i64 ya,yk]):=by
 obtain⟨t1,t2,t3⟩:=TU;have lB:B<wr.heap.size:=ai Q1;have lR:w.heap.size<wr.heap.size:=ai Q0;have l2:wr.heap.size<=w2.heap.size:=F2.size
 have hkv:∀ k,kv.ownBlock=some k->k<wr.heap.size/\¬O1 k/\w.heap.size<k/\k≠B:=λ k hk=>by
  have h1:=(t1.lt k hk).2;have h2:=t2 k hk;exact⟨h1,λ h=>h2 (inl h),Nat.lt_of_not_le (λ h=>h2 (inr (inl h))),λ h=>h2 (inr (inr h))⟩
 have hold:∀ k,k<w2.heap.size->some k≠kv.ownBlock->w'.heap[k]?=w2.heap[k]?:=λ k hk hn=>by
  rw [hgrow.block k (by simp;omega) hn,eW _ _ _ hk]
 have na:¬O2 w.heap.size:=λ h=>by rcases F2.own _ h with h|h;exact NA h;omega
 have nb:¬O2 B:=λ h=>by rcases F2.own _ h with h|h;exact NB h;omega
 have nkv:∀ k,kv.ownBlock=some k->¬O2 k:=λ k hk h=>by
  rcases F2.own _ h with h|h
  ·exact(hkv k hk).2.1 h
  have:=(hkv k hk).1;omega
 have hgB:g≠B:=by
  rcases hat with h|h
  ·exact(hkv g h).2.2.2
  omega
 have hgR:w.heap.size<g:=by
  rcases hat with h|h
  ·exact(hkv g h).2.2.1
  omega
 have hgO:¬O2 g:=by
  rcases hat with h|h
  ·exact nkv g h
  intro h3;have:=H2.lt h3;omega
 have q0:w'.heap[w.heap.size]?=some (.cells bj 115 (0,0)):=by
  rw [hold _ (by omega) (λ e=>by have:=(hkv _ e.symm).2.2.1;omega),F2.block _ lR NA];exact Q0
 have q1:w'.heap[B]?=some (.cells (aj op text n a kv) 115 (0,0)):=by
  rw [hold _ (by omega) (λ e=>(hkv _ e.symm).2.2.2 rfl),F2.block _ lB NB];exact Q1
 have hsz:w2.heap.size+1<=w'.heap.size:=by have:=hgrow.size;simp at this;omega
 refine⟨?_,?_,?_,?_,na,nb,?_,?_,?_⟩
 ·refine PA.other (H2.frame (λ k hk=>hold k (H2.lt hk) (λ e=>nkv k e.symm hk))) nb _ _
 ·have f1:=HF.trans F2;have f2:=(f1.alloc obS).grown hgrow (λ k hk=>inr (by have:=(hkv k hk).2.2.1;omega));exact f2.setCell (inr (by show w.heap.size<=B;omega)) _
 ·rw [ah (by show w.heap.size≠B;omega)];exact q0
 ·rw [aB q1];rfl
 ·rw [List.length_append];refine ap hown (λ k hk=>ah (λ e=>hgB ?_));simp [Value.ownBlock]at hk;rw [hk];exact e
 ·intro k hk;obtain rfl:g=k:=by simpa [Value.ownBlock]using hk
  rintro(h|h|h)
  ·exact hgO h
  ·omega
  exact hgB h
 have hset:∀ k,k≠B->(w'.setCell ⟨B,4,none⟩ (.slice (some ⟨g,0,none⟩) (kids.length+2) cap)).heap[k]?=w'.heap[k]?:=λ k hk=>ah hk
 have e1:xs++[.string xop,.string xtext,.int .i64 xn,.int .i64 xa,xk,.string yop,.string ytext,.int .i64 yn,.int .i64 ya,yk]=(xs++[.string xop,.string xtext,.int .i64 xn,.int .i64 xa,xk])++[.string yop,.string ytext,.int .i64 yn,.int .i64 ya,yk]:=by simp
 have e2:kids++[x,y]=(kids++[x])++[y]:=by simp
 rw [e1,e2];refine bR.snoc _ _ y _ _ _ _ _ (bR.snoc kids xs x _ _ _ _ _ ?_ ?_) ?_
 ·refine bR.keep (w:=wr) (Q:=λ k=>(O1 k\/k<=w.heap.size\/k=B)\/kv.ownBlock=some k) (λ k hk hn=>?_) (λ k hk hq=>?_) kids xs t3
  ·rw [hset k (λ e=>hn (inl (inr (inr e)))),hold k (by omega) (λ e=>hn (inr e.symm)),F2.block k hk (λ h=>hn (inl (inl h)))]
  rcases hq with(h|h|h)|h
  ·rcases F2.own k h with h1|h1
   ·exact inl (inl h1)
   omega
  ·exact inl (inr (inl h))
  ·exact inl (inr (inr h))
  obtain rfl:g=k:=by simpa [Value.ownBlock]using h
  rcases hat with h|h
  ·exact inr h
  omega
 ·refine aP.keep (w:=w2) (Q:=λ k=>O2 k\/k<wr.heap.size) (λ k hk hn=>?_) (λ k hk hq=>?_) x _ T3
  ·have hk2:wr.heap.size<=k:=Nat.le_of_not_lt (λ h=>hn (inr h));rw [hset k (by omega),hold k hk (λ e=>by have:=(hkv _ e.symm).1;omega)]
  rcases hq with(h|h|h)|h
  ·exact inl h
  ·exact inr (by omega)
  ·exact inr (by omega)
  obtain rfl:g=k:=by simpa [Value.ownBlock]using h
  rcases hat with h|h
  ·exact inr (hkv g h).1
  omega
 refine aP.keep (w:=w2) (Q:=λ k=>O2 k\/k<wr.heap.size) (λ k hk hn=>?_) (λ k hk hq=>?_) y _ T4
 ·have hk2:wr.heap.size<=k:=Nat.le_of_not_lt (λ h=>hn (inr h));rw [hset k (by omega),hold k hk (λ e=>by have:=(hkv _ e.symm).1;omega)]
 rcases hq with(h|h|h)|h
 ·exact inl h
 ·exact inr (by omega)
 ·exact inr (by omega)
 obtain rfl:g=k:=by simpa [Value.ownBlock]using h
 rcases hat with h|h
 ·exact inr (hkv g h).1
 omega
theorem FU(pb:Nat)(s:ByteArray)(w:World)(st st0:PS)(O:Nat->Prop)(h:PA w pb s st O)(hk:Ok s st)(hst0:st0=if cZ st=true then st else aY st)(e0:(st0.next.text.toList==kI)=false)(e1:(st0.next.text.toList==tC)=false)(e2:(st0.next.text.toList==eH)=false)(e3:(st0.next.text.toList==db)=false)(e4:(st0.next.text.toList==cU)=false)(e5:(st0.next.text.toList==M4)=false) :
  Calls prog 70 #[fX pb] w (eP pb s w O (aJ s (ax s st0) fy,.mk st0.next.text ⟨#[]⟩ 0 0 [])):=by
 have hfl:=iF st0.next;have lp:pb<w.heap.size:=h.lt h.own;have N0:=ae (show ¬O w.heap.size from λ hk=>by have:=h.lt hk;omega);have CA:=ae ((h.alloc (.cells bj 115)).alloc (.cells (aO.map Value.string).toArray 9));have EA:=ae (((bE O w).alloc (.cells bj 115)).alloc (.cells (aO.map Value.string).toArray 9));have K:=ae hk;have K0:=ae (show Ok s st0 from by rw [hst0];split;exact hk;exact hk.fail);have GA:=ae hst0;clear h hk hst0;have cells:∀ i,(hi:i<aO.length)->((w.alloc (.cells bj 115)).alloc (.cells (aO.map Value.string).toArray 9)).cell? ⟨w.heap.size+1,i,none⟩=some (.string aO[i]):=λ i hi=>iE _ _ _ _ (by simp) _ hi
 have AA:=ae cells;clear cells;go_enter func70,ntmps70;go_wp2_with fail;obtain⟨W0,hW0⟩:∃ W0,(w.alloc (.cells bj 115)).alloc (.cells (aO.map Value.string).toArray 9)=W0:=⟨_,rfl⟩
 have IA:=ae (show W0.heap[w.heap.size]?=some (.cells bj 115 (0,0))from by rw [<-hW0];exact(bM w _ _ _ _).1);have hsz0:W0.heap.size=w.heap.size+2:=by rw [<-hW0];simp
 have DA:=ae hsz0;clear hsz0;rw [hW0]at CA EA AA;rw [show(w.alloc (.cells #[.string ⟨#[]⟩,.string ⟨#[]⟩,.int .i64 0,.int .i64 0,.slice none 0 0] 115)).alloc (.cells #[.string ⟨#[97,99,99,101,112,116]⟩,.string ⟨#[114,101,106,101,99,116]⟩,.string ⟨#[112,114,101,102]⟩,.string ⟨#[109,101,100]⟩,.string ⟨#[109,97,114,107]⟩,.string ⟨#[117,110,109,97,114,107]⟩,.string ⟨#[112,114,101,112,101,110,100]⟩,.string ⟨#[105,102]⟩] 9)=W0 from hW0];clear hW0;go_loopg [3,5] 8 (λ k b3 i5 wr=>∃ i:Nat,i+k=8/\i5=.int .i64 i/\b3=.bool ((aO.take i).any (λ x=>aT st x))/\wr=W0)
 case atStart=>exact⟨0,by omega,rfl,rfl,rfl⟩
 case round =>
  obtain⟨i,hik,rfl,rfl,rfl⟩:=hrel;by_cases hi8:i<8
  ·have hc:=ab AA i (by simp [aO];omega);have A1:=ae ((ab CA).is (aO[i]'(by simp [aO];omega)));have QA:=ae (show(aO.take (i+1)).any (λ x=>aT st x)=((aO.take i).any (λ x=>aT st x)||aT st (aO[i]'(by simp [aO];omega)))from by rw [List.take_succ_eq_append_getElem (by simp [aO];omega),List.any_append];simp);generalize (aO.take i).any (λ x=>aT st x)=b0 at *;generalize aT st (aO[i]'(by simp [aO];omega))=b1 at *;generalize aO[i]'(by simp [aO];omega)=wd at *;have hi9:(i:Int)<8:=by omega
   go_wp2_with fail;refine(ab A1).mono ?_;rintro e w0 ⟨rfl,rfl⟩
   cases b0 <;>
    (go_wp2_with fail;go_roundg (8-(i+1));(case measure=>omega);(case rel=>exact⟨i+1,by omega,by go_num,by rw [ab QA];simp,rfl⟩))
  obtain rfl:i=8:=by omega
  have hbe:(aO.take 8).any (λ x=>aT st x)=cZ st:=rfl;rw [hbe];clear hbe;cases hbs:cZ st
  focus
   go_wp2_with fail;refine((ab CA).fail).mono ?_;rintro e wa ⟨rfl,hpa,hfa⟩;have FA:=ae (show PA wa pb s st0 O from by rw [ab GA,au (by rw [hbs];simp)];exact hpa);have BA:=ae hfa;clear hpa hfa hbs
  rotate_left
  focus
   have FA:=ae (show PA _ pb s st0 O from by rw [ab GA,aC hbs];exact ab CA);have BA:=ae (bE O wr);clear hbs
  all_goals
   go_wp2_with fail;refine(aN (ab FA) (ab K0)).mono ?_;rintro e wt ⟨rfl,Ot,hpt,hft⟩;have hlt:w.heap.size+1<wt.heap.size:=by have h1:=hft.size;have h2:=(ab BA).size;have h3:=ab DA;omega
   have KA:=ae ((((ab EA).trans (ab BA)).trans hft).alloc (.cells (aj st0.next.text ⟨#[]⟩ 0 0 (.slice none 0 0)) 115))
   have JA:=ae (show ¬Ot w.heap.size from λ h=>by
    rcases hft.own _ h with h|h
    ·exact ab N0 h
    ·have h2:=(ab BA).size;have h3:=ab DA;omega)
   have MA:=ae (show ¬Ot wt.heap.size from λ h=>by have:=hpt.lt h;omega)
   have NA:=ae (show(wt.alloc (.cells (aj st0.next.text ⟨#[]⟩ 0 0 (.slice none 0 0)) 115)).heap[w.heap.size]?=some (.cells bj 115 (0,0))from by
    have h3:=ab DA;have h4:=(ab BA).size;rw [eW _ _ _ (by omega),hft.block _ (by omega) (ab N0),(ab BA).block _ (by omega) (ab N0)];exact ab IA)
   have OA:=ae (cN wt (.cells (aj st0.next.text ⟨#[]⟩ 0 0 (.slice none 0 0)) 115));have LA:=ae (hpt.alloc (.cells (aj st0.next.text ⟨#[]⟩ 0 0 (.slice none 0 0)) 115));have hzt:(wt.alloc (.cells (aj st0.next.text ⟨#[]⟩ 0 0 (.slice none 0 0)) 115)).heap.size=wt.heap.size+1:=by simp
   have HA:=ae hzt;clear hpt hft FA BA CA EA K GA AA DA IA hzt;go_wp2_with fail;refine(dr (ab LA) (ab K0).take _).mono ?_;rintro e w' ⟨rfl,O',hp,hf⟩;have qR:=(hf.block _ (by have:=ab HA;omega) (ab JA)).trans (ab NA);have qB:=(hf.block _ (by have:=ab HA;omega) (ab MA)).trans (ab OA);obtain⟨r0,r1,r2,r3,r4⟩:=cX qR;have zr:∀ ob,w'.frozen? ⟨w.heap.size,ob,none⟩=false:=λ ob=>ak qR
   obtain⟨s0,s1,s2,s3,s4⟩:=cX qB
   have HN:=ae (show ¬O' w.heap.size from λ h=>by
    rcases hf.own _ h with h|h
    ·exact ab JA h
    ·have:=ab HA;omega)
   have HP:=ae hp;have HF:=ae ((ab KA).trans hf);clear hp hf qR qB;go_wp2_with fail;refine eO (v:=bx st0.next.text ⟨#[]⟩ 0 0 (.slice none 0 0)) (by simp [results,results70,go_sem,r0,r1,r2,r3,r4]) rfl ⟨_,O',rfl,?_,?_,aP.leaf _ _ _ _ _ _,(ab K0).take.need _⟩
   ·refine(show PA _ pb s (aJ s (ax s st0) ⟨#[59]⟩) O' from ?_)
    repeat with_reducible first|refine PA.other ?_ (ab HN) _ _|refine PA.alloc ?_ _|refine PA.drew ?_|refine PA.drewN ?_ _|exact ab HP
   repeat with_reducible first|refine Fr.setCell ?_ (inr (aD _)) _|refine Fr.setCell ?_ (inl (ab HO)) _|refine Fr.alloc ?_ _|refine Fr.drew ?_|refine Fr.drewN ?_ _|exact ab HF|exact bE _ _
theorem Aq(pb:Nat)(s:ByteArray)(w:World)(st st0:PS)(O:Nat->Prop)(h:PA w pb s st O)(hk:Ok s st)(hst0:st0=if cZ st=true then st else aY st)(f:Nat)(IH:uJ pb s f)(st3:PS)(x:Tr)(hsum:sumTw s f (aJ s (ax s st0) ku)=some (st3,x))(hc:(st0.next.text.toList==kI)=true\/((st0.next.text.toList==kI)=false/\(st0.next.text.toList==tC)=true)) :
  Calls prog 70 #[fX pb] w (eP pb s w O (aJ s st3 fy,.mk st0.next.text ⟨#[]⟩ 0 0 [x])):=by
 have HC:=ae hc;clear hc;have hfl:=iF st0.next;obtain⟨i0,hi0,hz0,hz1,hz2⟩:=info_parts Tryz.infoTree;have NA:=ae IH;have HA:=ae hsum;clear IH hsum;have lp:pb<w.heap.size:=h.lt h.own;have N0:=ae (show ¬O w.heap.size from λ hk=>by have:=h.lt hk;omega);have CA:=ae ((h.alloc (.cells bj 115)).alloc (.cells (aO.map Value.string).toArray 9));have EA:=ae (((bE O w).alloc (.cells bj 115)).alloc (.cells (aO.map Value.string).toArray 9));have K:=ae hk;have K0:=ae (show Ok s st0 from by rw [hst0];split;exact hk;exact hk.fail);have GA:=ae hst0;clear h hk hst0;have cells:∀ i,(hi:i<aO.length)->((w.alloc (.cells bj 115)).alloc (.cells (aO.map Value.string).toArray 9)).cell? ⟨w.heap.size+1,i,none⟩=some (.string aO[i]):=λ i hi=>iE _ _ _ _ (by simp) _ hi
 have AA:=ae cells;clear cells;go_enter func70,ntmps70;go_wp2_with fail;obtain⟨W0,hW0⟩:∃ W0,(w.alloc (.cells bj 115)).alloc (.cells (aO.map Value.string).toArray 9)=W0:=⟨_,rfl⟩
 have KA:=ae (show W0.heap[w.heap.size]?=some (.cells bj 115 (0,0))from by rw [<-hW0];exact(bM w _ _ _ _).1);have hsz0:W0.heap.size=w.heap.size+2:=by rw [<-hW0];simp
 have DA:=ae hsz0;clear hsz0;rw [hW0]at CA EA AA;rw [show(w.alloc (.cells #[.string ⟨#[]⟩,.string ⟨#[]⟩,.int .i64 0,.int .i64 0,.slice none 0 0] 115)).alloc (.cells #[.string ⟨#[97,99,99,101,112,116]⟩,.string ⟨#[114,101,106,101,99,116]⟩,.string ⟨#[112,114,101,102]⟩,.string ⟨#[109,101,100]⟩,.string ⟨#[109,97,114,107]⟩,.string ⟨#[117,110,109,97,114,107]⟩,.string ⟨#[112,114,101,112,101,110,100]⟩,.string ⟨#[105,102]⟩] 9)=W0 from hW0];clear hW0;go_loopg [3,5] 8 (λ k b3 i5 wr=>∃ i:Nat,i+k=8/\i5=.int .i64 i/\b3=.bool ((aO.take i).any (λ x=>aT st x))/\wr=W0)
 case atStart=>exact⟨0,by omega,rfl,rfl,rfl⟩
 case round =>
  obtain⟨i,hik,rfl,rfl,rfl⟩:=hrel;by_cases hi8:i<8
  ·have hc:=ab AA i (by simp [aO];omega);have A1:=ae ((ab CA).is (aO[i]'(by simp [aO];omega)));have VA:=ae (show(aO.take (i+1)).any (λ x=>aT st x)=((aO.take i).any (λ x=>aT st x)||aT st (aO[i]'(by simp [aO];omega)))from by rw [List.take_succ_eq_append_getElem (by simp [aO];omega),List.any_append];simp);generalize (aO.take i).any (λ x=>aT st x)=b0 at *;generalize aT st (aO[i]'(by simp [aO];omega))=b1 at *;generalize aO[i]'(by simp [aO];omega)=wd at *;have hi9:(i:Int)<8:=by omega
   go_wp2_with fail;refine(ab A1).mono ?_;rintro e w0 ⟨rfl,rfl⟩
   cases b0 <;>
    (go_wp2_with fail;go_roundg (8-(i+1));(case measure=>omega);(case rel=>exact⟨i+1,by omega,by go_num,by rw [ab VA];simp,rfl⟩))
  obtain rfl:i=8:=by omega
  have hbe:(aO.take 8).any (λ x=>aT st x)=cZ st:=rfl;rw [hbe];clear hbe;cases hbs:cZ st
  focus
   go_wp2_with fail;refine((ab CA).fail).mono ?_;rintro e wa ⟨rfl,hpa,hfa⟩;have FA:=ae (show PA wa pb s st0 O from by rw [ab GA,au (by rw [hbs];simp)];exact hpa);have BA:=ae hfa;clear hpa hfa hbs;go_wp2_with fail
  rotate_left
  focus
   have FA:=ae (show PA _ pb s st0 O from by rw [ab GA,aC hbs];exact ab CA);have BA:=ae (bE O wr);clear hbs;go_wp2_with fail
  all_goals
   refine(aN (ab FA) (ab K0)).mono ?_;rintro e wt ⟨rfl,Ot,hpt,hft⟩;have hlt:w.heap.size+1<wt.heap.size:=by have h1:=hft.size;have h2:=(ab BA).size;have h3:=ab DA;omega
   have MA:=ae ((((ab EA).trans (ab BA)).trans hft).alloc (.cells (aj st0.next.text ⟨#[]⟩ 0 0 (.slice none 0 0)) 115))
   have RA:=ae (show ¬Ot w.heap.size from λ h=>by
    rcases hft.own _ h with h|h
    ·exact ab N0 h
    ·have h2:=(ab BA).size;have h3:=ab DA;omega)
   have LA:=ae (show ¬Ot wt.heap.size from λ h=>by have:=hpt.lt h;omega)
   have TA:=ae (show(wt.alloc (.cells (aj st0.next.text ⟨#[]⟩ 0 0 (.slice none 0 0)) 115)).heap[w.heap.size]?=some (.cells bj 115 (0,0))from by
    have h3:=ab DA;have h4:=(ab BA).size;rw [eW _ _ _ (by omega),hft.block _ (by omega) (ab N0),(ab BA).block _ (by omega) (ab N0)];exact ab KA)
   have IA:=ae (cN wt (.cells (aj st0.next.text ⟨#[]⟩ 0 0 (.slice none 0 0)) 115));have OA:=ae (hpt.alloc (.cells (aj st0.next.text ⟨#[]⟩ 0 0 (.slice none 0 0)) 115));have hzt:(wt.alloc (.cells (aj st0.next.text ⟨#[]⟩ 0 0 (.slice none 0 0)) 115)).heap.size=wt.heap.size+1:=by simp
   have QA:=ae hzt;clear hpt hft FA BA CA EA K GA AA DA KA hzt;rcases ab HC with e0|⟨e0,e1⟩
   all_goals
    go_wp2_with fail;refine(dr (ab OA) (ab K0).take _).mono ?_;rintro e w3 ⟨rfl,O3,hp3,hf3⟩;have H3:=ae hp3;have F3:=ae hf3;clear hp3 hf3;go_wp2_with fail;refine(ab NA _ _ _ _ (ab H3) ((ab K0).take.need _) (ab HA)).mono ?_;rintro e w4 ⟨v,O4,rfl,hp4,hf4,ht4,hk4⟩;obtain⟨xop,xtext,xn,xa,xo,xc,xl,rfl⟩:=ht4.form;have H4:=ae hp4;have F4:=ae ((ab F3).trans hf4);have T4:=ae (show aP w4 (λ k=>O4 k\/k<(wt.alloc (.cells (aj st0.next.text ⟨#[]⟩ 0 0 (.slice none 0 0)) 115)).heap.size) x _ from aP.keep (λ _ _ _=>rfl) (λ k _ h=>by rcases h with h|h;exact inl h;exact inr (eV h (ab F3).size)) _ _ ht4);have K4:=ae hk4;clear hp4 hf4 ht4 hk4;have WA:=ae (cH.nil (wt.alloc (.cells (aj st0.next.text ⟨#[]⟩ 0 0 (.slice none 0 0)) 115)) (λ k=>Ot k\/k<=w.heap.size\/k=wt.heap.size));have OW:=ae (jX w4 0 115 5);have SA:=ae (show some wt.heap.size≠(Value.slice none 0 0).ownBlock from λ e=>by simp [Value.ownBlock]at e);have hzB4:wt.heap.size<w4.heap.size:=by have h1:=(ab F4).size;have h2:=ab QA;omega
    have qB4:=((ab F4).block wt.heap.size (ai (ab IA)) (ab LA)).trans (ab IA);have s4:w4.cell? ⟨wt.heap.size,4,none⟩=some (.slice none 0 0):=af qB4;have UA:=ae qB4;clear qB4;go_wp2_with (at_builtin;refine wpList_append_lies _ rfl _ _ _ rfl 0 115 i0 _ 5 72 underlying113 hi0 hz0 hz1 hz2 rfl (by omega) (.slice none 0 0) 0 [] rfl (((ab OW).alloc _).alloc _) ⟨w4.heap.size+1,0,none⟩ 1 1 [.string xop,.string xtext,.int .i64 xn,.int .i64 xa,.slice xo xc xl] rfl rfl (World.news_of_block (cs:=#[.string xop,.string xtext,.int .i64 xn,.int .i64 xa,.slice xo xc xl]) (t:=115) (fr:=(0,0)) (bM w4 _ _ _ _).2) (by simp [Value.oneCell']) (by omega) (by simp [maxLen]) (by omega) (by omega) (w4.heap.size+2) (by simp) ?_;intro gg cap w' hown hgrow hat hltg;have qB':w'.heap[wt.heap.size]?=some (.cells (aj st0.next.text ⟨#[]⟩ 0 0 (.slice none 0 0)) 115 (0,0)):=((hgrow.block wt.heap.size (by simp;omega) (ab SA)).trans ((eW _ _ _ (by simp;omega)).trans ((eW _ _ _ (by omega)).trans (ab UA))));have c4:w'.cell? ⟨wt.heap.size,4,none⟩=some (.slice none 0 0):=(af qB');have z4:w'.frozen? ⟨wt.heap.size,4,none⟩=false:=(ak qB');clear qB')
    have JA:=ae (kG (kids:=[]) (ab MA) (ab F4) (ab H4) (ab TA) (ab IA) (ab RA) (ab LA) (by omega) (ab WA) (ab T4) hgrow hown hat);generalize hW:w'.setCell ⟨wt.heap.size,4,none⟩ (.slice (some ⟨gg,0,none⟩) 1 cap)=W at *;clear hW hown hgrow hat hltg c4 z4 s4;obtain⟨f1,f2,f3,f4,f5,f6,f7⟩:=ab JA;have G1:=ae f1;have G2:=ae f2;have G3:=ae f3;have G4:=ae f4;have G5:=ae f5;have G6:=ae f6;have G7:=ae f7;clear f1 f2 f3 f4 f5 f6 f7 JA;refine(dr (ab G1) (ab K4) _).mono ?_;rintro e we ⟨rfl,Oe,hpe,hfe⟩;have qR:=(hfe.block _ (ai (ab G3)) (ab G5)).trans (ab G3);have qB:=(hfe.block _ (ai (ab G4)) (ab G6)).trans (ab G4);obtain⟨r0,r1,r2,r3,r4⟩:=cX qR;have zr:∀ ob,we.frozen? ⟨w.heap.size,ob,none⟩=false:=λ ob=>ak qR
    obtain⟨s0,s1,s2,s3,s4⟩:=cX qB;have lRW:=ai (ab G3)
    have HN:=ae (show ¬Oe w.heap.size from λ h=>by
     rcases hfe.own _ h with h|h
     ·exact ab G5 h
     ·omega)
    have HP:=ae hpe;have HF:=ae ((ab G2).trans hfe);have F5:=ae hfe;have TT:=ae ((ab G7).at st0.next.text ⟨#[]⟩ 0 0);clear hpe hfe qR qB;go_wp2_with fail;refine eO (v:=bx st0.next.text ⟨#[]⟩ 0 0 (.slice (some ⟨gg,0,none⟩) 1 cap)) (by simp [results,results70,go_sem,r0,r1,r2,r3,r4]) rfl ⟨_,Oe,rfl,?_,?_,?_,(ab K4).need _⟩
    ·refine(show PA _ pb s (aJ s st3 ⟨#[59]⟩) Oe from ?_)
     repeat with_reducible first|refine PA.other ?_ (ab HN) _ _|refine PA.alloc ?_ _|refine PA.drew ?_|refine PA.drewN ?_ _|exact ab HP
    ·repeat with_reducible first|refine Fr.setCell ?_ (inr (aD _)) _|refine Fr.setCell ?_ (inl (ab HO)) _|refine Fr.alloc ?_ _|refine Fr.drew ?_|refine Fr.drewN ?_ _|exact ab HF|exact bE _ _
    refine aP.step (O:=λ k=>O4 k\/k=w.heap.size) (O':=λ k=>Oe k\/k=w.heap.size) (w:=W) ?_ ?_ ?_ _ _ (ab TT)
    ·repeat with_reducible first|refine Fr.setCell ?_ (inl (inr rfl)) _|exact(ab F5).join _
    ·intro k hk;rcases hk with h|h
     ·exact inl h
     exact inr (inl (by omega))
    intro k hk;rcases hk with h|h
    ·rcases(ab F5).own k h with h1|h1
     ·exact inl (inl h1)
     exact inr h1
    exact inl (inr (inl (by omega)))
theorem qx(pb:Nat)(s:ByteArray)(w:World)(st st0:PS)(O:Nat->Prop)(h:PA w pb s st O)(hk:Ok s st)(hst0:st0=if cZ st=true then st else aY st)(f:Nat)(IH:uJ pb s f)(st3:PS)(x:Tr)(hsum:sumTw s f (aJ s (ax s st0) ku)=some (st3,x))(e0:(st0.next.text.toList==kI)=true) :
  Calls prog 70 #[fX pb] w (eP pb s w O (aJ s st3 fy,.mk st0.next.text ⟨#[]⟩ 0 0 [x])) :=
 Aq pb s w st st0 O h hk hst0 f IH st3 x hsum (inl e0)
theorem uk(pb:Nat)(s:ByteArray)(w:World)(st st0:PS)(O:Nat->Prop)(h:PA w pb s st O)(hk:Ok s st)(hst0:st0=if cZ st=true then st else aY st)(f:Nat)(IH:uJ pb s f)(st3:PS)(x:Tr)(hsum:sumTw s f (aJ s (ax s st0) ku)=some (st3,x))(e0:(st0.next.text.toList==kI)=false)(e1:(st0.next.text.toList==tC)=true) :
  Calls prog 70 #[fX pb] w (eP pb s w O (aJ s st3 fy,.mk st0.next.text ⟨#[]⟩ 0 0 [x])) :=
 Aq pb s w st st0 O h hk hst0 f IH st3 x hsum (inr ⟨e0,e1⟩)
theorem ul(pb:Nat)(s:ByteArray)(w:World)(st st0:PS)(O:Nat->Prop)(h:PA w pb s st O)(hk:Ok s st)(hst0:st0=if cZ st=true then st else aY st)(e0:(st0.next.text.toList==kI)=false)(e1:(st0.next.text.toList==tC)=false)(hc:(st0.next.text.toList==eH)=true\/((st0.next.text.toList==eH)=false/\(st0.next.text.toList==db)=true)\/((st0.next.text.toList==eH)=false/\(st0.next.text.toList==db)=false/\(st0.next.text.toList==cU)=true)) :
  Calls prog 70 #[fX pb] w (eP pb s w O (aJ s (aA s (ax s st0) 48) fy,.mk st0.next.text ⟨#[]⟩ 0 0 [.mk cy ⟨#[]⟩ (bf (ax s st0).next.text 4294967295) (ax s st0).next.at_ []])):=by
 have HC:=ae hc;clear hc;have hfl:=iF st0.next;obtain⟨i0,hi0,hz0,hz1,hz2⟩:=info_parts Tryz.infoTree;have lp:pb<w.heap.size:=h.lt h.own;have N0:=ae (show ¬O w.heap.size from λ hk=>by have:=h.lt hk;omega);have CA:=ae ((h.alloc (.cells bj 115)).alloc (.cells (aO.map Value.string).toArray 9));have EA:=ae (((bE O w).alloc (.cells bj 115)).alloc (.cells (aO.map Value.string).toArray 9));have K:=ae hk;have K0:=ae (show Ok s st0 from by rw [hst0];split;exact hk;exact hk.fail);have GA:=ae hst0;clear h hk hst0;have cells:∀ i,(hi:i<aO.length)->((w.alloc (.cells bj 115)).alloc (.cells (aO.map Value.string).toArray 9)).cell? ⟨w.heap.size+1,i,none⟩=some (.string aO[i]):=λ i hi=>iE _ _ _ _ (by simp) _ hi
 have AA:=ae cells;clear cells;go_enter func70,ntmps70;go_wp2_with fail;obtain⟨W0,hW0⟩:∃ W0,(w.alloc (.cells bj 115)).alloc (.cells (aO.map Value.string).toArray 9)=W0:=⟨_,rfl⟩
 have JA:=ae (show W0.heap[w.heap.size]?=some (.cells bj 115 (0,0))from by rw [<-hW0];exact(bM w _ _ _ _).1);have hsz0:W0.heap.size=w.heap.size+2:=by rw [<-hW0];simp
 have DA:=ae hsz0;clear hsz0;rw [hW0]at CA EA AA;rw [show(w.alloc (.cells #[.string ⟨#[]⟩,.string ⟨#[]⟩,.int .i64 0,.int .i64 0,.slice none 0 0] 115)).alloc (.cells #[.string ⟨#[97,99,99,101,112,116]⟩,.string ⟨#[114,101,106,101,99,116]⟩,.string ⟨#[112,114,101,102]⟩,.string ⟨#[109,101,100]⟩,.string ⟨#[109,97,114,107]⟩,.string ⟨#[117,110,109,97,114,107]⟩,.string ⟨#[112,114,101,112,101,110,100]⟩,.string ⟨#[105,102]⟩] 9)=W0 from hW0];clear hW0;go_loopg [3,5] 8 (λ k b3 i5 wr=>∃ i:Nat,i+k=8/\i5=.int .i64 i/\b3=.bool ((aO.take i).any (λ x=>aT st x))/\wr=W0)
 case atStart=>exact⟨0,by omega,rfl,rfl,rfl⟩
 case round =>
  obtain⟨i,hik,rfl,rfl,rfl⟩:=hrel;by_cases hi8:i<8
  ·have hc:=ab AA i (by simp [aO];omega);have A1:=ae ((ab CA).is (aO[i]'(by simp [aO];omega)));have TA:=ae (show(aO.take (i+1)).any (λ x=>aT st x)=((aO.take i).any (λ x=>aT st x)||aT st (aO[i]'(by simp [aO];omega)))from by rw [List.take_succ_eq_append_getElem (by simp [aO];omega),List.any_append];simp);generalize (aO.take i).any (λ x=>aT st x)=b0 at *;generalize aT st (aO[i]'(by simp [aO];omega))=b1 at *;generalize aO[i]'(by simp [aO];omega)=wd at *;have hi9:(i:Int)<8:=by omega
   go_wp2_with fail;refine(ab A1).mono ?_;rintro e w0 ⟨rfl,rfl⟩
   cases b0 <;>
    (go_wp2_with fail;go_roundg (8-(i+1));(case measure=>omega);(case rel=>exact⟨i+1,by omega,by go_num,by rw [ab TA];simp,rfl⟩))
  obtain rfl:i=8:=by omega
  have hbe:(aO.take 8).any (λ x=>aT st x)=cZ st:=rfl;rw [hbe];clear hbe;cases hbs:cZ st
  focus
   go_wp2_with fail;refine((ab CA).fail).mono ?_;rintro e wa ⟨rfl,hpa,hfa⟩;have FA:=ae (show PA wa pb s st0 O from by rw [ab GA,au (by rw [hbs];simp)];exact hpa);have BA:=ae hfa;clear hpa hfa hbs;go_wp2_with fail
  rotate_left
  focus
   have FA:=ae (show PA _ pb s st0 O from by rw [ab GA,aC hbs];exact ab CA);have BA:=ae (bE O wr);clear hbs;go_wp2_with fail
  all_goals
   refine(aN (ab FA) (ab K0)).mono ?_;rintro e wt ⟨rfl,Ot,hpt,hft⟩;have hlt:w.heap.size+1<wt.heap.size:=by have h1:=hft.size;have h2:=(ab BA).size;have h3:=ab DA;omega
   have LA:=ae ((((ab EA).trans (ab BA)).trans hft).alloc (.cells (aj st0.next.text ⟨#[]⟩ 0 0 (.slice none 0 0)) 115))
   have OA:=ae (show ¬Ot w.heap.size from λ h=>by
    rcases hft.own _ h with h|h
    ·exact ab N0 h
    ·have h2:=(ab BA).size;have h3:=ab DA;omega)
   have KA:=ae (show ¬Ot wt.heap.size from λ h=>by have:=hpt.lt h;omega)
   have RA:=ae (show(wt.alloc (.cells (aj st0.next.text ⟨#[]⟩ 0 0 (.slice none 0 0)) 115)).heap[w.heap.size]?=some (.cells bj 115 (0,0))from by
    have h3:=ab DA;have h4:=(ab BA).size;rw [eW _ _ _ (by omega),hft.block _ (by omega) (ab N0),(ab BA).block _ (by omega) (ab N0)];exact ab JA)
   have HA:=ae (cN wt (.cells (aj st0.next.text ⟨#[]⟩ 0 0 (.slice none 0 0)) 115));have MA:=ae (hpt.alloc (.cells (aj st0.next.text ⟨#[]⟩ 0 0 (.slice none 0 0)) 115));have hzt:(wt.alloc (.cells (aj st0.next.text ⟨#[]⟩ 0 0 (.slice none 0 0)) 115)).heap.size=wt.heap.size+1:=by simp
   have NA:=ae hzt;clear hpt hft FA BA CA EA K GA AA DA JA hzt;rcases ab HC with e2|⟨e2,e3⟩|⟨e2,e3,e4⟩
   all_goals
    go_wp2_with fail;refine(lu (ab MA) (ab K0).take _).mono ?_;rintro e w4 ⟨rfl,O4,hp4,hf4⟩;obtain⟨xop,xtext,xn,xa,xo,xc,xl,hv⟩:∃ xop xtext xn xa xo xc xl,bx cy ⟨#[]⟩ (bf (ax s st0).next.text 4294967295) (ax s st0).next.at_ (.slice none 0 0)=bx xop xtext xn xa (.slice xo xc xl):=⟨_,_,_,_,_,_,_,rfl⟩
    have H4:=ae hp4;have F4:=ae hf4;have T4:=ae (show aP w4 (λ k=>O4 k\/k<(wt.alloc (.cells (aj st0.next.text ⟨#[]⟩ 0 0 (.slice none 0 0)) 115)).heap.size) (.mk cy ⟨#[]⟩ (bf (ax s st0).next.text 4294967295) (ax s st0).next.at_ []) (bx xop xtext xn xa (.slice xo xc xl))from by rw [<-hv];exact aP.leaf _ _ _ _ _ _);rw [show bx { data:=#[110,117,109,98,101,114] } ⟨#[]⟩ (bf (ax s st0).next.text 4294967295) (ax s st0).next.at_ (.slice none 0 0)=bx xop xtext xn xa (.slice xo xc xl)from hv];clear hp4 hf4 hv;have K4:=ae ((ab K0).take.kind 48);have UA:=ae (cH.nil (wt.alloc (.cells (aj st0.next.text ⟨#[]⟩ 0 0 (.slice none 0 0)) 115)) (λ k=>Ot k\/k<=w.heap.size\/k=wt.heap.size));have OW:=ae (jX w4 0 115 5);have QA:=ae (show some wt.heap.size≠(Value.slice none 0 0).ownBlock from λ e=>by simp [Value.ownBlock]at e);have hzB4:wt.heap.size<w4.heap.size:=by have h1:=(ab F4).size;have h2:=ab NA;omega
    have qB4:=((ab F4).block wt.heap.size (ai (ab HA)) (ab KA)).trans (ab HA);have s4:w4.cell? ⟨wt.heap.size,4,none⟩=some (.slice none 0 0):=af qB4;have SA:=ae qB4;clear qB4;go_wp2_with (at_builtin;refine wpList_append_lies _ rfl _ _ _ rfl 0 115 i0 _ 5 72 underlying113 hi0 hz0 hz1 hz2 rfl (by omega) (.slice none 0 0) 0 [] rfl (((ab OW).alloc _).alloc _) ⟨w4.heap.size+1,0,none⟩ 1 1 [.string xop,.string xtext,.int .i64 xn,.int .i64 xa,.slice xo xc xl] rfl rfl (World.news_of_block (cs:=#[.string xop,.string xtext,.int .i64 xn,.int .i64 xa,.slice xo xc xl]) (t:=115) (fr:=(0,0)) (bM w4 _ _ _ _).2) (by simp [Value.oneCell']) (by omega) (by simp [maxLen]) (by omega) (by omega) (w4.heap.size+2) (by simp) ?_;intro gg cap w' hown hgrow hat hltg;have qB':w'.heap[wt.heap.size]?=some (.cells (aj st0.next.text ⟨#[]⟩ 0 0 (.slice none 0 0)) 115 (0,0)):=((hgrow.block wt.heap.size (by simp;omega) (ab QA)).trans ((eW _ _ _ (by simp;omega)).trans ((eW _ _ _ (by omega)).trans (ab SA))));have c4:w'.cell? ⟨wt.heap.size,4,none⟩=some (.slice none 0 0):=(af qB');have z4:w'.frozen? ⟨wt.heap.size,4,none⟩=false:=(ak qB');clear qB')
    have IA:=ae (kG (kids:=[]) (ab LA) (ab F4) (ab H4) (ab RA) (ab HA) (ab OA) (ab KA) (by omega) (ab UA) (ab T4) hgrow hown hat);generalize hW:w'.setCell ⟨wt.heap.size,4,none⟩ (.slice (some ⟨gg,0,none⟩) 1 cap)=W at *;clear hW hown hgrow hat hltg c4 z4 s4;obtain⟨f1,f2,f3,f4,f5,f6,f7⟩:=ab IA;have G1:=ae f1;have G2:=ae f2;have G3:=ae f3;have G4:=ae f4;have G5:=ae f5;have G6:=ae f6;have G7:=ae f7;clear f1 f2 f3 f4 f5 f6 f7 IA;refine(dr (ab G1) (ab K4) _).mono ?_;rintro e we ⟨rfl,Oe,hpe,hfe⟩;have qR:=(hfe.block _ (ai (ab G3)) (ab G5)).trans (ab G3);have qB:=(hfe.block _ (ai (ab G4)) (ab G6)).trans (ab G4);obtain⟨r0,r1,r2,r3,r4⟩:=cX qR;have zr:∀ ob,we.frozen? ⟨w.heap.size,ob,none⟩=false:=λ ob=>ak qR
    obtain⟨s0,s1,s2,s3,s4⟩:=cX qB;have lRW:=ai (ab G3)
    have HN:=ae (show ¬Oe w.heap.size from λ h=>by
     rcases hfe.own _ h with h|h
     ·exact ab G5 h
     ·omega)
    have HP:=ae hpe;have HF:=ae ((ab G2).trans hfe);have F5:=ae hfe;have TT:=ae ((ab G7).at st0.next.text ⟨#[]⟩ 0 0);clear hpe hfe qR qB;go_wp2_with fail;refine eO (v:=bx st0.next.text ⟨#[]⟩ 0 0 (.slice (some ⟨gg,0,none⟩) 1 cap)) (by simp [results,results70,go_sem,r0,r1,r2,r3,r4]) rfl ⟨_,Oe,rfl,?_,?_,?_,(ab K4).need _⟩
    ·refine(show PA _ pb s (aJ s (aA s (ax s st0) 48) ⟨#[59]⟩) Oe from ?_)
     repeat with_reducible first|refine PA.other ?_ (ab HN) _ _|refine PA.alloc ?_ _|refine PA.drew ?_|refine PA.drewN ?_ _|exact ab HP
    ·repeat with_reducible first|refine Fr.setCell ?_ (inr (aD _)) _|refine Fr.setCell ?_ (inl (ab HO)) _|refine Fr.alloc ?_ _|refine Fr.drew ?_|refine Fr.drewN ?_ _|exact ab HF|exact bE _ _
    refine aP.step (O:=λ k=>O4 k\/k=w.heap.size) (O':=λ k=>Oe k\/k=w.heap.size) (w:=W) ?_ ?_ ?_ _ _ (ab TT)
    ·repeat with_reducible first|refine Fr.setCell ?_ (inl (inr rfl)) _|exact(ab F5).join _
    ·intro k hk;rcases hk with h|h
     ·exact inl h
     exact inr (inl (by omega))
    intro k hk;rcases hk with h|h
    ·rcases(ab F5).own k h with h1|h1
     ·exact inl (inl h1)
     exact inr h1
    exact inl (inr (inl (by omega)))
theorem qw(pb:Nat)(s:ByteArray)(w:World)(st st0:PS)(O:Nat->Prop)(h:PA w pb s st O)(hk:Ok s st)(hst0:st0=if cZ st=true then st else aY st)(e0:(st0.next.text.toList==kI)=false)(e1:(st0.next.text.toList==tC)=false)(e2:(st0.next.text.toList==eH)=true) :
  Calls prog 70 #[fX pb] w (eP pb s w O (aJ s (aA s (ax s st0) 48) fy,.mk st0.next.text ⟨#[]⟩ 0 0 [.mk cy ⟨#[]⟩ (bf (ax s st0).next.text 4294967295) (ax s st0).next.at_ []])) :=
 ul pb s w st st0 O h hk hst0 e0 e1 (inl e2)
theorem mJ(pb:Nat)(s:ByteArray)(w:World)(st st0:PS)(O:Nat->Prop)(h:PA w pb s st O)(hk:Ok s st)(hst0:st0=if cZ st=true then st else aY st)(e0:(st0.next.text.toList==kI)=false)(e1:(st0.next.text.toList==tC)=false)(e2:(st0.next.text.toList==eH)=false)(e3:(st0.next.text.toList==db)=true) :
  Calls prog 70 #[fX pb] w (eP pb s w O (aJ s (aA s (ax s st0) 48) fy,.mk st0.next.text ⟨#[]⟩ 0 0 [.mk cy ⟨#[]⟩ (bf (ax s st0).next.text 4294967295) (ax s st0).next.at_ []])) :=
 ul pb s w st st0 O h hk hst0 e0 e1 (inr (inl ⟨e2,e3⟩))
theorem lL(pb:Nat)(s:ByteArray)(w:World)(st st0:PS)(O:Nat->Prop)(h:PA w pb s st O)(hk:Ok s st)(hst0:st0=if cZ st=true then st else aY st)(e0:(st0.next.text.toList==kI)=false)(e1:(st0.next.text.toList==tC)=false)(e2:(st0.next.text.toList==eH)=false)(e3:(st0.next.text.toList==db)=false)(e4:(st0.next.text.toList==cU)=true) :
  Calls prog 70 #[fX pb] w (eP pb s w O (aJ s (aA s (ax s st0) 48) fy,.mk st0.next.text ⟨#[]⟩ 0 0 [.mk cy ⟨#[]⟩ (bf (ax s st0).next.text 4294967295) (ax s st0).next.at_ []])) :=
 ul pb s w st st0 O h hk hst0 e0 e1 (inr (inr ⟨e2,e3,e4⟩))
