/- part -/
import Derived.Test.YtgdeeodifnegiaaGreatDoorEqA
namespace Go.Proofs.YtgdeeodifnegiaaGreatDoor
open Go.Proofs.Tryz
open Or
open Go.RowKit
section
variable {s:ByteArray} {ts:List aw}
theorem Al.same{p:rf.PS}{r r':RS}(h:Al s ts p r)(h1:r'.syn=r.syn)(h2:r'.next=r.next)(h3:r'.depth=r.depth)(h4:r'.page=r.page)(h5:r'.gap=r.gap):Al s ts p r' :=
 ⟨h.bad,h1.trans h.syn,by rw [h2];exact h.lt,by rw [h2];exact h.next,by rw [h2];exact h.i,by rw [h3];exact h.opn,⟨by rw [h4,h5];exact h.pg.ex⟩⟩
theorem Al.useSet(L:Lx s ts){p:rf.PS}{r:RS}(h:Al s ts p r){ds:List rf.Df}(hd:wM ds r.defs) :
  De (rf.aA s p 110) (de ts r).1\/(Al s ts (rf.aA s p 110) (de ts r).1/\(de ts r).1.gap=fH/\(de ts r).1.defs=r.defs/\(de ts r).1.num=r.num /\
   (de ts r).1.nam=iA r.nam (if rf.dJ p.next.text false ds 0<0 then(p.next.at_:Int)else -1)/\(∀ S,(de ts r).2=some S->dP r.defs p.next.text=some S)):=by
 rcases h.kind L (q:=110) (k:=4) (by simp)with⟨k1,k2,k3⟩|hde
 ·right;have tx:=h.text L (by omega);have hat:=h.at_ L;have hg:(bg ts r).gap=fH:=fm (by omega) h;have hdf:(bg ts r).defs=r.defs:=rfl;unfold de
  (try dsimp only)
  rw [k3]
  (try dsimp only)
  rw [hdf,tx];cases hf:dP r.defs p.next.text with
  | none =>
   (try dsimp only)
   rw [aC ((hd p.next.text).1.2 hf)];refine⟨k2.same rfl rfl rfl rfl rfl,hg,hdf,rfl,?_,λ S e=>by cases e⟩;show iC r.nam _=_;rw [hat,pH _ (Int.natCast_nonneg _)]
  | some S =>
   (try dsimp only)
   rw [au (λ e=>by rw [(hd p.next.text).1.1 e]at hf;cases hf),bq (by decide)];exact⟨k2,hg,hdf,rfl,rfl,λ S' e=>by cases e;rfl⟩
 left;obtain⟨a,a0,a1,a2⟩:=hde;refine⟨a,a0,a1,?_⟩;unfold de
 (try dsimp only)
 split
 ·exact a2
 exact a2
theorem Al.useWay(L:Lx s ts){p:rf.PS}{r:RS}(h:Al s ts p r){ds:List rf.Df}(hd:wM ds r.defs) :
  De (rf.aA s p 110) (dg ts r).1\/(Al s ts (rf.aA s p 110) (dg ts r).1/\(dg ts r).1.gap=fH/\(dg ts r).1.defs=r.defs/\(dg ts r).1.num=r.num /\
   (dg ts r).1.nam=iA r.nam (if rf.dJ p.next.text true ds 0<0 then(p.next.at_:Int)else -1)/\(∀ S,(dg ts r).2=some S->dQ r.defs p.next.text=some S)):=by
 rcases h.kind L (q:=110) (k:=4) (by simp)with⟨k1,k2,k3⟩|hde
 ·right;have tx:=h.text L (by omega);have hat:=h.at_ L;have hg:(bg ts r).gap=fH:=fm (by omega) h;have hdf:(bg ts r).defs=r.defs:=rfl;unfold dg
  (try dsimp only)
  rw [k3]
  (try dsimp only)
  rw [hdf,tx];cases hf:dQ r.defs p.next.text with
  | none =>
   (try dsimp only)
   rw [aC ((hd p.next.text).2.2 hf)];refine⟨k2.same rfl rfl rfl rfl rfl,hg,hdf,rfl,?_,λ S e=>by cases e⟩;show iC r.nam _=_;rw [hat,pH _ (Int.natCast_nonneg _)]
  | some S =>
   (try dsimp only)
   rw [au (λ e=>by rw [(hd p.next.text).2.1 e]at hf;cases hf),bq (by decide)];exact⟨k2,hg,hdf,rfl,rfl,λ S' e=>by cases e;rfl⟩
 left;obtain⟨a,a0,a1,a2⟩:=hde;refine⟨a,a0,a1,?_⟩;unfold dg
 (try dsimp only)
 split
 ·exact a2
 exact a2
theorem Al.within(L:Lx s ts){p:rf.PS}{r:RS}(h:Al s ts p r)(lo hi:Int) :
  De (rf.aA s p 48) (aE ts lo hi r).1\/(Al s ts (rf.aA s p 48) (aE ts lo hi r).1/\(aE ts lo hi r).1.gap=fH/\(aE ts lo hi r).1.defs=r.defs/\(aE ts lo hi r).1.nam=r.nam /\
   (aE ts lo hi r).1.num=iA r.num (if bf p.next.text 4294967295<lo\/hi<bf p.next.text 4294967295 then(p.next.at_:Int)else -1)/\(aE ts lo hi r).2=bf p.next.text 4294967295/\0<=bf p.next.text 4294967295):=by
 rcases h.kind L (q:=48) (k:=2) (by simp)with⟨k1,k2,k3⟩|hde
 ·right;obtain⟨nx,n0⟩:=h.number L k1;have hat:=h.at_ L;have hg:(bg ts r).gap=fH:=fm (by omega) h;unfold aE
  (try dsimp only)
  rw [k3]
  (try dsimp only)
  rw [nx];by_cases hb:bf p.next.text 4294967295<lo\/hi<bf p.next.text 4294967295
  ·rw [aC hb,aC hb];refine⟨k2.same rfl rfl rfl rfl rfl,hg,rfl,rfl,?_,rfl,n0⟩;show iC r.num _=_;rw [hat,pH _ (Int.natCast_nonneg _)]
  rw [au hb,au hb,bq (by decide)];exact⟨k2,hg,rfl,rfl,rfl,rfl,n0⟩
 left;obtain⟨a,a0,a1,a2⟩:=hde;refine⟨a,a0,a1,?_⟩;unfold aE
 (try dsimp only)
 split
 ·exact a2
 exact a2
structure Ls(s:ByteArray)(ts:List aw)(ds:List rf.Df)(r:RS)(q:rf.PS×rf.Tr)(z:RS×Option aQ):Prop where
 al:Al s ts q.1 z.1
 gap:z.1.gap=fH
 defs:z.1.defs=r.defs
 nam:z.1.nam=iA r.nam (rf.br ds q.2)
 num:z.1.num=iA r.num (rf.bH q.2)
 cnd:∀ c,z.2=some c->lY r.defs q.2 c
 wf:rf.k8 q.2
def LU(s:ByteArray)(ts:List aw)(ds:List rf.Df)(r:RS)(q:rf.PS×rf.Tr)(z:RS×Option aQ):Prop:=De q.1 z.1\/Ls s ts ds r q z
theorem gS(s:ByteArray):∀ f,(∀ lv,fP (rf.cQ s f lv))/\(∀ lv t,fP (λ p=>rf.eJ s f lv p t))
 | 0=>⟨λ _ _ _ _ h=>by simp [rf.cQ]at h,λ _ _ _ _ _ h=>by simp [rf.eJ]at h⟩
 | f+1=>by
  obtain⟨h1,h2⟩:=gS s f;obtain⟨k1,_,_⟩:=fl s f;refine⟨λ lv p q hb h=>?_,λ lv t p q hb h=>?_⟩
  ·rw [rf.cQ]at h;split at h
   ·split at h
    ·cases h
    rename_i st1 t hx;have e1:=h1 _ _ _ hb hx;exact(h2 lv t _ _ (by rw [e1];exact hb) h).trans e1
   rw [bC hb,bC hb,bC hb,bC hb,bC hb,k9 hb,au (by decide),au (by decide),au (by decide),au (by decide),au (by decide),aC rfl]at h;cases h
   rw [iU hb]
  dsimp only at h;rw [rf.eJ,bC hb,au (by decide)]at h;cases h;rfl
noncomputable def Mk(lv:Nat):Int:=if lv=0 then 18 else 19
noncomputable def No(lv:Nat):aQ->aQ->aQ:=if lv=0 then Fh else pZ
noncomputable def Ku(ts:List aw)(n:Nat)(nt:RS->Option (RS×Option aQ))(lv:Nat):RS->Option (RS×Option aQ):=if lv=0 then ig ts nt n else if lv=1 then Lw ts nt n else nt
theorem Ml{n lv:Nat}{nt:RS->Option (RS×Option aQ)}(h:lv<2)(st:RS):Ku ts n nt lv st=match Ku ts n nt (lv+1) st with|none=>none|some (st1,a)=>binLp ts (Mk lv) (No lv) (Ku ts n nt (lv+1)) n st1 a:=by
 rcases(show lv=0\/lv=1 by omega)with rfl|rfl
 ·rfl
 rfl
theorem Ia{I:RS->Prop}(C:Cl ts I){nt:RS->Option (RS×Option aQ)}(h0:bS I nt)(n lv:Nat):bS I (Ku ts n nt lv):=by
 unfold Ku;split
 ·exact C.cond h0 n
 split
 ·exact C.binBy (by decide) h0 n
 exact h0
theorem mW(ds:List rf.Df)(op:ByteArray)(h:B8 op=true)(x y:rf.Tr):rf.br ds (.mk op nB 0 0 [x,y])=if 0<=rf.br ds x then rf.br ds x else if 0<=rf.br ds y then rf.br ds y else -1:=by
 rw [bu ds h,bG,bG,bk]
theorem fB(o:Option Int)(x:Int):iA o (if 0<=x then x else -1)=iA o x:=by
 by_cases h:0<=x
 ·rw [aC h]
 rw [au h,bq (by decide),bq (by omega)]
theorem ed(o:Option Int)(x y:Int):iA o (if 0<=x then x else if 0<=y then y else -1)=iA (iA o x) y:=by
 rw [<-io,fB]
theorem rM(op:ByteArray)(h:Iu op=true)(x y:rf.Tr):rf.bH (.mk op nB 0 0 [x,y])=if 0<=rf.bH x then rf.bH x else if 0<=rf.bH y then rf.bH y else -1:=by
 rw [cJ h,cK,cK,bU]
theorem Ej{m:aQ->aQ->aQ}{a b:Option aQ}{c:aQ}(h:wW m a b=some c):∃ x y,a=some x/\b=some y/\c=m x y:=by
 cases a with
 | none=>cases h
 | some x=>cases b with
  | none=>cases h
  | some y=>exact⟨x,y,rfl,rfl,(fZ h).symm⟩
theorem vH{m:bh->bh->aQ}{a b:bh}{c:aQ}(h:Eo m (some a) (some b)=some c):c=m a b:=(fZ h).symm
theorem Af(L:Lx s ts)(n g0 f:Nat)(ds:List rf.Df){p:rf.PS}{r:RS}{q:rf.PS×rf.Tr}{z:RS×Option aQ}(h:Al s ts p r)
  (h1:(match rf.sumTw s f p with|none=>none|some (st1,a)=>match rf.sumTw s f (rf.aJ s st1 (if rf.aT st1 rf.ku=true then rf.ku else rf.jo))with|none=>none|some (st2,b)=>some (st2,rf.Tr.mk (if rf.aT st1 rf.ku=true then rf.ku else rf.jo) ⟨#[]⟩ 0 0 [a,b]))=some q)
  (h2:eN ts (sumTw ts n g0) r=some z):LU s ts ds r q z:=by
 obtain⟨_,_,_,_,_,_,_,_,_,_,_,_,_,_,_,w16,w17,_⟩:=fO;obtain⟨j1,_,_⟩:=pF L n f;unfold eN at h2;split at h1
 ·cases h1
 rename_i p1 a e1;split at h2
 ·cases h2
 rename_i r1 m e2;split at h1
 ·cases h1
 rename_i p2 b e3;cases h1
 rcases j1 _ _ g0 _ _ h e1 e2 with hde|hs
 ·left;obtain⟨x,x0,x1,x2⟩:=hde;dsimp only at x1 x2;refine⟨x,x0,?_,?_⟩
  ·rw [dm (by omega)]at e3;exact((fl s f).1 _ _ (by omega) e3).trans x1
  have C:=bp ts x;split at h2
  ·rename_i e40;rw [show am ts r1=0 from De.kd (p:=p1) ⟨x,x0,x1,x2⟩]at e40;exact absurd e40 (by decide)
  split at h2
  ·cases h2
  rename_i r2 b2 e4;cases h2
  exact C.sumTw n g0 _ _ (C.take x2 (by decide)) e4
 obtain⟨a1,hm,ha⟩:=hs.amt;dsimp only at hm ha;subst hm;have hal:=hs.al;dsimp only at hal;have hq:=(ha.quiet ds)
 have heq:=hal.isS L rf.ku 0 26 (by decide) w16 rfl;have hlt:=hal.isS L rf.jo 14 40 (by decide) w17 rfl;by_cases e26:am ts r1=26
 ·rw [heq,jj e26,aC rfl]at e3
  (try dsimp only)
  rw [heq,jj e26,aC rfl];rw [au (by omega)]at h2;split at h2
  ·cases h2
  rename_i r2 b2 e4;cases h2
  rw [w16]at e3;rcases hal.needS L (j:=0) (by decide) (by omega)with⟨k1,k2,k3⟩|hde
  ·rw [show ar ts 26 r1=(bg ts r1,bL ts r1)from k3]at e4;rcases j1 _ _ g0 _ _ k2 e3 e4 with hde|ht
   ·exact inl hde
   right;obtain⟨b1,hm2,hb⟩:=ht.amt;dsimp only at hm2 hb;subst hm2;have hq2:=hb.quiet ds;refine⟨ht.al,ht.gap,ht.defs.trans hs.defs,?_,?_,λ c hc=>?_,fL (by decide +kernel) _ _ _ (C9 ha.wf hb.wf)⟩
   ·dsimp only;rw [mW ds rf.ku (by decide +kernel),ed,hq.1,hq2.1,bq (by decide),bq (by decide)];exact ht.nam.trans hs.nam
   ·dsimp only;rw [rM rf.ku (by decide +kernel),ed,hq.2,hq2.2,bq (by decide),bq (by decide)];exact ht.num.trans hs.num
   rw [vH hc];exact .eq ha hb
  left;obtain⟨x,x0,x1,x2⟩:=hde;exact⟨x,x0,((fl s f).1 _ _ (by omega) e3).trans x1,(bp ts x).sumTw n g0 _ _ x2 e4⟩
 rw [heq,gn e26,au (by decide)]at e3
 (try dsimp only)
 rw [heq,gn e26,au (by decide)];by_cases e40:am ts r1=40
 ·rw [aC e40]at h2;split at h2
  ·cases h2
  rename_i r2 b2 e4;cases h2
  rw [w17]at e3;rcases hal.needS L (j:=14) (by decide) (by omega)with⟨k1,k2,k3⟩|hde
  ·rcases j1 _ _ g0 _ _ k2 e3 e4 with hde|ht
   ·exact inl hde
   right;obtain⟨b1,hm2,hb⟩:=ht.amt;dsimp only at hm2 hb;subst hm2;have hq2:=hb.quiet ds;refine⟨ht.al,ht.gap,ht.defs.trans hs.defs,?_,?_,λ c hc=>?_,fL (by decide +kernel) _ _ _ (C9 ha.wf hb.wf)⟩
   ·dsimp only;rw [mW ds rf.jo (by decide +kernel),ed,hq.1,hq2.1,bq (by decide),bq (by decide)];exact ht.nam.trans hs.nam
   ·dsimp only;rw [rM rf.jo (by decide +kernel),ed,hq.2,hq2.2,bq (by decide),bq (by decide)];exact ht.num.trans hs.num
   rw [vH hc];exact .lt ha hb
  exfalso;obtain⟨x,x0,x1,x2⟩:=hde;rw [show ar ts (26+((14:Nat):Int)) r1=(bg ts r1,bL ts r1)by unfold ar;rw [aC (by rw [e40];rfl)]]at x2;rw [show(bg ts r1).syn=r1.syn from rfl,hal.syn]at x2;cases x2
 rw [au e40]at h2;left;split at h2
 ·cases h2
 rename_i r2 b2 e4;cases h2
 have hf:=hal.fail L;obtain⟨x,x0,x1,x2⟩:=hf;have en:rf.aJ s p1 rf.jo=rf.aY p1:=by unfold rf.aJ;rw [hlt,gn e40,au (by decide)]
 have et:(ar ts 26 r1).1=cC ts r1:=by unfold ar;rw [au e26]
 rw [en]at e3;rw [et]at e4;exact⟨x,x0,((fl s f).1 _ _ (by omega) e3).trans x1,(bp ts x).sumTw n g0 _ _ x2 e4⟩
theorem ww(L:Lx s ts)(n g0:Nat)(ds:List rf.Df):∀ f,
  (∀ lv p r g q z,lv<=2->wM ds r.defs->Al s ts p r->rf.cQ s f lv p=some q->Ku ts n (notTw ts n (sumTw ts n g0) g) lv r=some z->LU s ts ds r q z) /\
  (∀ lv p r r0 g k t a q z,lv<2->wM ds r.defs->Ls s ts ds r0 (p,t) (r,a)->rf.eJ s f lv p t=some q->binLp ts (Mk lv) (No lv) (Ku ts n (notTw ts n (sumTw ts n g0) g) (lv+1)) k r a=some z->LU s ts ds r0 q z)
 | 0=>⟨λ _ _ _ _ _ _ _ _ _ h=>by simp [rf.cQ]at h,λ _ _ _ _ _ _ _ _ _ _ _ _ _ h=>by simp [rf.eJ]at h⟩
 | f+1=>by
  obtain⟨i1,i2⟩:=ww L n g0 ds f;obtain⟨_,_,_,_,_,_,_,w8,w9,w10,w11,w12,w13,w14,w15,w16,w17,w18,w19⟩:=fO;have KN:∀ x g,bS (λ st:RS=>st.syn=some x) (notTw ts n (sumTw ts n g0) g):=λ x g=>(bp ts x).notTw ((bp ts x).sumTw n g0) n g
  have hlp:∀{lv:Nat} {p:rf.PS} {r:RS} {g k t a q z},lv<2->De p r->rf.eJ s f lv p t=some q->binLp ts (Mk lv) (No lv) (Ku ts n (notTw ts n (sumTw ts n g0) g) (lv+1)) k r a=some z->De q.1 z.1:=by
   intro lv p r g k t a q z hlv h h1 h2;obtain⟨x,x0,x1,x2⟩:=h;refine⟨x,x0,((gS s f).2 lv t p q (by omega) h1).trans x1,?_⟩;exact(bp ts x).binLp (by unfold Mk;split<;>decide) (Ia (bp ts x) (KN x g) n (lv+1)) k r a z x2 h2
  refine⟨λ lv p r g q z hlv hds h h1 h2=>?_,λ lv p r r0 g k t a q z hlv hds h h1 h2=>?_⟩
  ·by_cases hl:lv<2
   ·rw [rf.cQ,aC hl]at h1;rw [Ml hl]at h2;split at h1
    ·cases h1
    rename_i p1 t1 e1;split at h2
    ·cases h2
    rename_i r1 a1 e2;rcases i1 (lv+1) p r g _ _ (by omega) hds h e1 e2 with hde|hs
    ·exact inl (hlp hl hde h1 h2)
    exact i2 lv p1 r1 r g n t1 a1 q z hl (by rw [hs.defs];exact hds) hs h1 h2
   obtain rfl:lv=2:=by omega
   have e2:Ku ts n (notTw ts n (sumTw ts n g0) g) 2=notTw ts n (sumTw ts n g0) g:=rfl;rw [e2]at h2;cases g with
   | zero=>cases h2
   | succ g =>
   rw [notTw]at h2;rw [rf.cQ,au (by decide),h.isW L rf.l8 15 20 (by decide) w8 rfl,h.isS L rf.jP 5 31 (by decide) w9 rfl,h.isW L rf.vh 16 21 (by decide) w11 rfl,h.isW L rf.pJ 18 23 (by decide) w12 rfl,h.isW L rf.eo 20 25 (by decide) w13 rfl,h.starts L]at h1;by_cases e20:am ts r=20
   ·rw [jj e20,aC rfl]at h1;rw [aC e20]at h2;split at h1
    ·cases h1
    rename_i p1 t1 e1;split at h2
    ·cases h2
    rename_i r1 a1 e3;cases h1;cases h2
    rcases h.open_ L e20 (by decide) (by decide) (by decide)with⟨ho,o1,o2,o3,o4⟩|hde
    ·rcases i1 2 _ _ g _ _ (aD _) (by rw [o2];exact hds) ho e1 e3 with hde|hs
     ·exact inl hde.dec
     right;refine⟨hs.al.dec,hs.gap,hs.defs.trans o2,?_,?_,λ c hc=>?_,fL (by decide +kernel) _ _ _ (AQ hs.wf)⟩
     ·show r1.nam=_;rw [bu ds (by decide +kernel),bG,bk,fB,<-o3];exact hs.nam
     ·show r1.num=_;rw [cJ (by decide +kernel),cK,bU,fB,<-o4];exact hs.num
     obtain⟨c1,hc1,rfl⟩:=Option.map_eq_some_iff.1 hc;have:=hs.cnd c1 hc1;rw [o2]at this;exact .not this
    left;obtain⟨x,x0,x1,x2⟩:=hde;exact⟨x,x0,((gS s f).1 2 _ _ (by omega) e1).trans x1,KN x g _ (r1,a1) x2 e3⟩
   rw [gn e20,au (by decide)]at h1;rw [au e20]at h2;by_cases e31:am ts r=31
   ·rw [jj e31,aC rfl]at h1;rw [au (by omega),au (by omega),au (by omega),aC e31]at h2;split at h1
    ·cases h1
    rename_i p1 t1 e1;split at h2
    ·cases h2
    rename_i r1 a1 e3;cases h1;cases h2
    rcases h.open_ L e31 (by decide) (by decide) (by decide)with⟨ho,o1,o2,o3,o4⟩|hde
    ·rcases i1 0 _ _ g _ _ (by decide) (by rw [o2];exact hds) ho e1 e3 with hde|hs
     ·exact inl ((hde.need (s:=s) (ts:=ts) rf.m7 (k:=32) (by decide)).dec)
     rw [w10];rcases hs.al.needS L (j:=6) (by decide) (by omega)with⟨k1,k2,k3⟩|hde
     ·right
      have e32:gx ts 32 r1=nT (bg ts r1):=by
       unfold gx;exact pP (λ x=>nT x.1) k3
      refine⟨?_,?_,?_,?_,?_,?_,hs.wf⟩
      ·dsimp only;rw [e32];exact k2.dec
      ·dsimp only;rw [e32];exact fm (by rw [k1];decide) hs.al
      ·dsimp only;rw [e32];exact hs.defs.trans o2
      ·dsimp only;rw [e32,<-o3];exact hs.nam
      ·dsimp only;rw [e32,<-o4];exact hs.num
      intro c hc;have:=hs.cnd c hc;rw [o2]at this;exact this
     exact inl hde.dec
    left;obtain⟨x,x0,x1,x2⟩:=hde;refine De.dec (De.need ⟨x,x0,((gS s f).1 0 _ _ (by omega) e1).trans x1,?_⟩ rf.m7 (k:=32) (by decide));exact(bp ts x).cond (KN x g) n _ _ x2 e3
   rw [gn e31,au (by decide)]at h1;by_cases e21:am ts r=21
   ·rw [jj e21,aC rfl]at h1;rw [aC e21]at h2;cases h1;cases h2
    have hg:=h.go L (by omega) (by omega);rw [w14];rcases hg.needW L (j:=17) (by decide)with⟨k1,k2,k3⟩|hde
    ·have k3':ar ts 22 (bg ts r)=(bg ts (bg ts r),bL ts (bg ts r)):=k3
     (try dsimp only)
     rw [k3'];rcases k2.useSet L (ds:=ds) hds with hde|⟨u1,u2,u3,u4,u5,u6⟩
     ·exact inl hde
     right;refine⟨u1,u2,u3,?_,?_,λ c hc=>?_,fL (by decide +kernel) _ _ _ ox⟩
     ·show(de ts (bg ts (bg ts r))).1.nam=_;rw [rf.br];simp only [bk,show((wd 17).toList==rf.JP)=true by decide +kernel,show((wd 17).toList==rf.iX)=false by decide +kernel,true_or,true_and];exact u5
     ·show(de ts (bg ts (bg ts r))).1.num=_;rw [cJ (by decide +kernel),bU,bq (by decide)];exact u4
     obtain⟨S,hS,rfl⟩:=Option.map_eq_some_iff.1 hc;have:=u6 S hS;rw [<-w14];exact .net _ _ this
    left;obtain⟨x,x0,x1,x2⟩:=hde;exact⟨x,x0,by dsimp only;rw [ie (by omega)];exact x1,(bp ts x).useSet x2⟩
   rw [gn e21,au (by decide)]at h1;rw [au e21]at h2;by_cases e23:am ts r=23
   ·rw [jj e23,aC rfl]at h1;rw [aC e23]at h2;cases h1;cases h2
    have hg:=h.go L (by omega) (by omega);rw [w15];rcases hg.needW L (j:=19) (by decide)with⟨k1,k2,k3⟩|hde
    ·have k3':ar ts 24 (bg ts r)=(bg ts (bg ts r),bL ts (bg ts r)):=k3
     (try dsimp only)
     rw [k3'];rcases k2.useWay L (ds:=ds) hds with hde|⟨u1,u2,u3,u4,u5,u6⟩
     ·exact inl hde
     right;refine⟨u1,u2,u3,?_,?_,λ c hc=>?_,fL (by decide +kernel) _ _ _ ox⟩
     ·show(dg ts (bg ts (bg ts r))).1.nam=_;rw [rf.br];simp only [bk,show((wd 19).toList==rf.JP)=false by decide +kernel,show((wd 19).toList==rf.iX)=true by decide +kernel,or_true,true_and];exact u5
     ·show(dg ts (bg ts (bg ts r))).1.num=_;rw [cJ (by decide +kernel),bU,bq (by decide)];exact u4
     obtain⟨S,hS,rfl⟩:=Option.map_eq_some_iff.1 hc;have:=u6 S hS;rw [<-w15];exact .like _ _ this
    left;obtain⟨x,x0,x1,x2⟩:=hde;exact⟨x,x0,by dsimp only;rw [ie (by omega)];exact x1,(bp ts x).useWay x2⟩
   rw [gn e23,au (by decide)]at h1;rw [au e23]at h2;by_cases e25:am ts r=25
   ·rw [jj e25,aC rfl]at h1;rw [aC e25]at h2;cases h1;cases h2
    have hg:=h.go L (by omega) (by omega);rcases hg.within L 0 65535 with hde|⟨u1,u2,u3,u4,u5,u6,u7⟩
    ·exact inl hde
    right;refine⟨u1,u2,u3,?_,?_,λ c hc=>?_,fL (by decide +kernel) _ _ _ ox⟩
    ·rw [bu ds (by decide +kernel),bk,bq (by decide)];exact u4
    ·rw [rf.bH]
     (try dsimp only)
     rw [u5];simp only [show(rf.eo.toList==rf.il)=true by decide +kernel,show(rf.eo.toList==rf.eH)=false by decide +kernel,show(rf.eo.toList==rf.db)=false by decide +kernel,show(rf.eo.toList==rf.cU)=false by decide +kernel,true_and,bU];by_cases hb:65535<bf (rf.ax s p).next.text 4294967295
     ·rw [aC (inr hb),aC hb];rfl
     rw [au (by omega),au hb];simp;rfl
    cases hc
    rw [u6];exact .marked _ _
   rw [gn e25,au (by decide)]at h1;rw [au e25,au e31]at h2;by_cases hst:am ts r=2\/am ts r=9\/am ts r=10\/am ts r=17\/am ts r=33
   ·rw [jj hst,au (by decide)]at h1;exact Af L n g0 f ds h h1 h2
   rw [gn hst,aC rfl]at h1;cases h1
   left;obtain⟨x,x0,x1,x2⟩:=h.fail L;refine⟨x,x0,x1,?_⟩;unfold eN at h2;split at h2
   ·cases h2
   rename_i r1 m e3
   have hr1:r1.syn=some x:=by
    unfold sumTw sumBy at e3;split at e3
    ·cases e3
    rename_i r2 a2 e4
    have hr2:r2.syn=some x:=by
     cases g0 with
     | zero=>cases e4
     | succ g0 =>
      rw [termTw,au (by omega),au (by omega),au (by omega),au (by omega),au (by omega)]at e4;cases e4;exact x2
    exact(bp ts x).sumLp ((bp ts x).termTw n g0) n _ _ _ hr2 e3
   have C:=bp ts x;split at h2
   ·rename_i e40;rw [show am ts r1=0 by unfold am;rw [hr1];rfl]at e40;exact absurd e40 (by decide)
   split at h2
   ·cases h2
   rename_i r3 b3 e5;cases h2
   exact C.sumTw n g0 _ _ (C.take hr1 (by decide)) e5
  have hal:=h.al;dsimp only at hal
  have hop:rf.aT p (rf.Cb lv)=decide (am ts r=Mk lv):=by
   rcases(show lv=0\/lv=1 by omega)with rfl|rfl
   ·exact hal.isW L rf.Lo 13 18 (by decide) w18 rfl
   exact hal.isW L rf.ye 14 19 (by decide) w19 rfl
  rw [rf.eJ,hop]at h1;cases k with
  | zero=>cases h2
  | succ k =>
  rw [binLp]at h2;by_cases ek:am ts r=Mk lv
  ·rw [jj ek,aC rfl]at h1;rw [aC ek]at h2
   have hk2:2<=am ts r/\am ts r≠27/\am ts r≠28:=by
    rw [ek];unfold Mk;split<;>decide
   split at h1
   ·cases h1
   rename_i p2 x e1;split at h2
   ·cases h2
   rename_i r2 b e2;rcases i1 (lv+1) _ (bg ts r) g _ _ (by omega) hds (hal.go L hk2.1 (by omega)) e1 e2 with hde|hs
   ·exact inl (hlp hlv hde h1 h2)
   have hd:=h.defs;dsimp only at hd;have hdd:r2.defs=r0.defs:=(hs.defs.trans rfl).trans hd;refine i2 lv p2 r2 r0 g k (.mk (rf.Cb lv) nB 0 0 [t,x]) (wW (No lv) a b) q z hlv (by rw [hdd,<-hd];exact hds) ⟨hs.al,hs.gap,hdd,?_,?_,λ c hc=>?_,fL (by unfold rf.Cb;split<;>decide +kernel) _ _ _ (C9 h.wf hs.wf)⟩ h1 h2
   ·have e3:=hs.nam;dsimp only at e3 ⊢;rw [e3];rw [show(bg ts r).nam=r.nam from rfl,h.nam];rcases(show lv=0\/lv=1 by omega)with rfl|rfl
    ·exact(by rw [show rf.Cb 0=rf.Lo from rfl,mW ds rf.Lo (by decide +kernel),ed])
    exact(by rw [show rf.Cb 1=rf.ye from rfl,mW ds rf.ye (by decide +kernel),ed])
   ·have e3:=hs.num;dsimp only at e3 ⊢;rw [e3];rw [show(bg ts r).num=r.num from rfl,h.num];rcases(show lv=0\/lv=1 by omega)with rfl|rfl
    ·exact(by rw [show rf.Cb 0=rf.Lo from rfl,rM rf.Lo (by decide +kernel),ed])
    exact(by rw [show rf.Cb 1=rf.ye from rfl,rM rf.ye (by decide +kernel),ed])
   obtain⟨c1,c2,ha,hb,rfl⟩:=Ej hc;have t1:=h.cnd c1 ha;have t2:=hs.cnd c2 hb;rw [show(bg ts r).defs=r.defs from rfl,hd]at t2;dsimp only at t1 t2 ⊢;rcases(show lv=0\/lv=1 by omega)with rfl|rfl
   ·exact .or t1 t2
   exact .and t1 t2
  rw [gn ek,au (by decide)]at h1;rw [au ek]at h2;cases h1;cases h2
  exact inr h
end
mutual
inductive nP(Ds:List fe):rf.Tr->aM->Prop
 | accept:nP Ds (.mk rf.mZ nB 0 0 []) (gq 1)
 | reject:nP Ds (.mk rf.m8 nB 0 0 []) (gq 2)
 | pref {x:rf.Tr} {a:bh}:jC x a->nP Ds (.mk rf.kh nB 0 0 [x]) (fJ a)
 | med {x:rf.Tr} {a:bh}:jC x a->nP Ds (.mk rf.pI nB 0 0 [x]) (gE a)
 | mark (n a:Int):nP Ds (.mk rf.wJ nB 0 0 [.mk rf.cy nB n a []]) (fV n)
 | unmark (n a:Int):nP Ds (.mk rf.m9 nB 0 0 [.mk rf.cy nB n a []]) (el n)
 | prepend (n a:Int):nP Ds (.mk rf.kT nB 0 0 [.mk rf.cy nB n a []]) (dw n)
 | if1 {c:rf.Tr} {m:aQ} {ks:List rf.Tr} {yes:List aM}:lY Ds c m->f8 Ds ks yes->nP Ds (.mk rf.MF nB 0 0 [c,.mk rf.bP nB 0 0 ks]) (eR m yes [])
 | if2 {c:rf.Tr} {m:aQ} {ks js:List rf.Tr} {yes no:List aM}:lY Ds c m->f8 Ds ks yes->f8 Ds js no->nP Ds (.mk rf.MF nB 0 0 [c,.mk rf.bP nB 0 0 ks,.mk rf.bP nB 0 0 js]) (eR m yes no)
inductive f8(Ds:List fe):List rf.Tr->List aM->Prop
 | nil:f8 Ds [] []
 | cons {t:rf.Tr} {m:aM} {ts:List rf.Tr} {ms:List aM}:nP Ds t m->f8 Ds ts ms->f8 Ds (t::ts) (m::ms)
end
theorem f8.snoc{Ds:List fe}:∀{ks:List rf.Tr} {ms:List aM} {t:rf.Tr} {m:aM},f8 Ds ks ms->nP Ds t m->f8 Ds (ks++[t]) (ms++[m])
 | [],[],_,_,_,h=>.cons h .nil
 | _::_,_::_,_,_,.cons a b,h=>.cons a (b.snoc h)
theorem pX:∀{l:List (Option aM)} {o:Option aM} {ms:List aM},iz (l++[o])=some ms->∃ ms0 m,iz l=some ms0/\o=some m/\ms=ms0++[m]
 | [],o,ms,h=>by
  cases o with
  | none=>cases h
  | some m=>exact⟨[],m,rfl,rfl,(fZ h).symm⟩
 | none::l,o,ms,h=>by cases h
 | some x::l,o,ms,h=>by
  have h':(iz (l++[o])).map (λ t=>x::t)=some ms:=h;obtain⟨ms1,h1,rfl⟩:=Option.map_eq_some_iff.1 h';obtain⟨ms0,m,e1,e2,rfl⟩:=pX h1;exact⟨x::ms0,m,by show(iz l).map _=_;rw [e1];rfl,e2,rfl⟩
theorem oJ{c:Option aQ}{yes no:List (Option aM)}{m:aM}(h:iO c yes no=some m):∃ x y z,c=some x/\iz yes=some y/\iz no=some z/\m=eR x y z:=by
 unfold iO at h;split at h
 ·cases h
 rename_i x;split at h
 ·cases h
 rename_i y e1;split at h
 ·cases h
 rename_i z e2;exact⟨x,y,z,rfl,e1,e2,(fZ h).symm⟩
theorem mM(ds:List rf.Df):∀(l:List rf.Tr) (x:rf.Tr),rf.cS ds (l++[x])=if 0<=rf.cS ds l then rf.cS ds l else if 0<=rf.br ds x then rf.br ds x else -1
 | [],x=>by rw [bk,au (by decide),List.nil_append,bG,bk]
 | t::l,x=>by
  rw [List.cons_append,bG,bG];by_cases h:0<=rf.br ds t
  ·simp only [aC h]
  simp only [au h];exact mM ds l x
theorem p7:∀(l:List rf.Tr) (x:rf.Tr),rf.cq (l++[x])=if 0<=rf.cq l then rf.cq l else if 0<=rf.bH x then rf.bH x else -1
 | [],x=>by rw [bU,au (by decide),List.nil_append,cK,bU]
 | t::l,x=>by
  rw [List.cons_append,cK,cK];by_cases h:0<=rf.bH t
  ·simp only [aC h]
  simp only [au h];exact p7 l x
section
variable {s:ByteArray} {ts:List aw}
structure MT(s:ByteArray)(ts:List aw)(ds:List rf.Df)(r:RS)(q:rf.PS×rf.Tr)(z:RS×Option (Option aM)):Prop where
 al:Al s ts q.1 z.1
 defs:z.1.defs=r.defs
 nam:z.1.nam=iA r.nam (rf.br ds q.2)
 num:z.1.num=iA r.num (rf.bH q.2)
 stp:∀ m,z.2=some (some m)->nP r.defs q.2 m
 wf:rf.k8 q.2
def MS(s:ByteArray)(ts:List aw)(ds:List rf.Df)(r:RS)(q:rf.PS×rf.Tr)(z:RS×Option (Option aM)):Prop:=(∃ o,z.2=some o)/\(De q.1 z.1\/MT s ts ds r q z)
structure yp(s:ByteArray)(ts:List aw)(ds:List rf.Df)(r0:RS)(p:rf.PS)(ks:List rf.Tr)(r:RS)(l:List (Option aM)):Prop where
 al:Al s ts p r
 defs:r.defs=r0.defs
 nam:r.nam=iA r0.nam (rf.cS ds ks)
 num:r.num=iA r0.num (rf.cq ks)
 stp:∀ ms,iz l=some ms->f8 r0.defs ks ms
 wf:rf.f9 ks
def MJ(s:ByteArray)(ts:List aw)(ds:List rf.Df)(r:RS)(q:rf.PS×rf.Tr)(z:RS×List (Option aM)):Prop:=De q.1 z.1\/∃ ks,q.2=.mk rf.bP nB 0 0 ks/\yp s ts ds r q.1 ks z.1 z.2
theorem Al.semi(L:Lx s ts){p:rf.PS}{r:RS}(h:Al s ts p r)(hg:r.gap=fH):De (rf.aJ s p rf.fy) (g9 ts r)\/(Al s ts (rf.aJ s p rf.fy) (g9 ts r)/\(g9 ts r).defs=r.defs/\(g9 ts r).nam=r.nam/\(g9 ts r).num=r.num):=by
 rw [fD.2.2.1];rcases h.needS L (j:=1) (by decide) (λ _=>hg)with⟨k1,k2,k3⟩|hde
 ·right;have e:g9 ts r=bg ts r:=by unfold g9;exact pP Prod.fst k3
  rw [e];exact⟨k2,rfl,rfl,rfl⟩
 exact inl hde
theorem De.semi{p:rf.PS}{r:RS}(h:De p r):De (rf.aJ s p rf.fy) (g9 ts r):=h.need (s:=s) (ts:=ts) rf.fy (k:=27) (by decide)
theorem Mc:∀ j,j<10->(rf.Ey (wd j) rf.kI=decide (j=4))/\(rf.Ey (wd j) rf.tC=decide (j=5))/\(rf.Ey (wd j) rf.eH=decide (j=6))/\(rf.Ey (wd j) rf.db=decide (j=7))/\(rf.Ey (wd j) rf.cU=decide (j=8))/\(rf.Ey (wd j) rf.M4=decide (j=9)):=by decide +kernel
theorem eM(s:ByteArray):∀ f,fP (rf.ef s f)/\(∀ ks,fP (λ p=>rf.dO s f p ks))/\fP (rf.stmtTw s f)/\fP (rf.ft s f)
 | 0=>⟨λ _ _ _ h=>by simp [rf.ef]at h,λ _ _ _ _ h=>by simp [rf.dO]at h,λ _ _ _ h=>by simp [rf.stmtTw]at h,λ _ _ _ h=>by simp [rf.ft]at h⟩
 | f+1=>by
  obtain⟨h1,h2,h3,h4⟩:=eM s f;obtain⟨k1,_,_⟩:=fl s f;obtain⟨c1,_⟩:=gS s f;refine⟨λ p q hb h=>?_,λ ks p q hb h=>?_,λ p q hb h=>?_,λ p q hb h=>?_⟩
  ·rw [rf.ef,bC hb,au (by decide),dm hb,mh hb]at h;exact h2 _ _ _ hb h
  ·dsimp only at h;rw [rf.dO,au (by omega)]at h;cases h
   show(rf.fw (rf.aJ s p rf.fC)).bad=_;rw [dm hb,mh hb]
  ·rw [rf.stmtTw]at h;have:(if rf.cZ p=true then p else rf.aY p)=p:=by split;rfl;exact iU hb
   rw [this]at h;exact h4 _ _ hb h
  rw [rf.ft,jG hb,dm hb,dm hb,ie hb,dm hb]at h;split at h
  ·split at h
   ·cases h
   rename_i st3 x e;cases h
   have e1:=k1 _ _ hb e;dsimp only at e1 ⊢;rw [dm (by omega)];exact e1
  split at h
  ·cases h;rfl
  split at h
  ·split at h
   ·cases h
   rename_i st2 c e;have e1:=c1 _ _ _ hb e;dsimp only at e1;rw [dm (by omega)]at h;split at h
   ·cases h
   rename_i st3 b e2;have e3:=h1 _ _ (by omega) e2;dsimp only at e3;rw [bC (by omega),au (by decide)]at h;cases h
   exact e3.trans e1
  cases h;rfl
theorem kR(L:Lx s ts)(n g0 g1:Nat)(ds:List rf.Df){stm:Nat->RS->Option (RS×Option (Option aM))}(hstm:stm=stmtTw ts n DI (sumTw ts n g0) (ig ts (notTw ts n (sumTw ts n g0) g1) n)):∀ f,
  (∀ p r g q z,wM ds r.defs->Al s ts p r->rf.ef s f p=some q->fU ts (stm g) n r=some z->MJ s ts ds r q z) /\
  (∀ p r r0 g k ks l q z,wM ds r0.defs->yp s ts ds r0 p ks r l->rf.dO s f p ks=some q->bO (stm g) k r l=some z->MJ s ts ds r0 q (eA (gx ts 30 z.1),z.2)) /\
  (∀ p r g q z,wM ds r.defs->Al s ts p r->7<=am ts r/\am ts r<=14->rf.ft s f p=some q->stm g r=some z->MS s ts ds r q z)
 | 0=>⟨λ _ _ _ _ _ _ _ h=>by simp [rf.ef]at h,λ _ _ _ _ _ _ _ _ _ _ _ h=>by simp [rf.dO]at h,λ _ _ _ _ _ _ _ _ h=>by simp [rf.ft]at h⟩
 | f+1=>by
  obtain⟨i1,i2,i3⟩:=kR L n g0 g1 ds hstm f;obtain⟨v1,v2,v3,v4,v5,v6,v7,v8,v9,v10,v11,_⟩:=fD;obtain⟨w1,w2,_,_,_,_,_,_,_,_,_,_,_,_,_,w16,_⟩:=fO
  have KS:∀ x g,bS (λ st:RS=>st.syn=some x) (stm g):=λ x g=>by
   rw [hstm];exact(bp ts x).stmtTw n DI ((bp ts x).sumTw n g0) ((bp ts x).cond ((bp ts x).notTw ((bp ts x).sumTw n g0) n g1) n) g
  refine⟨λ p r g q z hds h h1 h2=>?_,λ p r r0 g k ks l q z hds h h1 h2=>?_,λ p r g q z hds h hb h1 h2=>?_⟩
  ·rw [rf.ef,h.isS L rf.iw 3 29 (by decide) v1 rfl]at h1;unfold fU at h2;split at h2
   ·cases h2
   rename_i r1 l1 e2;cases h2
   by_cases e29:am ts r=29
   ·rw [jj e29,aC rfl]at h1
    have hneed:rf.aJ s (rf.cx p) rf.iw=rf.ax s (rf.cx p):=by
     have his:rf.aT p rf.iw=true:=by rw [h.isS L rf.iw 3 29 (by decide) v1 rfl,jj e29]
     by_cases e8:p.opn=8
     ·have hb:0<=(rf.cx p).bad:=by
       unfold rf.cx;rw [aC e8];show 0<=(rf.aY p).bad;unfold rf.aY;rw [aC h.bad];exact Int.natCast_nonneg _
      rw [dm hb,jG hb]
     have hq:rf.aT (rf.cx p) rf.iw=true:=by
      unfold rf.cx;rw [au e8];exact his
     unfold rf.aJ;rw [hq,aC rfl]
    rw [hneed]at h1;rcases h.open_ L e29 (by decide) (by decide) (by decide)with⟨ho,o1,o2,o3,o4⟩|hde
    ·have hl:=ho.line o1;refine i2 _ _ r g n [] [] q (r1,l1) hds ⟨hl,o2,?_,?_,λ ms hms=>?_,ox⟩ h1 e2
     ·rw [bk,bq (by decide)];exact o3
     ·rw [bU,bq (by decide)];exact o4
     cases hms;exact .nil
    left;obtain⟨x,x0,x1,x2⟩:=hde.line;refine⟨x,x0,((eM s f).2.1 [] _ _ (by omega) h1).trans x1,?_⟩;have C:=bp ts x;exact C.line _ (C.shut (eC (KS x g) n _ _ _ x2 e2) (by decide))
   rw [gn e29,au (by decide)]at h1
   have hneed:rf.aJ s p rf.iw=rf.aY p:=by
    unfold rf.aJ;rw [h.isS L rf.iw 3 29 (by decide) v1 rfl,gn e29,au (by decide)]
   rw [hneed]at h1;left;obtain⟨x,x0,x1,x2⟩:=h.fail L;have C:=bp ts x
   have ho:(dt ts 29 r).syn=some x:=by
    show(ar ts 29 (if r.depth=8 then cC ts r else r)).1.syn=_;split
    ·exact C.take x2 (by decide)
    unfold ar;rw [au e29];exact x2
   rw [mh (by omega)]at h1;refine⟨x,x0,((eM s f).2.1 [] _ _ (by omega) h1).trans x1,?_⟩;exact C.line _ (C.shut (eC (KS x g) n _ _ _ (C.line _ ho) e2) (by decide))
  ·have hal:=h.al;rw [rf.dO,hal.isS L rf.fC 4 30 (by decide) v2 rfl]at h1;cases k with
   | zero=>cases h2
   | succ k =>
   rw [bO]at h2;by_cases e30:am ts r=30
   ·rw [jj e30,au (by simp)]at h1;cases h1
    have hst:stm g r=none\/stm g r=some (r,none):=by
     rw [hstm];cases g with
     | zero=>exact inl rfl
     | succ g =>
      right;rw [stmtTw,e30]
      rfl
    rcases hst with e|e
    ·rw [e]at h2;cases h2
    rw [e]at h2;cases h2
    rw [v2];rcases hal.needS L (j:=4) (by decide) (by omega)with⟨k1,k2,k3⟩|hde
    ·right;have e4:gx ts 30 r=nT (bg ts r):=by unfold gx;exact pP (λ x=>nT x.1) k3
     have hg:(bg ts r).gap=fH:=fm (by omega) hal
     (try dsimp only)
     rw [e4];refine⟨ks,rfl,(k2.line hg).dec,h.defs,h.nam,h.num,h.stp,h.wf⟩
    left;exact hde.line.dec
   rw [gn e30,aC ⟨rfl,hal.bad⟩]at h1;split at h1
   ·cases h1
   rename_i p1 x e1;cases f with
   | zero=>simp [rf.stmtTw]at e1
   | succ f =>
   have hbe:rf.cZ p=decide (7<=am ts r/\am ts r<=14):=by
    unfold rf.cZ rf.aO;simp only [List.any_cons,List.any_nil,Bool.or_false];rw [hal.isW L rf.mZ 2 7 (by decide) v10 rfl,hal.isW L rf.m8 3 8 (by decide) v11 rfl,hal.isW L rf.kh 4 9 (by decide) w1 rfl,hal.isW L rf.pI 5 10 (by decide) w2 rfl,hal.isW L rf.wJ 6 11 (by decide) v7 rfl,hal.isW L rf.m9 7 12 (by decide) v8 rfl,hal.isW L rf.kT 8 13 (by decide) v9 rfl,hal.isW L rf.MF 9 14 (by decide) v4 rfl];rw [Bool.eq_iff_iff];simp only [Bool.or_eq_true,decide_eq_true_eq];omega
   rw [rf.stmtTw,hbe]at e1;by_cases hb:7<=am ts r/\am ts r<=14
   ·rw [jj hb,aC rfl]at e1;split at h2
    ·cases h2
    ·rename_i r1 e2;obtain⟨⟨o,ho⟩,_⟩:=(kR L n g0 g1 ds hstm f).2.2 p r g _ _ (by rw [h.defs];exact hds) hal hb e1 e2;cases ho
    rename_i r1 o e2;obtain⟨_,hst⟩:=(kR L n g0 g1 ds hstm f).2.2 p r g _ _ (by rw [h.defs];exact hds) hal hb e1 e2;rcases hst with hde|hs
    ·left;obtain⟨y,y0,y1,y2⟩:=hde;dsimp only at y1 y2;refine⟨y,y0,((eM s (f+1)).2.1 _ _ _ (by omega) h1).trans y1,?_⟩;have C:=bp ts y;exact C.line _ (C.shut (eC (KS y g) k _ _ _ y2 h2) (by decide))
    have hd:=hs.defs;dsimp only at hd;refine i2 p1 r1 r0 g k _ _ q z hds ⟨hs.al,hd.trans h.defs,?_,?_,λ ms hms=>?_,uD h.wf hs.wf⟩ h1 h2
    ·rw [mM,ed,<-h.nam];exact hs.nam
    ·rw [p7,ed,<-h.num];exact hs.num
    obtain⟨ms0,m,a1,a2,rfl⟩:=pX hms;have:=hs.stp m (by dsimp only;rw [a2]);rw [h.defs]at this;exact(h.stp ms0 a1).snoc this
   rw [gn hb,au (by decide)]at e1
   have hst:stm g r=none\/stm g r=some (r,none):=by
    rw [hstm];cases g with
    | zero=>exact inl rfl
    | succ g =>
     right;rw [stmtTw,au (by simp [DI]),au (by omega),au (by omega),au (by omega),au (by omega),au (by omega),au (by omega),au (by omega),au (by omega)]
   rcases hst with e|e
   ·rw [e]at h2;cases h2
   rw [e]at h2;cases h2
   left;obtain⟨y,y0,y1,y2⟩:=hal.fail L;have b1:=(eM s f).2.2.2 _ _ (by omega) e1;dsimp only at b1;refine⟨y,y0,((eM s (f+1)).2.1 _ _ _ (by omega) h1).trans (b1.trans y1),?_⟩
   (try dsimp only)
   show(ar ts 30 r).1.syn=_;unfold ar;rw [au e30];exact y2
  have hsg:∀{a:Option (RS×Option (Option aM))},stm g r=a->a=some z:=λ e=>e.symm.trans h2
  cases g with
  | zero=>rw [hstm]at h2;cases h2
  | succ g =>
  have hk:∃ j:Nat,2<=j/\j<10/\am ts r=5+(j:Int):=⟨(am ts r-5).toNat,by omega,by omega,by omega⟩
  obtain⟨j,j2,j10,ej⟩:=hk;have tx:=h.wtext L (j:=j) (by omega) ej;obtain⟨q1,q2,q3,q4,q5,q6⟩:=Mc j j10;rw [rf.ft,tx,q1,q2,q3,q4,q5,q6]at h1;have e2:=h2;rw [hstm,stmtTw,au (by simp [DI])]at e2;rw [<-hstm]at e2;have hgo:=h.go L (by omega) (by omega);have hgap:(bg ts r).gap=fH:=fm (by omega) h;rcases(show j=2\/j=3\/j=4\/j=5\/j=6\/j=7\/j=8\/j=9 by omega)with rfl|rfl|rfl|rfl|rfl|rfl|rfl|rfl
  ·
   rw [au (by decide),au (by decide),au (by decide)]at h1;rw [au (by omega),aC (by omega)]at e2;cases h1;cases e2
   refine⟨⟨_,rfl⟩,?_⟩;rcases hgo.semi L hgap with hde|⟨a1,a2,a3,a4⟩
   ·exact inl hde
   right;refine⟨a1,a2,?_,?_,λ m hm=>?_,fL (by decide +kernel) _ _ _ ox⟩
   ·rw [bu ds (by decide +kernel),bk,bq (by decide)];exact a3
   ·rw [cJ (by decide +kernel),bU,bq (by decide)];exact a4
   cases hm;rw [<-v10];exact .accept
  ·
   rw [au (by decide),au (by decide),au (by decide)]at h1;rw [au (by omega),au (by omega),aC (by omega)]at e2;cases h1;cases e2
   refine⟨⟨_,rfl⟩,?_⟩;rcases hgo.semi L hgap with hde|⟨a1,a2,a3,a4⟩
   ·exact inl hde
   right;refine⟨a1,a2,?_,?_,λ m hm=>?_,fL (by decide +kernel) _ _ _ ox⟩
   ·rw [bu ds (by decide +kernel),bk,bq (by decide)];exact a3
   ·rw [cJ (by decide +kernel),bU,bq (by decide)];exact a4
   cases hm;rw [<-v11];exact .reject
  ·
   rw [aC (by decide)]at h1;rw [au (by omega),au (by omega),au (by omega),aC (by omega)]at e2;split at h1
   ·cases h1
   rename_i p3 x e1;split at e2
   ·cases e2
   rename_i r3 a e3;cases h1;cases e2
   refine⟨⟨_,rfl⟩,?_⟩;rw [w16]at e1;rcases hgo.needS L (j:=0) (by decide) (by omega)with⟨k1,k2,k3⟩|hde
   ·rw [show ar ts 26 (bg ts r)=(bg ts (bg ts r),bL ts (bg ts r))from k3]at e3;rcases(pF L n f).1 _ _ g0 _ _ k2 e1 e3 with hde|hs
    ·exact inl hde.semi
    rcases hs.al.semi L hs.gap with hde|⟨a1,a2,a3,a4⟩
    ·exact inl hde
    right;obtain⟨m,hm,ha⟩:=hs.amt;dsimp only at hm ha;obtain⟨q1,q2⟩:=ha.quiet ds;refine⟨a1,a2.trans hs.defs,?_,?_,λ m' hm'=>?_,fL (by decide +kernel) _ _ _ (AQ ha.wf)⟩
    ·rw [bu ds (by decide +kernel),bG,bk,fB,q1,bq (by decide)];exact a3.trans hs.nam
    ·rw [cJ (by decide +kernel),cK,bU,fB,q2,bq (by decide)];exact a4.trans hs.num
    subst hm;cases hm'
    rw [<-w1];exact .pref ha
   left;obtain⟨y,y0,y1,y2⟩:=hde;exact De.semi ⟨y,y0,((fl s f).1 _ _ (by omega) e1).trans y1,(bp ts y).sumTw n g0 _ _ y2 e3⟩
  ·
   rw [aC (by decide)]at h1;rw [au (by omega),au (by omega),au (by omega),au (by omega),aC (by omega)]at e2;split at h1
   ·cases h1
   rename_i p3 x e1;split at e2
   ·cases e2
   rename_i r3 a e3;cases h1;cases e2
   refine⟨⟨_,rfl⟩,?_⟩;rw [w16]at e1;rcases hgo.needS L (j:=0) (by decide) (by omega)with⟨k1,k2,k3⟩|hde
   ·rw [show ar ts 26 (bg ts r)=(bg ts (bg ts r),bL ts (bg ts r))from k3]at e3;rcases(pF L n f).1 _ _ g0 _ _ k2 e1 e3 with hde|hs
    ·exact inl hde.semi
    rcases hs.al.semi L hs.gap with hde|⟨a1,a2,a3,a4⟩
    ·exact inl hde
    right;obtain⟨m,hm,ha⟩:=hs.amt;dsimp only at hm ha;obtain⟨q1,q2⟩:=ha.quiet ds;refine⟨a1,a2.trans hs.defs,?_,?_,λ m' hm'=>?_,fL (by decide +kernel) _ _ _ (AQ ha.wf)⟩
    ·rw [bu ds (by decide +kernel),bG,bk,fB,q1,bq (by decide)];exact a3.trans hs.nam
    ·rw [cJ (by decide +kernel),cK,bU,fB,q2,bq (by decide)];exact a4.trans hs.num
    subst hm;cases hm'
    rw [<-w2];exact .med ha
   left;obtain⟨y,y0,y1,y2⟩:=hde;exact De.semi ⟨y,y0,((fl s f).1 _ _ (by omega) e1).trans y1,(bp ts y).sumTw n g0 _ _ y2 e3⟩
  ·
   rw [au (by decide),aC (by decide)]at h1;rw [au (by omega),au (by omega),au (by omega),au (by omega),au (by omega),aC (by omega)]at e2;cases h1;cases e2
   refine⟨⟨_,rfl⟩,?_⟩;rcases hgo.within L 0 65535 with hde|⟨u1,u2,u3,u4,u5,u6,u7⟩
   ·exact inl hde.semi
   rcases u1.semi L u2 with hde|⟨a1,a2,a3,a4⟩
   ·exact inl hde
   right;refine⟨a1,a2.trans u3,?_,?_,λ m hm=>?_,C8 _ _ _ _ (AQ (fL (by decide +kernel) _ _ _ ox))⟩
   ·rw [bu ds (by decide +kernel),bG,bk,bu ds (by decide +kernel),bk,fB,bq (by decide)];exact a3.trans u4
   ·dsimp only;rw [a4,u5,rf.bH];simp only [show((wd 6).toList==rf.il)=false by decide +kernel,show((wd 6).toList==rf.eH)=true by decide +kernel,show((wd 6).toList==rf.cU)=false by decide +kernel,rf.my,rf.oT,true_or,true_and,Bool.false_eq_true,false_and,if_false];by_cases hb:65535<bf (rf.ax s p).next.text 4294967295
    ·rw [aC (inr hb),aC hb];rfl
    rw [au (by omega),au hb,cK,bU,cJ (by decide +kernel),bU];rfl
   cases hm;rw [u6,<-v7];exact .mark _ _
  ·
   rw [au (by decide),aC (by decide)]at h1;rw [au (by omega),au (by omega),au (by omega),au (by omega),au (by omega),au (by omega),aC (by omega)]at e2;cases h1;cases e2
   refine⟨⟨_,rfl⟩,?_⟩;rcases hgo.within L 0 65535 with hde|⟨u1,u2,u3,u4,u5,u6,u7⟩
   ·exact inl hde.semi
   rcases u1.semi L u2 with hde|⟨a1,a2,a3,a4⟩
   ·exact inl hde
   right;refine⟨a1,a2.trans u3,?_,?_,λ m hm=>?_,C8 _ _ _ _ (AQ (fL (by decide +kernel) _ _ _ ox))⟩
   ·rw [bu ds (by decide +kernel),bG,bk,bu ds (by decide +kernel),bk,fB,bq (by decide)];exact a3.trans u4
   ·dsimp only;rw [a4,u5,rf.bH];simp only [show((wd 7).toList==rf.il)=false by decide +kernel,show((wd 7).toList==rf.db)=true by decide +kernel,show((wd 7).toList==rf.cU)=false by decide +kernel,rf.my,rf.oT,or_true,true_and,Bool.false_eq_true,false_and,if_false];by_cases hb:65535<bf (rf.ax s p).next.text 4294967295
    ·rw [aC (inr hb),aC hb];rfl
    rw [au (by omega),au hb,cK,bU,cJ (by decide +kernel),bU];rfl
   cases hm;rw [u6,<-v8];exact .unmark _ _
  ·
   rw [au (by decide),aC (by decide)]at h1;rw [au (by omega),au (by omega),au (by omega),au (by omega),au (by omega),au (by omega),au (by omega),aC (by omega)]at e2;cases h1;cases e2
   refine⟨⟨_,rfl⟩,?_⟩;rcases hgo.within L 1 65535 with hde|⟨u1,u2,u3,u4,u5,u6,u7⟩
   ·exact inl hde.semi
   rcases u1.semi L u2 with hde|⟨a1,a2,a3,a4⟩
   ·exact inl hde
   right;refine⟨a1,a2.trans u3,?_,?_,λ m hm=>?_,C8 _ _ _ _ (AQ (fL (by decide +kernel) _ _ _ ox))⟩
   ·rw [bu ds (by decide +kernel),bG,bk,bu ds (by decide +kernel),bk,fB,bq (by decide)];exact a3.trans u4
   ·dsimp only;rw [a4,u5,rf.bH];simp only [show((wd 8).toList==rf.il)=false by decide +kernel,show((wd 8).toList==rf.eH)=false by decide +kernel,show((wd 8).toList==rf.db)=false by decide +kernel,show((wd 8).toList==rf.cU)=true by decide +kernel,rf.my,rf.oT,true_and,Bool.false_eq_true,false_or,false_and,if_false];by_cases hb:bf (rf.ax s p).next.text 4294967295<1\/65535<bf (rf.ax s p).next.text 4294967295
    ·rw [aC hb,aC hb];rfl
    rw [au hb,au hb,cK,bU,cJ (by decide +kernel),bU];rfl
   cases hm;rw [u6,<-v9];exact .prepend _ _
  ·
   rw [au (by decide),au (by decide),aC (by decide)]at h1;rw [aC (by omega)]at e2;split at h1
   ·cases h1
   rename_i p2 c e1;split at e2
   ·cases e2
   rename_i r2 m e3;split at h1
   ·cases h1
   rename_i p3 b e4;split at e2
   ·cases e2
   rename_i r3 yes e5;have KC:∀ x,bS (λ st:RS=>st.syn=some x) (ig ts (notTw ts n (sumTw ts n g0) g1) n):=λ x=>(bp ts x).cond ((bp ts x).notTw ((bp ts x).sumTw n g0) n g1) n
   have hdead:De p3 r3->MS s ts ds r q z:=λ hde=>by
    obtain⟨y,y0,y1,y2⟩:=hde;rw [bC (by omega),au (by decide)]at h1;rw [show am ts r3=0 by unfold am;rw [y2];rfl,au (by decide)]at e2;cases h1;cases e2
    exact⟨⟨_,rfl⟩,inl ⟨y,y0,y1,y2⟩⟩
   have hdead0:De (rf.aJ s p2 rf.uB) (ar ts 15 r2).1->De p3 r3:=λ hde=>by
    obtain⟨y,y0,y1,y2⟩:=hde;exact⟨y,y0,((eM s f).1 _ _ (by omega) e4).trans y1,(bp ts y).block (KS y g) n _ _ y2 e5⟩
   rcases(ww L n g0 ds f).1 0 _ (bg ts r) g1 _ _ (by decide) hds hgo e1 e3 with hde|hc
   ·exact hdead (hdead0 (hde.need (s:=s) (ts:=ts) rf.uB (k:=15) (by decide)))
   have hcal:=hc.al;dsimp only at hcal;rw [v5]at e4 hdead0;rcases hcal.needW L (j:=10) (by decide)with⟨k1,k2,k3⟩|hde
   ·rw [show ar ts 15 r2=(bg ts r2,bL ts r2)from k3]at e5;have hd2:(bg ts r2).defs=r.defs:=hc.defs;rcases i1 _ _ g _ _ (by rw [hd2];exact hds) k2 e4 e5 with hde|⟨ks,hb1,hb2⟩
    ·exact hdead hde
    dsimp only at hb1;subst hb1;have hbal:=hb2.al;dsimp only at hbal
    have hn2:r3.nam=iA (iA r.nam (rf.br ds c)) (rf.cS ds ks):=by
     have a:=hb2.nam;have b:=hc.nam;dsimp only at a b;rw [a,show(bg ts r2).nam=r2.nam from rfl,b];rfl
    have hu2:r3.num=iA (iA r.num (rf.bH c)) (rf.cq ks):=by
     have a:=hb2.num;have b:=hc.num;dsimp only at a b;rw [a,show(bg ts r2).num=r2.num from rfl,b];rfl
    have sblk:∀ l,rf.br ds (.mk rf.bP nB 0 0 l)=rf.cS ds l:=λ l=>bu ds (by decide +kernel) _ _ _ l
    have nblk:∀ l,rf.bH (.mk rf.bP nB 0 0 l)=rf.cq l:=λ l=>cJ (by decide +kernel) _ _ _ l
    have sif:∀ l,rf.br ds (.mk (wd 9) nB 0 0 l)=rf.cS ds l:=λ l=>bu ds (by decide +kernel) _ _ _ l
    have nif:∀ l,rf.bH (.mk (wd 9) nB 0 0 l)=rf.cq l:=λ l=>cJ (by decide +kernel) _ _ _ l
    rw [hbal.isW L rf.uA 11 16 (by decide) v6 rfl]at h1;by_cases e16:am ts r3=16
    ·rw [jj e16,aC rfl]at h1;rw [aC e16]at e2;split at h1
     ·cases h1
     rename_i p4 x e6;split at e2
     ·cases e2
     rename_i r4 no e7;cases h1;cases e2
     refine⟨⟨_,rfl⟩,?_⟩;have hd3:(bg ts r3).defs=r.defs:=hb2.defs.trans hd2;rcases i1 _ _ g _ _ (by rw [hd3];exact hds) (hbal.go L (by omega) (by omega)) e6 e7 with hde|⟨js,hx1,hx2⟩
     ·exact inl hde
     dsimp only at hx1;subst hx1;right;refine⟨hx2.al,hx2.defs.trans hd3,?_,?_,λ m' hm'=>?_,fL (by decide +kernel) _ _ _ (pL hc.wf (C9 (fL (by decide +kernel) _ _ _ hb2.wf) (fL (by decide +kernel) _ _ _ hx2.wf)))⟩
     ·have a:=hx2.nam;dsimp only at a ⊢;rw [a,show(bg ts r3).nam=r3.nam from rfl,hn2,sif,bG,bG,bG,bk];rw [<-io,<-io,fB,sblk,sblk]
     ·have a:=hx2.num;dsimp only at a ⊢;rw [a,show(bg ts r3).num=r3.num from rfl,hu2,nif,cK,cK,cK,bU];rw [<-io,<-io,fB,nblk,nblk]
     obtain⟨x1,y1,z1,a1,a2,a3,rfl⟩:=oJ (fZ hm');rw [<-v4];have t1:=hc.cnd x1 a1;have t2:=hb2.stp y1 a2;have t3:=hx2.stp z1 a3;rw [hd2]at t2;rw [hd3]at t3;exact .if2 t1 t2 t3
    rw [gn e16,au (by decide)]at h1;rw [au e16]at e2;cases h1;cases e2
    refine⟨⟨_,rfl⟩,inr ⟨hbal,hb2.defs.trans hd2,?_,?_,λ m' hm'=>?_,fL (by decide +kernel) _ _ _ (C9 hc.wf (fL (by decide +kernel) _ _ _ hb2.wf))⟩⟩
    ·dsimp only;rw [hn2,sif,bG,bG,bk,ed,sblk]
    ·dsimp only;rw [hu2,nif,cK,cK,bU,ed,nblk]
    obtain⟨x1,y1,z1,a1,a2,a3,rfl⟩:=oJ (fZ hm');cases a3
    rw [<-v4];have t1:=hc.cnd x1 a1;have t2:=hb2.stp y1 a2;rw [hd2]at t2;exact .if1 t1 t2
   exact hdead (hdead0 hde)
end
