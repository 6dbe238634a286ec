/- part -/
import Derived.Test.YtgdeeodifnegiaaGreatDoorEqL
import Derived.Test.YtgdeeodifnegiaaGreatDoorRnE
set_option maxRecDepth 100000
set_option maxHeartbeats 3200000
namespace Go.Proofs.YtgdeeodifnegiaaGreatDoor
open Go.Proofs.Tryz
open Or
open Go.RowKit
def se(a l:Int):Prop:=0<=a/\a<=4294967295/\0<=l/\l<=32
theorem lF(s:ByteArray):∀(f i p q:Nat) (a l:Int),(du s f i p q a l).2.2=true->se (du s f i p q a l).1 (du s f i p q a l).2.1
 | 0,i,p,q,a,l,h=>by
  have h':tI a l=true:=h;unfold tI at h';simp only [decide_eq_true_eq]at h';exact⟨h'.1,h'.2.1,h'.2.2.1,h'.2.2.2.1⟩
 | f+1,i,p,q,a,l,h=>by
  rw [du]at h ⊢;by_cases c1:i<s.size/\(ff (bt s i)=true\/p=4)
  ·rw [aC c1]at h ⊢;exact lF s f _ _ _ _ _ h
  rw [au c1]at h ⊢;by_cases c2:(i<s.size/\bt s i≠(if p=3 then 47 else 46))\/(s.size<=i/\p≠4)
  ·rw [aC c2]at h;cases h
  rw [au c2]at h ⊢;by_cases c3:bf (s.extract q i) (if p=4 then 32 else 255)<0
  ·rw [aC c3]at h;cases h
  rw [au c3]at h ⊢;by_cases c4:p=4
  ·rw [aC c4]at h ⊢;exact lF s f _ _ _ _ _ h
  rw [au c4]at h ⊢;exact lF s f _ _ _ _ _ h
theorem Ft{s:ByteArray}(h:(aV s).2.2=true):se (aV s).1 (aV s).2.1:=lF s _ _ _ _ _ _ h
def DP(x:rf.Rg):Int:=match rf.gD x with|some a=>a|none => -1
def iB(x:rf.Rg):dU:=rx x.addr x.len x.lo x.hi
def qr(l:List rf.Rg):Int:=match rf.eD l with|some a=>a|none => -1
section
variable {s:ByteArray} {ts:List aw}
structure Lu(s:ByteArray)(ts:List aw)(r:RS)(q:rf.PS×rf.Rg)(z:RS×dU):Prop where
 al:Al s ts q.1 z.1
 gap:z.1.gap=fH
 defs:z.1.defs=r.defs
 nam:z.1.nam=r.nam
 num:z.1.num=iA r.num (DP q.2)
 at_:∀ a,rf.gD q.2=some a->0<=a
 set:z.2=iB q.2
 net:se q.2.addr q.2.len
theorem FO(L:Lx s ts)(hL:l9 ts){p:rf.PS}{r:RS}(h:Al s ts p r):De (rf.dV s p).1 (aZ ts r).1\/Lu s ts r (rf.dV s p) (aZ ts r):=by
 unfold rf.dV aZ;rcases h.kind L (q:=47) (k:=3) (by simp)with⟨k1,k2,k3⟩|hde
 ·have hlen:0<=(bL ts r).len/\(bL ts r).len<=32:=by
   rw [h.tk];exact hL _ (nN h.lt)
  obtain⟨pa,pl,pn⟩:=h.pfx L k1;have hnet:=Ft pn;rw [k3];dsimp only;by_cases e2:am ts (bg ts r)=2
  ·rw [aC ⟨k2.bad,(k2.kinds L).1.2 e2⟩,aC e2];dsimp only;rcases k2.within L (bL ts r).len 32 with hde|⟨u1,u2,u3,u4,u5,u6,u7⟩
   ·left;obtain⟨y,y0,y1,y2⟩:=hde;exact⟨y,y0,by rw [ie (by omega)];exact y1,(bp ts y).within y2 _ _⟩
   rcases u1.within L (aE ts (bL ts r).len 32 (bg ts r)).2 32 with hde|⟨t1,t2,t3,t4,t5,t6,t7⟩
   ·exact inl hde
   right;refine⟨t1,t2,t3.trans u3,t4.trans u4,?_,?_,?_,hnet⟩
   ·dsimp only;rw [t5,u5,u6,show(bg ts r).num=r.num from rfl];unfold DP rf.gD;dsimp only;rw [pl];by_cases c1:bf (rf.aA s p 47).next.text 4294967295<(bL ts r).len\/32<bf (rf.aA s p 47).next.text 4294967295
    ·rw [aC c1,aC c1,io,aC (Int.natCast_nonneg _)]
    rw [au c1,au c1,bq (x := -1) (by decide)];by_cases c2:bf (rf.aA s (rf.aA s p 47) 48).next.text 4294967295<bf (rf.aA s p 47).next.text 4294967295\/32<bf (rf.aA s (rf.aA s p 47) 48).next.text 4294967295
    ·rw [aC c2,aC c2]
    rw [au c2,au c2]
   ·intro a ha;unfold rf.gD at ha;dsimp only at ha;split at ha
    ·cases ha;exact Int.natCast_nonneg _
    split at ha
    ·cases ha;exact Int.natCast_nonneg _
    cases ha
   unfold iB;dsimp only;rw [pa,pl,t6,u6]
  rw [au (λ e=>e2 ((k2.kinds L).1.1 e.2)),au e2];right
  have hb:rf.gD ⟨(aV p.next.text).1,(aV p.next.text).2.1,(aV p.next.text).2.1,(aV p.next.text).2.1,-1,-1⟩=none:=by
   unfold rf.gD;dsimp only;rw [pl,au (by omega),au (by omega)]
  refine⟨k2,fm (by omega) h,rfl,rfl,?_,λ a ha=>?_,?_,hnet⟩
  ·dsimp only;unfold DP;rw [hb,bq (by decide)];rfl
  ·dsimp only at ha;rw [hb]at ha;cases ha
  unfold iB;dsimp only;rw [pa,pl]
 left;obtain⟨y,y0,y1,y2⟩:=hde;rw [au (by omega),au (by rw [show am ts (ar ts 3 r).1=0 by unfold am;rw [y2];rfl];decide)];exact⟨y,y0,y1,y2⟩
theorem rt:∀(l:List rf.Rg) (x:rf.Rg),rf.eD (l++[x])=match rf.eD l with|some a=>some a|none=>rf.gD x
 | [],x=>by
  show(match rf.gD x with|some a=>some a|none=>none)=rf.gD x;cases rf.gD x<;>rfl
 | y::l,x=>by
  show(match rf.gD y with|some a=>some a|none=>rf.eD (l++[x]))=match (match rf.gD y with|some a=>some a|none=>rf.eD l)with|some a=>some a|none=>rf.gD x
  cases rf.gD y with
  | some a=>rfl
  | none=>exact rt l x
structure Dh(s:ByteArray)(ts:List aw)(r0:RS)(p:rf.PS)(l:List rf.Rg)(r:RS)(S:List dU):Prop where
 al:Al s ts p r
 gap:r.gap=fH
 defs:r.defs=r0.defs
 nam:r.nam=r0.nam
 num:r.num=iA r0.num (qr l)
 at_:∀ a,rf.eD l=some a->0<=a
 set:S=l.map iB
 nets:∀ x∈l,se x.addr x.len
theorem Dh.snoc{r0 r r1:RS}{p1:rf.PS}{l:List rf.Rg}{S:List dU}{x:rf.Rg}{m:dU}(hu:r.num=iA r0.num (qr l))(ha:∀ a,rf.eD l=some a->0<=a)(hS:S=l.map iB)(hN:∀ x∈l,se x.addr x.len)(hd:r.defs=r0.defs)(hn:r.nam=r0.nam)(h:Lu s ts r (p1,x) (r1,m)) :
  Dh s ts r0 p1 (l++[x]) r1 (S++[m]):=by
 have e:=rt l x;refine⟨h.al,h.gap,h.defs.trans hd,h.nam.trans hn,?_,λ a he=>?_,by have hm:=h.set;dsimp only at hm;rw [hS,hm];simp,λ y hy=>?_⟩
 ·have:=h.num;dsimp only at this;rw [this,hu];unfold qr;rw [e];cases hb:rf.eD l with
  | some a =>
   have:=ha a hb;dsimp only;rw [io,aC this]
  | none =>
   dsimp only;rw [bq (x := -1) (by decide)];unfold DP;rfl
 ·rw [e]at he;cases hb:rf.eD l with
  | some b=>rw [hb]at he;exact ha a (hb.trans he)
  | none=>rw [hb]at he;exact h.at_ a he
 rcases List.mem_append.1 hy with hy|hy
 ·exact hN y hy
 rw [List.mem_singleton.1 hy];exact h.net
theorem wU(s:ByteArray):∀ f m l,fP (λ p=>rf.rangesLp s f m p l)
 | 0,_,_=>λ _ _ _ h=>by simp [rf.rangesLp]at h
 | f+1,m,l=>λ p q hb h=>by
  dsimp only at h;rw [rf.rangesLp,au (by omega)]at h;cases h
  dsimp only;rw [dm hb]
def Ns(s:ByteArray)(ts:List aw)(r0:RS)(q:rf.PS×List rf.Rg)(z:RS×List dU):Prop:=De q.1 z.1\/Dh s ts r0 q.1 q.2 z.1 z.2
theorem DW(L:Lx s ts)(hL:l9 ts):∀(f:Nat) {p:rf.PS} {r r0:RS} {l:List rf.Rg} {S:List dU} {k:Nat} {q:rf.PS×List rf.Rg} {z:RS×List dU},Al s ts p r->r.num=iA r0.num (qr l)->(∀ a,rf.eD l=some a->0<=a)->S=l.map iB->(∀ x∈l,se x.addr x.len)->r.defs=r0.defs->r.nam=r0.nam ->
  rf.rangesLp s f true p l=some q->rangesLp ts k (aZ ts r).1 (S++[(aZ ts r).2])=some z->Ns s ts r0 q ((ar ts 30 z.1).1,z.2)
 | 0,_,_,_,_,_,_,_,_,_,_,_,_,_,_,_,h,_=>by simp [rf.rangesLp]at h
 | f+1,p,r,r0,l,S,k,q,z,h,hu,ha,hS,hN,hd,hn,h1,h2=>by
  obtain⟨_,_,_,_,_,_,_,_,_,_,_,_,_,_,_,v16,v17,v18,_⟩:=fD;rw [rf.rangesLp,aC ⟨rfl,h.bad⟩]at h1;cases k with
  | zero=>cases h2
  | succ k =>
  rcases FO L hL h with hde|hs
  ·left;obtain⟨y,y0,y1,y2⟩:=hde;rw [bC (by omega),au (by decide)]at h1;rw [rangesLp,au (by rw [show am ts (aZ ts r).1=0 by unfold am;rw [y2];rfl];decide)]at h2;cases h2
   exact⟨y,y0,(wU s f false _ _ _ (by omega) h1).trans y1,(bp ts y).take y2 (by decide)⟩
  have hsn:=Dh.snoc (p1:=(rf.dV s p).1) (x:=(rf.dV s p).2) (r1:=(aZ ts r).1) (m:=(aZ ts r).2) (S:=S) hu ha hS hN hd hn hs;have hal:=hs.al;rw [hal.isS L rf.ji 2 28 (by decide) v18 rfl]at h1;rw [rangesLp]at h2;by_cases e28:am ts (aZ ts r).1=28
  ·rw [jj e28,aC rfl]at h1;rw [aC e28]at h2;exact DW L hL f (hal.go L (by omega) (λ _=>hs.gap)) hsn.num hsn.at_ hsn.set hsn.nets hsn.defs hsn.nam h1 h2
  rw [gn e28,au (by decide)]at h1;rw [au e28]at h2;cases h2
  cases f with
  | zero=>simp [rf.rangesLp]at h1
  | succ f =>
  rw [rf.rangesLp,au (by simp)]at h1;cases h1
  rw [v17];rcases hal.needS L (j:=4) (by decide) (by omega)with⟨k1,k2,k3⟩|hde
  ·right;dsimp only;rw [show ar ts 30 (aZ ts r).1=(bg ts (aZ ts r).1,bL ts (aZ ts r).1)from k3];exact⟨k2,fm (by rw [k1];decide) hal,hsn.defs,hsn.nam,hsn.num,hsn.at_,hsn.set,hsn.nets⟩
  exact inl hde
inductive AS:rf.Df->fe->Prop
 | set {nm:kA} {l:List rf.Rg} {t:rf.Tr}:(∀ x∈l,se x.addr x.len)->AS ⟨nm,false,l,t⟩ ⟨nm.text,some (gC (l.map iB)),none⟩
 | way {nm:kA} {l:List rf.Rg} {t:rf.Tr} {W:aH}:mf t W->AS ⟨nm,true,l,t⟩ ⟨nm.text,none,some W⟩
inductive gQ:List rf.Df->List fe->Prop
 | nil:gQ [] []
 | cons {d:rf.Df} {D:fe} {ds:List rf.Df} {Ds:List fe}:AS d D->gQ ds Ds->gQ (d::ds) (D::Ds)
theorem gQ.snoc:∀{ds:List rf.Df} {Ds:List fe} {d:rf.Df} {D:fe},gQ ds Ds->AS d D->gQ (ds++[d]) (Ds++[D])
 | [],[],_,_,_,h=>.cons h .nil
 | _::_,_::_,_,_,.cons a b,h=>.cons a (b.snoc h)
theorem AS.name{d:rf.Df}{D:fe}(h:AS d D):D.name=d.name.text:=by cases h<;>rfl
theorem gQ.seen:∀{ds:List rf.Df} {Ds:List fe} (x:ByteArray),gQ ds Ds->Ds.any (λ d=>d.name.toList==x.toList)=rf.gY ds x
 | [],[],_,_=>rfl
 | _::_,_::_,x,.cons a b=>by
  unfold rf.gY;rw [List.any_cons,List.any_cons,a.name,b.seen x];rfl
theorem gQ.ok{ds:List rf.Df}{Ds:List fe}(h:gQ ds Ds):wM ds Ds:=by
 have key:∀ t i,(rf.dJ t false ds i<0↔dP Ds t=none)/\(rf.dJ t true ds i<0↔dQ Ds t=none):=by
  induction h with
  | nil=>intro t i;simp [rf.dJ,dP,dQ]
  | cons a b ih =>
   intro t i;have hi:=ih t (i+1);cases a with
   | set hn =>
    rename_i nm l t';rw [rf.dJ,rf.dJ,dP,dQ];cases hc:(nm.text.toList==t.toList)with
    | true=>simp [hi.2]
    | false=>simp [hi.1,hi.2]
   | way hw =>
    rename_i nm l t' W;rw [rf.dJ,rf.dJ,dP,dQ];cases hc:(nm.text.toList==t.toList)with
    | true=>simp [hi.1]
    | false=>simp [hi.1,hi.2]
 exact λ t=>key t 0
def Znq:List rf.Df->List rf.Df->Int
 | _,[] => -1
 | seen,d::ds=>if rf.gY seen d.name.text=true then(d.name.at_:Int)else Znq (seen++[d]) ds
theorem vP(d:rf.Df):∀(ds seen:List rf.Df) (o:Option Int),iA o (Znq seen (ds++[d]))=iA (iA o (Znq seen ds)) (if rf.gY (seen++ds) d.name.text=true then(d.name.at_:Int)else -1)
 | [],seen,o=>by
  rw [List.nil_append,Znq,Znq,Znq,bq (x := -1) (by decide),List.append_nil]
 | x::ds,seen,o=>by
  rw [List.cons_append,Znq,Znq];by_cases h:rf.gY seen x.name.text=true
  ·rw [aC h,aC h,io,aC (Int.natCast_nonneg _)]
  rw [au h,au h,vP d ds (seen++[x]) o];simp
theorem Dw(all:List rf.Df)(body:rf.Tr):∀(f i:Nat) (ds:List rf.Df),all.drop i=ds->ds.length<=f->rf.oQ all body f i=if 0<=Znq (all.take i) ds then Znq (all.take i) ds else rf.br all body
 | 0,i,ds,h1,h2=>by
  have:ds=[]:=List.length_eq_zero_iff.1 (by omega);subst this;rw [rf.oQ,Znq,au (by decide)]
 | f+1,i,ds,h1,h2=>by
  rw [rf.oQ];by_cases hi:i<all.length
  ·rw [dif_pos hi];have hd:all.drop i=all[i]::all.drop (i+1):=(List.drop_eq_getElem_cons hi)
   rw [<-h1,hd,Znq];by_cases hs:rf.gY (all.take i) all[i].name.text=true
   ·rw [aC hs,aC hs,aC (Int.natCast_nonneg _)]
   rw [au hs,au hs,Dw all body f (i+1) _ rfl (by rw [<-h1,hd]at h2;simp at h2;simp;omega),List.take_succ_eq_append_getElem hi]
  rw [dif_neg hi];have:ds=[]:=by rw [<-h1];exact List.drop_eq_nil_iff.2 (by omega)
  subst this;rw [Znq,au (by decide)]
theorem It(ds:List rf.Df)(body:rf.Tr):rf.gL ds body=if 0<=Znq [] ds then Znq [] ds else rf.br ds body:=Dw ds body ds.length 0 ds rfl (aD _)
def j7(d:rf.Df):Int:=match rf.mt d with|some a=>a|none => -1
def jg:List rf.Df->Int
 | [] => -1
 | d::ds=>if 0<=j7 d then j7 d else jg ds
theorem qP(d:rf.Df):∀(ds:List rf.Df) (o:Option Int),iA o (jg (ds++[d]))=iA (iA o (jg ds)) (j7 d)
 | [],o=>by
  rw [List.nil_append,show jg [d]=if 0<=j7 d then j7 d else -1 from rfl,show jg [] = -1 from rfl,bq (x := -1) (by decide),fB]
 | x::ds,o=>by
  rw [List.cons_append,jg,jg];by_cases h:0<=j7 x
  ·rw [aC h,aC h,io,aC h]
  rw [au h,au h,qP d ds o]
def Gv(d:rf.Df):Prop:=∀ a,rf.mt d=some a->0<=a
theorem tM(body:rf.Tr):∀(ds:List rf.Df),(∀ d∈ds,Gv d)->rf.ii body ds=if 0<=jg ds then jg ds else rf.bH body
 | [],_=>by rw [rf.ii,jg,au (by decide)]
 | d::ds,h=>by
  rw [rf.ii,jg];cases hb:rf.mt d with
  | some a =>
   have:=h d List.mem_cons_self a hb;have e:j7 d=a:=by unfold j7;rw [hb]
   dsimp only;rw [e,aC this,aC this]
  | none =>
   have e:j7 d = -1:=by unfold j7;rw [hb]
   dsimp only;rw [e];simp only [show ¬(0:Int) <= -1 by decide,if_false];exact tM body ds (λ d hd=>h d (List.mem_cons_of_mem _ hd))
structure ML(s:ByteArray)(ts:List aw)(ds:List rf.Df)(r:RS)(q:rf.PS×rf.Df)(r':RS):Prop where
 al:Al s ts q.1 r'
 defs:∃ D,r'.defs=r.defs++[D]/\AS q.2 D
 nam:r'.nam=iA r.nam (if rf.gY ds q.2.name.text=true then(q.2.name.at_:Int)else -1)
 num:r'.num=iA r.num (j7 q.2)
 ok:Gv q.2
theorem Gn(d:rf.Df)(hd:d.isWay=true):Gv d/\j7 d=if 0<=rf.cF d.way then rf.cF d.way else -1:=by
 unfold Gv j7 rf.mt;rw [aC hd];by_cases h:0<=rf.cF d.way
 ·rw [aC h,aC h];exact⟨λ a ha=>by cases ha;exact h,rfl⟩
 rw [au h,au h];exact⟨λ a ha=>(by cases ha),rfl⟩
theorem Al.newName(L:Lx s ts){p:rf.PS}{r:RS}(h:Al s ts p r){ds:List rf.Df}(hd:gQ ds r.defs) :
  De (rf.aA s p 110) (aI ts r).1\/(Al s ts (rf.aA s p 110) (aI ts r).1/\(aI ts r).1.gap=fH/\(aI ts r).1.defs=r.defs/\(aI ts r).1.num=r.num /\
   (aI ts r).1.nam=iA r.nam (if rf.gY ds p.next.text=true then(p.next.at_:Int)else -1)/\(aI ts r).2=p.next.text):=by
 rcases h.kind L (q:=110) (k:=4) (by simp)with⟨k1,k2,k3⟩|hde
 ·right;have tx:=h.text L (by omega);have hat:=h.at_ L;have hg:(bg ts r).gap=fH:=fm (by omega) h;have hs:=hd.seen p.next.text;have hdf:(bg ts r).defs=r.defs:=rfl;unfold aI nY;dsimp only;rw [k3];dsimp only;rw [tx,hdf,hs];by_cases hb:rf.gY ds p.next.text=true
  ·rw [aC hb,aC hb];refine⟨k2.same rfl rfl rfl rfl rfl,hg,rfl,rfl,?_,rfl⟩;show iC r.nam _=_;rw [hat,pH _ (Int.natCast_nonneg _)]
  rw [au hb,au hb,bq (by decide)];exact⟨k2,hg,rfl,rfl,rfl,rfl⟩
 left;obtain⟨a,a0,a1,a2⟩:=hde;refine⟨a,a0,a1,?_⟩;unfold aI;dsimp only;split
 ·exact a2
 exact a2
theorem J3(s:ByteArray)(f:Nat):fP (rf.nD s f):=λ p q hb h=>by
 unfold rf.nD at h;rw [bC hb,au (by decide),jG hb,ie hb,dm hb]at h;unfold rf.ja at h;rw [dm hb]at h;split at h
 ·cases h
 rename_i p4 l e;cases h
 have:=wU s f true [] _ _ hb e;dsimp only at this ⊢;rw [dm (by omega)];exact this
theorem DV(L:Lx s ts)(hL:l9 ts)(n g f:Nat){p:rf.PS}{r:RS}{ds:List rf.Df}{q:rf.PS×rf.Df}{z:RS×Bool}(h:Al s ts p r)(hds:gQ ds r.defs)(hk:am ts r=5\/am ts r=6)(h1:rf.nD s f p=some q)(h2:defW ts n g r=some z) :
  z.2=true/\(De q.1 z.1\/ML s ts ds r q z.1):=by
 obtain⟨_,_,_,_,_,_,_,_,_,_,_,_,_,_,_,w16,_⟩:=fO;obtain⟨_,_,v3,_,_,_,_,_,_,_,_,_,_,_,_,v16,v17,v18,v19,v20⟩:=fD;have hgo:=h.go L (by omega) (by omega);have hgd:(bg ts r).defs=r.defs:=rfl;unfold rf.nD at h1;rw [h.isW L rf.nz 1 6 (by decide) v19 rfl]at h1;unfold defW at h2
 have hname:De (rf.aJ s (rf.aA s (rf.ax s p) 110) rf.ku) (ar ts 26 (aI ts (bg ts r)).1).1\/(Al s ts (rf.aJ s (rf.aA s (rf.ax s p) 110) rf.ku) (ar ts 26 (aI ts (bg ts r)).1).1/\(ar ts 26 (aI ts (bg ts r)).1).1.defs=r.defs/\(ar ts 26 (aI ts (bg ts r)).1).1.num=r.num /\
   (ar ts 26 (aI ts (bg ts r)).1).1.nam=iA r.nam (if rf.gY ds (rf.ax s p).next.text=true then((rf.ax s p).next.at_:Int)else -1)/\(aI ts (bg ts r)).2=(rf.ax s p).next.text):=by
  rcases hgo.newName L (ds:=ds) hds with hde|⟨a1,a2,a3,a4,a5,a6⟩
  ·exact inl (hde.need (s:=s) (ts:=ts) rf.ku (k:=26) (by decide))
  rw [w16];rcases a1.needS L (j:=0) (by decide) (by omega)with⟨k1,k2,k3⟩|hde
  ·right;rw [show ar ts 26 (aI ts (bg ts r)).1=(bg ts (aI ts (bg ts r)).1,bL ts (aI ts (bg ts r)).1)from k3];exact⟨k2,a3,a4,a5,a6⟩
  exact inl hde
 by_cases e6:am ts r=6
 ·rw [jj e6,aC rfl]at h1;rw [aC e6]at h2;split at h1
  ·cases h1
  rename_i p4 t e1;split at h2
  ·cases h2
  rename_i r4 W e2;cases h1;cases h2
  refine⟨rfl,?_⟩;rcases hname with hde|⟨a1,a3,a4,a5,a6⟩
  ·left;obtain⟨y,y0,y1,y2⟩:=hde;have hy:De p4 r4:=⟨y,y0,((mi s f).1 _ _ (by omega) e1).trans y1,(bp ts y).eithTw n g _ _ y2 e2⟩
   exact hy.semi (s:=s) (ts:=ts)
  rcases(Ah L n f).1 _ _ g _ _ a1 e1 e2 with hde|hs
  ·exact inl (hde.semi (s:=s) (ts:=ts))
  have hal:=hs.al;dsimp only at hal;rcases hal.semi L hs.gap with hde|⟨b1,b2,b3,b4⟩
  ·exact inl hde
  right;have hw:=Gn ⟨(rf.ax s p).next,true,[],t⟩ rfl;refine⟨b1.same rfl rfl rfl rfl rfl,⟨⟨(aI ts (bg ts r)).2,none,some W⟩,?_,?_⟩,?_,?_,hw.1⟩
  ·show(g9 ts r4).defs++_=_;rw [b2,hs.defs,a3]
  ·rw [a6];exact .way hs.way
  ·show(g9 ts r4).nam=_;rw [b3,hs.nam];exact a5
  show(g9 ts r4).num=_;rw [b4,hs.num,a4,hw.2,fB]
 have e5:am ts r=5:=by omega
 rw [gn e6,au (by decide)]at h1;rw [au e6]at h2;unfold yY at h2;rw [aC e5]at h2;split at h1
 ·cases h1
 rename_i p4 l e1;split at h2
 ·cases h2
 rename_i r4 S e2;cases h1;cases h2
 refine⟨rfl,?_⟩;unfold rf.ja at e1;unfold gv at e2;split at e2
 ·cases e2
 rename_i r5 S5 e3;cases e2
 have hdead:De (rf.aJ s (rf.aJ s (rf.aA s (rf.ax s p) 110) rf.ku) rf.uG) (ar ts 29 (ar ts 26 (aI ts (bg ts r)).1).1).1->De p4 (ar ts 30 r5).1:=λ hde=>by
  obtain⟨y,y0,y1,y2⟩:=hde;have C:=bp ts y;exact⟨y,y0,(wU s f true [] _ _ (by omega) e1).trans y1,C.take (C.rangesLp n _ _ _ (C.oneRange y2) e3) (by decide)⟩
 have hend:De p4 (ar ts 30 r5).1->De (rf.aJ s p4 rf.fy) (eQ (ar ts 27 (ar ts 30 r5).1).1 ⟨(aI ts (bg ts r)).2,some (gC S5),none⟩):=λ hde=>hde.semi (s:=s) (ts:=ts)
 rcases hname with hde|⟨a1,a3,a4,a5,a6⟩
 ·exact inl (hend (hdead (hde.need (s:=s) (ts:=ts) rf.uG (k:=29) (by decide))))
 rw [v16]at e1 hdead;rcases a1.needS L (j:=3) (by decide) (by omega)with⟨k1,k2,k3⟩|hde
 ·rw [show ar ts 29 (ar ts 26 (aI ts (bg ts r)).1).1=(bg ts (ar ts 26 (aI ts (bg ts r)).1).1,bL ts (ar ts 26 (aI ts (bg ts r)).1).1)from k3]at e3;rcases DW L hL f (r0:=bg ts (ar ts 26 (aI ts (bg ts r)).1).1) (l:=[]) (S:=[]) k2 (by rw [show qr [] = -1 from rfl,bq (by decide)]) (λ a ha=>by cases ha) rfl (λ _ hx=>(by cases hx)) rfl rfl e1 (z:=(r5,S5)) e3 with hde|hs
  ·exact inl (hend hde)
  have hal:=hs.al;dsimp only at hal;rcases hal.semi L hs.gap with hde|⟨b1,b2,b3,b4⟩
  ·exact inl hde
  right;have hset:=hs.set;dsimp only at hset;have hn:j7 ⟨(rf.ax s p).next,false,l,rf.Nq⟩=qr l:=rfl;refine⟨b1.same rfl rfl rfl rfl rfl,⟨⟨(aI ts (bg ts r)).2,some (gC S5),none⟩,?_,?_⟩,?_,?_,λ a ha=>hs.at_ a ha⟩
  ·show(g9 ts (ar ts 30 r5).1).defs++_=_;rw [b2,hs.defs];show(ar ts 26 (aI ts (bg ts r)).1).1.defs++_=_;rw [a3]
  ·rw [a6,hset];exact .set hs.nets
  ·show(g9 ts (ar ts 30 r5).1).nam=_;rw [b3,hs.nam];exact a5
  show(g9 ts (ar ts 30 r5).1).num=_;rw [b4,hs.num,hn];show iA (ar ts 26 (aI ts (bg ts r)).1).1.num _=_;rw [a4]
 exact inl (hend (hdead hde))
end
namespace rf
theorem Lr(a b:Nat)(ha:a<4294967296)(hb:b<4294967296):bits .xor .i64 (a:Int) (b:Int)=((a ^^^ b:Nat):Int):=by
 have hx:a ^^^ b<2 ^ 32:=Nat.xor_lt_two_pow (by omega) (by omega)
 have h1:(BitVec.ofInt 64 (a:Int)).toNat=a:=by
  rw [BitVec.ofInt_natCast,BitVec.toNat_ofNat];exact Nat.mod_eq_of_lt (by omega)
 have h2:(BitVec.ofInt 64 (b:Int)).toNat=b:=by
  rw [BitVec.ofInt_natCast,BitVec.toNat_ofNat];exact Nat.mod_eq_of_lt (by omega)
 show IntKind.i64.wrap ((BitVec.ofInt 64 (a:Int) ^^^ BitVec.ofInt 64 (b:Int)).toNat:Int)=_;rw [BitVec.toNat_xor,h1,h2,IntKind.wrap_i64];omega
theorem Lq{a b:Int}(s:Nat)(a0:0<=a)(a1:a<=4294967295)(b0:0<=b)(b1:b<=4294967295):(bits .xor .i64 a b / 2 ^ s==0)=decide (a / 2 ^ s=b / 2 ^ s):=by
 obtain⟨x,rfl⟩:=Int.eq_ofNat_of_zero_le a0;obtain⟨y,rfl⟩:=Int.eq_ofNat_of_zero_le b0;rw [Lr x y (by omega) (by omega)];have e:∀ n:Nat,((n:Int) / 2 ^ s)=((n / 2 ^ s:Nat):Int):=λ n=>by rw [Int.natCast_ediv];simp
 rw [e,e,e,<-Nat.shiftRight_eq_div_pow,<-Nat.shiftRight_eq_div_pow,<-Nat.shiftRight_eq_div_pow,Nat.shiftRight_xor_distrib];generalize x >>> s=u;generalize y >>> s=v;rw [Bool.eq_iff_iff];simp only [beq_iff_eq,decide_eq_true_eq]
 constructor
 ·intro h;have h':u ^^^ v=0:=by omega
  have h2:u ^^^ (u ^^^ v)=v:=by rw [<-Nat.xor_assoc,Nat.xor_self,Nat.zero_xor]
  rw [<-h2,h',Nat.xor_zero]
 intro h;have h':u=v:=by omega
 rw [h',Nat.xor_self];rfl
theorem EK(x:Rg)(a l:Int)(hx:se x.addr x.len)(ha:se a l)(w:World) :
  Calls prog 194 #[.agg #[.int .i64 x.addr,.int .i64 x.len,.int .i64 x.lo,.int .i64 x.hi,.int .i64 x.loAt,.int .i64 x.hiAt],.agg #[.int .i64 a,.int .i64 l]] w λ e w'=>e=.returned (.bool (iB x a l))/\Below w.heap.size w w':=by
 obtain⟨xa,xl,xlo,xhi,xla,xha⟩:=x;obtain⟨h1,h2,h3,h4⟩:=hx;obtain⟨g1,g2,g3,g4⟩:=ha;dsimp only at h1 h2 h3 h4 ⊢
 have hset:iB ⟨xa,xl,xlo,xhi,xla,xha⟩ a l=(decide (xlo<=l)&&(decide (l<=xhi)&&(decide (xl<=l)&&decide (a / 2 ^ (32-xl).toNat=xa / 2 ^ (32-xl).toNat)))):=by
  show(decide (xlo<=l)&&(decide (l<=xhi)&&(decide (xl<=l)&&(bits .xor .i64 a xa / 2 ^ (32-xl).toNat==0))))=_;rw [Lq _ g1 g2 h1 h2]
 have b2:Below w.heap.size w ((w.alloc (.cells #[.int .i64 xa,.int .i64 xl,.int .i64 xlo,.int .i64 xhi,.int .i64 xla,.int .i64 xha] 233)).alloc (.cells #[.int .i64 a,.int .i64 l] 25)):=((aX _ _).alloc (aD _) _).alloc (by simp) _;have HB:=ae b2;clear b2;by_cases c:l<xlo\/xhi<l\/l<xl
 ·have HS:=ae (show iB ⟨xa,xl,xlo,xhi,xla,xha⟩ a l=false from by
   rw [hset];rcases c with c|c|c
   ·rw [gn (by omega:¬xlo<=l),Bool.false_and]
   ·rw [gn (by omega:¬l<=xhi),Bool.false_and,Bool.and_false]
   ·rw [gn (by omega:¬xl<=l),Bool.false_and,Bool.and_false,Bool.and_false])
  clear hset;rw [ab HS];go_enter func194,ntmps194;go_wp2_with fail
  all_goals
   go_ret;exact⟨rfl,ab HB⟩
 obtain⟨m,hm⟩:∃ m:Nat,32-xl=m:=⟨(32-xl).toNat,by omega⟩
 have hm32:m<=32:=by omega
 have c1:¬l<xlo:=λ h=>c (inl h)
 have c2:¬xhi<l:=λ h=>c (inr (inl h))
 have c3:¬l<xl:=λ h=>c (inr (inr h))
 have HS:=ae (show iB ⟨xa,xl,xlo,xhi,xla,xha⟩ a l=(a / (2 ^ m)==xa / (2 ^ m))from by
  rw [hset,jj (by omega:xlo<=l),jj (by omega:l<=xhi),jj (by omega:xl<=l),hm,Int.toNat_natCast];simp only [Bool.true_and];rw [Bool.eq_iff_iff];simp)
 have hp:(1:Int)<=2 ^ m:=by
  have:(0:Int)<2 ^ m:=Int.pow_pos (by decide);omega
 have hp2:(2:Int) ^ m<=4294967296:=by
  have h:(2:Nat) ^ m<=2 ^ 32:=Nat.pow_le_pow_right (by decide) hm32;have:((2 ^ m:Nat):Int)<=((2 ^ 32:Nat):Int):=by exact_mod_cast h
  simpa using this
 have hz:((2:Int) ^ m==0)=false:=by rw [beq_eq_false_iff_ne];omega
 have PW:=ae (wh m · hm32);obtain⟨P,hP⟩:∃ P,(2:Int) ^ m=P:=⟨_,rfl⟩
 rw [hP]at HS PW hp hp2 hz;clear hset c hP;rw [ab HS];go_enter func194,ntmps194;go_wp2_with fail;refine(ab PW _).mono ?_;rintro e w' ⟨rfl,rfl⟩;go_wp2_with fail;go_quiet ((fail))
 go_wp2_with fail;go_ret;exact⟨rfl,below_drewN (ab HB) _⟩
def Nr(w:World)(sb pb:Nat)(R:Rt)(pv mv:Value)(o:Option Bool)(e:Ending)(w':World):Prop:=∃(x:Bool) (ver:Int),e=.returned (.bool x)/\pQ w' sb pb R pv mv ver/\Fr (Sb sb) w (Sb sb) w'/\((o=some x/\ver=0)\/(o=none/\ver=3))
structure D8(R:Rt):Prop where
 path:R.path.length<=12
 marks:R.marks.length<=8
 rise:R.marks.Pairwise (· < ·)
 net:se R.addr R.len
def rD(P:Nat->Nat->World->Prop)(t:Tr)(m:aQ):Prop:=∀(w:World) (Q:Nat->Prop) (v:Value) (sb pb:Nat) (R:Rt) (pv mv:Value),Q sb->P sb pb w->aP w Q t v->D8 R->pQ w sb pb R pv mv 0 ->
 Calls prog 153 #[fX sb,v] w (Nr w sb pb R pv mv (m R))
theorem BV(l:List Int)(n:Int):decide (0<=gJ l n)=l.contains n:=by
 rw [Bool.eq_iff_iff,decide_eq_true_eq];by_cases h:n∈l
 ·exact⟨λ _=>by simpa using h,λ _=>vU h⟩
 rw [qg h];exact⟨λ h'=>by omega,λ h'=>absurd (by simpa using h') h⟩
theorem Bf(P:Nat->Nat->World->Prop)(n a:Int):rD P (.mk eo nB n a []) (jx n):=by
 intro w Q v sb pb R pv mv hQ _ ht _ hs;obtain⟨op,hop⟩:∃ op,eo=op:=⟨_,rfl⟩
 have e0:(op.toList==[105,110])=false:=by rw [<-hop];decide +kernel
 have e1:(op.toList==[108,105,107,101])=false:=by rw [<-hop];decide +kernel
 have e2:(op.toList==[109,97,114,107,101,100])=true:=by rw [<-hop];decide +kernel
 rw [hop]at ht;rw [aP]at ht;obtain⟨kv,xs,rfl,_,_,_⟩:=ht;have hA:Below w.heap.size w (w.alloc (.cells (aj op nB n a kv) 115)):=(aX _ _).alloc (aD _) _;have H1:=ae (hs.below hA);have MK:=ae (gK (hs.below hA) n);have HF:=ae (show Fr (Sb sb) w (Sb sb) _ from dL hA);have AA:=ae (show jx n R=some (decide (0<=gJ R.marks n))from by unfold jx;rw [BV]);clear hs hA hop hQ;generalize gJ R.marks n=q at *;go_enter func153,ntmps153;go_wp2_with fail;refine(ab MK).mono ?_;rintro e w1 ⟨rfl,rfl⟩;go_wp2_with fail;go_ret;exact⟨decide (0<=q),0,rfl,ab H1,ab HF,inl ⟨ab AA,rfl⟩⟩
theorem Dq(P:Nat->Nat->World->Prop){x y:Tr}{a b:bh}(IA:ss x a)(IB:ss y b)(op:ByteArray)(eq:Bool)(f:Int->Int->Bool)(hop:(op=ku/\eq=true/\f=λ x y=>decide (x=y))\/(op=jo/\eq=false/\f=λ x y=>decide (x<y))):rD P (.mk op nB 0 0 [x,y]) (rI f a b):=by
 intro w Q v sb pb R pv mv hQ _ ht _ hs;have e0:(op.toList==[105,110])=false:=by rcases hop with⟨rfl,_⟩|⟨rfl,_⟩<;>decide +kernel
 have e1:(op.toList==[108,105,107,101])=false:=by rcases hop with⟨rfl,_⟩|⟨rfl,_⟩<;>decide +kernel
 have e2:(op.toList==[109,97,114,107,101,100])=false:=by rcases hop with⟨rfl,_⟩|⟨rfl,_⟩<;>decide +kernel
 have e3:(op.toList==[61])=eq:=by rcases hop with⟨rfl,rfl,_⟩|⟨rfl,rfl,_⟩<;>decide +kernel
 have e4:(op.toList==[60])=!eq:=by rcases hop with⟨rfl,rfl,_⟩|⟨rfl,rfl,_⟩<;>decide +kernel
 have hf:∀ p q,f p q=if eq=true then(p==q)else decide (p<q):=λ p q=>by
  rcases hop with⟨_,rfl,rfl⟩|⟨_,rfl,rfl⟩
  ·rw [aC rfl,Bool.eq_iff_iff];simp
  rw [au (by decide)]
 obtain⟨kv,g,rfl,hk⟩:=ht.kids (by simp);obtain⟨cap,hkv⟩:=hk.sl;obtain rfl:kv=.slice (some ⟨g,0,none⟩) 2 cap:=by simpa using hkv
 have lsb:=ai hs.blk;have hA:Below w.heap.size w (w.alloc (.cells (aj op nB 0 0 (.slice (some ⟨g,0,none⟩) 2 cap)) 115)):=(aX _ _).alloc (aD _) _;have q0:(w.alloc (.cells (aj op nB 0 0 (.slice (some ⟨g,0,none⟩) 2 cap)) 115)).heap[w.heap.size]?=some (.cells (aj op nB 0 0 (.slice (some ⟨g,0,none⟩) 2 cap)) 115 (0,0)):=cN _ _;have hk1:=hk.fr hQ (dL hA);have hs1:=hs.below hA;obtain⟨WA,hWA⟩:∃ WA,w.alloc (.cells (aj op nB 0 0 (.slice (some ⟨g,0,none⟩) 2 cap)) 115)=WA:=⟨_,rfl⟩
 have GA:=ae hWA;rw [hWA]at q0 hk1 hs1 hA;have HA:=ae hA;obtain⟨p0,p1,p2,p3,p4,c0,c1,c2,c3,c4,t0⟩:=hk1.at_ 0 (by simp);have k0:WA.cell? ⟨w.heap.size,0,none⟩=some (.string op):=af q0;have k4:WA.cell? ⟨w.heap.size,4,none⟩=some (.slice (some ⟨g,0,none⟩) 2 cap):=af q0;have HK:=ae hk1;have HS:=ae hs1;have T0:=ae t0;have HQ:=ae hQ;have Q0:=ae q0;have DA:=ae IA;have EA:=ae IB;have CA:=ae hf;have lA:w.heap.size<WA.heap.size:=ai q0;have lg:=hk1.lt;simp only [Nat.zero_mul,Nat.zero_add]at c0 c1 c2 c3 c4;clear hk hk1 hs hs1 hA ht t0 q0 hQ IA IB hop hWA hkv hf;cases eq
 all_goals
  simp only [Bool.not_true,Bool.not_false]at e4;go_enter func153,ntmps153;go_upto_region 1 with fail
  rw [ab GA];go_wp2_with fail;refine(ab DA _ _ _ _ _ _ _ _ (inl (ab HQ)) (ab T0) (ab HS)).mono ?_;rintro e w1 ⟨x1,v1,rfl,hs1,hf1,hm1⟩;have c7:w1.cell? ⟨sb,7,none⟩=some (.int .i64 v1):=af hs1.blk;have l1:sb<w1.heap.size:=ai hs1.blk;have BA:=ae hs1;have F1:=ae ((dL (ab HA)).trans hf1);have hk1:=(ab HK).fr (inl (ab HQ)) hf1;have q1:w1.heap[w.heap.size]?=_:=(hf1.block w.heap.size lA (by omega)).trans (ab Q0);obtain⟨r0,r1,r2,r3,r4,d0,d1,d2,d3,d4,t1⟩:=hk1.at_ 1 (by simp);have n4:w1.cell? ⟨w.heap.size,4,none⟩=some (.slice (some ⟨g,0,none⟩) 2 cap):=af q1;have T1:=ae t1;have Q1:=ae q1;have lg1:=hk1.lt;have lw1:w.heap.size<w1.heap.size:=ai q1;simp only [Nat.one_mul]at d0 d1 d2 d3 d4;clear hs1 hf1 hk1 q1 t1 c0 c1 c2 c3 c4 k0 k4 HK;rcases hm1 with⟨hm1,rfl⟩|⟨hm1,rfl⟩
  ·go_wp2_with fail;refine(ab EA _ _ _ _ _ _ _ _ (inl (inl (ab HQ))) (ab T1) (ab BA)).mono ?_;rintro e w2 ⟨x2,v2,rfl,hs2,hf2,hm2⟩;have q2:w2.heap[w.heap.size]?=_:=(hf2.block w.heap.size lw1 (by omega)).trans (ab Q1);have o0:w2.cell? ⟨w.heap.size,0,none⟩=some (.string op):=af q2;have lw2:w.heap.size<w2.heap.size:=ai q2;have FA:=ae hs2;have F2:=ae ((ab F1).trans hf2)
   have AA:=ae (show(rI f a b R=some (f x1 x2)/\v2=0)\/(rI f a b R=none/\v2=3)from by
    rcases hm2 with⟨h2,h3⟩|⟨h2,h3⟩
    ·exact inl ⟨by simp only [rI,hm1,h2],h3⟩
    ·exact inr ⟨by simp only [rI,hm1,h2],h3⟩)
   rw [ab CA]at AA;clear hs2 hf2 q2 n4 d0 d1 d2 d3 d4 c7 hm2 hm1
   first
    | (cases hb:(x1==x2)<;>rw [hb]at AA)
    | skip
   all_goals
    go_wp2_with fail
    all_goals
     go_ret;exact⟨_,v2,rfl,ab FA,ab F2,by simpa only [if_true,if_false,Bool.false_eq_true]using ab AA⟩
  go_wp2_with fail;go_ret;exact⟨false,3,rfl,ab BA,ab F1,inr ⟨by simp only [rI,hm1],rfl⟩⟩
theorem J7{P:Nat->Nat->World->Prop}(hP:∀ sb pb w w',P sb pb w->Fr (Sb sb) w (Sb sb) w'->P sb pb w'){x:Tr}{a:aQ}(IA:rD P x a)(op:ByteArray)(hop:op=l8):rD P (.mk op nB 0 0 [x]) (tK a):=by
 intro w Q v sb pb R pv mv hQ hp0 ht hR0 hs;have DA:=ae hR0;clear hR0;have e0:(op.toList==[105,110])=false:=by rw [hop];decide +kernel
 have e1:(op.toList==[108,105,107,101])=false:=by rw [hop];decide +kernel
 have e2:(op.toList==[109,97,114,107,101,100])=false:=by rw [hop];decide +kernel
 have e3:(op.toList==[61])=false:=by rw [hop];decide +kernel
 have e4:(op.toList==[60])=false:=by rw [hop];decide +kernel
 have e5:(op.toList==[97,110,100])=false:=by rw [hop];decide +kernel
 have e6:(op.toList==[111,114])=false:=by rw [hop];decide +kernel
 have e7:(op.toList==[110,111,116])=true:=by rw [hop];decide +kernel
 obtain⟨kv,g,rfl,hk⟩:=ht.kids (by simp);obtain⟨cap,hkv⟩:=hk.sl;obtain rfl:kv=.slice (some ⟨g,0,none⟩) 1 cap:=by simpa using hkv
 have lsb:=ai hs.blk;have hA:Below w.heap.size w (w.alloc (.cells (aj op nB 0 0 (.slice (some ⟨g,0,none⟩) 1 cap)) 115)):=(aX _ _).alloc (aD _) _;have q0:(w.alloc (.cells (aj op nB 0 0 (.slice (some ⟨g,0,none⟩) 1 cap)) 115)).heap[w.heap.size]?=some (.cells (aj op nB 0 0 (.slice (some ⟨g,0,none⟩) 1 cap)) 115 (0,0)):=cN _ _;have hk1:=hk.fr hQ (dL hA);have hs1:=hs.below hA;have hp1:=hP _ _ _ _ hp0 (dL hA);obtain⟨WA,hWA⟩:∃ WA,w.alloc (.cells (aj op nB 0 0 (.slice (some ⟨g,0,none⟩) 1 cap)) 115)=WA:=⟨_,rfl⟩
 have EA:=ae hWA;rw [hWA]at q0 hk1 hs1 hA hp1;have HA:=ae hA;obtain⟨p0,p1,p2,p3,p4,c0,c1,c2,c3,c4,t0⟩:=hk1.at_ 0 (by simp);have k0:WA.cell? ⟨w.heap.size,0,none⟩=some (.string op):=af q0;have k4:WA.cell? ⟨w.heap.size,4,none⟩=some (.slice (some ⟨g,0,none⟩) 1 cap):=af q0;have HK:=ae hk1;have FA:=ae hp1;have AA:=ae (IA _ _ _ _ _ _ _ _ (inl hQ) hp1 t0 (ab DA) hs1);have HQ:=ae hQ;have Q0:=ae q0;have lA:w.heap.size<WA.heap.size:=ai q0;have lg:=hk1.lt;simp only [Nat.zero_mul,Nat.zero_add]at c0 c1 c2 c3 c4;clear hk hk1 hs hs1 hA ht t0 q0 hQ IA hop hWA hkv hp0 hp1;go_enter func153,ntmps153;go_upto_region 1 with fail
 rw [ab EA];go_wp2_with fail;refine(ab AA).mono ?_;rintro e w1 ⟨x1,v1,rfl,hs1,hf1,hm1⟩;have c7:w1.cell? ⟨sb,7,none⟩=some (.int .i64 v1):=af hs1.blk;have l1:sb<w1.heap.size:=ai hs1.blk;have CA:=ae hs1;have F1:=ae ((dL (ab HA)).trans hf1);have q1:w1.heap[w.heap.size]?=_:=(hf1.block w.heap.size lA (by omega)).trans (ab Q0);have n0:w1.cell? ⟨w.heap.size,0,none⟩=some (.string op):=af q1;have lw1:w.heap.size<w1.heap.size:=ai q1;clear hs1 hf1 q1 c0 c1 c2 c3 c4 k0 k4 HK;rcases hm1 with⟨hm1,rfl⟩|⟨hm1,rfl⟩
 ·have BA:=ae (show tK a R=some (!x1)from by unfold tK;rw [hm1];rfl);clear hm1;cases x1
  all_goals
   go_wp2_with fail;go_ret;exact⟨_,0,rfl,ab CA,ab F1,inl ⟨ab BA,rfl⟩⟩
 have BA:=ae (show tK a R=none from by unfold tK;rw [hm1];rfl);clear hm1;cases x1
 all_goals
  go_wp2_with fail;go_ret;exact⟨_,3,rfl,ab CA,ab F1,inr ⟨ab BA,rfl⟩⟩
theorem Dp{P:Nat->Nat->World->Prop}(hP:∀ sb pb w w',P sb pb w->Fr (Sb sb) w (Sb sb) w'->P sb pb w'){x y:Tr}{a b m:aQ}(IA:rD P x a)(IB:rD P y b)(op:ByteArray)(an:Bool)(hop:(op=ye/\an=true/\m=pZ a b)\/(op=Lo/\an=false/\m=Fh a b)):rD P (.mk op nB 0 0 [x,y]) m:=by
 intro w Q v sb pb R pv mv hQ hp0 ht hR0 hs;have DA:=ae hR0;clear hR0;have e0:(op.toList==[105,110])=false:=by rcases hop with⟨rfl,_⟩|⟨rfl,_⟩<;>decide +kernel
 have e1:(op.toList==[108,105,107,101])=false:=by rcases hop with⟨rfl,_⟩|⟨rfl,_⟩<;>decide +kernel
 have e2:(op.toList==[109,97,114,107,101,100])=false:=by rcases hop with⟨rfl,_⟩|⟨rfl,_⟩<;>decide +kernel
 have e3:(op.toList==[61])=false:=by rcases hop with⟨rfl,_⟩|⟨rfl,_⟩<;>decide +kernel
 have e4:(op.toList==[60])=false:=by rcases hop with⟨rfl,_⟩|⟨rfl,_⟩<;>decide +kernel
 have e5:(op.toList==[97,110,100])=an:=by rcases hop with⟨rfl,rfl,_⟩|⟨rfl,rfl,_⟩<;>decide +kernel
 have e6:(op.toList==[111,114])=!an:=by rcases hop with⟨rfl,rfl,_⟩|⟨rfl,rfl,_⟩<;>decide +kernel
 have e7:(op.toList==[110,111,116])=false:=by rcases hop with⟨rfl,_⟩|⟨rfl,_⟩<;>decide +kernel
 have hm:m R=(match a R with|none=>none|some z=>if z=an then b R else some z):=by
  rcases hop with⟨_,rfl,rfl⟩|⟨_,rfl,rfl⟩
  ·unfold pZ;cases a R with
   | none=>rfl
   | some z=>cases z<;>rfl
  unfold Fh;cases a R with
  | none=>rfl
  | some z=>cases z<;>rfl
 obtain⟨kv,g,rfl,hk⟩:=ht.kids (by simp);obtain⟨cap,hkv⟩:=hk.sl;obtain rfl:kv=.slice (some ⟨g,0,none⟩) 2 cap:=by simpa using hkv
 have lsb:=ai hs.blk;have hA:Below w.heap.size w (w.alloc (.cells (aj op nB 0 0 (.slice (some ⟨g,0,none⟩) 2 cap)) 115)):=(aX _ _).alloc (aD _) _;have q0:(w.alloc (.cells (aj op nB 0 0 (.slice (some ⟨g,0,none⟩) 2 cap)) 115)).heap[w.heap.size]?=some (.cells (aj op nB 0 0 (.slice (some ⟨g,0,none⟩) 2 cap)) 115 (0,0)):=cN _ _;have hk1:=hk.fr hQ (dL hA);have hs1:=hs.below hA;have hp1:=hP _ _ _ _ hp0 (dL hA);obtain⟨WA,hWA⟩:∃ WA,w.alloc (.cells (aj op nB 0 0 (.slice (some ⟨g,0,none⟩) 2 cap)) 115)=WA:=⟨_,rfl⟩
 have KA:=ae hWA;rw [hWA]at q0 hk1 hs1 hA hp1;have HA:=ae hA;obtain⟨p0,p1,p2,p3,p4,c0,c1,c2,c3,c4,t0⟩:=hk1.at_ 0 (by simp);have k0:WA.cell? ⟨w.heap.size,0,none⟩=some (.string op):=af q0;have k4:WA.cell? ⟨w.heap.size,4,none⟩=some (.slice (some ⟨g,0,none⟩) 2 cap):=af q0;have HK:=ae hk1;have GA:=ae hp1;have BA:=ae (IA _ _ _ _ _ _ _ _ (inl hQ) hp1 t0 (ab DA) hs1);have HQ:=ae hQ;have Q0:=ae q0;have lA:w.heap.size<WA.heap.size:=ai q0;have lg:=hk1.lt;simp only [Nat.zero_mul,Nat.zero_add]at c0 c1 c2 c3 c4;have HM:=ae hm;have EA:=ae IB;clear hk hk1 hs hs1 hA ht t0 q0 hQ IA IB hop hWA hkv hp0 hp1 hm;go_enter func153,ntmps153;go_upto_region 1 with fail
 rw [ab KA];go_wp2_with fail;refine(ab BA).mono ?_;rintro e w1 ⟨x1,v1,rfl,hs1,hf1,hm1⟩;have c7:w1.cell? ⟨sb,7,none⟩=some (.int .i64 v1):=af hs1.blk;have l1:sb<w1.heap.size:=ai hs1.blk;have CA:=ae hs1;have F1:=ae ((dL (ab HA)).trans hf1);have hk1:=(ab HK).fr (inl (ab HQ)) hf1;have q1:w1.heap[w.heap.size]?=_:=(hf1.block w.heap.size lA (by omega)).trans (ab Q0);obtain⟨r0,r1,r2,r3,r4,d0,d1,d2,d3,d4,t1⟩:=hk1.at_ 1 (by simp);have n0:w1.cell? ⟨w.heap.size,0,none⟩=some (.string op):=af q1;have n4:w1.cell? ⟨w.heap.size,4,none⟩=some (.slice (some ⟨g,0,none⟩) 2 cap):=af q1;have T1:=ae t1;have LA:=ae (hP _ _ _ _ (ab GA) hf1);have lg1:=hk1.lt;have lw1:w.heap.size<w1.heap.size:=ai q1;simp only [Nat.one_mul]at d0 d1 d2 d3 d4;clear hs1 hf1 hk1 q1 t1 c0 c1 c2 c3 c4 k0 k4 HK;rcases hm1 with⟨hm1,rfl⟩|⟨hm1,rfl⟩
 ·by_cases hz:x1=an
  ·have AA:=ae (show m R=b R from by rw [ab HM,hm1];simp [hz]);subst hz;clear hm1 HM;cases x1
   all_goals
    simp only [Bool.not_true,Bool.not_false]at e6;go_wp2_with fail;refine(ab EA _ _ _ _ _ _ _ _ (inl (inl (ab HQ))) (ab LA) (ab T1) (ab DA) (ab CA)).mono ?_;rintro e w2 ⟨x2,v2,rfl,hs2,hf2,hm2⟩;have JA:=ae hs2;have F2:=ae ((ab F1).trans hf2);have FA:=ae hm2;clear hs2 hf2 hm2 d0 d1 d2 d3 d4 n0 n4 c7;go_wp2_with fail;go_ret;exact⟨x2,v2,rfl,ab JA,ab F2,by rw [ab AA];exact ab FA⟩
  have AA:=ae (show m R=some x1 from by rw [ab HM,hm1];simp [hz]);clear hm1 HM;cases an
  all_goals
   cases x1
   all_goals first
    | exact absurd rfl hz
    | (simp only [Bool.not_true,Bool.not_false]at e6;go_wp2_with fail;go_ret;exact⟨_,0,rfl,ab CA,ab F1,inl ⟨ab AA,rfl⟩⟩)
 have AA:=ae (show m R=none from by rw [ab HM,hm1]);clear hm1 HM;cases x1
 all_goals
  cases an
  all_goals
   simp only [Bool.not_true,Bool.not_false]at e6;go_wp2_with fail;go_ret;exact⟨_,3,rfl,ab CA,ab F1,inr ⟨ab AA,rfl⟩⟩
