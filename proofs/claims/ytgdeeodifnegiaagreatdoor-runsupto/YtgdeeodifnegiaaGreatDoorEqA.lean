/- part -/
import Derived.Test.YtgdeeodifnegiaaGreatDoorPrtD
namespace Go.Proofs.YtgdeeodifnegiaaGreatDoor
open Go.Proofs.Tryz
open Or
open Go.RowKit
def oq(j:Nat):ByteArray:=⟨#[UInt8.ofNat (sg j).toNat]⟩
structure GH(t:kA)(u:aw):Prop where
 at_:u.at_=(t.at_:Int)
 how:(t.kind=46/\u.kind=1)\/(t.kind=33/\u.kind=0)\/(t.kind=110/\u.kind=4/\u.text=t.text)\/(t.kind=48/\u.kind=2/\u.text=t.text/\u.number=bf t.text 4294967295/\0<=bf t.text 4294967295) \/
  (t.kind=47/\u.kind=3/\u.text=t.text/\(aV t.text).1=u.addr/\(aV t.text).2.1=u.len/\(aV t.text).2.2=true) \/
  (t.kind=107/\∃ j:Nat,j<21/\u.kind=5+(j:Int)/\t.text=wd j/\u.text=t.text)\/(t.kind=115/\∃ j:Nat,j<16/\u.kind=26+(j:Int)/\t.text=oq j/\u.text=t.text)
def qM(s:ByteArray):Nat->kA×Nat
 | 0=>fG s 0
 | k+1=>fG s (qM s k).2
structure Lx(s:ByteArray)(ts:List aw):Prop where
 rel:∀ k (h:k<ts.length),GH (qM s k).1 ts[k]
 more:∀ k (h:k<ts.length),2<=ts[k].kind->k+1<ts.length
def vS(t:kA):Bool:=(t.kind==115)&&((t.text.toList==[59])||(t.text.toList==[44]))
def Cf(q:List UInt8×Bool)(x:kA×Bool):List UInt8×Bool :=
 (q.1++(if !q.2&&!vS x.1 then [32]else [])++x.1.text.data.toList++(if x.2 then [10]else []),x.2)
def qp(l:List (kA×Bool)):List UInt8×Bool:=l.foldl Cf ([],true)
theorem kN(l:List (kA×Bool))(x:kA×Bool):qp (l++[x])=Cf (qp l) x:=by simp [qp]
structure Nz(p:rf.PS)(r:RS):Prop where
 ex:∃ l:List (kA×Bool),p.taken=l.map (·.1)/\p.lines=l.map (·.2)/\(qp l).1=r.page++(if(qp l).2 then r.gap.data.toList else [])/\((l=[]/\r.gap=⟨#[]⟩)\/(l≠[]/\r.gap=if(qp l).2 then qc else fH))
theorem Dy:qc≠fH:=by decide
structure Al(s:ByteArray)(ts:List aw)(p:rf.PS)(r:RS):Prop where
 bad:p.bad<0
 syn:r.syn=none
 lt:r.next<ts.length
 next:p.next=(qM s r.next).1
 i:p.i=(qM s r.next).2
 opn:p.opn=r.depth
 pg:Nz p r
def De(p:rf.PS)(r:RS):Prop:=∃ a:Int,0<=a/\p.bad=a/\r.syn=some a
section
variable {s:ByteArray} {ts:List aw} {p:rf.PS} {r:RS}
theorem Al.tk(h:Al s ts p r):bL ts r=ts[r.next]'h.lt:=by unfold bL;rw [iK h.lt];rfl
theorem Al.kd(h:Al s ts p r):am ts r=(bL ts r).kind:=by unfold am;rw [h.syn];rfl
theorem Al.rel(L:Lx s ts)(h:Al s ts p r):GH p.next (bL ts r):=by rw [h.tk,h.next];exact L.rel _ h.lt
theorem Ni:∀ j,j<21->∀ k,k<21->((wd j).toList==(wd k).toList)=decide (j=k):=by decide +kernel
theorem Nc:∀ j,j<16->∀ k,k<16->((oq j).toList==(oq k).toList)=decide (j=k):=by decide +kernel
theorem LS:∀ j,j<21->∀ k,k<16->((wd j).toList==(oq k).toList)=false/\((oq k).toList==(wd j).toList)=false:=by decide +kernel
theorem Al.word(L:Lx s ts)(h:Al s ts p r){j:Nat}(hj:j<21):rf.aT p (wd j)=decide (am ts r=5+(j:Int)):=by
 have hr:=(h.rel L).how;unfold rf.aT;rw [jj h.bad,h.kd];rcases hr with⟨a,b⟩|⟨a,b⟩|⟨a,b,_⟩|⟨a,b,_⟩|⟨a,b,_⟩|⟨a,k,hk,b,c,_⟩|⟨a,k,hk,b,c,_⟩
 ·rw [a,b,gn (by omega)];rfl
 ·rw [a,b,gn (by omega)];rfl
 ·rw [a,b,gn (by omega)];rfl
 ·rw [a,b,gn (by omega)];rfl
 ·rw [a,b,gn (by omega)];rfl
 ·rw [a,b,c,Ni k hk j hj];show decide (k=j)=_;exact decide_eq_decide.2 (by omega)
 rw [a,b,c,(LS j hj k hk).2,gn (by omega)];rfl
theorem Al.sign(L:Lx s ts)(h:Al s ts p r){j:Nat}(hj:j<16):rf.aT p (oq j)=decide (am ts r=26+(j:Int)):=by
 have hr:=(h.rel L).how;unfold rf.aT;rw [jj h.bad,h.kd];rcases hr with⟨a,b⟩|⟨a,b⟩|⟨a,b,_⟩|⟨a,b,_⟩|⟨a,b,_⟩|⟨a,k,hk,b,c,_⟩|⟨a,k,hk,b,c,_⟩
 ·rw [a,b,gn (by omega)];rfl
 ·rw [a,b,gn (by omega)];rfl
 ·rw [a,b,gn (by omega)];rfl
 ·rw [a,b,gn (by omega)];rfl
 ·rw [a,b,gn (by omega)];rfl
 ·rw [a,b,c,(LS k hk j hj).1,gn (by omega)];rfl
 rw [a,b,c,Nc k hk j hj];show decide (k=j)=_;exact decide_eq_decide.2 (by omega)
theorem Al.kinds(L:Lx s ts)(h:Al s ts p r):(p.next.kind=48↔am ts r=2)/\(p.next.kind=110↔am ts r=4)/\(p.next.kind=47↔am ts r=3)/\(p.next.kind=46↔am ts r=1)/\(p.next.kind=33↔am ts r=0)/\0<=am ts r:=by
 have hr:=(h.rel L).how;rw [h.kd];rcases hr with⟨a,b⟩|⟨a,b⟩|⟨a,b,_⟩|⟨a,b,_⟩|⟨a,b,_⟩|⟨a,k,hk,b,c,_⟩|⟨a,k,hk,b,c,_⟩<;>omega
theorem Al.text(L:Lx s ts)(h:Al s ts p r)(hk:2<=am ts r):(bL ts r).text=p.next.text:=by
 have hr:=(h.rel L).how;rw [h.kd]at hk;rcases hr with⟨a,b⟩|⟨a,b⟩|⟨a,b,c⟩|⟨a,b,c,_⟩|⟨a,b,c,_⟩|⟨a,k,_,b,_,c⟩|⟨a,k,_,b,_,c⟩
 ·omega
 ·omega
 all_goals exact c
theorem Al.number(L:Lx s ts)(h:Al s ts p r)(hk:am ts r=2):(bL ts r).number=bf p.next.text 4294967295/\0<=bf p.next.text 4294967295:=by
 have hr:=(h.rel L).how;rw [h.kd]at hk;rcases hr with⟨a,b⟩|⟨a,b⟩|⟨a,b,c⟩|⟨a,b,c,d⟩|⟨a,b,c,_⟩|⟨a,k,_,b,_,c⟩|⟨a,k,_,b,_,c⟩<;>first|omega|exact d
theorem Al.pfx(L:Lx s ts)(h:Al s ts p r)(hk:am ts r=3):(aV p.next.text).1=(bL ts r).addr/\(aV p.next.text).2.1=(bL ts r).len/\(aV p.next.text).2.2=true:=by
 have hr:=(h.rel L).how;rw [h.kd]at hk;rcases hr with⟨a,b⟩|⟨a,b⟩|⟨a,b,c⟩|⟨a,b,c,d⟩|⟨a,b,c,d⟩|⟨a,k,_,b,_,c⟩|⟨a,k,_,b,_,c⟩<;>first|omega|exact d
theorem Al.wtext(L:Lx s ts)(h:Al s ts p r){j:Nat}(hj:j<21)(hk:am ts r=5+(j:Int)):p.next.text=wd j:=by
 have hr:=(h.rel L).how;rw [h.kd]at hk;rcases hr with⟨a,b⟩|⟨a,b⟩|⟨a,b,c⟩|⟨a,b,c,d⟩|⟨a,b,c,d⟩|⟨a,k,hk2,b,e,c⟩|⟨a,k,hk2,b,e,c⟩
 all_goals first|omega|(have hkj:k=j:=(by omega);subst hkj;exact e)
theorem Al.stext(L:Lx s ts)(h:Al s ts p r){j:Nat}(hj:j<16)(hk:am ts r=26+(j:Int)):p.next.kind=115/\p.next.text=oq j:=by
 have hr:=(h.rel L).how;rw [h.kd]at hk;rcases hr with⟨a,b⟩|⟨a,b⟩|⟨a,b,c⟩|⟨a,b,c,d⟩|⟨a,b,c,d⟩|⟨a,k,hk2,b,e,c⟩|⟨a,k,hk2,b,e,c⟩
 all_goals first|omega|(have hkj:k=j:=(by omega);subst hkj;exact⟨a,e⟩)
theorem Al.at_(L:Lx s ts)(h:Al s ts p r):(bL ts r).at_=(p.next.at_:Int):=(h.rel L).at_
theorem Al.glue(L:Lx s ts)(h:Al s ts p r):(vS p.next=true↔(am ts r=27\/am ts r=28))/\(rf.gd p.next=true↔am ts r=27):=by
 have hr:=(h.rel L).how;have sg59:∀ j,j<16->((oq j).toList==[59])=decide (j=1)/\((oq j).toList==[44])=decide (j=2):=by decide +kernel
 rw [h.kd];unfold vS rf.gd;rcases hr with⟨a,b⟩|⟨a,b⟩|⟨a,b,c⟩|⟨a,b,c,d⟩|⟨a,b,c,d⟩|⟨a,k,hk2,b,e,c⟩|⟨a,k,hk2,b,e,c⟩
 all_goals first
  | (rw [a,b];simp;done)
  | (rw [a,b];simp;omega)
  | (rw [a,b,e,(sg59 k hk2).1,(sg59 k hk2).2];simp;omega)
theorem Al.fail(L:Lx s ts)(h:Al s ts p r):De (rf.aY p) (cC ts r):=by
 refine⟨(p.next.at_:Int),Int.natCast_nonneg _,?_,?_⟩
 ·unfold rf.aY;rw [aC h.bad]
 unfold cC;rw [h.syn,h.at_ L];rfl
theorem Al.go(L:Lx s ts)(h:Al s ts p r)(hk:2<=am ts r)(hg:am ts r=27\/am ts r=28->r.gap=fH):Al s ts (rf.ax s p) (bg ts r):=by
 obtain⟨_,_,_,k46,k33,_⟩:=h.kinds L
 have e:rf.ax s p=rf.ux s p:=by
  unfold rf.ax;rw [au (by intro hx;rcases hx with hx|hx;exact absurd (k33.1 hx) (by omega);exact absurd (k46.1 hx) (by omega)),aC h.bad]
 have hl:=L.more r.next h.lt (by have:=h.kd;rw [h.tk]at this;omega);rw [e];refine⟨h.bad,h.syn,hl,?_,?_,h.opn,?_⟩
 ·show(fG s p.i).1=_;rw [h.i];rfl
 ·show(fG s p.i).2=_;rw [h.i];rfl
 obtain⟨l,h1,h2,h3,h4⟩:=h.pg.ex;obtain⟨g1,g2⟩:=h.glue L;have tx:=h.text L hk;have kk:=h.kd;refine⟨l++[(p.next,rf.gd p.next)],?_,?_,?_,inr ⟨by simp,?_⟩⟩
 ·show p.taken++[p.next]=_;rw [h1];simp
 ·show p.lines++[rf.gd p.next]=_;rw [h2];simp
 ·rw [kN]
  show(qp l).1++(if(!(qp l).2&&!vS p.next)=true then [32]else [])++p.next.text.data.toList++(if rf.gd p.next=true then [10]else []) =
   (if(bL ts r).kind=27\/(bL ts r).kind=28 then r.page++(bL ts r).text.data.toList else(r.page++r.gap.data.toList)++(bL ts r).text.data.toList)++(if rf.gd p.next=true then(if(bL ts r).kind=27 then qc else fH:ByteArray).data.toList else [])
  rw [<-kk,tx]
  have hsemi:(if rf.gd p.next=true then [10]else []:List UInt8)=(if rf.gd p.next=true then(if am ts r=27 then qc else fH:ByteArray).data.toList else []):=by
   by_cases e27:am ts r=27
   ·rw [aC (g2.2 e27),aC (g2.2 e27),aC e27];rfl
   rw [au (λ x=>e27 (g2.1 x)),au (λ x=>e27 (g2.1 x))]
  rw [<-hsemi]
  congr 1
  by_cases hgl:am ts r=27\/am ts r=28
  ·have hgap:=hg hgl
   have hb:(qp l).2=false:=by
    rcases h4 with⟨_,h4⟩|⟨_,h4⟩
    ·rw [hgap]at h4;exact absurd h4 (by decide)
    cases hq:(qp l).2 with
    | false=>rfl
    | true=>rw [hq,hgap]at h4;exact absurd h4.symm Dy
   have hg1:=g1.2 hgl;rw [hb]at h3;rw [aC hgl,hg1,hb,h3];simp
  have hgf:vS p.next=false:=by
   cases hq:vS p.next with
   | false=>rfl
   | true=>exact absurd (g1.1 hq) hgl
  rw [au hgl,hgf]
  congr 1
  cases hq:(qp l).2 with
  | true=>rw [hq]at h3;simpa using h3
  | false =>
   rw [hq]at h3 h4;rcases h4 with⟨h4,_⟩|⟨_,h4⟩
   ·rw [h4]at hq;cases hq
   rw [h4];simp at h3;simp [h3,fH]
 rw [kN];show(if(bL ts r).kind=27 then qc else fH)=if rf.gd p.next=true then qc else fH;rw [<-kk];by_cases e27:am ts r=27
 ·rw [aC (g2.2 e27),aC e27]
 rw [au (λ x=>e27 (g2.1 x)),au e27]
theorem fm(hk:am ts r≠27)(h:Al s ts p r):(bg ts r).gap=fH:=by
 show(if(bL ts r).kind=27 then qc else fH)=fH;rw [<-h.kd,au hk]
theorem Al.dec(h:Al s ts p r):Al s ts (rf.p8 p) (nT r):=⟨h.bad,h.syn,h.lt,h.next,h.i,by show wrap64 (p.opn-1)=jW (r.depth-1);rw [h.opn],⟨h.pg.ex⟩⟩
theorem Al.line(h:Al s ts p r)(hg:r.gap=fH):Al s ts (rf.fw p) (eA r):=by
 refine⟨?_,h.syn,h.lt,?_,?_,?_,?_⟩
 ·unfold rf.fw;rw [aC h.bad];exact h.bad
 ·unfold rf.fw;rw [aC h.bad];exact h.next
 ·unfold rf.fw;rw [aC h.bad];exact h.i
 ·unfold rf.fw;rw [aC h.bad];exact h.opn
 obtain⟨l,h1,h2,h3,h4⟩:=h.pg.ex
 have hl:l≠[]:=by
  rcases h4 with⟨_,h4⟩|⟨h4,_⟩
  ·rw [hg]at h4;exact absurd h4 (by decide)
  exact h4
 obtain⟨l0,x,rfl⟩:∃ l0 x,l=l0++[x]:=⟨l.dropLast,l.getLast hl,(List.dropLast_concat_getLast hl).symm⟩
 have hb:(qp (l0++[x])).2=false:=by
  rcases h4 with⟨h4,_⟩|⟨_,h4⟩
  ·simp at h4
  cases hq:(qp (l0++[x])).2 with
  | false=>rfl
  | true=>rw [hq,hg]at h4;exact absurd h4.symm Dy
 rw [hb]at h3;have hx2:x.2=false:=by rw [kN]at hb;exact hb
 unfold rf.fw;rw [aC h.bad];refine⟨l0++[(x.1,true)],by rw [h1];simp,?_,?_,inr ⟨by simp,?_⟩⟩
 ·show p.lines.set (p.lines.length-1) true=_;rw [h2];simp
 ·rw [kN]at h3 ⊢;simp only [Cf,hx2]at h3 ⊢;simp at h3;simp [h3,eA,qc]
 rw [kN];rfl
theorem iU{p:rf.PS}(h:0<=p.bad):rf.aY p=p:=by unfold rf.aY;rw [au (by omega)]
theorem jG{p:rf.PS}(h:0<=p.bad):rf.ax s p=p:=by
 unfold rf.ax;split
 ·exact iU h
 rw [au (by omega)]
theorem bC{p:rf.PS}(h:0<=p.bad)(x:ByteArray):rf.aT p x=false:=by unfold rf.aT;rw [gn (by omega)];rfl
theorem dm{p:rf.PS}(h:0<=p.bad)(x:ByteArray):rf.aJ s p x=p:=by unfold rf.aJ;rw [bC h,au (by decide),iU h]
theorem ie{p:rf.PS}(h:0<=p.bad)(k:Int):rf.aA s p k=p:=by
 unfold rf.aA;split
 ·exact jG h
 exact iU h
theorem mh{p:rf.PS}(h:0<=p.bad):rf.fw p=p:=by unfold rf.fw;rw [au (by omega)]
theorem k9{p:rf.PS}(h:0<=p.bad):rf.fh p=false:=by unfold rf.fh;rw [gn (by omega)];rfl
theorem bp(ts:List aw)(a:Int):Cl ts (λ st=>st.syn=some a):=by
 refine⟨λ st k h e hk=>h,λ st h=>?_,λ _ h=>h,λ st st' h _ _ _ h4 _ _=>h4.trans h⟩;show iC st.syn _=_;rw [h];rfl
theorem De.need(h:De p r)(x:ByteArray){k:Int}(hk:2<=k):De (rf.aJ s p x) (ar ts k r).1:=by
 obtain⟨a,h0,h1,h2⟩:=h;exact⟨a,h0,by rw [dm (by omega)];exact h1,(bp ts a).take h2 hk⟩
theorem De.dec(h:De p r):De (rf.p8 p) (nT r):=h
theorem De.line(h:De p r):De (rf.fw p) (eA r):=by
 obtain⟨a,h0,h1,h2⟩:=h;exact⟨a,h0,by rw [mh (by omega)];exact h1,h2⟩
theorem De.kd(h:De p r):am ts r=0:=by
 obtain⟨a,h0,h1,h2⟩:=h;unfold am;rw [h2];rfl
theorem Al.take(L:Lx s ts)(h:Al s ts p r){k:Int}(hk:2<=k)(hg:k=27\/k=28->r.gap=fH){q:rf.PS}(hy:am ts r=k->q=rf.ax s p)(hn:am ts r≠k->q=rf.aY p) :
  (am ts r=k/\Al s ts q (bg ts r)/\ar ts k r=(bg ts r,bL ts r))\/(De q (ar ts k r).1):=by
 by_cases e:am ts r=k
 ·left;refine⟨e,?_,?_⟩
  ·rw [hy e];exact h.go L (by omega) (by rw [e];exact hg)
  unfold ar;rw [aC e]
 right;rw [hn e];unfold ar;rw [au e];exact h.fail L
theorem Al.needW(L:Lx s ts)(h:Al s ts p r){j:Nat}(hj:j<21):(am ts r=5+(j:Int)/\Al s ts (rf.aJ s p (wd j)) (bg ts r)/\ar ts (5+(j:Int)) r=(bg ts r,bL ts r))\/De (rf.aJ s p (wd j)) (ar ts (5+(j:Int)) r).1:=by
 have hw:=h.word L hj;refine h.take L (by omega) (by omega) (λ e=>?_) (λ e=>?_)
 ·unfold rf.aJ;rw [hw,jj e,aC rfl]
 unfold rf.aJ;rw [hw,gn e,au (by decide)]
theorem Al.needS(L:Lx s ts)(h:Al s ts p r){j:Nat}(hj:j<16)(hg:j=1\/j=2->r.gap=fH):(am ts r=26+(j:Int)/\Al s ts (rf.aJ s p (oq j)) (bg ts r)/\ar ts (26+(j:Int)) r=(bg ts r,bL ts r))\/De (rf.aJ s p (oq j)) (ar ts (26+(j:Int)) r).1:=by
 have hw:=h.sign L hj;refine h.take L (by omega) (λ e=>hg (by omega)) (λ e=>?_) (λ e=>?_)
 ·unfold rf.aJ;rw [hw,jj e,aC rfl]
 unfold rf.aJ;rw [hw,gn e,au (by decide)]
theorem Al.kind(L:Lx s ts)(h:Al s ts p r){q k:Int}(hq:(q=48/\k=2)\/(q=110/\k=4)\/(q=47/\k=3)):(am ts r=k/\Al s ts (rf.aA s p q) (bg ts r)/\ar ts k r=(bg ts r,bL ts r))\/De (rf.aA s p q) (ar ts k r).1:=by
 obtain⟨k48,k110,k47,_,_,_⟩:=h.kinds L
 have hqk:p.next.kind=q↔am ts r=k:=by
  rcases hq with⟨rfl,rfl⟩|⟨rfl,rfl⟩|⟨rfl,rfl⟩
  ·exact k48
  ·exact k110
  exact k47
 refine h.take L (by omega) (by omega) (λ e=>?_) (λ e=>?_)
 ·unfold rf.aA;rw [aC (hqk.2 e)]
 unfold rf.aA;rw [au (λ x=>e (hqk.1 x))]
theorem Al.open_(L:Lx s ts)(h:Al s ts p r){k:Int}(e:am ts r=k)(hk:2<=k)(h27:k≠27)(h28:k≠28) :
  (Al s ts (rf.ax s (rf.cx p)) (dt ts k r)/\(dt ts k r).gap=fH/\(dt ts k r).defs=r.defs/\(dt ts k r).nam=r.nam/\(dt ts k r).num=r.num)\/De (rf.ax s (rf.cx p)) (dt ts k r):=by
 by_cases e8:r.depth=8
 ·right;have hd:=h.fail L;obtain⟨a,a0,a1,a2⟩:=hd;refine⟨a,a0,?_,?_⟩
  ·have hb:(rf.cx p).bad=a:=by unfold rf.cx;rw [aC (h.opn.trans e8)];exact a1
   rw [jG (by omega)];exact hb
  show(ar ts k (if r.depth=8 then cC ts r else r)).1.syn=_;rw [aC e8];exact(bp ts a).take a2 hk
 left;have hp:rf.cx p={ p with opn:=wrap64 (p.opn+1) }:=by unfold rf.cx;rw [au (by rw [h.opn];exact e8)]
 have ho:dt ts k r={ bg ts r with depth:=jW (r.depth+1) }:=by
  show{ (ar ts k (if r.depth=8 then cC ts r else r)).1 with depth:=jW ((ar ts k (if r.depth=8 then cC ts r else r)).1.depth+1) }=_;rw [au e8];unfold ar;rw [aC e]
  rfl
 have hg:=h.go L (by omega) (by omega)
 have ht:rf.ax s { p with opn:=wrap64 (p.opn+1) }={ rf.ax s p with opn:=wrap64 (p.opn+1) }:=by
  obtain⟨_,_,_,k46,k33,_⟩:=h.kinds L
  have hn:¬(p.next.kind=33\/p.next.kind=46):=by
   intro hx;rcases hx with hx|hx
   ·exact absurd (k33.1 hx) (by omega)
   exact absurd (k46.1 hx) (by omega)
  have e1:rf.ax s p=rf.ux s p:=by unfold rf.ax;rw [au hn,aC h.bad]
  have e2:rf.ax s { p with opn:=wrap64 (p.opn+1) }=rf.ux s { p with opn:=wrap64 (p.opn+1) }:=by unfold rf.ax;rw [au hn,aC h.bad]
  rw [e1,e2]
  rfl
 refine⟨?_,?_,?_,?_,?_⟩
 ·rw [hp,ht,ho];exact⟨hg.bad,hg.syn,hg.lt,hg.next,hg.i,by show wrap64 (p.opn+1)=jW (r.depth+1);rw [h.opn],⟨hg.pg.ex⟩⟩
 ·rw [ho];exact fm (by rw [e];exact h27) h
 ·rw [ho];rfl
 ·rw [ho];rfl
 rw [ho];rfl
end
abbrev nB:ByteArray:=⟨#[]⟩
inductive jC:rf.Tr->bh->Prop
 | num (n a:Int):jC (.mk rf.cy nB n a []) (sY n)
 | pref:jC (.mk rf.kh nB 0 0 []) DO
 | med:jC (.mk rf.pI nB 0 0 []) Kw
 | len:jC (.mk rf.yg nB 0 0 []) Kp
 | plus {x y:rf.Tr} {a b:bh}:jC x a->jC y b->jC (.mk rf.dI nB 0 0 [x,y]) (jm a b 1)
 | minus {x y:rf.Tr} {a b:bh}:jC x a->jC y b->jC (.mk rf.iJ nB 0 0 [x,y]) (jm a b (-1))
inductive lY(Ds:List fe):rf.Tr->aQ->Prop
 | eq {x y:rf.Tr} {a b:bh}:jC x a->jC y b->lY Ds (.mk rf.ku nB 0 0 [x,y]) (LD a b)
 | lt {x y:rf.Tr} {a b:bh}:jC x a->jC y b->lY Ds (.mk rf.jo nB 0 0 [x,y]) (LG a b)
 | or {x y:rf.Tr} {a b:aQ}:lY Ds x a->lY Ds y b->lY Ds (.mk rf.Lo nB 0 0 [x,y]) (Fh a b)
 | and {x y:rf.Tr} {a b:aQ}:lY Ds x a->lY Ds y b->lY Ds (.mk rf.ye nB 0 0 [x,y]) (pZ a b)
 | not {x:rf.Tr} {a:aQ}:lY Ds x a->lY Ds (.mk rf.l8 nB 0 0 [x]) (tK a)
 | marked (n a:Int):lY Ds (.mk rf.eo nB n a []) (jx n)
 | net (t:ByteArray) (a:Int) {S:dU}:dP Ds t=some S->lY Ds (.mk rf.AN t 0 a []) (nZ S)
 | like (t:ByteArray) (a:Int) {W:aH}:dQ Ds t=some W->lY Ds (.mk rf.jd t 0 a []) (oV W)
def iA(o:Option Int)(x:Int):Option Int:=match o with|some a=>some a|none=>if 0<=x then some x else none
theorem bq{o:Option Int}{x:Int}(h:x<0):iA o x=o:=by cases o<;>simp [iA]<;>omega
theorem io(o:Option Int)(x y:Int):iA (iA o x) y=iA o (if 0<=x then x else y):=by
 cases o with
 | some a=>rfl
 | none =>
  by_cases h:0<=x
  ·rw [aC h];simp [iA,h]
  rw [au h];simp [iA,h]
theorem pH(o:Option Int){x:Int}(h:0<=x):iC o x=iA o x:=by cases o<;>simp [iC,iA,h]
def wM(ds:List rf.Df)(Ds:List fe):Prop:=∀ t,(rf.dJ t false ds 0<0↔dP Ds t=none)/\(rf.dJ t true ds 0<0↔dQ Ds t=none)
theorem bk(ds:List rf.Df):rf.cS ds [] = -1:=by rw [rf.cS]
theorem bG(ds:List rf.Df)(t:rf.Tr)(l:List rf.Tr):rf.cS ds (t::l)=if 0<=rf.br ds t then rf.br ds t else rf.cS ds l:=by rw [rf.cS]
theorem bU:rf.cq [] = -1:=by rw [rf.cq]
theorem cK(t:rf.Tr)(l:List rf.Tr):rf.cq (t::l)=if 0<=rf.bH t then rf.bH t else rf.cq l:=by rw [rf.cq]
def B8(op:ByteArray):Bool:=!(op.toList==rf.JP)&&!(op.toList==rf.iX)
def Iu(op:ByteArray):Bool:=!(op.toList==rf.il)&&!(op.toList==rf.eH)&&!(op.toList==rf.db)&&!(op.toList==rf.cU)
theorem bu(ds:List rf.Df){op:ByteArray}(h:B8 op=true)(x:ByteArray)(n a:Int)(ks:List rf.Tr):rf.br ds (.mk op x n a ks)=rf.cS ds ks:=by
 unfold B8 at h;simp only [Bool.and_eq_true,Bool.not_eq_true']at h;rw [rf.br,au (by rw [h.1,h.2];simp)]
theorem cJ{op:ByteArray}(h:Iu op=true)(x:ByteArray)(n a:Int)(ks:List rf.Tr):rf.bH (.mk op x n a ks)=rf.cq ks:=by
 unfold Iu at h;simp only [Bool.and_eq_true,Bool.not_eq_true']at h;rw [rf.bH,au (by rw [h.1.1.1];simp),au (by rw [h.1.1.2,h.1.2];simp),au (by rw [h.2];simp)]
theorem jC.quiet{t:rf.Tr}{m:bh}(h:jC t m)(ds:List rf.Df):rf.br ds t = -1/\rf.bH t = -1:=by
 induction h with
 | num n a=>exact⟨by rw [bu ds (by decide +kernel),bk],by rw [cJ (by decide +kernel),bU]⟩
 | pref=>exact⟨by rw [bu ds (by decide +kernel),bk],by rw [cJ (by decide +kernel),bU]⟩
 | med=>exact⟨by rw [bu ds (by decide +kernel),bk],by rw [cJ (by decide +kernel),bU]⟩
 | len=>exact⟨by rw [bu ds (by decide +kernel),bk],by rw [cJ (by decide +kernel),bU]⟩
 | plus _ _ ih1 ih2=>exact⟨by rw [bu ds (by decide +kernel),bG,bG,bk,ih1.1,ih2.1];rfl,by rw [cJ (by decide +kernel),cK,cK,bU,ih1.2,ih2.2];rfl⟩
 | minus _ _ ih1 ih2=>exact⟨by rw [bu ds (by decide +kernel),bG,bG,bk,ih1.1,ih2.1];rfl,by rw [cJ (by decide +kernel),cK,cK,bU,ih1.2,ih2.2];rfl⟩
def LI(op:ByteArray):Bool:=!((op.toList==rf.eH)||(op.toList==rf.db)||(op.toList==rf.cU))
theorem fL{op:ByteArray}(h:LI op=true)(x:ByteArray)(n a:Int){ks:List rf.Tr}(hk:rf.f9 ks):rf.k8 (.mk op x n a ks):=by
 rw [rf.k8];refine⟨λ e=>?_,hk⟩;unfold LI at h;rw [e]at h;cases h
theorem C8(op x:ByteArray)(n a:Int){k:rf.Tr}{ks:List rf.Tr}(hk:rf.f9 (k::ks)):rf.k8 (.mk op x n a (k::ks)):=by
 rw [rf.k8];exact⟨λ _=>by simp,hk⟩
theorem ox:rf.f9 []:=by rw [rf.f9];trivial
theorem pL{t:rf.Tr}{l:List rf.Tr}(h:rf.k8 t)(hl:rf.f9 l):rf.f9 (t::l):=by rw [rf.f9];exact⟨h,hl⟩
theorem AQ{t:rf.Tr}(h:rf.k8 t):rf.f9 [t]:=pL h ox
theorem C9{t u:rf.Tr}(h:rf.k8 t)(hu:rf.k8 u):rf.f9 [t,u]:=pL h (AQ hu)
theorem uD:∀{l:List rf.Tr} {t:rf.Tr},rf.f9 l->rf.k8 t->rf.f9 (l++[t])
 | [],_,_,h=>AQ h
 | x::l,_,h,ht=>by
  rw [rf.f9]at h;exact pL h.1 (uD h.2 ht)
theorem jC.wf{t:rf.Tr}{m:bh}(h:jC t m):rf.k8 t:=by
 induction h with
 | num n a=>exact fL (by decide +kernel) _ _ _ ox
 | pref=>exact fL (by decide +kernel) _ _ _ ox
 | med=>exact fL (by decide +kernel) _ _ _ ox
 | len=>exact fL (by decide +kernel) _ _ _ ox
 | plus _ _ i1 i2=>exact fL (by decide +kernel) _ _ _ (C9 i1 i2)
 | minus _ _ i1 i2=>exact fL (by decide +kernel) _ _ _ (C9 i1 i2)
structure MV(s:ByteArray)(ts:List aw)(r:RS)(q:rf.PS×rf.Tr)(z:RS×Option bh):Prop where
 al:Al s ts q.1 z.1
 gap:z.1.gap=fH
 defs:z.1.defs=r.defs
 nam:z.1.nam=r.nam
 num:z.1.num=r.num
 amt:∃ m,z.2=some m/\jC q.2 m
def L4(s:ByteArray)(ts:List aw)(r:RS)(q:rf.PS×rf.Tr)(z:RS×Option bh):Prop:=De q.1 z.1\/MV s ts r q z
def fP{α:Type}(rd:rf.PS->Option (rf.PS×α)):Prop:=∀ p q,0<=p.bad->rd p=some q->q.1.bad=p.bad
theorem fl(s:ByteArray):∀ f,fP (rf.sumTw s f)/\(∀ t,fP (λ p=>rf.sumLp s f p t))/\fP (rf.termTw s f)
 | 0=>⟨λ _ _ _ h=>by simp [rf.sumTw]at h,λ _ _ _ _ h=>by simp [rf.sumLp]at h,λ _ _ _ h=>by simp [rf.termTw]at h⟩
 | f+1=>by
  obtain⟨h1,h2,h3⟩:=fl s f;refine⟨λ p q hb h=>?_,λ t p q hb h=>?_,λ p q hb h=>?_⟩
  ·rw [rf.sumTw]at h;split at h
   ·cases h
   rename_i st1 t hx;have e1:=h3 _ _ hb hx;have e2:=h2 t _ _ (by rw [e1];exact hb) h;exact e2.trans e1
  ·dsimp only at h;rw [rf.sumLp,bC hb,bC hb,au (by decide)]at h;cases h;rfl
  rw [rf.termTw,k9 hb,au (by decide)]at h;split at h
  ·cases h;rw [iU hb]
  cases h;rw [iU hb]
section
variable {s:ByteArray} {ts:List aw}
theorem fO:rf.kh=wd 4/\rf.pI=wd 5/\rf.yg=wd 12/\rf.fu=oq 7/\rf.mO=oq 8/\rf.dI=oq 12/\rf.iJ=oq 13/\rf.l8=wd 15/\rf.jP=oq 5/\rf.m7=oq 6/\rf.vh=wd 16/\rf.pJ=wd 18/\rf.eo=wd 20/\rf.AN=wd 17/\rf.jd=wd 19/\rf.ku=oq 0/\rf.jo=oq 14/\rf.Lo=wd 13/\rf.ye=wd 14:=by decide +kernel
theorem fD:rf.iw=oq 3/\rf.fC=oq 4/\rf.fy=oq 1/\rf.MF=wd 9/\rf.uB=wd 10/\rf.uA=wd 11/\rf.wJ=wd 6/\rf.m9=wd 7/\rf.kT=wd 8/\rf.mZ=wd 2/\rf.m8=wd 3/\rf.jV=oq 15/\rf.AM=oq 9/\rf.fK=oq 10/\rf.eZ=oq 11/\rf.uG=oq 3/\rf.rW=oq 4/\rf.ji=oq 2/\rf.nz=wd 1/\rf.qE=wd 0:=by decide +kernel
theorem Al.isW(L:Lx s ts){p:rf.PS}{r:RS}(h:Al s ts p r)(x:ByteArray)(j:Nat)(k:Int)(hj:j<21)(hx:x=wd j)(hk:k=5+(j:Int)):rf.aT p x=decide (am ts r=k):=by rw [hx,hk];exact h.word L hj
theorem Al.isS(L:Lx s ts){p:rf.PS}{r:RS}(h:Al s ts p r)(x:ByteArray)(j:Nat)(k:Int)(hj:j<16)(hx:x=oq j)(hk:k=26+(j:Int)):rf.aT p x=decide (am ts r=k):=by rw [hx,hk];exact h.sign L hj
theorem Al.starts(L:Lx s ts){p:rf.PS}{r:RS}(h:Al s ts p r):rf.fh p=decide (am ts r=2\/am ts r=9\/am ts r=10\/am ts r=17\/am ts r=33):=by
 obtain⟨w1,w2,w3,w4,_⟩:=fO;unfold rf.fh;rw [jj h.bad,h.isW L rf.kh 4 9 (by decide) w1 rfl,h.isW L rf.pI 5 10 (by decide) w2 rfl,h.isW L rf.yg 12 17 (by decide) w3 rfl,h.isS L rf.fu 7 33 (by decide) w4 rfl];have hk:=(h.kinds L).1
 have e:(p.next.kind==48)=decide (am ts r=2):=by
  rw [Bool.eq_iff_iff];simp [hk]
 rw [e];simp only [Bool.true_and,Bool.decide_or,Bool.or_assoc]
theorem Bl{f n g k:Nat}{p:rf.PS}{r:RS}{t:rf.Tr}{a:Option bh}{q:rf.PS×rf.Tr}{z:RS×Option bh}(h:De p r)(h1:rf.sumLp s f p t=some q)(h2:sumLp ts (termTw ts n g) k r a=some z):De q.1 z.1:=by
 obtain⟨x,x0,x1,x2⟩:=h;refine⟨x,x0,?_,?_⟩
 ·rw [(fl s f).2.1 t p q (by omega) h1];exact x1
 exact(bp ts x).sumLp ((bp ts x).termTw n g) k r a z x2 h2
theorem pF(L:Lx s ts)(n:Nat):∀ f,
  (∀ p r g q z,Al s ts p r->rf.sumTw s f p=some q->sumTw ts n g r=some z->L4 s ts r q z) /\
  (∀ p r r0 g k t m q z,Al s ts p r->r.gap=fH->r.defs=r0.defs->r.nam=r0.nam->r.num=r0.num->jC t m->rf.sumLp s f p t=some q->sumLp ts (termTw ts n g) k r (some m)=some z->L4 s ts r0 q z) /\
  (∀ p r g q z,Al s ts p r->rf.termTw s f p=some q->termTw ts n g r=some z->L4 s ts r q z)
 | 0=>⟨λ _ _ _ _ _ _ h=>by simp [rf.sumTw]at h,λ _ _ _ _ _ _ _ _ _ _ _ _ _ _ _ h=>by simp [rf.sumLp]at h,λ _ _ _ _ _ _ h=>by simp [rf.termTw]at h⟩
 | f+1=>by
  obtain⟨i1,i2,i3⟩:=pF L n f;obtain⟨w1,w2,w3,w4,w5,w6,w7,_⟩:=fO;refine⟨λ p r g q z h h1 h2=>?_,λ p r r0 g k t m q z h hg hd hn hu ht h1 h2=>?_,λ p r g q z h h1 h2=>?_⟩
  ·rw [rf.sumTw]at h1;unfold sumTw sumBy at h2;split at h1
   ·cases h1
   rename_i p1 t1 e1;split at h2
   ·cases h2
   rename_i r1 a1 e2;rcases i3 p r g _ _ h e1 e2 with hde|hs
   ·exact inl (Bl hde h1 h2)
   obtain⟨m,hm,ht⟩:=hs.amt;dsimp only at hm ht;subst hm;exact i2 p1 r1 r g n t1 m q z hs.al hs.gap hs.defs hs.nam hs.num ht h1 h2
  ·rw [rf.sumLp,h.isS L rf.dI 12 38 (by decide) w6 rfl,h.isS L rf.iJ 13 39 (by decide) w7 rfl]at h1;cases k with
   | zero=>cases h2
   | succ k =>
   rw [sumLp]at h2;by_cases e38:am ts r=38
   ·rw [jj e38,Bool.true_or,aC rfl]at h1;rw [aC e38]at h2;split at h1
    ·cases h1
    rename_i p2 x e1;split at h2
    ·cases h2
    rename_i r2 b e2;rcases i3 _ _ g _ _ (h.go L (by omega) (by omega)) e1 e2 with hde|hs
    ·exact inl (Bl hde h1 h2)
    obtain⟨m2,hm,ht2⟩:=hs.amt;dsimp only at hm ht2;subst hm;refine i2 p2 r2 r0 g k _ (jm m m2 1) q z hs.al hs.gap (hs.defs.trans hd) (hs.nam.trans hn) (hs.num.trans hu) ?_ h1 h2;rw [(h.stext L (j:=12) (by decide) e38).2,<-w6];exact .plus ht ht2
   rw [gn e38]at h1;rw [au e38]at h2;by_cases e39:am ts r=39
   ·rw [jj e39,aC (by simp)]at h1;rw [aC e39]at h2;split at h1
    ·cases h1
    rename_i p2 x e1;split at h2
    ·cases h2
    rename_i r2 b e2;rcases i3 _ _ g _ _ (h.go L (by omega) (by omega)) e1 e2 with hde|hs
    ·exact inl (Bl hde h1 h2)
    obtain⟨m2,hm,ht2⟩:=hs.amt;dsimp only at hm ht2;subst hm;refine i2 p2 r2 r0 g k _ (jm m m2 (-1)) q z hs.al hs.gap (hs.defs.trans hd) (hs.nam.trans hn) (hs.num.trans hu) ?_ h1 h2;rw [(h.stext L (j:=13) (by decide) e39).2,<-w7];exact .minus ht ht2
   rw [gn e39,au (by simp)]at h1;rw [au e39]at h2;cases h1;cases h2
   exact inr ⟨h,hg,hd,hn,hu,m,rfl,ht⟩
  cases g with
  | zero=>cases h2
  | succ g =>
  rw [termTw]at h2;rw [rf.termTw,h.starts L]at h1;by_cases e33:am ts r=33
  ·rw [jj (by omega),aC rfl,h.isS L rf.fu 7 33 (by decide) w4 rfl,jj e33,aC rfl]at h1;rw [au (by omega),au (by omega),au (by omega),au (by omega),aC e33]at h2;split at h1
   ·cases h1
   rename_i p1 t1 e1;split at h2
   ·cases h2
   rename_i r1 a1 e2;cases h1;cases h2
   rcases h.open_ L e33 (by decide) (by decide) (by decide)with⟨ho,o1,o2,o3,o4⟩|hde
   ·rcases i1 _ _ g _ _ ho e1 e2 with hde|hs
    ·exact inl ((hde.need (s:=s) (ts:=ts) rf.mO (k:=34) (by decide)).dec)
    rw [w5];rcases hs.al.needS L (j:=8) (by decide) (by omega)with⟨k1,k2,k3⟩|hde
    ·right
     have e34:gx ts 34 r1=nT (bg ts r1):=by
      unfold gx;exact pP (λ x=>nT x.1) k3
     obtain⟨m,hm,ht⟩:=hs.amt;refine⟨?_,?_,?_,?_,?_,m,hm,ht⟩
     ·dsimp only;rw [e34];exact k2.dec
     ·dsimp only;rw [e34];exact fm (by rw [k1];decide) hs.al
     ·dsimp only;rw [e34];exact hs.defs.trans o2
     ·dsimp only;rw [e34];exact hs.nam.trans o3
     dsimp only;rw [e34];exact hs.num.trans o4
    exact inl hde.dec
   obtain⟨x,x0,x1,x2⟩:=hde;refine inl (De.dec (De.need ⟨x,x0,?_,?_⟩ rf.mO (k:=34) (by decide)))
   ·exact((fl s f).1 _ _ (by omega) e1).trans x1
   exact(bp ts x).sumTw n g _ _ x2 e2
  by_cases e2:am ts r=2
  ·rw [jj (by omega),aC rfl,h.isS L rf.fu 7 33 (by decide) w4 rfl,gn e33,au (by decide),aC ((h.kinds L).1.2 e2)]at h1;rw [aC e2]at h2;cases h1;cases h2
   rcases h.kind L (q:=48) (k:=2) (by simp)with⟨k1,k2,k3⟩|hde
   ·refine inr ⟨k2,fm (by omega) h,rfl,rfl,rfl,_,rfl,?_⟩;dsimp only;rw [(h.number L e2).1];exact .num _ _
   have:ar ts 2 r=(bg ts r,bL ts r):=by unfold ar;rw [aC e2]
   rw [this]at hde;exact inl hde
  have hno:∀ k:Int,2<=k->am ts r=k->k≠27->k≠28->Al s ts (rf.ax s p) (bg ts r):=λ k hk e a b=>h.go L (by omega) (by omega)
  by_cases e9:am ts r=9
  ·rw [jj (by omega),aC rfl,h.isS L rf.fu 7 33 (by decide) w4 rfl,gn e33,au (by decide),au (λ x=>e2 ((h.kinds L).1.1 x))]at h1;rw [au e2,aC e9]at h2;cases h1;cases h2
   refine inr ⟨hno 9 (by decide) e9 (by decide) (by decide),fm (by omega) h,rfl,rfl,rfl,_,rfl,?_⟩;dsimp only;rw [h.wtext L (j:=4) (by decide) e9,<-w1];exact .pref
  by_cases e10:am ts r=10
  ·rw [jj (by omega),aC rfl,h.isS L rf.fu 7 33 (by decide) w4 rfl,gn e33,au (by decide),au (λ x=>e2 ((h.kinds L).1.1 x))]at h1;rw [au e2,au e9,aC e10]at h2;cases h1;cases h2
   refine inr ⟨hno 10 (by decide) e10 (by decide) (by decide),fm (by omega) h,rfl,rfl,rfl,_,rfl,?_⟩;dsimp only;rw [h.wtext L (j:=5) (by decide) e10,<-w2];exact .med
  by_cases e17:am ts r=17
  ·rw [jj (by omega),aC rfl,h.isS L rf.fu 7 33 (by decide) w4 rfl,gn e33,au (by decide),au (λ x=>e2 ((h.kinds L).1.1 x))]at h1;rw [au e2,au e9,au e10,aC e17]at h2;cases h1;cases h2
   refine inr ⟨hno 17 (by decide) e17 (by decide) (by decide),fm (by omega) h,rfl,rfl,rfl,_,rfl,?_⟩;dsimp only;rw [h.wtext L (j:=12) (by decide) e17,<-w3];exact .len
  rw [gn (by omega),au (by decide)]at h1;rw [au e2,au e9,au e10,au e17,au e33]at h2;cases h2
  left;split at h1
  ·cases h1;exact h.fail L
  cases h1;exact h.fail L
end
