/- part -/
import Derived.Test.YtphhnjljlllnlaaGreatDoorRdrR
import Derived.Lib.ItoaNum
import Derived.Shelf.Spec.SlicesInsertGrow
import Derived.Shelf.Slices.Cells
import Derived.Shelf.Slices.Empties
set_option maxRecDepth 100000
set_option maxHeartbeats 1000000
namespace Go.Proofs.YtphhnjljlllnlaaGreatDoor
open Go.Proofs.Tryz
open Or
open Go.RowKit
open Go.Shelf
abbrev br(l:List UInt8):ByteArray:=⟨l.toArray⟩
theorem bM(l:List UInt8):(br l).size=l.length:=by show l.toArray.size=_;simp
theorem mS{l:List UInt8}{k:Nat}{b:UInt8}(h:l[k]?=some b):bt (br l) k=(b.toNat:Int):=by
 have hk:k<l.length:=(List.getElem?_eq_some_iff.mp h).1;rw [gm (by rw [bM];exact hk)];have:(br l)[k]'(by rw [bM];exact hk)=l[k]:=by show(l.toArray)[k]'_=_;simp
 rw [this,(List.getElem?_eq_some_iff.mp h).2]
theorem jH(b:UInt8)(l:List UInt8):bt (br (b::l)) 0=(b.toNat:Int):=mS rfl
theorem tU(s:ByteArray)(k:Nat):s.extract k s.size=br (s.data.toList.drop k):=by
 have h:(s.extract k s.size).data=(br (s.data.toList.drop k)).data:=by
  rw [ByteArray.data_extract];show s.data.extract k s.data.size=(s.data.toList.drop k).toArray;rw [<-Array.toList_inj,Array.toList_extract];simp [List.extract];exact List.take_of_length_le (by simp)
 cases hx:s.extract k s.size with
 | mk d=>rw [hx]at h;simp only at h;rw [h]
theorem m7(bs rest:List UInt8):(br (bs++rest)).extract 0 bs.length=br bs:=by
 have h:((br (bs++rest)).extract 0 bs.length).data=(br bs).data:=by
  rw [ByteArray.data_extract];simp
 cases hx:(br (bs++rest)).extract 0 bs.length with
 | mk d=>rw [hx]at h;simp only at h;rw [h]
theorem nA{p:Int->Bool}{bs rest:List UInt8}(ha:∀ b∈bs,p (b.toNat:Int)=true)(hn:∀ b,rest.head?=some b->p (b.toNat:Int)=false) :
  ∀ j i,i+j=bs.length->cD p (br (bs++rest)) i=bs.length
 | 0,i,h=>by
  obtain rfl:i=bs.length:=by omega
  refine nz (λ hh=>?_);cases hr:rest with
  | nil=>rw [hr,bM]at hh;simp at hh
  | cons b r =>
   rw [hr,mS (b:=b) (by simp)]at hh;rw [hn b (by rw [hr];rfl)]at hh;exact absurd hh.2 (by decide)
 | j+1,i,h=>by
  have hi:i<bs.length:=by omega
  rw [kC (by rw [bM];simp;omega) (by rw [mS (b:=bs[i]) (by rw [List.getElem?_append_left hi,gW hi])];exact ha _ (ej hi))];exact nA ha hn j (i+1) (by omega)
structure ru(bs:List UInt8)(t:ak)(rest:List UInt8):Prop where
 ne:bs≠[]
 solid:∀ b,bs.head?=some b->gb (b.toNat:Int)=false
 first:de (br (bs++rest))=t
 kind:t.kind≠0
 size:t.text.size=bs.length
inductive zC:List UInt8->Nat->List ak->Prop
 | done (k:Nat):zC [] k [⟨1,(k:Int),⟨#[]⟩,0,0,0⟩]
 | blank {b:UInt8} {rest:List UInt8} {k:Nat} {ts:List ak}:gb (b.toNat:Int)=true->zC rest (k+1) ts->zC (b::rest) k ts
 | tok {bs rest:List UInt8} {t:ak} {k:Nat} {ts:List ak}:ru bs t rest->zC rest (k+bs.length) ts->zC (bs++rest) k ({ t with at_:=(k:Int) }::ts)
theorem NF(s:ByteArray){l:List UInt8}{k:Nat}{ts:List ak}(h:zC l k ts):s.data.toList.drop k=l->k<=s.size->∀ f,s.size+1<=f+k ->
  dP s f k=ts:=by
 induction h with
 | done k =>
  intro hd hk f hf
  have hks:k=s.size:=by
   have h1:(s.data.toList.drop k).length=0:=by rw [hd];rfl
   rw [List.length_drop]at h1;have h2:s.data.toList.length=s.size:=by simp
   omega
  obtain⟨f,rfl⟩:∃ g,f=g+1:=⟨f-1,by omega⟩
  rw [dP,aG (by omega)];subst hks
  rfl
 | @blank b rest k ts hb _ ih =>
  intro hd hk f hf;have h2:s.data.toList.length=s.size:=by simp
  have hlt:k<s.size:=by
   have h1:(s.data.toList.drop k).length=rest.length+1:=by rw [hd];rfl
   rw [List.length_drop]at h1;omega
  obtain⟨f,rfl⟩:∃ g,f=g+1:=⟨f-1,by omega⟩
  have hbt:bt s k=(b.toNat:Int):=by
   rw [<-tH hlt,tU,hd];exact jH b rest
  have hr:s.data.toList.drop (k+1)=rest:=by
   rw [show k+1=k+1 from rfl,<-List.drop_drop,hd];rfl
  rw [dP,aS hlt,aS (by rw [hbt];exact hb)];exact ih hr (by omega) f (by omega)
 | @tok bs rest t k ts ha _ ih =>
  intro hd hk f hf;have h2:s.data.toList.length=s.size:=by simp
  have hbl:0<bs.length:=List.length_pos_iff.mpr ha.ne
  have hln:k+bs.length<=s.size:=by
   have h1:(s.data.toList.drop k).length=bs.length+rest.length:=by rw [hd];simp
   rw [List.length_drop]at h1;omega
  have hlt:k<s.size:=by omega
  obtain⟨f,rfl⟩:∃ g,f=g+1:=⟨f-1,by omega⟩
  have hbt:gb (bt s k)=false:=by
   rw [<-tH hlt,tU,hd];cases hbs:bs with
   | nil=>exact absurd hbs ha.ne
   | cons b r=>rw [List.cons_append,jH];exact ha.solid b (by rw [hbs];rfl)
  have htk:kK s k={ t with at_:=(k:Int) }:=by
   unfold kK;rw [tU,hd,ha.first]
  have hr:s.data.toList.drop (k+bs.length)=rest:=by
   rw [<-List.drop_drop,hd,List.drop_left]
  have hk0:(kK s k).kind≠0:=by rw [htk];exact ha.kind
  rw [oV hlt hbt hk0];have hsz:(kK s k).text.size=bs.length:=by rw [htk];exact ha.size
  rw [hsz,ih hr hln f (by omega),htk]
theorem EN{s:ByteArray}{ts:List ak}(h:zC s.data.toList 0 ts):fJ s=ts :=
 NF s h rfl (dG _) (s.size+1) (by omega)
theorem Ay(j:Nat)(hj:j<21)(rest:List UInt8)(hn:∀ b,rest.head?=some b->fk (b.toNat:Int)=false) :
  ru (wd j).data.toList ⟨5+(j:Int),0,wd j,0,0,0⟩ rest:=by
 have hall:∀ j,j<21->(wd j).data.toList≠[]/\(∀ b∈(wd j).data.toList,fk (b.toNat:Int)=true)/\kF (wd j)=5+(j:Int):=by decide +kernel
 obtain⟨h1,h2,h3⟩:=hall j hj;cases hb:(wd j).data.toList with
 | nil=>exact absurd hb h1
 | cons b r =>
  have hlow:fk (bt (br ((b::r)++rest)) 0)=true:=by rw [List.cons_append,jH];exact h2 b (by rw [hb];simp)
  have hsc:cD fk (br ((b::r)++rest)) 0=(b::r).length:=nA (by rw [<-hb];exact h2) hn _ 0 (Nat.zero_add _);have htx:(br (b::r))=wd j:=by rw [<-hb]
  refine⟨by simp,λ x hx=>?_,?_,?_,?_⟩
  ·simp at hx;subst hx;have:=h2 b (by rw [hb];simp);unfold fk at this;unfold gb;simp only [Bool.and_eq_true,decide_eq_true_eq]at this;simp;omega
  ·rw [de,aS hlow,hsc,m7,htx,j1,aG (by rw [h3];omega),h3]
  ·show(5+(j:Int))≠0;omega
  show(wd j).size=_;rw [<-hb];rfl
theorem Ax(c:UInt8)(rest:List UInt8)(h1:ew (c.toNat:Int)≠0):ru [c] ⟨ew (c.toNat:Int),0,br [c],0,0,0⟩ rest:=by
 have hall:∀ n:Nat,n<256->ew (n:Int)≠0->fk (n:Int)=false/\je (n:Int)=false/\gb (n:Int)=false:=by decide +kernel
 obtain⟨h2,h3,h4⟩:=hall c.toNat (c.toNat_lt) h1;have hb:bt (br ([c]++rest)) 0=(c.toNat:Int):=jH c rest;refine⟨by simp,λ x hx=>?_,?_,h1,?_⟩
 ·simp at hx;subst hx;exact h4
 ·rw [de,hb,aG (by rw [h2];decide),aG (by rw [h3];decide)];rw [show(1:Nat)=[c].length from rfl,m7]
 show(br [c]).size=_;rw [bM]
theorem L0(ds:List UInt8)(n:Int)(rest:List UInt8)(h0:ds≠[])(hd:∀ b∈ds,je (b.toNat:Int)=true)(hn:k8 (br ds) 4294967295=n)(h1:0<=n)(hr:∀ b,rest.head?=some b->et (b.toNat:Int)=false) :
  ru ds ⟨2,0,br ds,n,0,0⟩ rest:=by
 cases hb:ds with
 | nil=>exact absurd hb h0
 | cons b r =>
  have hdb:je (b.toNat:Int)=true:=hd b (by rw [hb];simp);have hdig:je (bt (br ((b::r)++rest)) 0)=true:=by rw [List.cons_append,jH];exact hdb
  have hnum:∀ x∈ds,et (x.toNat:Int)=true:=λ x hx=>by unfold et;rw [hd x hx];rfl
  have hsc:cD et (br ((b::r)++rest)) 0=(b::r).length:=nA (by rw [<-hb];exact hnum) hr _ 0 (Nat.zero_add _)
  have hlo:fk (bt (br ((b::r)++rest)) 0)=false:=by
   have:=(fK _).1 hdig;unfold fk;rw [Cf (by omega)];rfl
  have hi:=qX hn h1;rw [hb]at hi;refine⟨by simp,λ x hx=>?_,?_,by show(2:Int)≠0;decide,?_⟩
  ·simp at hx;subst hx;have:=(fK _).1 hdb;unfold gb;simp;omega
  ·rw [de,aG (by rw [hlo];decide),aS hdig,hsc,m7,dC,aS hi.2,hi.1]
  show(br (b::r)).size=_;rw [bM]
theorem rT{s t:ByteArray}:∀ k,(∀ j,j<k->bt s j=bt t j)->dR s k=dR t k
 | 0,_=>rfl
 | k+1,h=>by rw [dR,dR,rT k (λ j hj=>h j (by omega)),h k (by omega)]
theorem dW(u:Nat):Lib.decDigits u=if u<10 then [UInt8.ofNat (48+u)]else Lib.decDigits (u / 10)++[UInt8.ofNat (48+u % 10)]:=by
 rw [Lib.decDigits];split<;>rfl
theorem EE{d:Nat}(h:d<10):(UInt8.ofNat (48+d)).toNat=48+d:=by
 rw [UInt8.toNat_ofNat'];omega
theorem nL(u:Nat):Lib.decDigits u≠[]/\(∀ b∈Lib.decDigits u,je (b.toNat:Int)=true)/\dR (br (Lib.decDigits u)) (Lib.decDigits u).length=(u:Int)/\(10<=u->∀ b,(Lib.decDigits u).head?=some b->b.toNat≠48)/\(0<u->∀ b,(Lib.decDigits u).head?=some b->b.toNat≠48)/\(∀ k,u<10 ^ (k+1)->(Lib.decDigits u).length<=k+1)/\(u<10->(Lib.decDigits u).length=1):=by
 induction u using Nat.strongRecOn with
 | ind u ih =>
  by_cases hu:u<10
  ·have e:Lib.decDigits u=[UInt8.ofNat (48+u)]:=by rw [dW,aS hu]
   have hd:=EE hu;rw [e];refine⟨by simp,λ b hb=>?_,?_,λ h=>by omega,λ h b hb=>?_,λ k _=>by simp,λ _=>rfl⟩
   ·rcases List.mem_singleton.mp hb with rfl;rw [hd];exact(fK _).2 ⟨by omega,by omega⟩
   ·show 10*0+(bt (br [UInt8.ofNat (48+u)]) 0-48)=_;rw [jH,hd];omega
   rcases kd hb with rfl;rw [hd];omega
  have e:Lib.decDigits u=Lib.decDigits (u / 10)++[UInt8.ofNat (48+u % 10)]:=by rw [dW,aG hu]
  have hd:=EE (d:=u % 10) (by omega);obtain⟨i1,i2,i3,_,i5,i6,_⟩:=ih (u / 10) (by omega)
  have hh:∀ b,(Lib.decDigits u).head?=some b->b.toNat≠48:=λ b hb=>by
   rw [e]at hb;cases hx:Lib.decDigits (u / 10)with
   | nil=>exact absurd hx i1
   | cons c r=>rw [hx]at hb;exact i5 (by omega) b (by rw [hx];exact hb)
  refine⟨by rw [e];simp,λ b hb=>?_,?_,λ _=>hh,λ _=>hh,λ k hk=>?_,λ h=>absurd h hu⟩
  ·rw [e]at hb;rcases List.mem_append.mp hb with hb|hb
   ·exact i2 b hb
   rcases List.mem_singleton.mp hb with rfl;rw [hd];exact(fK _).2 ⟨by omega,by omega⟩
  ·rw [e,List.length_append,List.length_singleton,dR,rT (t:=br (Lib.decDigits (u / 10))) _ (λ j hj=>?_),i3,mS (b:=UInt8.ofNat (48+u % 10)) (by simp),hd]
   ·omega
   rw [mS (b:=(Lib.decDigits (u / 10))[j]) (by rw [List.getElem?_append_left hj,gW hj]),mS (b:=(Lib.decDigits (u / 10))[j]) (gW hj)]
  rw [e,List.length_append,List.length_singleton];cases k with
  | zero=>omega
  | succ k =>
   have:=i6 k (by rw [Nat.pow_succ]at hk;omega);omega
theorem ED{u:Nat}(h:u<=4294967295):k8 (br (Lib.decDigits u)) 4294967295=(u:Int):=by
 obtain⟨h1,h2,h3,h4,h5,h6,h7⟩:=nL u;have hl:=h6 9 (by omega);have hp:0<(Lib.decDigits u).length:=List.length_pos_iff.mpr h1;have hs:=bM (Lib.decDigits u);unfold k8;rw [aG,aS,hs,h3,aG (by omega)]
 ·intro j hj;rw [hs]at hj;rw [mS (b:=(Lib.decDigits u)[j]) (gW hj)];exact h2 _ (ej hj)
 rintro(h|h|⟨ha,hb⟩)
 ·omega
 ·omega
 by_cases hu:u<10
 ·have:=h7 hu;omega
 cases hx:Lib.decDigits u with
 | nil=>exact absurd hx h1
 | cons c r =>
  rw [hx,jH]at hb;exact h4 (by omega) c (by rw [hx];rfl) (by omega)
theorem EO(u:Nat)(h:u<=4294967295)(rest:List UInt8)(hr:∀ b,rest.head?=some b->et (b.toNat:Int)=false):ru (Lib.decDigits u) ⟨2,0,br (Lib.decDigits u),(u:Int),0,0⟩ rest :=
 L0 _ _ _ (nL u).1 (nL u).2.1 (ED h) (by omega) hr
theorem lQ{u:Nat}(h:u<=4294967295):(Lib.decDigits u).length<=10:=(nL u).2.2.2.2.2.1 9 (by omega)
theorem Nc{x:Int}(h1 : -9223372036854775808<=x)(h2:x<=9223372036854775807):wrap64 x=x:=by unfold wrap64;omega
structure cR(ts:List ak)(st:RS)(d:Int)(k:Nat):Prop where
 next:st.next=k
 depth:st.depth=d
 syn:st.syn=none
 nam:st.nam=none
 num:st.num=none
 t0:(ts[0]?.getD fZ).text.data.toList≠[]
 page:k=0\/st.page≠[]
def ce(ts:List ak)(k:Nat):Int:=(ts[k]?.getD fZ).kind
def zv(ts:List ak)(k:Nat):Int:=(ts[k]?.getD fZ).number
theorem cR.kind{ts:List ak}{st:RS}{d:Int}{k:Nat}(h:cR ts st d k):an ts st=ce ts k:=by
 unfold an ce dH;rw [h.syn,h.next];rfl
theorem cR.number{ts:List ak}{st:RS}{d:Int}{k:Nat}(h:cR ts st d k):(dH ts st).number=zv ts k:=by
 unfold dH zv;rw [h.next]
theorem cR.go{ts:List ak}{st:RS}{d:Int}{k:Nat}(h:cR ts st d k):cR ts (b9 ts st) d (k+1):=by
 refine⟨jC (· + 1) h.next,h.depth,h.syn,h.nam,h.num,h.t0,inr ?_⟩;show(if(dH ts st).kind=27\/(dH ts st).kind=28 then st.page++(dH ts st).text.data.toList else(st.page++st.gap.data.toList)++(dH ts st).text.data.toList)≠[];rcases h.page with h0|h0
 ·have e:dH ts st=ts[0]?.getD fZ:=by unfold dH;rw [h.next,h0]
  rw [e];have:=h.t0;split<;>simp_all
 split<;>simp_all
theorem cR.take{ts:List ak}{st:RS}{d:Int}{k:Nat}(h:cR ts st d k){q:Int}(e:ce ts k=q):aC ts q st=(b9 ts st,dH ts st):=by
 unfold aC;rw [aS (h.kind.trans e)]
theorem cR.endLine{ts:List ak}{st:RS}{d:Int}{k:Nat}(h:cR ts st d k):cR ts (ii st) d k:=⟨h.next,h.depth,h.syn,h.nam,h.num,h.t0,h.page⟩
theorem cR.open{ts:List ak}{st:RS}{d:Int}{k:Nat}(h:cR ts st d k){q:Int}(e:ce ts k=q)(h0:0<=d)(h8:d<8):cR ts (ft ts q st) (d+1) (k+1):=by
 unfold ft;rw [aG (by rw [h.depth];omega),h.take e];have g:=h.go;refine⟨g.next,?_,g.syn,g.nam,g.num,g.t0,g.page⟩;show sD ((b9 ts st).depth+1)=d+1;rw [g.depth];show wrap64 (d+1)=d+1;exact Nc (by omega) (by omega)
theorem cR.dec{ts:List ak}{st:RS}{d:Int}{k:Nat}(h:cR ts st (d+1) k)(h0:0<=d)(h8:d<8):cR ts (IW st) d k:=by
 refine⟨h.next,?_,h.syn,h.nam,h.num,h.t0,h.page⟩;show sD (st.depth-1)=d;rw [h.depth,show d+1-1=d by omega];exact Nc (by omega) (by omega)
theorem cR.shut{ts:List ak}{st:RS}{d:Int}{k:Nat}(h:cR ts st (d+1) k){q:Int}(e:ce ts k=q)(h0:0<=d)(h8:d<8):cR ts (ka ts q st) d (k+1):=by
 unfold ka;rw [h.take e];exact h.go.dec h0 h8
theorem cR.within{ts:List ak}{st:RS}{d:Int}{k:Nat}(h:cR ts st d k){lo hi:Int}(e:ce ts k=2)(h1:lo<=zv ts k)(h2:zv ts k<=hi):aM ts lo hi st=(b9 ts st,zv ts k):=by
 unfold aM;rw [h.take e];simp only [h.number];rw [aG (by omega)]
def bX{α:Type}(ts:List ak)(rd:RS->Option (RS×α))(d:Int)(k k':Nat)(m:α):Prop:=∀ st,cR ts st d k->∃ st',rd st=some (st',m)/\cR ts st' d k'
theorem jQ{ts:List ak}{n f:Nat}{d:Int}{k:Nat}(e:ce ts k=2):bX ts (fT ts n (f+1)) d k (k+1) (some (ie (zv ts k))):=λ st h=>by
 refine⟨b9 ts st,?_,h.go⟩;rw [fT,h.kind,aS e,h.number]
theorem mu{ts:List ak}{n f:Nat}{d:Int}{k:Nat}(e:ce ts k=9):bX ts (fT ts n (f+1)) d k (k+1) (some oJ):=λ st h=>by
 refine⟨b9 ts st,?_,h.go⟩;rw [fT,h.kind,e,aG (by decide),aS rfl]
theorem xL{ts:List ak}{n f:Nat}{d:Int}{k:Nat}(e:ce ts k=10):bX ts (fT ts n (f+1)) d k (k+1) (some Dl):=λ st h=>by
 refine⟨b9 ts st,?_,h.go⟩;rw [fT,h.kind,e,aG (by decide),aG (by decide),aS rfl]
theorem xK{ts:List ak}{n f:Nat}{d:Int}{k:Nat}(e:ce ts k=17):bX ts (fT ts n (f+1)) d k (k+1) (some Gn):=λ st h=>by
 refine⟨b9 ts st,?_,h.go⟩;rw [fT,h.kind,e,aG (by decide),aG (by decide),aG (by decide),aS rfl]
inductive te(ts:List ak)(term:RS->Option (RS×Option bh))(d:Int):Nat->Nat->bh->bh->Nat->Prop
 | nil {k:Nat} {m:bh}:ce ts k≠38->ce ts k≠39->te ts term d k k m m 1
 | plus {k k1 k2 c:Nat} {m t m':bh}:ce ts k=38->bX ts term d (k+1) k1 (some t)->te ts term d k1 k2 (iu m t 1) m' c->te ts term d k k2 m m' (c+1)
 | minus {k k1 k2 c:Nat} {m t m':bh}:ce ts k=39->bX ts term d (k+1) k1 (some t)->te ts term d k1 k2 (iu m t (-1)) m' c->te ts term d k k2 m m' (c+1)
theorem Ky{ts:List ak}{term:RS->Option (RS×Option bh)}{d:Int}{k k' c:Nat}{m m':bh}(h:te ts term d k k' m m' c):∀ n,c<=n->∀ st,cR ts st d k->∃ st',jF ts term n st (some m)=some (st',some m')/\cR ts st' d k':=by
 induction h with
 | nil e1 e2 =>
  intro n hn st g;obtain⟨n,rfl⟩:∃ j,n=j+1:=⟨n-1,by omega⟩
  refine⟨st,?_,g⟩;rw [jF,g.kind,aG e1,aG e2]
 | plus e hr _ ih =>
  intro n hn st g;obtain⟨n,rfl⟩:∃ j,n=j+1:=⟨n-1,by omega⟩
  obtain⟨s1,h1,g1⟩:=hr _ (g.go);obtain⟨s2,h2,g2⟩:=ih n (by omega) s1 g1;refine⟨s2,?_,g2⟩;rw [jF,g.kind,aS e,h1];exact h2
 | minus e hr _ ih =>
  intro n hn st g;obtain⟨n,rfl⟩:∃ j,n=j+1:=⟨n-1,by omega⟩
  obtain⟨s1,h1,g1⟩:=hr _ (g.go);obtain⟨s2,h2,g2⟩:=ih n (by omega) s1 g1;refine⟨s2,?_,g2⟩;rw [jF,g.kind,e,aG (by decide),aS rfl,h1];exact h2
theorem lC{ts:List ak}{term:RS->Option (RS×Option bh)}{d:Int}{k k1 k' c n:Nat}{m m':bh}(h1:bX ts term d k k1 (some m))(h2:te ts term d k1 k' m m' c)(hc:c<=n):bX ts (nB ts term n) d k k' (some m'):=λ st g=>by
 obtain⟨s1,e1,g1⟩:=h1 st g;obtain⟨s2,e2,g2⟩:=Ky h2 n hc s1 g1;exact⟨s2,by rw [nB,e1];exact e2,g2⟩
theorem nS{ts:List ak}{term:RS->Option (RS×Option bh)}{d:Int}{k k1 n:Nat}{m:bh}(h1:bX ts term d k k1 (some m))(e1:ce ts k1≠38)(e2:ce ts k1≠39)(hn:1<=n):bX ts (nB ts term n) d k k1 (some m) :=
 lC h1 (.nil e1 e2) hn
theorem CK{ts:List ak}{sum:RS->Option (RS×Option bh)}{d:Int}{k k1 k':Nat}{a b:bh}(h1:bX ts sum d k k1 (some a))(e:ce ts k1=40)(h2:bX ts sum d (k1+1) k' (some b)):bX ts (eB ts sum) d k k' (some (H7 a b)):=λ st g=>by
 obtain⟨s1,e1,g1⟩:=h1 st g;obtain⟨s2,e2,g2⟩:=h2 _ (g1.go);refine⟨s2,?_,g2⟩;rw [eB,e1];simp only;rw [g1.kind,aS e,e2];rfl
theorem No{ts:List ak}{sum:RS->Option (RS×Option bh)}{d:Int}{k k1 k':Nat}{a b:bh}(h1:bX ts sum d k k1 (some a))(e:ce ts k1=26)(h2:bX ts sum d (k1+1) k' (some b)):bX ts (eB ts sum) d k k' (some (Lx a b)):=λ st g=>by
 obtain⟨s1,e1,g1⟩:=h1 st g;obtain⟨s2,e2,g2⟩:=h2 _ (g1.go);refine⟨s2,?_,g2⟩;rw [eB,e1];simp only;rw [g1.kind,e,aG (by decide),g1.take e,e2];rfl
theorem JN{ts:List ak}{sum:RS->Option (RS×Option bh)}{d:Int}{k k':Nat}{c:aR}(h:bX ts (eB ts sum) d k k' (some c))(e:ce ts k=2\/ce ts k=9\/ce ts k=10\/ce ts k=17\/ce ts k=33):bX ts (JM ts sum) d k k' (some c):=λ st g=>by
 obtain⟨s1,e1,g1⟩:=h st g;refine⟨s1,?_,g1⟩;rw [JM,g.kind,aG (by omega)];exact e1
theorem Ey{ts:List ak}{q:Int}{m:aR->aR->aR}{rd:RS->Option (RS×Option aR)}{d:Int}{k k' n:Nat}{c:aR}(h:bX ts rd d k k' (some c))(e:ce ts k'≠q)(hn:1<=n):bX ts (kq ts q m rd n) d k k' (some c):=λ st g=>by
 obtain⟨s1,e1,g1⟩:=h st g;obtain⟨n,rfl⟩:∃ j,n=j+1:=⟨n-1,by omega⟩
 refine⟨s1,?_,g1⟩;rw [kq,e1];simp only;rw [iD,g1.kind,aG e]
theorem IQ{ts:List ak}{nt:RS->Option (RS×Option aR)}{d:Int}{k k' n:Nat}{c:aR}(h:bX ts nt d k k' (some c))(e1:ce ts k'≠18)(e2:ce ts k'≠19)(hn:1<=n):bX ts (jW ts nt n) d k k' (some c) :=
 Ey (Ey h e2 hn) e1 hn
def Dw(q:Int):Prop:=q≠7/\q≠8/\q≠9/\q≠10/\q≠11/\q≠12/\q≠13/\q≠14
instance (q:Int):Decidable (Dw q):=by unfold Dw;infer_instance
inductive xW(ts:List ak)(rd:RS->Option (RS×Option (Option aJ)))(d:Int):Nat->Nat->List aJ->Prop
 | nil {k:Nat}:bX ts rd d k k none->xW ts rd d k k []
 | cons {k k1 k':Nat} {m:aJ} {l:List aJ}:bX ts rd d k k1 (some (some m))->xW ts rd d k1 k' l->xW ts rd d k k' (m::l)
theorem ER{ts:List ak}{rd:RS->Option (RS×Option (Option aJ))}{d:Int}{k k':Nat}{l:List aJ}(h:xW ts rd d k k' l):∀ n,l.length<n->∀ st acc,cR ts st d k->∃ st',cf rd n st acc=some (st',acc++l.map some)/\cR ts st' d k':=by
 induction h with
 | nil hr =>
  intro n hn st acc g;obtain⟨n,rfl⟩:∃ j,n=j+1:=⟨n-1,by omega⟩
  obtain⟨s1,e1,g1⟩:=hr st g;exact⟨s1,by rw [cf,e1];simp,g1⟩
 | cons hr _ ih =>
  intro n hn st acc g;obtain⟨n,rfl⟩:∃ j,n=j+1:=⟨n-1,by omega⟩
  obtain⟨s1,e1,g1⟩:=hr st g;obtain⟨s2,e2,g2⟩:=ih n (by simp at hn;omega) s1 (acc++[some _]) g1;exact⟨s2,by rw [cf,e1];simp only;rw [e2];simp,g2⟩
theorem pD(l:List aJ):kQ (l.map some)=some l:=by
 induction l with
 | nil=>rfl
 | cons a l ih=>rw [List.map_cons,kQ,ih];rfl
theorem jc{ts:List ak}{rd:RS->Option (RS×Option (Option aJ))}{d:Int}{k k' n:Nat}{l:List aJ}(e:ce ts k=29)(h0:0<=d)(h8:d<8)(hm:xW ts rd (d+1) (k+1) k' l)(hn:l.length<n)(e':ce ts k'=30) :
  bX ts (ef ts rd n) d k (k'+1) (l.map some):=λ st g=>by
 obtain⟨s1,e1,g1⟩:=ER hm n hn _ [] (g.open e h0 h8).endLine;refine⟨_,?_,(g1.shut e' h0 h8).endLine⟩;rw [ef,e1];simp
section stmt
variable {ts:List ak} {n f:Nat} {ok:Int->Bool} {sum:RS->Option (RS×Option bh)} {cnd:RS->Option (RS×Option aR)} {d:Int} {k:Nat}
theorem mt(h:Dw (ce ts k))(hok:ok (ce ts k)=true):bX ts (cH ts n ok sum cnd (f+1)) d k k none:=λ st g=>by
 refine⟨st,?_,g⟩;obtain⟨h7,h8,h9,h10,h11,h12,h13,h14⟩:=h;rw [cH,g.kind,hok,aG (by decide),aG h14,aG h7,aG h8,aG h9,aG h10,aG h11,aG h12,aG h13]
theorem kU{st:RS}(g:cR ts st d k)(e:ce ts k=27):nZ ts st=b9 ts st:=by unfold nZ;rw [g.take e]
theorem iz(e:ce ts k=7)(hok:ok 7=true)(e2:ce ts (k+1)=27):bX ts (cH ts n ok sum cnd (f+1)) d k (k+2) (some (some (ci 1))):=λ st g=>by
 refine⟨_,?_,(g.go).go⟩;rw [cH,g.kind,e,hok,aG (by decide),aG (by decide),aS rfl,kU (g.go) e2]
theorem zj(e:ce ts k=8)(hok:ok 8=true)(e2:ce ts (k+1)=27):bX ts (cH ts n ok sum cnd (f+1)) d k (k+2) (some (some (ci 2))):=λ st g=>by
 refine⟨_,?_,(g.go).go⟩;rw [cH,g.kind,e,hok,aG (by decide),aG (by decide),aG (by decide),aS rfl,kU (g.go) e2]
theorem D4{k1:Nat}{m:bh}(e:ce ts k=9)(hok:ok 9=true)(e2:ce ts (k+1)=26)(hs:bX ts sum d (k+2) k1 (some m))(e3:ce ts k1=27):bX ts (cH ts n ok sum cnd (f+1)) d k (k1+1) (some (some (gy m))):=λ st g=>by
 obtain⟨s1,h1,g1⟩:=hs _ ((g.go).go);refine⟨_,?_,g1.go⟩;rw [cH,g.kind,e,hok,aG (by decide),aG (by decide),aG (by decide),aG (by decide),aS rfl,(g.go).take e2,h1];simp only;rw [kU g1 e3];rfl
theorem Hn{k1:Nat}{m:bh}(e:ce ts k=10)(hok:ok 10=true)(e2:ce ts (k+1)=26)(hs:bX ts sum d (k+2) k1 (some m))(e3:ce ts k1=27):bX ts (cH ts n ok sum cnd (f+1)) d k (k1+1) (some (some (iX m))):=λ st g=>by
 obtain⟨s1,h1,g1⟩:=hs _ ((g.go).go);refine⟨_,?_,g1.go⟩;rw [cH,g.kind,e,hok,aG (by decide),aG (by decide),aG (by decide),aG (by decide),aG (by decide),aS rfl,(g.go).take e2,h1];simp only;rw [kU g1 e3];rfl
theorem D3(e:ce ts k=11)(hok:ok 11=true)(e2:ce ts (k+1)=2)(h1:0<=zv ts (k+1))(h2:zv ts (k+1)<=65535)(e3:ce ts (k+2)=27):bX ts (cH ts n ok sum cnd (f+1)) d k (k+3) (some (some (jj (zv ts (k+1))))):=λ st g=>by
 refine⟨_,?_,((g.go).go).go⟩;rw [cH,g.kind,e,hok,aG (by decide),aG (by decide),aG (by decide),aG (by decide),aG (by decide),aG (by decide),aS rfl,(g.go).within e2 h1 h2,kU ((g.go).go) e3]
theorem oP(e:ce ts k=13)(hok:ok 13=true)(e2:ce ts (k+1)=2)(h1:1<=zv ts (k+1))(h2:zv ts (k+1)<=65535)(e3:ce ts (k+2)=27):bX ts (cH ts n ok sum cnd (f+1)) d k (k+3) (some (some (dM (zv ts (k+1))))):=λ st g=>by
 refine⟨_,?_,((g.go).go).go⟩;rw [cH,g.kind,e,hok,aG (by decide),aG (by decide),aG (by decide),aG (by decide),aG (by decide),aG (by decide),aG (by decide),aG (by decide),aS rfl,(g.go).within e2 h1 h2,kU ((g.go).go) e3]
theorem Kr{k1 k2:Nat}{c:aR}{yes:List aJ}(e:ce ts k=14)(hok:ok 14=true)(hc:bX ts cnd d (k+1) k1 (some c))(e1:ce ts k1=15)(hy:bX ts (ef ts (cH ts n ok sum cnd f) n) d (k1+1) k2 (yes.map some))(e2:ce ts k2≠16) :
  bX ts (cH ts n ok sum cnd (f+1)) d k k2 (some (some (gD c yes []))):=λ st g=>by
 obtain⟨s1,h1,g1⟩:=hc _ (g.go);obtain⟨s2,h2,g2⟩:=hy _ (g1.go);refine⟨s2,?_,g2⟩;rw [cH,g.kind,e,hok,aG (by decide),aS rfl,h1];simp only;rw [g1.take e1];simp only;rw [h2];simp only;rw [g2.kind,aG e2,ks,pD];rfl
end stmt
theorem yS{ts:List ak}{n:Nat}{rd:RS->Option (RS×Option (Option aJ))}{k':Nat}{l:List aJ}(h:xW ts rd 0 0 k' l)(hl:l≠[])(hn:l.length<n)(e:ce ts k'=1)(h0:(ts[0]?.getD fZ).text.data.toList≠[]) :
  ∃ st,jo ts n rd qE=some (st,l.map some)/\cR ts st 0 k':=by
 obtain⟨s1,e1,g1⟩:=ER h n hn qE [] ⟨rfl,rfl,rfl,rfl,rfl,h0,inl rfl⟩;refine⟨s1,?_,g1⟩;have hne:(l.map some).length≠0:=by simpa using hl
 rw [jo,e1];simp only [List.nil_append];rw [aG hne,g1.kind,aS e]
inductive It where
 | sp
 | wo (j:Nat)
 | sg (c:UInt8)
 | nm (u:Nat)
def It.bytes:It->List UInt8
 | .sp=>[32]
 | .wo j=>(wd j).data.toList
 | .sg c=>[c]
 | .nm u=>Lib.decDigits u
def eh(l:List It):List UInt8:=l.flatMap It.bytes
def It.ok:It->Bool
 | .sp=>true
 | .wo j=>decide (j<21)
 | .sg c=>decide (ew (c.toNat:Int)≠0)
 | .nm u=>decide (u<=4294967295)
def It.then_:It->List It->Bool
 | .wo _,.wo _::_=>false
 | .wo _,.nm _::_=>false
 | .nm _,.wo _::_=>false
 | .nm _,.nm _::_=>false
 | .nm _,.sg c::_=>decide (c.toNat≠46)
 | _,_=>true
def kv:List It->Bool
 | []=>true
 | i::l=>i.ok&&i.then_ l&&kv l
def bO:Nat->List It->List ak
 | k,[]=>[⟨1,(k:Int),⟨#[]⟩,0,0,0⟩]
 | k,.sp::l=>bO (k+1) l
 | k,.wo j::l=>⟨5+(j:Int),(k:Int),wd j,0,0,0⟩::bO (k+(wd j).data.toList.length) l
 | k,.sg c::l=>⟨ew (c.toNat:Int),(k:Int),br [c],0,0,0⟩::bO (k+1) l
 | k,.nm u::l=>⟨2,(k:Int),br (Lib.decDigits u),(u:Int),0,0⟩::bO (k+(Lib.decDigits u).length) l
def ui:List It->List (Int×Int)
 | []=>[(1,0)]
 | .sp::l=>ui l
 | .wo j::l=>(5+(j:Int),0)::ui l
 | .sg c::l=>(ew (c.toNat:Int),0)::ui l
 | .nm u::l=>(2,(u:Int))::ui l
theorem jP:∀(l:List It) (k:Nat),(bO k l).map (λ t=>(t.kind,t.number))=ui l
 | [],_=>rfl
 | .sp::l,k=>jP l (k+1)
 | .wo j::l,k=>by rw [bO,ui,List.map_cons,jP l]
 | .sg c::l,k=>by rw [bO,ui,List.map_cons,jP l]
 | .nm u::l,k=>by rw [bO,ui,List.map_cons,jP l]
theorem eF(i:It)(l:List It):eh (i::l)=i.bytes++eh l:=by simp [eh]
theorem uY:∀ n:Nat,n<256->ew (n:Int)≠0->fk (n:Int)=false/\(n≠46->et (n:Int)=false):=by decide +kernel
theorem LQ{j:Nat}{l:List It}(h:kv (.wo j::l)=true):∀ b,(eh l).head?=some b->fk (b.toNat:Int)=false:=by
 intro b hb;simp only [kv,Bool.and_eq_true]at h
 match l,h,hb with
 | [],_,hb=>simp [eh]at hb
 | .sp::l,_,hb=>rw [eF]at hb;rcases kd hb with rfl;decide
 | .wo _::l,h,_=>simp [It.then_]at h
 | .nm _::l,h,_=>simp [It.then_]at h
 | .sg c::l,h,hb =>
  rw [eF]at hb;rcases kd hb with rfl
  simp only [kv,It.ok,Bool.and_eq_true,decide_eq_true_eq]at h;exact(uY _ (UInt8.toNat_lt _) h.2.1.1).1
theorem LS{u:Nat}{l:List It}(h:kv (.nm u::l)=true):∀ b,(eh l).head?=some b->et (b.toNat:Int)=false:=by
 intro b hb;simp only [kv,Bool.and_eq_true]at h
 match l,h,hb with
 | [],_,hb=>simp [eh]at hb
 | .sp::l,_,hb=>rw [eF]at hb;rcases kd hb with rfl;decide
 | .wo _::l,h,_=>simp [It.then_]at h
 | .nm _::l,h,_=>simp [It.then_]at h
 | .sg c::l,h,hb =>
  rw [eF]at hb;rcases kd hb with rfl
  simp only [kv,It.ok,It.then_,Bool.and_eq_true,decide_eq_true_eq]at h;exact(uY _ (UInt8.toNat_lt _) h.2.1.1).2 h.1.2
theorem pQ:∀(l:List It) (k:Nat),kv l=true->zC (eh l) k (bO k l)
 | [],k,_=>zC.done k
 | .sp::l,k,h=>by
  simp only [kv,Bool.and_eq_true]at h;exact zC.blank (by decide) (pQ l (k+1) h.2)
 | .wo j::l,k,h=>by
  have h':=h;simp only [kv,It.ok,Bool.and_eq_true,decide_eq_true_eq]at h';rw [eF];exact zC.tok (Ay j h'.1.1 _ (LQ h)) (pQ l _ h'.2)
 | .sg c::l,k,h=>by
  have h':=h;simp only [kv,It.ok,Bool.and_eq_true,decide_eq_true_eq]at h';rw [eF];exact zC.tok (Ax c _ h'.1.1) (pQ l _ h'.2)
 | .nm u::l,k,h=>by
  have h':=h;simp only [kv,It.ok,Bool.and_eq_true,decide_eq_true_eq]at h';rw [eF];exact zC.tok (EO u h'.1.1 _ (LS h)) (pQ l _ h'.2)
theorem LO{l:List It}(h:kv l=true):fJ (br (eh l))=bO 0 l:=EN (pQ l 0 h)
theorem LP(l:List It)(i:Nat):ce (bO 0 l) i=((ui l)[i]?.getD (0,0)).1:=by
 rw [<-jP l 0,List.getElem?_map];unfold ce;cases (bO 0 l)[i]? <;> rfl
theorem LR(l:List It)(i:Nat):zv (bO 0 l) i=((ui l)[i]?.getD (0,0)).2:=by
 rw [<-jP l 0,List.getElem?_map];unfold zv;cases (bO 0 l)[i]? <;> rfl
def H8(_:Int):Bool:=true
abbrev iQ(ts:List ak):RS->Option (RS×Option bh):=nB ts (fT ts 100 20) 100
abbrev Np(ts:List ak):RS->Option (RS×Option aR):=jW ts (JM ts (iQ ts)) 100
abbrev D0(ts:List ak)(f:Nat):RS->Option (RS×Option (Option aJ)):=cH ts 100 H8 (iQ ts) (Np ts) f
end Go.Proofs.YtphhnjljlllnlaaGreatDoor
namespace Go.Proofs
open Go.Shelf
def Tryz.shIns_ren:Go.Shelf.Ren:=⟨fun|21=>195|27=>230|28=>231|35=>253|39=>266|n=>n,fun|22=>22|3=>3|4=>4|0=>0|n=>n,fun|n=>n⟩
theorem Tryz.shIns:Go.Proofs.Lays2.n21 prog Tryz.shIns_ren:={
 mixed:=by kernel_rfl
 f21:=func195.trans (congrArg some (by kernel_rfl))
 f27:=func230.trans (congrArg some (by kernel_rfl))
 f28:=func231.trans (congrArg some (by kernel_rfl))
 f35:=func253.trans (congrArg some (by kernel_rfl))
 f39:=func266.trans (congrArg some (by kernel_rfl))
 t0:=underlying0
 a0:=Tryz.isAgg0
 z0:=Tryz.sizeOf0
 v0:=Tryz.zeroValue0
 t3:=underlying3
 a3:=Tryz.isAgg3
 z3:=Tryz.sizeOf3
 v3:=Tryz.zeroValue3
 t4:=underlying4
 a4:=Tryz.isAgg4
 z4:=Tryz.sizeOf4
 v4:=Tryz.zeroValue4
 t22:=underlying22
 a22:=Tryz.isAgg22
 z22:=Tryz.sizeOf22
 v22:=Tryz.zeroValue22
 i3:=by kernel_rfl }
end Go.Proofs
namespace Go.Proofs.YtphhnjljlllnlaaGreatDoor
open Go.Proofs.Tryz
open Or
open Go.RowKit
open Go.Shelf
theorem eL{b:Nat}{T:TypeId}{z:Nat×Nat}:∀(vs:List Value) (o:Nat) (w:World) (cur:Array Value),w.heap[b]?=some (.cells cur T z)->o+vs.length<=cur.size ->
  ∃ cur',(w.setCells b o vs).heap[b]?=some (.cells cur' T z)/\cur'.size=cur.size/\∀ j,cur'[j]?=if o<=j/\j<o+vs.length then vs[j-o]? else cur[j]?
 | [],o,w,cur,h,_=>⟨cur,h,rfl,λ j=>by rw [aG];simp⟩
 | v::r,o,w,cur,h,hl=>by
  obtain⟨cur',h1,h2,h3⟩:=eL r (o+1) (w.setCell ⟨b,o,none⟩ v) (cur.setIfInBounds o v) (aV h) (by simp at hl ⊢;omega);refine⟨cur',h1,by rw [h2];simp,λ j=>?_⟩;rw [h3 j];simp only [List.length_cons]at hl ⊢;by_cases hj:o<=j/\j<o+(r.length+1)
  ·rw [aS hj];by_cases he:j=o
   ·subst he;rw [aG (by omega),Array.getElem?_setIfInBounds_self_of_lt (by omega)];simp
   rw [aS (by omega),show j-o=(j-(o+1))+1 by omega];simp
  rw [aG hj,aG (by omega),Array.getElem?_setIfInBounds_ne (by omega)]
theorem dZ(b:Nat):∀(vs:List Value) (o:Nat) (w w0:World) (row:Option Nat),w0.grownBy w row->(row=some b\/w0.heap.size<=b)->w0.grownBy (w.setCells b o vs) row
 | [],_,_,_,_,h,_=>h
 | v::r,o,w,w0,row,h,hb=>dZ b r (o+1) _ _ _ ⟨h.os,h.tape,h.output,by simpa [World.setCell]using h.size,λ k hk hn=>(ai (λ e=>by
   have e':k=b:=e;subst e';rcases hb with hb|hb
   ·exact hn hb.symm
   ·omega)).trans (h.block k hk hn)⟩ hb
theorem jm{w:World}{g cap:Nat}{cur:Array Value}{l:List Int}(h:w.heap[g]?=some (.cells cur 3 (0,0)))(hn:l.length<=cap)(hc:cap<=maxLen)(hs:cur.size=cap)(hx:∀(j:Nat) (x:Int),l[j]?=some x->cur[j]?=some (Value.int .i64 x)) :
  w.ownsRow 0 3 1 (.slice (some ⟨g,0,none⟩) l.length cap) l.length (aB l):=by
 refine⟨by simp [aB],inr ⟨g,cap,cur,rfl,dG _,h,hn,hc,by omega,?_⟩⟩;refine List.ext_getElem? (λ j=>?_);rw [List.getElem?_take,Nat.mul_one];by_cases hj:j<l.length
 ·rw [aS hj];have h1:=hx j l[j] (gW hj);simp [aB,gW hj];simpa using h1
 rw [aG hj];simp [aB,List.getElem?_eq_none (Nat.le_of_not_lt hj)]
theorem yw{l:List Int}{i:Nat}{x:Int}(hi:i<=l.length)(j:Nat):(l.take i++x::l.drop i)[j]?=if j<i then l[j]? else if j=i then some x else l[j-1]?:=by
 have hlt:(l.take i).length=i:=by simp;omega
 by_cases h1:j<i
 ·rw [aS h1,List.getElem?_append_left (by omega),List.getElem?_take,aS h1]
 rw [aG h1,List.getElem?_append_right (by omega),hlt];by_cases h2:j=i
 ·rw [aS h2,h2];simp
 rw [aG h2,show j-i=(j-i-1)+1 by omega,List.getElem?_cons_succ,List.getElem?_drop]
 congr 1;omega
theorem eQ(l:List Int)(i:Nat)(x:Int):(l.take i++x::l.drop i).length=l.length+1:=by simp;omega
def xV(w:World)(v:Value)(l':List Int)(e:Ending)(w':World):Prop :=
 ∃ v',e=.returned v'/\w'.ownsRow 0 3 1 v' l'.length (aB l')/\w.grownBy w' v.ownBlock/\(v'.ownBlock=v.ownBlock\/v'.ownBlock=some w.heap.size)
theorem jY(w:World)(row:Option Nat):w.grownBy w row:=⟨rfl,rfl,rfl,aL _,λ _ _ _=>rfl⟩
theorem lT{w0 w:World}{row:Option Nat}(h:w0.grownBy w row):w0.grownBy w.drew row:=⟨h.os,h.tape,h.output,h.size,h.block⟩
theorem rI{w0 w:World}{row:Option Nat}(h:w0.grownBy w row)(o:Obj):w0.grownBy (w.alloc o) row :=
 ⟨h.os,h.tape,h.output,by rw [World.size_alloc];have:=h.size;omega,λ k hk hn=>(mC _ _ _ (by have:=h.size;omega)).trans (h.block k hk hn)⟩
theorem Oh(l:List Int):∀ v∈aB l,v.oneCell'=true:=λ v hv=>by
 simp only [aB,List.mem_map]at hv;obtain⟨x,_,rfl⟩:=hv;rfl
theorem xD(w:World)(v:Value)(l:List Int)(i:Nat)(x:Int)(vb:Nat)(hv:w.ownsRow 0 3 1 v l.length (aB l))(hi:i<=l.length)(hl:l.length<=1000)(hb:w.heap[vb]?=some (.cells #[.int .i64 x] 3 (0,0)))(hne:v.ownBlock≠some vb) :
  Calls prog 195 #[v,.int .i64 (i:Int),.slice (some ⟨vb,0,none⟩) 1 1] w (xV w v (l.take i++x::l.drop i)):=by
 have hvs:∀ j u,([.int .i64 x]:List Value)[j]?=some u->w.cell? ⟨vb,0+j,none⟩=some u:=λ j u hu=>by
  rw [ag hb,Nat.zero_add];cases j with
  | zero=>simpa using hu
  | succ j=>simp at hu
 have h1v:∀ u∈([.int .i64 x]:List Value),u.oneCell'=true:=λ u hu=>by simp at hu;subst hu;rfl
 have hvb:=ah hb;have hcl:(aB l).length=l.length:=by simp [aB]
 have endGrow:∀(base:Option Addr) (c:Nat),l.length<=c->c<l.length+1->(base=none->l.length=0)->(∀ a,base=some a->∀ j u,(aB l)[j]?=some u->w.cell? (a.add j)=some u)->v=.slice base l.length c ->
   Calls prog 195 #[v,.int .i64 (l.length:Int),.slice (some ⟨vb,0,none⟩) 1 1] w (xV w v (l.take l.length++x::l.drop l.length)):=λ base c hc1 hc2 hbn hcs hv=>by
  subst hv;refine(Any2.slices_Insert_int_end_grow Tryz.shIns base l.length c vb 0 1 1 (aB l) [.int .i64 x] w (by omega) hc1 hc2 (by omega) hcl rfl hbn hcs hvs h1v).mono ?_;rintro e w' ⟨rfl,rfl⟩;have hge:=grownCap_ge w (l.length+1) c 3;have hle:=grownCap_le_maxLen w (l.length+1) c 3 (by unfold maxLen;omega);have hn:=cM w.drew (.cells ((aB l++[Value.int .i64 x]).toArray++Builtin.zeroCells (Value.int .i64 0).cells (grownCap w (l.length+1) c 3-(l.length+1))) 3);refine⟨_,rfl,?_,rI (lT (jY _ _)) _,inr rfl⟩
  have hg:=jm (g:=w.heap.size) (cap:=grownCap w (l.length+1) c 3) (l:=l.take l.length++x::l.drop l.length) hn (by rw [eQ];exact hge) hle (by simp [Builtin.zeroCells,Value.cells,aB];omega) (λ j y hy=>by
   have hj:j<l.length+1:=by
    have:=(List.getElem?_eq_some_iff.mp hy).1;rw [eQ]at this;exact this
   rw [Array.getElem?_append_left (by simp [aB];omega)];simp only [List.take_length,List.drop_length]at hy;simp only [List.getElem?_toArray,aB];rw [show(l.map (λ x=>Value.int .i64 x)++[.int .i64 x]:List Value)=(l++[x]).map (λ x=>Value.int .i64 x)by simp,List.getElem?_map,hy];rfl)
  rw [eQ]at hg;rw [eQ];exact hg
 obtain⟨_,hv2⟩:=hv;rcases hv2 with⟨rfl,h0⟩|⟨g,cap,cur,rfl,_,hg,hnc,hcm,hcs,htk⟩
 ·obtain rfl:i=l.length:=by omega
  exact endGrow none 0 (by omega) (by omega) (λ _=>h0) (λ a e=>by cases e) (by rw [h0])
 rw [Nat.mul_one]at hcs htk;have hgv:g≠vb:=λ e=>hne (by rw [e];rfl)
 have hc0:∀ j u,(aB l)[j]?=some u->cur[j]?=some u:=λ j u hu=>by
  have hj:j<l.length:=by have:=(List.getElem?_eq_some_iff.mp hu).1;rw [hcl]at this;exact this
  rw [<-htk,List.getElem?_take,aS hj]at hu;simpa using hu
 have hcells:∀ j u,(aB l)[j]?=some u->w.cell? ⟨g,0+j,none⟩=some u:=λ j u hu=>by
  rw [ag hg,Nat.zero_add];exact hc0 j u hu
 have hm63:cap<=9223372036854775807:=by unfold maxLen at hcm;omega
 by_cases hroom:l.length+1<=cap
 ·by_cases hin:i=l.length
  ·subst hin;refine(Any2.slices_Insert_int_end_room Tryz.shIns g 0 l.length cap vb 0 1 1 [.int .i64 x] w (by omega) hroom hm63 rfl (λ j hj=>by rw [ag hg,Array.getElem?_eq_getElem (by omega)];rfl) (λ j hj=>aj hg) hvs h1v).mono ?_;rintro e w' ⟨rfl,rfl⟩;obtain⟨cur',q1,q2,q3⟩:=eL [.int .i64 x] (0+l.length) w cur hg (by simp;omega);refine⟨_,rfl,?_,dZ g _ _ _ _ _ (jY _ _) (inl rfl),inl rfl⟩
   have hgo:=jm (g:=g) (cap:=cap) (l:=l.take l.length++x::l.drop l.length) q1 (by rw [eQ];exact hroom) hcm (by omega) (λ j y hy=>by
    rw [yw (aL _)]at hy;rw [q3 j];by_cases h1:j<l.length
    ·rw [aS h1]at hy;rw [aG (by simp;omega)];exact hc0 j _ (by simp [aB,hy])
    ·rw [aG h1]at hy;by_cases h2:j=l.length
     ·rw [aS h2]at hy;rw [aS (by simp;omega),h2];simpa using hy
     ·rw [aG h2]at hy;have:=(List.getElem?_eq_some_iff.mp hy).1;omega)
   rw [eQ]at hgo;rw [eQ];exact hgo
  have hin':i<l.length:=by omega
  refine(Any2.slices_Insert_int_shift Tryz.shIns g 0 l.length cap i vb 0 1 1 (aB l) [.int .i64 x] w hin' (by omega) hroom hm63 (Ne.symm hgv) hcl rfl hcells (λ j hj=>by rw [ag hg,Array.getElem?_eq_getElem (by omega)];rfl) (λ j hj=>aj hg) hvs (Oh l) h1v 3 3 1 cur.size (by simp [World.shape?,hb]) (by simp [World.shape?,hg]) (by omega) (aj hb) (aj hb)).mono ?_;rintro e w' ⟨rfl,rfl⟩;have hdl:((aB l).drop i).length=l.length-i:=by rw [List.length_drop,hcl]
  obtain⟨cur1,p1,p2,p3⟩:=eL ((aB l).drop i) (0+(i+1)) w.drew cur hg (by rw [hdl];omega);obtain⟨cur',q1,q2,q3⟩:=eL [.int .i64 x] (0+i) (w.drew.setCells g (0+(i+1)) ((aB l).drop i)) cur1 p1 (by simp;omega);refine⟨_,rfl,?_,dZ g _ _ _ _ _ (dZ g _ _ _ _ _ (lT (jY _ _)) (inl rfl)) (inl rfl),inl rfl⟩
  have hgo:=jm (g:=g) (cap:=cap) (l:=l.take i++x::l.drop i) q1 (by rw [eQ];exact hroom) hcm (by omega) (λ j y hy=>by
   have hjl:j<l.length+1:=by
    have:=(List.getElem?_eq_some_iff.mp hy).1;rw [eQ]at this;exact this
   rw [yw hi]at hy;rw [q3 j];by_cases h1:j<i
   ·rw [aS h1]at hy;rw [aG (by simp;omega),p3 j,aG (by omega)];exact hc0 j _ (by simp [aB,hy])
   ·rw [aG h1]at hy;by_cases h2:j=i
    ·rw [aS h2]at hy;rw [aS (by simp;omega),h2];simpa using hy
    ·rw [aG h2]at hy;rw [aG (by simp;omega),p3 j,aS (by rw [hdl];omega),List.getElem?_drop,show i+(j-(0+(i+1)))=j-1 by omega];simp [aB,hy])
  rw [eQ]at hgo;rw [eQ];exact hgo
 by_cases hin:i=l.length
 ·subst hin;exact endGrow (some ⟨g,0,none⟩) cap hnc (by omega) (λ e=>by cases e) (λ a ha j u hu=>by cases ha;rw [Addr.add_lit];exact hcells j u hu) rfl
 have hin':i<l.length:=by omega
 refine(Any2.slices_Insert_int_grow Tryz.shIns g 0 l.length cap i vb 0 1 1 (aB l) [.int .i64 x] w hin' (by omega) hnc (by omega) (by omega) hcl rfl hcells hvs (Oh l) h1v).mono ?_;rintro e w' ⟨rfl,rfl⟩;have hge:=grownCap_ge w (l.length+1) cap 3;have hle:=grownCap_le_maxLen w (l.length+1) cap 3 (by unfold maxLen;omega);obtain⟨ROW,hROW⟩:∃ ROW:Array Value,ROW=((aB l).take i).toArray++Builtin.zeroCells (Value.int .i64 0).cells (l.length+1-i)++Builtin.zeroCells (Value.int .i64 0).cells (grownCap w (l.length+1) cap 3-(l.length+1)):=⟨_,rfl⟩
 have hRs:ROW.size=grownCap w (l.length+1) cap 3:=by
  rw [hROW];simp [Builtin.zeroCells,Value.cells,hcl];omega
 have hRt:∀ j u,j<i->(aB l)[j]?=some u->ROW[j]?=some u:=λ j u hj hu=>by
  rw [hROW,Array.append_assoc,Array.getElem?_append_left (by simp [hcl];omega),List.getElem?_toArray,List.getElem?_take,aS hj,hu]
 show xV w _ _ _ ((((w.alloc (.cells (((aB l).take i).toArray++Builtin.zeroCells (Value.int .i64 0).cells (l.length+1-i)++Builtin.zeroCells (Value.int .i64 0).cells (grownCap w (l.length+1) cap 3-(l.length+1))) 3)).drew.setCells w.heap.size i [.int .i64 x]).drew).setCells w.heap.size (i+1) ((aB l).drop i));rw [<-hROW];have hn:=cM w (.cells ROW 3);have hdl:((aB l).drop i).length=l.length-i:=by rw [List.length_drop,hcl]
 obtain⟨cur1,p1,p2,p3⟩:=eL [.int .i64 x] i (w.alloc (.cells ROW 3)).drew ROW hn (by simp;omega);obtain⟨cur',q1,q2,q3⟩:=eL ((aB l).drop i) (i+1) ((w.alloc (.cells ROW 3)).drew.setCells w.heap.size i [.int .i64 x]).drew cur1 p1 (by rw [hdl];omega);refine⟨_,rfl,?_,dZ _ _ _ _ _ _ (lT (dZ _ _ _ _ _ _ (lT (rI (jY _ _) _)) (inr (aL _)))) (inr (aL _)),inr rfl⟩
 have hgo:=jm (g:=w.heap.size) (cap:=grownCap w (l.length+1) cap 3) (l:=l.take i++x::l.drop i) q1 (by rw [eQ];exact hge) hle (by omega) (λ j y hy=>by
  have hjl:j<l.length+1:=by
   have:=(List.getElem?_eq_some_iff.mp hy).1;rw [eQ]at this;exact this
  rw [yw hi]at hy;rw [q3 j];by_cases h1:j<i
  ·rw [aS h1]at hy;rw [aG (by omega),p3 j,aG (by omega)];exact hRt j _ h1 (by simp [aB,hy])
  ·rw [aG h1]at hy;by_cases h2:j=i
   ·rw [aS h2]at hy;rw [aG (by omega),p3 j,aS (by simp;omega),h2];simpa using hy
   ·rw [aG h2]at hy;rw [aS (by rw [hdl];omega),List.getElem?_drop,show i+(j-(i+1))=j-1 by omega];simp [aB,hy])
 rw [eQ]at hgo;rw [eQ];exact hgo
theorem dp.ins{W W1 w2:World}{b:Nat}{r:Rt}{pv mv v':Value}{l':List Int}(h:dp W b r pv mv)(hb:Below W.heap.size W W1)(hl:l'.length<=12)
  (ho:w2.ownsRow 0 3 1 v' l'.length (aB l')) (hg:W1.grownBy w2 pv.ownBlock) (hat:v'.ownBlock=pv.ownBlock\/v'.ownBlock=some W1.heap.size) :
  dp (w2.setCell ⟨b,2,none⟩ v') b { r with path:=l' } v' mv/\Fr (ff b pv mv) W (ff b v' mv) (w2.setCell ⟨b,2,none⟩ v'):=by
 have hbl:=ah h.blk;have hsz:=hb.size;have hbk:w2.heap[b]?=W.heap[b]?:=(hg.block b (by omega) (λ e=>h.ne1 e.symm)).trans (hb.block b hbl)
 have hmk:∀ k,mv.ownBlock=some k->w2.heap[k]?=W.heap[k]?:=λ k e=>by
  have hk:=(h.marks.lt k e).2;refine(hg.block k (by omega) (λ e2=>?_)).trans (hb.block k hk);rcases h.ne3 with h1|h1
  ·rw [h1]at e2;cases e2
  exact h1 (e2.symm.trans e.symm)
 have hvb:v'.ownBlock≠some b:=λ e=>by
  rcases hat with h1|h1
  ·exact h.ne1 (h1.symm.trans e)
  rw [h1]at e;cases e;omega
 have hF:Fr (ff b pv mv) W (ff b pv mv) w2:=(Fr.of_below hb).grown hg (λ k e=>inl (inr (inl e)));refine⟨⟨?_,ay ho (λ k e=>ai (λ e2=>hvb (by rw [e];exact jC some e2))),ay h.marks (λ k e=>(ai (λ e2=>h.ne2 (by rw [e];exact jC some e2))).trans (hmk k e)),hvb,h.ne2,?_,hl,h.n2,h.srt⟩,?_⟩
 ·rw [aV (hbk.trans h.blk)];rfl
 ·rcases hat with h1|h1
  ·rw [h1];exact h.ne3
  right;rw [h1];intro e;have:=(h.marks.lt _ e.symm).2;omega
 refine(hF.reown (O2:=ff b v' mv) (λ k hk=>?_)).setCell (inl (inl rfl)) _;rcases hk with h1|h1|h1
 ·exact inl (inl h1)
 ·rcases hat with h2|h2
  ·exact inl (inr (inl (h2.symm.trans h1)))
  rw [h2]at h1;cases h1;exact inr hsz
 exact inl (inr (inr h1))
theorem A9(W:World)(B:Nat)(n:Int)(hb:W.cell? ⟨B,0,none⟩=some (.int .i64 n))(b:Nat)(r:Rt)(pv mv:Value)(h:dp W b r pv mv) :
  Calls prog 199 (#[au b 0]++#[au B 0]) W (ic b pv mv W (dM n r)):=by
 have HR:=af h;obtain⟨pa,pc,hpv⟩:=al h.path;have c2:W.cell? ⟨b,2,none⟩=some pv:=ag h.blk;have n1:=h.n1;by_cases hl:r.path.length=12
 ·have EQ:=af (show dM n r=(r,3)by rw [dM,aS hl]);clear h;subst hpv;have hl':((r.path.length:Nat):Int)=12:=by omega
  go_enter func199,ntmps199;go_wp2_with fail;all_goals first|(go_ret;rw [ae EQ];exact⟨rfl,_,mv,ae HR,dw _ _⟩)|skip
 have EQ:=af (show dM n r=({ r with path:=n::r.path },0)by rw [dM,aG hl]);have hl':¬((r.path.length:Nat):Int)=12:=by omega
 have HI:=af (λ(W1:World) (hW:Below W.heap.size W W1) (vb:Nat) (hvb:W1.heap[vb]?=some (.cells #[.int .i64 n] 3 (0,0))) (hge:W.heap.size<=vb) =>
  xD W1 pv r.path 0 n vb (ay h.path (λ k e=>hW.block k (h.path.lt k e).2)) (dG _) (by omega) hvb (λ e=>by have:=(h.path.lt _ e).2;omega))
 have z2:W.frozen? ⟨b,2,none⟩=false:=aj h.blk;have hbl:=ah h.blk;clear h;subst hpv;go_enter func199,ntmps199;go_wp2_with fail;go_region_with (go_at_call 195;refine((ae HI) _ ((aY _ _).alloc (aL _) _).drew W.heap.size (cM W _) (aL _)).mono ?_;rintro e w2 ⟨v',rfl,ho,hg,hat⟩;obtain⟨fa,fc,hf⟩:=al ho;have HX:=af ((ae HR).ins ((aY W.heap.size W).alloc (aL _) (.cells #[.int .i64 n] 3)).drew (by simp;omega) ho hg hat);have hbb:w2.heap[b]?=W.heap[b]?:=(hg.block b (by simp;omega) (λ e=>(ae HR).ne1 e.symm)).trans (((aY W.heap.size W).alloc (aL _) (.cells #[.int .i64 n] 3)).drew.block b hbl);have y2:w2.cell? ⟨b,2,none⟩=some (.slice pa r.path.length pc):=(World.cell?_of_block (a:=⟨b,2,none⟩) hbb).trans c2;have yz:w2.frozen? ⟨b,2,none⟩=false:=(World.frozen?_of_block (a:=⟨b,2,none⟩) hbb).trans z2;clear ho hg hat hbb;subst hf)
 all_goals
  go_wp2_with fail;go_ret;rw [ae EQ];exact⟨rfl,_,mv,(ae HX).1,(ae HX).2⟩
theorem Tryz.entPrepend:Enters prog 199:=enters_of func199 (by kernel_rfl) rfl
theorem yT(w:World)(n:Int) :
  Calls prog 152 #[.int .i64 n] w λ e w'=>e=.returned (.func (.func 199) #[] #[au w.heap.size 0])/\w'=w.alloc (aE (.int .i64 n) 3):=by
 have hmf:∀(fn:Fn) (first cap:Array Value) (w:World),(Instr.makeFunc fn first cap).run prog w=.ok (.func fn first cap) w:=λ _ _ _ _=>rfl
 go_enter func152,ntmps152;go_wp2_with fail;go_ret;exact⟨rfl,rfl⟩
theorem p8:lH 152 dM:=by
 intro w n A hA;refine(yT w n).mono ?_;rintro e w' ⟨rfl,rfl⟩;refine⟨_,rfl,rfl,ax.new (λ k=>k=w.heap.size) (λ k hk=>⟨by subst hk;simp,hA k (by omega)⟩) (λ W hW hk=>?_)⟩;exact⟨_,_,rfl,Tryz.entPrepend,λ b r pv mv hr _=>A9 W _ n (mF (hk _ rfl) (cM w _)) b r pv mv hr⟩
end Go.Proofs.YtphhnjljlllnlaaGreatDoor
namespace Go.Proofs
open Go.Shelf
def Tryz.shSch_ren:Go.Shelf.Ren:=⟨fun|25=>194|31=>228|32=>229|37=>129|n=>n,fun|22=>22|3=>3|4=>4|40=>109|0=>0|n=>n,fun|n=>n⟩
theorem Tryz.shSch:Go.Proofs.Lays2.n25 prog Tryz.shSch_ren:={
 mixed:=by kernel_rfl
 f25:=func194.trans (congrArg some (by kernel_rfl))
 f31:=func228.trans (congrArg some (by kernel_rfl))
 f32:=func229.trans (congrArg some (by kernel_rfl))
 f37:=func129.trans (congrArg some (by kernel_rfl))
 t0:=underlying0
 a0:=Tryz.isAgg0
 z0:=Tryz.sizeOf0
 v0:=Tryz.zeroValue0
 t3:=underlying3
 a3:=Tryz.isAgg3
 z3:=Tryz.sizeOf3
 v3:=Tryz.zeroValue3
 t4:=underlying4
 a4:=Tryz.isAgg4
 z4:=Tryz.sizeOf4
 v4:=Tryz.zeroValue4
 t22:=underlying22
 a22:=Tryz.isAgg22
 z22:=Tryz.sizeOf22
 v22:=Tryz.zeroValue22
 t40:=underlying109
 a40:=Tryz.isAgg109
 z40:=Tryz.sizeOf109
 v40:=Tryz.zeroValue109 }
def Tryz.shDel_ren:Go.Shelf.Ren:=⟨fun|23=>198|n=>n,fun|22=>22|3=>3|4=>4|0=>0|n=>n,fun|n=>n⟩
theorem Tryz.shDel:Go.Proofs.Lays2.n23 prog Tryz.shDel_ren:={
 mixed:=by kernel_rfl
 f23:=func198.trans (congrArg some (by kernel_rfl))
 t0:=underlying0
 a0:=Tryz.isAgg0
 z0:=Tryz.sizeOf0
 v0:=Tryz.zeroValue0
 t3:=underlying3
 a3:=Tryz.isAgg3
 z3:=Tryz.sizeOf3
 v3:=Tryz.zeroValue3
 t4:=underlying4
 a4:=Tryz.isAgg4
 z4:=Tryz.sizeOf4
 v4:=Tryz.zeroValue4
 t22:=underlying22
 a22:=Tryz.isAgg22
 z22:=Tryz.sizeOf22
 v22:=Tryz.zeroValue22
 i3:=by kernel_rfl }
end Go.Proofs
namespace Go.Proofs.YtphhnjljlllnlaaGreatDoor
open Go.Proofs.Tryz
open Or
open Go.RowKit
open Go.Shelf
