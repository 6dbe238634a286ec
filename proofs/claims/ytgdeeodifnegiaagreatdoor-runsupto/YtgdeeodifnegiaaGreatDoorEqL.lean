/- part -/
import Derived.Test.YtgdeeodifnegiaaGreatDoorEqA
namespace Go.Proofs.YtgdeeodifnegiaaGreatDoor
open Go.Proofs.Tryz
open Or
open Go.RowKit
theorem rP(s:ByteArray)(i j:Nat):s.extract i j=gA ((s.data.toList.drop i).take (j-i)):=by
 have h:(s.extract i j).data=(gA ((s.data.toList.drop i).take (j-i))).data:=by
  rw [ByteArray.data_extract];apply Array.ext';rw [Array.toList_extract]
 cases hx:s.extract i j with
 | mk d=>rw [hx]at h;simp only at h;rw [h]
theorem oX(s:ByteArray):s.data.toList.length=s.size:=by simp
theorem Dm{s:ByteArray}{k:Nat}(h:k<s.size):∃ b:UInt8,s.data.toList[k]?=some b/\bt s k=(b.toNat:Int):=by
 have hl:=oX s;refine⟨s.data.toList[k]'(by omega),iK (by omega),?_⟩;have:bt (gA s.data.toList) k=_:=sV (iK (by omega))
 rwa [gI]at this
def dB(b:UInt8):Bool:=ff (b.toNat:Int)
def xT:Nat->List UInt8->Int->Option (Int×Int)
 | 0,b,a=>match b.dropWhile dB with
  | []=>none
  | c::rest=>if c=47/\eS (gA (b.takeWhile dB)) 255=true/\eS (gA rest) 32=true/\cI (a*256+fR (gA (b.takeWhile dB)) 255,fR (gA rest) 32)=true then some (a*256+fR (gA (b.takeWhile dB)) 255,fR (gA rest) 32)else none
 | n+1,b,a=>match b.dropWhile dB with
  | []=>none
  | c::rest=>if c=46/\eS (gA (b.takeWhile dB)) 255=true then xT n rest (a*256+fR (gA (b.takeWhile dB)) 255)else none
def km(b:List UInt8):List (List UInt8):=Lib.splitK [46] 0 (b.count 46) b
def px(n:Nat)(bef beh:List UInt8)(a:Int):Option (Int×Int) :=
 if(km bef).length=n+1 then
  match iT ((km bef).map gA) a with
  | none=>none
  | some v=>if eS (gA beh) 32=true/\cI (v,fR (gA beh) 32)=true then some (v,fR (gA beh) 32)else none
 else none
theorem mE{x:List UInt8}(h:(46:UInt8) ∉ x):km x=[x]:=Aj 46 x h _
theorem oe{x y:List UInt8}(h:(46:UInt8) ∉ x):km (x++46::y)=x::km y:=by
 unfold km
 have:(x++46::y).count 46=y.count 46+1:=by
  rw [List.count_append,List.count_eq_zero.2 h,List.count_cons];simp
 rw [this];exact Cv 46 x y h _
theorem vY(x:List UInt8):0<(km x).length:=by
 unfold km;cases x.count 46 with
 | zero=>simp [Lib.splitK]
 | succ k=>rw [Lib.splitK];split<;>simp
theorem mn{x:List UInt8}(h:(47:UInt8) ∉ x):Lib.cut x [47]=(x,[],false):=by
 unfold Lib.cut;rw [nW 47 x h,au (by decide)]
theorem rN{x:List UInt8}{c:UInt8}(hc:dB c=false):c ∉ x.takeWhile dB:=λ h=>by
 have:=List.all_takeWhile (l:=x) (p:=dB);rw [List.all_eq_true]at this;rw [this c h]at hc;cases hc
theorem E9:eS (gA []) 32=false:=by decide
theorem IT:∀(n:Nat) (b:List UInt8) (a:Int),(∀ c∈b,bX (c.toNat:Int)=true)->px n (Lib.cut b [47]).1 (Lib.cut b [47]).2.1 a=xT n b a:=by
 intro n
 induction n with
 | zero =>
  intro b a hb;have hx:b=b.takeWhile dB++b.dropWhile dB:=(List.takeWhile_append_dropWhile).symm;have h46:(46:UInt8) ∉ b.takeWhile dB:=rN (by decide);have h47:(47:UInt8) ∉ b.takeWhile dB:=rN (by decide);rw [xT];cases hy:b.dropWhile dB with
  | nil =>
   rw [hy,List.append_nil]at hx;have e:Lib.cut b [47]=(b,[],false):=mn (by rw [hx];exact h47);rw [e];unfold px;dsimp only;rw [E9];split
   ·split
    ·rfl
    simp
   rfl
  | cons c rest =>
   have hcm:c∈b:=by rw [hx,hy];simp
   have hcn:=hb c hcm
   have hcd:dB c=false:=by
    have:=List.head?_dropWhile_not (p:=dB) (l:=b);rw [hy]at this;simpa using this
   have hc:c=46\/c=47:=by
    unfold bX at hcn;unfold dB at hcd;rw [hcd]at hcn;simp at hcn;rcases hcn with h|h
    ·left;exact UInt8.toNat_inj.1 (by have:(46:UInt8).toNat=46:=rfl;omega)
    right;exact UInt8.toNat_inj.1 (by have:(47:UInt8).toNat=47:=rfl;omega)
   rw [hy]at hx;dsimp only;rcases hc with rfl|rfl
   ·rw [au (by simp)];unfold px;rw [au];intro hl;by_cases hm:(47:UInt8)∈rest
    ·obtain⟨u,v,hu,hnu⟩:=List.eq_append_cons_of_mem hm
     have e:Lib.cut b [47]=(b.takeWhile dB++46::u,v,true):=by
      conv=>lhs;rw [hx,hu]
      rw [show b.takeWhile dB++46::(u++47::v)=(b.takeWhile dB++46::u)++47::v by simp];exact oL 47 _ v (by simp;exact⟨h47,hnu⟩)
     rw [e]at hl;dsimp only at hl;rw [oe h46]at hl;have:=vY u;rw [List.length_cons]at hl;omega
    have e:Lib.cut b [47]=(b,[],false):=mn (by rw [hx];simp;exact⟨h47,hm⟩);rw [e]at hl;dsimp only at hl;rw [hx,oe h46]at hl;have:=vY rest;rw [List.length_cons]at hl;omega
   have e:Lib.cut b [47]=(b.takeWhile dB,rest,true):=by
    conv=>lhs;rw [hx]
    exact oL 47 _ rest h47
   rw [e];unfold px;dsimp only;rw [mE h46,aC (by simp)];simp only [List.map_cons,List.map_nil,iT];cases hn:eS (gA (b.takeWhile dB)) 255 with
   | false=>simp
   | true=>simp
 | succ n ih =>
  intro b a hb;have hx:b=b.takeWhile dB++b.dropWhile dB:=(List.takeWhile_append_dropWhile).symm;have h46:(46:UInt8) ∉ b.takeWhile dB:=rN (by decide);have h47:(47:UInt8) ∉ b.takeWhile dB:=rN (by decide);rw [xT];cases hy:b.dropWhile dB with
  | nil =>
   rw [hy,List.append_nil]at hx;have e:Lib.cut b [47]=(b,[],false):=mn (by rw [hx];exact h47);rw [e];unfold px;dsimp only;rw [au];rw [hx,mE h46];simp
  | cons c rest =>
   have hcm:c∈b:=by rw [hx,hy];simp
   have hcn:=hb c hcm
   have hcd:dB c=false:=by
    have:=List.head?_dropWhile_not (p:=dB) (l:=b);rw [hy]at this;simpa using this
   have hc:c=46\/c=47:=by
    unfold bX at hcn;unfold dB at hcd;rw [hcd]at hcn;simp at hcn;rcases hcn with h|h
    ·left;exact UInt8.toNat_inj.1 (by have:(46:UInt8).toNat=46:=rfl;omega)
    right;exact UInt8.toNat_inj.1 (by have:(47:UInt8).toNat=47:=rfl;omega)
   rw [hy]at hx;dsimp only;rcases hc with rfl|rfl
   ·have hr:=ih rest (a*256+fR (gA (b.takeWhile dB)) 255) (λ c h=>hb c (by rw [hx];simp [h]))
    have key:∀ bef beh,(Lib.cut b [47]).1=b.takeWhile dB++46::bef->(Lib.cut b [47]).2.1=beh->(Lib.cut rest [47]).1=bef->(Lib.cut rest [47]).2.1=beh ->
      px (n+1) (Lib.cut b [47]).1 (Lib.cut b [47]).2.1 a=if(46:UInt8)=46/\eS (gA (b.takeWhile dB)) 255=true then xT n rest (a*256+fR (gA (b.takeWhile dB)) 255)else none:=by
     intro bef beh e1 e2 e3 e4;rw [<-hr,e1,e2,e3,e4];unfold px;rw [oe h46];simp only [List.map_cons,iT,List.length_cons];cases hn:eS (gA (b.takeWhile dB)) 255 with
     | false=>simp
     | true=>simp
    by_cases hm:(47:UInt8)∈rest
    ·obtain⟨u,v,hu,hnu⟩:=List.eq_append_cons_of_mem hm
     have e:Lib.cut b [47]=(b.takeWhile dB++46::u,v,true):=by
      conv=>lhs;rw [hx,hu]
      rw [show b.takeWhile dB++46::(u++47::v)=(b.takeWhile dB++46::u)++47::v by simp];exact oL 47 _ v (by simp;exact⟨h47,hnu⟩)
     have e':Lib.cut rest [47]=(u,v,true):=by rw [hu];exact oL 47 u v hnu
     exact key u v (by rw [e]) (by rw [e]) (by rw [e']) (by rw [e'])
    have e:Lib.cut b [47]=(b,[],false):=mn (by rw [hx];simp;exact⟨h47,hm⟩);have e':Lib.cut rest [47]=(rest,[],false):=mn hm;exact key rest [] (by rw [e];exact hx) (by rw [e]) (by rw [e']) (by rw [e'])
   rw [au (by simp)]
   have e:Lib.cut b [47]=(b.takeWhile dB,rest,true):=by
    conv=>lhs;rw [hx]
    exact oL 47 _ rest h47
   rw [e];unfold px;dsimp only;rw [mE h46,au (by simp)]
theorem Fu{t:ByteArray}(h:∀ c∈t.data.toList,bX (c.toNat:Int)=true):kf t=xT 3 t.data.toList 0:=by
 rw [<-IT 3 _ 0 h]
 have hp:lC t=(km (Lib.cut t.data.toList [47]).1).map gA:=by
  refine yV ?_;unfold lC;rw [Lib.splitB_data,List.map_map];show Lib.splitK [46] 0 (Lib.count (Lib.cut t.data.toList [47]).1 [46]) (Lib.cut t.data.toList [47]).1=_;rw [Lib.count_one];unfold km;rw [show((λ x:ByteArray=>x.data.toList) ∘ gA)=id from funext λ x=>by simp,List.map_id]
 unfold kf px;rw [hp,List.length_map]
 rfl
theorem pk{t:ByteArray}{p q:Nat}{a l:Int}:∀(d i:Nat),i+d<=t.size->(∀ k,i<=k->k<i+d->ff (bt t k)=true\/p=4)->du t (t.size+1-i) i p q a l=du t (t.size+1-(i+d)) (i+d) p q a l
 | 0,i,_,_=>rfl
 | d+1,i,h,hd=>by
  rw [xL (by omega) (hd i (aD _) (by omega)),pk d (i+1) (by omega) (λ k h1 h2=>hd k (by omega) (by omega)),show i+1+d=i+(d+1)by omega]
theorem Kz(a l:Int):tI a l=cI (a,l):=by
 unfold tI cI;exact decide_eq_decide.2 (by unfold tJ KZ;exact⟨λ⟨a,b,c,d,e⟩=>⟨⟨a,b⟩,⟨c,d⟩,e⟩,λ⟨⟨a,b⟩,⟨c,d⟩,e⟩=>⟨a,b,c,d,e⟩⟩)
theorem ph(x:ByteArray)(m:Int):eS x m=decide (¬bf x m<0)/\(¬bf x m<0->fR x m=bf x m):=by
 unfold eS fR;refine⟨decide_eq_decide.2 (by omega),λ h=>aC (by omega)⟩
def Mp(r:Int×Int×Bool)(o:Option (Int×Int)):Prop:=match o with|none=>r.2.2=false|some x=>r=(x.1,x.2,true)
theorem Dl{t:ByteArray}{q:Nat}{x y:List UInt8}(h:t.data.toList.drop q=x++y):(∀ k (hk:k<x.length),bt t (q+k)=(x[k].toNat:Int))/\(∀ c r,y=c::r->bt t (q+x.length)=(c.toNat:Int)/\q+x.length<t.size):=by
 have hl:=oX t;refine⟨λ k hk=>?_,λ c r e=>?_⟩
 ·have h1:t.data.toList[q+k]?=some x[k]:=by
   rw [<-List.getElem?_drop,h,List.getElem?_append_left hk,iK hk]
  have:bt (gA t.data.toList) (q+k)=_:=sV h1
  rwa [gI]at this
 have h1:t.data.toList[q+x.length]?=some c:=by
  rw [<-List.getElem?_drop,h,List.getElem?_append_right (aD _),e];simp
 refine⟨?_,?_⟩
 ·have:bt (gA t.data.toList) (q+x.length)=_:=sV h1
  rwa [gI]at this
 have:=(List.getElem?_eq_some_iff.1 h1).1;omega
theorem Ay{b:List UInt8}{k:Nat}(h:k<(b.takeWhile dB).length):dB ((b.takeWhile dB)[k])=true:=by
 have:=List.all_takeWhile (l:=b) (p:=dB);rw [List.all_eq_true]at this;exact this _ (nN h)
theorem I4{t:ByteArray}{q:Nat}{a l:Int}(h:q<=t.size):Mp (du t (t.size+1-q) q 4 q a l) (if eS (gA (t.data.toList.drop q)) 32=true/\cI (a,fR (gA (t.data.toList.drop q)) 32)=true then some (a,fR (gA (t.data.toList.drop q)) 32)else none):=by
 have e:=pk (t:=t) (p:=4) (q:=q) (a:=a) (l:=l) (t.size-q) q (by omega) (λ _ _ _=>inr rfl);rw [show q+(t.size-q)=t.size by omega]at e;rw [e];have hx:t.extract q t.size=gA (t.data.toList.drop q):=tg t q;obtain⟨n1,n2⟩:=ph (gA (t.data.toList.drop q)) 32;by_cases hn:bf (gA (t.data.toList.drop q)) 32<0
 ·rw [mU (aD _) (λ h=>by omega) (by omega) (by rw [aC rfl,hx];exact hn)];rw [n1,au (by simp;omega)]
  rfl
 rw [DL rfl (by rw [hx];exact hn),II,hx,n1,n2 hn,Kz];cases hb:cI (a,bf (gA (t.data.toList.drop q)) 32)with
 | true=>rw [aC (by simp;omega)];rfl
 | false=>rw [au (by simp)];rfl
theorem Mw{t:ByteArray}:∀(n q:Nat) (a l:Int),n<=3->q<=t.size->Mp (du t (t.size+1-q) q (3-n) q a l) (xT n (t.data.toList.drop q) a):=by
 intro n
 induction n with
 | zero =>
  intro q a l _ hq;have hl:=oX t;have hx:t.data.toList.drop q=(t.data.toList.drop q).takeWhile dB++(t.data.toList.drop q).dropWhile dB:=(List.takeWhile_append_dropWhile).symm;obtain⟨b1,b2⟩:=Dl hx;have hlen:=pP List.length hx;rw [List.length_drop,List.length_append]at hlen
  rw [pk (((t.data.toList.drop q).takeWhile dB).length) q (by omega) (λ k h1 h2=>inl (by
   have:=b1 (k-q) (by omega);rw [show q+(k-q)=k by omega]at this;rw [this];exact Ay (by omega)))]
  generalize hX:(t.data.toList.drop q).takeWhile dB=x at *;rw [xT,hX];have hext:t.extract q (q+x.length)=gA x:=by rw [rP,show q+x.length-q=x.length by omega,hx,List.take_left]
  cases hy:(t.data.toList.drop q).dropWhile dB with
  | nil =>
   rw [hy]at hlen;have hsz:q+x.length=t.size:=by simp at hlen;omega
   rw [oh (by omega) (λ h=>by omega) (inr ⟨by omega,by decide⟩)];exact rfl
  | cons c rest =>
   obtain⟨e1,e2⟩:=b2 c rest hy
   have hcd:dB c=false:=by
    have:=List.head?_dropWhile_not (p:=dB) (l:=t.data.toList.drop q);rw [hy]at this;simpa using this
   have hcd':ff (bt t (q+x.length))=false:=by rw [e1];exact hcd
   obtain⟨n1,n2⟩:=ph (gA x) 255;dsimp only;by_cases hc:c=47
   ·subst hc;by_cases hv:bf (gA x) 255<0
    ·rw [mU (by omega) (λ _=>⟨hcd',by decide⟩) (by rw [e1];simp;omega) (by rw [au (by decide),hext];exact hv),n1,au (by simp;omega)];exact rfl
    rw [rT e2 hcd' (by decide) (by rw [e1];rfl) (by rw [hext];exact hv),hext]
    have hd:t.data.toList.drop (q+x.length+1)=rest:=by
     rw [Nat.add_assoc,<-List.drop_drop,hx,hy,<-List.drop_drop,List.drop_left];rfl
    have:=I4 (t:=t) (q:=q+x.length+1) (a:=256*a+bf (gA x) 255) (l:=l) (by omega);rw [hd]at this;rw [n1,n2 hv,show a*256+bf (gA x) 255=256*a+bf (gA x) 255 by omega];simp only [hv,not_false_eq_true,decide_true,true_and];exact this
   rw [oh (by omega) (λ _=>⟨hcd',by decide⟩) (inl ⟨e2,by rw [e1];intro h;exact hc (UInt8.toNat_inj.1 (by have:(47:UInt8).toNat=47:=rfl;simp at h;omega))⟩),au (by simp [hc])];exact rfl
 | succ n ih =>
  intro q a l hn3 hq;have hl:=oX t;have hx:t.data.toList.drop q=(t.data.toList.drop q).takeWhile dB++(t.data.toList.drop q).dropWhile dB:=(List.takeWhile_append_dropWhile).symm;obtain⟨b1,b2⟩:=Dl hx;have hlen:=pP List.length hx;rw [List.length_drop,List.length_append]at hlen
  rw [pk (((t.data.toList.drop q).takeWhile dB).length) q (by omega) (λ k h1 h2=>inl (by
   have:=b1 (k-q) (by omega);rw [show q+(k-q)=k by omega]at this;rw [this];exact Ay (by omega)))]
  generalize hX:(t.data.toList.drop q).takeWhile dB=x at *;rw [xT,hX];have hext:t.extract q (q+x.length)=gA x:=by rw [rP,show q+x.length-q=x.length by omega,hx,List.take_left]
  have h4:3-(n+1)≠4:=by omega
  have h3:3-(n+1)≠3:=by omega
  cases hy:(t.data.toList.drop q).dropWhile dB with
  | nil =>
   rw [hy]at hlen;have hsz:q+x.length=t.size:=by simp at hlen;omega
   rw [oh (by omega) (λ h=>by omega) (inr ⟨by omega,h4⟩)];exact rfl
  | cons c rest =>
   obtain⟨e1,e2⟩:=b2 c rest hy
   have hcd:dB c=false:=by
    have:=List.head?_dropWhile_not (p:=dB) (l:=t.data.toList.drop q);rw [hy]at this;simpa using this
   have hcd':ff (bt t (q+x.length))=false:=by rw [e1];exact hcd
   obtain⟨n1,n2⟩:=ph (gA x) 255;dsimp only;by_cases hc:c=46
   ·subst hc;by_cases hv:bf (gA x) 255<0
    ·rw [mU (by omega) (λ _=>⟨hcd',h4⟩) (by rw [e1,au h3];simp;omega) (by rw [au h4,hext];exact hv),n1,au (by simp;omega)];exact rfl
    rw [rT e2 hcd' h4 (by rw [e1,au h3];rfl) (by rw [hext];exact hv),hext]
    have hd:t.data.toList.drop (q+x.length+1)=rest:=by
     rw [Nat.add_assoc,<-List.drop_drop,hx,hy,<-List.drop_drop,List.drop_left];rfl
    have:=ih (q+x.length+1) (256*a+bf (gA x) 255) l (by omega) (by omega);rw [hd]at this;rw [n1,n2 hv,show a*256+bf (gA x) 255=256*a+bf (gA x) 255 by omega,show 3-(n+1)+1=3-n by omega];simp only [hv,not_false_eq_true,decide_true,and_self,if_true];exact this
   rw [oh (by omega) (λ _=>⟨hcd',h4⟩) (inl ⟨e2,by rw [e1,au h3];intro h;exact hc (UInt8.toNat_inj.1 (by have:(46:UInt8).toNat=46:=rfl;omega))⟩),au (by simp [hc])];exact rfl
theorem K7{t:ByteArray}(h:∀ c∈t.data.toList,bX (c.toNat:Int)=true):Mp (aV t) (kf t):=by
 rw [Fu h];have:=Mw (t:=t) 3 0 0 0 (aD _) (iL _);exact this
theorem ug{p:Int->Bool}{s:ByteArray}{j:Nat}(hj:j<=s.size):∀ f i,ny p s f (j+i)=j+ny p (s.extract j s.size) f i
 | 0,i=>by simp [ny]
 | f+1,i=>by
  have hsz:(s.extract j s.size).size=s.size-j:=by simp
  have hb:i<(s.extract j s.size).size->bt (s.extract j s.size) i=bt s (j+i):=λ h=>by
   obtain⟨b,h1,h2⟩:=Dm (s:=s) (k:=j+i) (by omega);rw [h2,tg];exact sV (by rw [List.getElem?_drop];exact h1)
  rw [ny,ny];by_cases hc:j+i<s.size/\p (bt s (j+i))=true
  ·rw [aC hc,aC ⟨by omega,by rw [hb (by omega)];exact hc.2⟩];exact ug hj f (i+1)
  rw [au hc,au (λ hh=>hc ⟨by omega,by rw [<-hb hh.1];exact hh.2⟩)]
theorem pB{p:Int->Bool}{s:ByteArray}{j:Nat}(hj:j<=s.size):aG p s j=j+aG p (s.extract j s.size) 0:=by
 have:=ug (p:=p) hj (s.size-j) 0;unfold aG;rw [show(s.extract j s.size).size-0=s.size-j by simp];exact this
theorem rO{s:ByteArray}{j n:Nat}:(s.extract j s.size).extract 0 n=s.extract j (j+n):=by
 rw [zm,tg,rP];show gA ((s.data.toList.drop j).take n)=_;rw [show j+n-j=n by omega]
theorem Hp{s:ByteArray}{i j:Nat}(h:j<=s.size):(s.extract i j).size=j-i:=by simp;omega
theorem AG(a b:ByteArray)(h:(a.toList==b.toList)=true):a=b:=by
 have h1:a.toList=b.toList:=by simpa using h
 rw [ByteArray.toList_eq,ByteArray.toList_eq]at h1;rw [<-gI a,<-gI b];show gA a.data.toList=gA b.data.toList;rw [h1]
theorem Gq(t:ByteArray):(jF eK t=true/\∃ j:Nat,j<21/\jR t=5+(j:Int)/\t=wd j)\/(jF eK t=false/\jR t=0):=by
 have hl:eK.length=21:=rfl;unfold jR;cases h:eK.findIdx? (λ x=>x.toList==t.toList)with
 | none =>
  right;refine⟨?_,rfl⟩;rw [List.findIdx?_eq_none_iff]at h;unfold jF;rw [List.any_eq_false];intro x hx;rw [h x hx];decide
 | some i =>
  left;rw [List.findIdx?_eq_some_iff_getElem]at h;obtain⟨hi,hx,_⟩:=h;have e:eK[i]=wd i:=by simp [wd,List.getD,hi]
  rw [e]at hx;exact⟨vv hi (by rw [e];exact hx),i,by omega,rfl,(AG _ _ hx).symm⟩
theorem FL:∀ c:Nat,c<256->(nL (c:Int)=true/\∃ j:Nat,j<16/\nM (c:Int)=26+(j:Int)/\oq j=⟨#[UInt8.ofNat c]⟩)\/(nL (c:Int)=false/\nM (c:Int)=0):=by decide +kernel
theorem CO{s:ByteArray}{j:Nat}(hj:j<s.size):GH (g7 s j).1 (hC s j)/\((hC s j).kind≠0->(g7 s j).2=j+(hC s j).text.size):=by
 have h0:bt (s.extract j s.size) 0=bt s j:=Ba hj;have nf:¬(false=true):=by decide
 unfold hC eB g7;rw [au (by omega),h0];cases hl:dF (bt s j)with
 | true =>
  rw [aC rfl,aC rfl];have hs:=pB (p:=dF) (s:=s) (j:=j) (by omega);have hbd:=jB (p:=dF) (s:=s) (i:=j) (by omega);rw [rO,<-hs];have hsz:(s.extract j (aG dF s j)).size=aG dF s j-j:=Hp hbd.2;generalize s.extract j (aG dF s j)=t at *;unfold kK;rcases Gq t with⟨ha,k,hk,hw,ht⟩|⟨ha,hw⟩
  ·rw [ha,aC rfl,hw,au (by omega)];exact⟨⟨rfl,inr (inr (inr (inr (inr (inl ⟨rfl,k,hk,rfl,ht,rfl⟩)))))⟩,λ _=>by dsimp only;omega⟩
  rw [ha,au nf,hw];by_cases h8:aG dF s j-j<=8
  ·rw [aC h8,aC ⟨rfl,by omega⟩];exact⟨⟨rfl,inr (inr (inl ⟨rfl,rfl,rfl⟩))⟩,λ _=>by dsimp only;omega⟩
  rw [au h8,au (by omega)];exact⟨⟨rfl,inr (inl ⟨rfl,rfl⟩)⟩,λ h=>absurd rfl h⟩
 | false =>
  rw [au nf,au nf];cases hd:ff (bt s j)with
  | true =>
   rw [aC rfl,aC rfl];have hs:=pB (p:=bX) (s:=s) (j:=j) (by omega);have hbd:=jB (p:=bX) (s:=s) (i:=j) (by omega)
   have hall:∀ c∈(s.extract j (aG bX s j)).data.toList,bX (c.toNat:Int)=true:=by
    rw [hs,<-rO,zm];intro c hc;exact Cp (p:=bX) (s:=s.extract j s.size) (by simpa using hc)
   rw [rO,<-hs];have hsz:(s.extract j (aG bX s j)).size=aG bX s j-j:=Hp hbd.2;generalize s.extract j (aG bX s j)=t at *;unfold eh;obtain⟨n1,n2⟩:=ph t 4294967295;by_cases hn:bf t 4294967295<0
   ·rw [n1,au (show ¬0<=bf t 4294967295 by omega),au (show ¬(decide (¬bf t 4294967295<0))=true by simp;omega)];have hp:=K7 hall;cases hq:kf t with
    | none =>
     rw [hq]at hp;have hp:(aV t).2.2=false:=hp;rw [hp,au nf,au (by simp)];exact⟨⟨rfl,inr (inl ⟨rfl,rfl⟩)⟩,λ h=>absurd rfl h⟩
    | some x =>
     rw [hq]at hp;have hp:aV t=(x.1,x.2,true):=hp;have hv:kg t=x:=by unfold kg;rw [hq];rfl
     rw [hp,aC rfl,aC (by simp),hv];exact⟨⟨rfl,inr (inr (inr (inr (inl ⟨rfl,rfl,rfl,by rw [hp],by rw [hp],by rw [hp]⟩))))⟩,λ _=>by dsimp only;omega⟩
   rw [n1,aC (show 0<=bf t 4294967295 by omega),aC (show(decide (¬bf t 4294967295<0))=true by simp;omega),n2 hn];exact⟨⟨rfl,inr (inr (inr (inl ⟨rfl,rfl,rfl,rfl,by dsimp only;omega⟩)))⟩,λ _=>by dsimp only;omega⟩
  | false =>
   rw [au nf,au nf];obtain⟨b,hb1,hb2⟩:=Dm hj;rw [rO]
   have ht:s.extract j (j+1)=gA [b]:=by
    rw [rP,show j+1-j=1 by omega]
    have:(s.data.toList.drop j).take 1=[b]:=by
     rw [List.take_one,List.head?_drop,hb1];rfl
    rw [this]
   rw [ht,hb2];rcases FL b.toNat (by have:=b.toNat_lt;omega)with⟨h1,k,hk,h2,h3⟩|⟨h1,h2⟩
   ·rw [h1,aC rfl,h2];refine⟨⟨rfl,inr (inr (inr (inr (inr (inr ⟨rfl,k,hk,rfl,?_,rfl⟩)))))⟩,λ _=>by dsimp only;rw [sU];rfl⟩;dsimp only;rw [h3];simp
   rw [h1,au nf,h2];exact⟨⟨rfl,inr (inl ⟨rfl,rfl⟩)⟩,λ h=>absurd rfl h⟩
theorem sH{s:ByteArray}:∀(f i:Nat),i<=s.size->s.size+1<=f+i ->
  (aG cP s i=s.size/\dh s f i=[nV s])\/(aG cP s i<s.size/\cP (bt s (aG cP s i))=false/\((hC s (aG cP s i)).kind=0/\dh s f i=[hC s (aG cP s i)] \/
   (hC s (aG cP s i)).kind≠0/\∃ g,s.size+1<=g+(aG cP s i+(hC s (aG cP s i)).text.size)/\dh s f i=hC s (aG cP s i)::dh s g (aG cP s i+(hC s (aG cP s i)).text.size)))
 | 0,i,h1,h2=>by omega
 | f+1,i,h1,h2=>by
  by_cases hlt:i<s.size
  ·cases hb:cP (bt s i)with
   | true =>
    rw [eT hlt hb,show dh s (f+1) i=dh s f (i+1)by rw [dh,aC hlt,aC hb]];exact sH f (i+1) (by omega) (by omega)
   | false =>
    have hs:aG cP s i=i:=fx (by rw [hb];simp);rw [hs];right;refine⟨hlt,hb,?_⟩;by_cases h0:(hC s i).kind=0
    ·exact inl ⟨h0,pT hlt hb h0⟩
    have ht:=mY hlt;exact inr ⟨h0,f,by omega,nQ hlt hb h0⟩
  left;have:i=s.size:=by omega
  subst this;exact⟨Cq (aD _),by rw [dh,au hlt]⟩
def kE(s:ByteArray)(i:Nat):Nat->kA×Nat
 | 0=>fG s i
 | k+1=>fG s (kE s i k).2
theorem nC(s:ByteArray)(i:Nat):∀ k,kE s i (k+1)=kE s (fG s i).2 k
 | 0=>rfl
 | k+1=>by rw [kE,nC s i k];rfl
theorem s8(s:ByteArray):∀ k,qM s k=kE s 0 k
 | 0=>rfl
 | k+1=>by rw [qM,s8 s k];rfl
theorem Hh{s:ByteArray}:∀(k f i:Nat),i<=s.size->s.size+1<=f+i->∀(h:k<(dh s f i).length),GH (kE s i k).1 (dh s f i)[k]:=by
 intro k
 induction k with
 | zero =>
  intro f i h1 h2 h;rcases sH f i h1 h2 with⟨a,b⟩|⟨a,_,⟨_,c⟩|⟨_,g,_,c⟩⟩
  ·simp only [b,List.getElem_cons_zero];show GH (g7 s (aG cP s i)).1 _;rw [a];unfold g7;rw [aC (aD _)];exact⟨rfl,inl ⟨rfl,rfl⟩⟩
  ·simp only [c,List.getElem_cons_zero];exact(CO a).1
  simp only [c,List.getElem_cons_zero];exact(CO a).1
 | succ k ih =>
  intro f i h1 h2 h;rw [nC];rcases sH f i h1 h2 with⟨a,b⟩|⟨a,_,⟨_,c⟩|⟨c0,g,hg,c⟩⟩
  ·rw [b]at h;simp at h
  ·rw [c]at h;simp at h
  have e:(fG s i).2=aG cP s i+(hC s (aG cP s i)).text.size:=(CO a).2 c0;have ht:=mY a;rw [e];simp only [c,List.getElem_cons_succ];exact ih g _ (by omega) hg (by rw [c]at h;simpa using h)
theorem Im{s:ByteArray}(hs:s.size<=600):Lx s (cO s) :=
 ⟨λ k h=>by rw [s8];exact Hh k _ 0 (iL _) (by omega) h,(ju hs).1.last⟩
