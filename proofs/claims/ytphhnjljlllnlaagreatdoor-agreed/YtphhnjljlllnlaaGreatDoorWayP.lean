/- part -/
import Derived.Laws.BitsAllLaws
import Derived.Test.YtphhnjljlllnlaaGreatDoorSetA
set_option maxRecDepth 100000
set_option maxHeartbeats 4000000
namespace Go.Proofs.YtphhnjljlllnlaaGreatDoor
open Go.Proofs.Tryz
open Or
open Go.RowKit
theorem ek.lt{L:aP}{l:List Int}{f r:Nat}(h:ek L l f r):r<2 ^ (l.length+1):=by
 refine Nat.lt_pow_two_of_testBit _ (λ i hi=>?_);cases hb:r.testBit i with
 | false=>rfl
 | true =>
  obtain⟨_,_,_,h3,_⟩:=(h i).1 hb;omega
theorem ek.lt16{L:aP}{l:List Int}{f r:Nat}(h:ek L l f r)(hl:l.length<=12):r<65536 :=
 gY h.lt (gG (Nat.pow_le_pow_right (by decide) (show l.length+1<=13 by omega)) (by decide))
theorem Nl{f n i:Nat}(h:f<2 ^ (n+1))(hb:f.testBit i=true):i<=n:=by
 rcases Nat.lt_or_ge n i with h1|h1
 ·have h2:=Nat.testBit_lt_two_pow (gY h (Nat.pow_le_pow_right (by decide) (show n+1<=i by omega)));rw [h2]at hb;cases hb
 exact h1
theorem Ki(l:List Int)(i:Nat):(l.take i).drop i=[]:=by simp
theorem za{l:List Int}{i j:Nat}(hj:j<=l.length):((l.take j).drop i).length=j-i:=by simp;omega
theorem uV{l a b:List Int}{i j:Nat}(hi:i<=j)(hj:j<=l.length)(h:(l.take j).drop i=a++b):i+a.length<=j/\(l.take (i+a.length)).drop i=a/\(l.take j).drop (i+a.length)=b:=by
 have h0:a.length+b.length=j-i:=by rw [<-List.length_append,<-h,za hj]
 have h1:i+a.length<=j:=by omega
 refine⟨h1,?_,?_⟩
 ·have h2:((l.take j).drop i).take a.length=a:=by rw [h];simp
  have h3:((l.take j).drop i).take a.length=(l.take (i+a.length)).drop i:=by
   rw [List.take_drop,List.take_take,Nat.min_eq_left h1]
  rw [<-h3];exact h2
 rw [<-List.drop_drop,h];simp
theorem Bw{l:List Int}{i k j:Nat}(hi:i<=k)(hk:k<=j):(l.take j).drop i=(l.take k).drop i++(l.take j).drop k:=by
 have h1:l.take k=(l.take j).take k:=by rw [List.take_take,Nat.min_eq_left hk]
 rw [h1];generalize l.take j=m;have h2:m.drop i=(m.drop i).take (k-i)++(m.drop i).drop (k-i):=(List.take_append_drop _ _).symm;rw [h2,List.take_drop,List.drop_drop,Nat.add_sub_cancel' hi]
def Kt(fits:Int->Bool):aP:=λ p=>∃ s,p=[s]/\fits s=true
def L6:aP:=λ p=>p=[]
def yg(A B:aP):aP:=λ p=>∃ a b,p=a++b/\A a/\B b
def Ot(A B:aP):aP:=λ p=>A p\/B p
def Me(A:aP):aP:=λ p=>p=[]\/A p
inductive kO(A:aP):List Int->Prop where
 | one {p:List Int}:A p->kO A p
 | more {a b:List Int}:A a->kO A b->kO A (a++b)
theorem kO.snoc{A:aP}{a b:List Int}(h:kO A a)(hb:A b):kO A (a++b):=by
 induction h with
 | one h=>exact .more h (.one hb)
 | more h _ ih=>rw [List.append_assoc];exact .more h ih
def qh(ms:List aP):aP:=ms.foldl yg L6
def tq(ms:List aP):aP:=ms.foldl Ot (λ _=>False)
def G0(zero many:Bool)(A:aP):aP:=if zero then Me (if many then kO A else A)else if many then kO A else A
theorem G9(ms:List aP)(m:aP):qh (ms++[m])=yg (qh ms) m:=by simp [qh]
theorem Fx(ms:List aP)(m:aP):tq (ms++[m])=Ot (tq ms) m:=by simp [tq]
theorem IJ(A:aP):yg L6 A=A:=by
 funext p
 refine propext ⟨λ⟨a,b,h1,h2,h3⟩=>?_,λ h=>⟨[],p,rfl,rfl,h⟩⟩;have h2:a=[]:=h2;subst h2;rw [h1];exact h3
theorem GJ(A:aP):Ot (λ _=>False) A=A:=by
 funext p
 exact propext ⟨λ h=>h.elim False.elim id,inr⟩
theorem J9(A B:aP):qh [A,B]=yg A B:=by
 show yg (yg L6 A) B=_;rw [IJ]
theorem Ix(A:aP):tq [A]=A:=GJ A
theorem ek.nil{l:List Int}{f:Nat}(h:f<2 ^ (l.length+1)):ek L6 l f f:=by
 intro j;refine⟨λ hb=>⟨j,hb,aL _,Nl h hb,Ki l j⟩,λ⟨i,hi,hij,hj,hs⟩=>?_⟩;have h1:(l.take j).drop i=[]:=hs;have h2:=za (i:=i) hj;rw [h1]at h2;have h3:i=j:=by simp at h2;omega
 rw [<-h3];exact hi
theorem ek.cat{A B:aP}{l:List Int}{f g r:Nat}(h1:ek A l f g)(h2:ek B l g r):ek (yg A B) l f r:=by
 intro j;refine⟨λ hb=>?_,λ⟨i,hi,hij,hj,a,b,hp,ha,hb⟩=>?_⟩
 ·obtain⟨k,hk,hkj,hj,hB⟩:=(h2 j).1 hb;obtain⟨i,hi,hik,_,hA⟩:=(h1 k).1 hk;exact⟨i,hi,gG hik hkj,hj,_,_,Bw hik hkj,hA,hB⟩
 obtain⟨q1,q2,q3⟩:=uV hij hj hp;refine(h2 j).2 ⟨i+a.length,(h1 _).2 ⟨i,hi,Nat.le_add_right _ _,gG q1 hj,?_⟩,q1,hj,?_⟩
 ·rw [q2];exact ha
 rw [q3];exact hb
theorem ek.none(l:List Int)(f:Nat):ek (λ _=>False) l f 0:=by
 intro j;simp
theorem ek.or{A B:aP}{l:List Int}{f t r:Nat}(h1:ek A l f t)(h2:ek B l f r):ek (Ot A B) l f (t ||| r):=by
 intro j;rw [Nat.testBit_or,Bool.or_eq_true,h1 j,h2 j]
 constructor
 ·rintro(⟨i,a,b,c,d⟩|⟨i,a,b,c,d⟩)
  ·exact⟨i,a,b,c,inl d⟩
  exact⟨i,a,b,c,inr d⟩
 rintro⟨i,a,b,c,d|d⟩
 ·exact inl ⟨i,a,b,c,d⟩
 exact inr ⟨i,a,b,c,d⟩
theorem ek.opt{A:aP}{l:List Int}{f r:Nat}(h:f<2 ^ (l.length+1))(h1:ek A l f r):ek (Me A) l f (f ||| r):=ek.or (ek.nil h) h1
theorem ek.sysNone(fits:Int->Bool)(l:List Int)(f r:Nat)(h:∀ j,r.testBit j=true↔∃ i,∃ hi:i<l.length,f.testBit i=true/\fits l[i]=true/\j=i+1):ek (Kt fits) l f r:=by
 intro j;rw [h j]
 constructor
 ·rintro⟨i,hi,h1,h2,rfl⟩;refine⟨i,h1,Nat.le_succ _,hi,l[i],?_,h2⟩;rw [List.take_succ_eq_append_getElem hi,List.drop_append_of_le_length (by simp;omega)];simp
 rintro⟨i,h1,hij,hj,s,hs,h2⟩;have h3:=za (i:=i) hj;rw [hs]at h3;have h4:j=i+1:=by simp at h3;omega
 subst h4;have hi:i<l.length:=hj;refine⟨i,hi,h1,?_,rfl⟩;rw [List.take_succ_eq_append_getElem hi,List.drop_append_of_le_length (by simp;omega)]at hs;simp at hs;rw [hs];exact h2
def kj(fits:Int->Bool)(l:List Int)(f n t:Nat):Prop:=∀ j,t.testBit j=true↔∃ i,∃ hi:i<l.length,i<n/\f.testBit i=true/\fits l[i]=true/\j=i+1
theorem kj.zero(fits:Int->Bool)(l:List Int)(f:Nat):kj fits l f 0 0:=by
 intro j;simp
theorem kj.done{fits:Int->Bool}{l:List Int}{f t:Nat}(h:kj fits l f l.length t):ek (Kt fits) l f t:=by
 refine ek.sysNone fits l f t (λ j=>?_);rw [h j]
 constructor
 ·rintro⟨i,hi,_,r⟩;exact⟨i,hi,r⟩
 rintro⟨i,hi,r⟩;exact⟨i,hi,hi,r⟩
theorem kj.skip{fits:Int->Bool}{l:List Int}{f n t:Nat}(h:kj fits l f n t)(hn:n<l.length)(hs:f.testBit n=false\/fits l[n]=false):kj fits l f (n+1) t:=by
 intro j;rw [h j]
 constructor
 ·rintro⟨i,hi,h1,r⟩;exact⟨i,hi,by omega,r⟩
 rintro⟨i,hi,h1,h2,h3,h4⟩;rcases Nat.lt_or_ge i n with h5|h5
 ·exact⟨i,hi,h5,h2,h3,h4⟩
 obtain rfl:i=n:=by omega
 rcases hs with h6|h6
 ·rw [h2]at h6;cases h6
 rw [h3]at h6;cases h6
theorem kj.step{fits:Int->Bool}{l:List Int}{f n t:Nat}(h:kj fits l f n t)(hn:n<l.length)(h1:f.testBit n=true)(h2:fits l[n]=true):kj fits l f (n+1) (t ||| 2 ^ (n+1)):=by
 intro j;rw [Nat.testBit_or,Bool.or_eq_true,h j,Nat.testBit_two_pow,decide_eq_true_eq]
 constructor
 ·rintro(⟨i,hi,h3,r⟩|h3)
  ·exact⟨i,hi,by omega,r⟩
  exact⟨n,hn,by omega,h1,h2,by omega⟩
 rintro⟨i,hi,h3,h4,h5,h6⟩;rcases Nat.lt_or_ge i n with h7|h7
 ·exact inl ⟨i,hi,h7,h4,h5,h6⟩
 right;omega
theorem kj.lt{fits:Int->Bool}{l:List Int}{f n t:Nat}(h:kj fits l f n t)(hl:l.length<=12):t<65536:=by
 refine gY (Nat.lt_pow_two_of_testBit (n:=13) _ (λ i hi=>?_)) (by decide);cases hb:t.testBit i with
 | false=>rfl
 | true =>
  obtain⟨k,hk,_,_,_,h5⟩:=(h i).1 hb;omega
structure gZ(A:aP)(l:List Int)(f fresh tw:Nat):Prop where
 new:∀ j,fresh.testBit j=true->f.testBit j=true\/tw.testBit j=true
 sound:∀ j,tw.testBit j=true->∃ i,f.testBit i=true/\i<=j/\j<=l.length/\kO A ((l.take j).drop i)
 next:∀ i j,f.testBit i=true\/tw.testBit i=true->i<=j->j<=l.length->A ((l.take j).drop i)->fresh.testBit i=true\/tw.testBit j=true
theorem gZ.start(A:aP)(l:List Int)(f:Nat):gZ A l f f 0 :=
 ⟨λ _ h=>inl h,λ j h=>by simp at h,λ i j h _ _ _=>inl (h.elim id (λ h=>by simp at h))⟩
theorem gZ.step{A:aP}{l:List Int}{f fresh tw nx fr2:Nat}(h:gZ A l f fresh tw)(hb:ek A l fresh nx)(h2:∀ j,fr2.testBit j=(nx.testBit j&&!tw.testBit j)):gZ A l f fr2 (tw ||| nx):=by
 refine⟨λ j hj=>?_,λ j hj=>?_,λ i j hi hij hjl hA=>?_⟩
 ·rw [h2 j,Bool.and_eq_true]at hj;right;rw [Nat.testBit_or,hj.1,Bool.or_true]
 ·rw [Nat.testBit_or,Bool.or_eq_true]at hj;rcases hj with hj|hj
  ·exact h.sound j hj
  obtain⟨i,hi,hij,hjl,hA⟩:=(hb j).1 hj;rcases h.new i hi with h3|h3
  ·exact⟨i,h3,hij,hjl,.one hA⟩
  obtain⟨k,hk,hki,_,hP⟩:=h.sound i h3;exact⟨k,hk,gG hki hij,hjl,by rw [Bw hki hij];exact hP.snoc hA⟩
 have hold:f.testBit i=true\/tw.testBit i=true->(tw ||| nx).testBit j=true:=λ hi=>by
  rw [Nat.testBit_or,Bool.or_eq_true];rcases h.next i j hi hij hjl hA with h3|h3
  ·exact inr ((hb j).2 ⟨i,h3,hij,hjl,hA⟩)
  exact inl h3
 rcases hi with hi|hi
 ·exact inr (hold (inl hi))
 cases ht:tw.testBit i with
 | true=>exact inr (hold (inr ht))
 | false =>
  rw [Nat.testBit_or,ht,Bool.false_or]at hi;left;rw [h2 i,hi,ht];rfl
theorem gZ.closed{A:aP}{l:List Int}{f tw:Nat}(h:gZ A l f 0 tw){p:List Int}(hp:kO A p):∀ i j,i<=j->j<=l.length->(l.take j).drop i=p->f.testBit i=true\/tw.testBit i=true->tw.testBit j=true:=by
 induction hp with
 | one hA =>
  intro i j hij hj hs hi;rcases h.next i j hi hij hj (by rw [hs];exact hA)with h3|h3
  ·simp at h3
  exact h3
 | more hA _ ih =>
  intro i j hij hj hs hi;obtain⟨q1,q2,q3⟩:=uV hij hj hs;refine ih _ j q1 hj q3 (inr ?_);rcases h.next i _ hi (Nat.le_add_right _ _) (gG q1 hj) (by rw [q2];exact hA)with h3|h3
  ·simp at h3
  exact h3
theorem gZ.done{A:aP}{l:List Int}{f tw:Nat}(h:gZ A l f 0 tw):ek (kO A) l f tw:=λ j =>
 ⟨h.sound j,λ⟨i,hi,hij,hj,hP⟩=>h.closed hP i j hij hj rfl (inl hi)⟩
theorem tp(nx tw j:Nat)(h1:nx<65536)(h2:tw<65536):(nx &&& (65535-tw)).testBit j=(nx.testBit j&&!tw.testBit j):=by
 rw [Nat.testBit_and];rcases Nat.lt_or_ge j 16 with h|h
 ·have h3:(65535-tw).testBit j=!tw.testBit j:=by
   have h4:=Nat.testBit_two_pow_sub_succ (n:=16) (x:=tw) h2 j;rw [show 2 ^ 16-(tw+1)=65535-tw by omega]at h4;rw [h4];simp [h]
  rw [h3]
 have h3:nx.testBit j=false:=Nat.testBit_lt_two_pow (gY h1 (by
  have:2 ^ 16<=2 ^ j:=Nat.pow_le_pow_right (by decide) h;omega))
 rw [h3];rfl
theorem JS{nx tw:Nat}(h:nx &&& (65535-tw)≠0)(h1:nx<65536)(h2:tw<65536):tw<(tw ||| nx):=by
 have h0:tw<=(tw ||| nx):=Nat.left_le_or;rcases Nat.lt_or_ge tw (tw ||| nx)with h3|h3
 ·exact h3
 exfalso;have h4:(tw ||| nx)=tw:=by omega
 apply h;apply Nat.eq_of_testBit_eq;intro j;rw [tp nx tw j h1 h2,Nat.zero_testBit];have h5:(tw ||| nx).testBit j=tw.testBit j:=by rw [h4]
 rw [Nat.testBit_or]at h5;cases h6:nx.testBit j<;>cases h7:tw.testBit j<;>simp_all
theorem E4{a b:Nat}(ha:a<65536)(hb:b<65536):(a ||| b)<65536:=Nat.or_lt_two_pow (n:=16) ha hb
theorem IG(f n:Nat):f / 2 ^ n % 2=if f.testBit n then 1 else 0:=by
 rw [Nat.testBit_eq_decide_div_mod_eq];have:f / 2 ^ n % 2<2:=Nat.mod_lt _ (by decide);by_cases h:f / 2 ^ n % 2=1
 ·simp [h]
 have h0:f / 2 ^ n % 2=0:=by omega
 simp [h0]
def j7(ts:List ak):Nat->RS->Bool->Bool->Option (RS×Bool×Bool)
 | 0,_,_,_=>none
 | n+1,st,z,m =>
  if an ts st=36 then j7 ts n (b9 ts st) true true
  else if an ts st=38 then j7 ts n (b9 ts st) z true
  else if an ts st=37 then j7 ts n (b9 ts st) true m
  else some (st,z,m)
def dY(ts:List ak)(n:Nat)(A:aP)(st:RS):Option (RS×aP) :=
 match j7 ts n st false false with
 | none=>none
 | some (s,z,m)=>some (s,G0 z m A)
def ql(r:Option (RS×aP)):Option (RS×Option aP):=match r with|none=>none|some (s,m)=>some (s,some m)
def Dy(n:Int):aP:=Kt (λ s=>s==n)
def CV:aP:=Kt (λ _=>true)
def iM(ts:List ak)(n:Nat)(eith:RS->Option (RS×aP))(st:RS):Option (RS×Option aP) :=
 if an ts st=2 then ql (dY ts n (Dy (aM ts 1 65535 st).2) (aM ts 1 65535 st).1)
 else if an ts st=41 then ql (dY ts n CV (b9 ts st))
 else if an ts st=33 then
  (match eith (ft ts 33 st)with
   | none=>none
   | some (s,m)=>ql (dY ts n m (ka ts 34 s)))
 else some (st,none)
def li(ts:List ak)(n:Nat)(item:RS->Option (RS×Option aP))(st:RS):Option (RS×aP) :=
 match cf item n st []with
 | none=>none
 | some (s,l)=>some (if l.length=0 then dL ts s else s,qh l)
def ou(ts:List ak)(row:RS->Option (RS×aP)):Nat->RS->List aP->Option (RS×List aP)
 | 0,_,_=>none
 | n+1,st,l =>
  if an ts st=35 then(match row (b9 ts st)with|none=>none|some (s,m)=>ou ts row n s (l++[m]))
  else some (st,l)
def oX(ts:List ak)(n:Nat)(row:RS->Option (RS×aP))(st:RS):Option (RS×aP) :=
 match row st with
 | none=>none
 | some (s,m)=>match ou ts row n s [m]with
  | none=>none
  | some (s2,l)=>some (s2,tq l)
def gL(ts:List ak)(n:Nat):Nat->RS->Option (RS×aP)
 | 0,_=>none
 | f+1,st=>oX ts n (li ts n (iM ts n (gL ts n f))) st
theorem MS(f n:Nat)(hf:f<65536):bits .and .u16 ((f:Int) / 2 ^ n) 1=if f.testBit n then 1 else 0:=by
 have h1:((f:Int) / 2 ^ n)=((f / 2 ^ n:Nat):Int):=by simp
 have h2:f / 2 ^ n<65536:=Nat.lt_of_le_of_lt (Nat.div_le_self _ _) hf;rw [h1];have h3:=u16_and_nat (f / 2 ^ n) 1 h2 (by decide);have h4:((1:Nat):Int)=1:=rfl;rw [h4]at h3;rw [h3,nat_mask1,IG];split<;>rfl
theorem wA{f n:Nat}(hf:f<65536)(h:f.testBit n=true):(bits .and .u16 ((f:Int) / 2 ^ n) 1==1)=true:=by rw [MS f n hf,h];rfl
theorem zS{f n:Nat}(hf:f<65536)(h:f.testBit n=false):(bits .and .u16 ((f:Int) / 2 ^ n) 1==1)=false:=by rw [MS f n hf,h];rfl
theorem On(n:Nat)(hn:n<=12):IntKind.u16.wrap (2 ^ (n+1))=((2 ^ (n+1):Nat):Int):=by
 have h1:(2:Nat) ^ (n+1)<65536:=Nat.lt_of_le_of_lt (Nat.pow_le_pow_right (by decide) (show n+1<=13 by omega)) (by decide);rw [IntKind.wrap_u16];have h2:((2:Int) ^ (n+1))=((2 ^ (n+1):Nat):Int):=by simp
 rw [h2];generalize 2 ^ (n+1)=q at *;omega
theorem Mf{a b:Nat}(ha:a<65536)(hb:b<65536):bits .or .u16 (a:Int) (b:Int)=((a ||| b:Nat):Int):=u16_or_nat a b ha hb
theorem ry(W:World)(pv:Value)(l:List Int)(f g:Nat)(lb:Array Value)(fits:Int->Bool)(hp:f9 W pv l)(hl:l.length<=12)(hf:f<2 ^ (l.length+1))(eg:Enters prog g)
  (hc:∀(V:World) (s:Int),Below W.heap.size W V->Calls prog g (#[.int .i64 s]++lb) V λ e V'=>e=.returned (.bool (fits s))/\Below V.heap.size V V') :
  Calls prog 241 #[pv,.int .u16 (f:Int),.func (.func g) #[] lb] W λ e W'=>(∃ r:Nat,e=.returned (.int .u16 (r:Int))/\ek (Kt fits) l f r)/\Below W.heap.size W W':=by
 obtain⟨p,c,rfl,hr⟩:=hp;have e1:=cj eg;have hf16:f<65536:=gY hf (gG (Nat.pow_le_pow_right (by decide) (show l.length+1<=13 by omega)) (by decide));have HC:=af hc;have HR:=af hr;have HL:=af hl;clear hr hc eg hf;have hN:(l.length:Int)<=12:=by omega
 go_enter func241,ntmps241;go_wp2_with fail;go_loopw [7,12] (λ t i wr=>∃ j n:Nat,j<=l.length/\i=.int .i64 (j:Nat)/\t=.int .u16 (n:Nat)/\Hid (kj fits l f j n)/\Below W.heap.size W wr) (λ _ i _=>l.length-(intOf i).toNat)
 case atStart=>exact⟨0,0,dG _,rfl,rfl,kj.zero fits l f,aY _ _⟩
 case round =>
  obtain⟨j,n,hj,rfl,rfl,HA,hbl⟩:=hrel;have HB:=af hbl;have hn16:=(ae HA).lt (ae HL);clear hbl;by_cases hlt:j<l.length
  ·rcases ae HR with h|⟨b,o,rfl,hb,hcc⟩
   ·rw [h]at hlt;simp at hlt
   have hcl:=((ae HB).cell (p:=⟨b,o+j,none⟩) hb).trans (hcc j hlt);have BA:=af ((ae HC) wr l[j] (ae HB));clear hcc;cases hbit:f.testBit j with
   | false =>
    have hb1:=zS hf16 hbit;have AA:=af ((ae HA).skip hlt (inl hbit));go_wp2_with fail;exact⟨⟨j+1,n,by omega,by go_num,rfl,AA,ae HB⟩,by simp [intOf];omega⟩
   | true =>
    have hb1:=wA hf16 hbit;cases hfit:fits l[j]with
    | false =>
     rw [hfit]at BA;have AA:=af ((ae HA).skip hlt (inr hfit));go_wp2_with (go_at_fn g;refine(ae BA).mono ?_;rintro e w1 ⟨rfl,hb2⟩;have CA:=af ((ae HB).trans (hb2.mono (ae HB).size));clear hb2)
     exact⟨⟨j+1,n,by omega,by go_num,rfl,AA,ae CA⟩,by simp [intOf];omega⟩
    | true =>
     rw [hfit]at BA;have AA:=af ((ae HA).step hlt hbit hfit);have hs:=On j (by omega);have ho:=Mf hn16 (show 2 ^ (j+1)<65536 from Nat.lt_of_le_of_lt (Nat.pow_le_pow_right (by decide) (show j+1<=13 by omega)) (by decide));have z1:((j:Int)+1).toNat=j+1:=by omega
     go_wp2_with (go_at_fn g;refine(ae BA).mono ?_;rintro e w1 ⟨rfl,hb2⟩;have CA:=af ((ae HB).trans (hb2.mono (ae HB).size));clear hb2)
     refine⟨⟨j+1,n ||| 2 ^ (j+1),by omega,by go_num,?_,AA,ae CA⟩,by simp [intOf];omega⟩;rw [<-ho];simp
  obtain rfl:j=l.length:=by omega
  have AA:=af (ae HA).done;go_wp2_with fail;go_ret;exact⟨⟨n,rfl,ae AA⟩,ae HB⟩
abbrev nX(w:World)(A:Nat->Prop)(v:Value)(m:aP):Prop:=ax w A (kP v m)
theorem D6(V:World)(B:Nat)(n s:Int)(c1:V.cell? ⟨B,0,none⟩=some (.int .i64 n)) :
  Calls prog 242 (#[.int .i64 s]++#[au B 0]) V λ e V'=>e=.returned (.bool (s==n))/\Below V.heap.size V V':=by
 go_enter func242,ntmps242;go_wp2_with fail;go_ret;exact⟨rfl,aY _ _⟩
theorem Cs(V:World)(s:Int) :
  Calls prog 243 (#[.int .i64 s]++#[]) V λ e V'=>e=.returned (.bool true)/\Below V.heap.size V V':=by
 go_enter func243,ntmps243;go_wp2_with fail;go_ret;exact⟨rfl,aY _ _⟩
theorem Tryz.entSysFit:Enters prog 242:=enters_of func242 (by kernel_rfl) rfl
theorem Tryz.entAnyFit:Enters prog 243:=enters_of func243 (by kernel_rfl) rfl
theorem Tryz.entSystem:Enters prog 240:=enters_of func240 (by kernel_rfl) rfl
theorem Tryz.entAnySystem:Enters prog 219:=enters_of func219 (by kernel_rfl) rfl
theorem Tryz.entRow:Enters prog 215:=enters_of func215 (by kernel_rfl) rfl
theorem Tryz.entOneOf:Enters prog 222:=enters_of func222 (by kernel_rfl) rfl
theorem Tryz.entMaybe:Enters prog 275:=enters_of func275 (by kernel_rfl) rfl
theorem Tryz.entAgain:Enters prog 274:=enters_of func274 (by kernel_rfl) rfl
theorem D7(W:World)(B:Nat)(n:Int)(c1:W.cell? ⟨B,0,none⟩=some (.int .i64 n))(V:World)(hV:Below W.heap.size W V)(pv:Value)(l:List Int)(f:Nat)(hp:f9 V pv l)(hl:l.length<=12)(hf:f<2 ^ (l.length+1)) :
  Calls prog 240 (#[pv,.int .u16 (f:Int)]++#[au B 0]) V λ e V'=>(∃ r:Nat,e=.returned (.int .u16 (r:Int))/\ek (Dy n) l f r)/\Below V.heap.size V V':=by
 have d1:=(hV.cell (p:=⟨B,0,none⟩) (cS c1)).trans c1;have HA:=af (ry V pv l f 242 #[au B 0] (λ s=>s==n) hp hl hf Tryz.entSysFit (λ U s hU=>D6 U B n s ((hU.cell (p:=⟨B,0,none⟩) (cS d1)).trans d1)));have hmf:∀(fn:Fn) (first cap:Array Value) (w:World),(Instr.makeFunc fn first cap).run prog w=.ok (.func fn first cap) w:=λ _ _ _ _=>rfl
 obtain⟨p,c,rfl,_⟩:=hp;clear hf hl c1 d1 hV;go_enter func240,ntmps240;go_wp2_with (go_at_call 241;refine(ae HA).mono ?_;clear HA;rintro e w1 ⟨⟨r,rfl,hr⟩,hb1⟩;have HX:=af (And.intro hr hb1);clear hr hb1)
 go_ret;exact⟨⟨r,rfl,(ae HX).1⟩,(ae HX).2⟩
theorem vJ(V:World)(pv:Value)(l:List Int)(f:Nat)(hp:f9 V pv l)(hl:l.length<=12)(hf:f<2 ^ (l.length+1)) :
  Calls prog 219 (#[pv,.int .u16 (f:Int)]++#[]) V λ e V'=>(∃ r:Nat,e=.returned (.int .u16 (r:Int))/\ek CV l f r)/\Below V.heap.size V V':=by
 have HA:=af (ry V pv l f 243 #[] (λ _=>true) hp hl hf Tryz.entAnyFit (λ U s hU=>Cs U s));obtain⟨p,c,rfl,_⟩:=hp;clear hf hl;go_enter func219,ntmps219;go_wp2_with (go_at_call 241;refine(ae HA).mono ?_;clear HA;rintro e w1 ⟨⟨r,rfl,hr⟩,hb1⟩;have HX:=af (And.intro hr hb1);clear hr hb1)
 go_ret;exact⟨⟨r,rfl,(ae HX).1⟩,(ae HX).2⟩
def pC(sv:Value)(ms:List aP)(K:Nat->Prop)(W:World):Prop :=
 ms.length<=1000000/\∃ vs:List Value,vs.length=ms.length/\Nh W K sv vs/\∀(i:Nat) (v:Value) (m:aP),vs[i]?=some v->ms[i]?=some m->kP v m K W
theorem xJ{α:Type}{l:List α}{j:Nat}{x:α}(h:l[j]?=some x):l.take (j+1)=l.take j++[x]:=by
 rw [List.take_add_one,h];rfl
theorem Ms(W:World)(B:Nat)(sv:Value)(ms:List aP)(K:Nat->Prop)(hK:∀ k,K k->k<W.heap.size)(hb:W.cell? ⟨B,0,none⟩=some sv)(hs:pC sv ms K W)(V:World)(hV:Below W.heap.size W V)(pv:Value)(l:List Int)(f:Nat)(hp:f9 V pv l)(hl:l.length<=12)(hf:f<2 ^ (l.length+1)) :
  Calls prog 215 (#[pv,.int .u16 (f:Int)]++#[au B 0]) V λ e V'=>(∃ r:Nat,e=.returned (.int .u16 (r:Int))/\ek (qh ms) l f r)/\Below V.heap.size V V':=by
 obtain⟨hml,vs,hvl,hrow,hst⟩:=hs;have hbV:=(hV.cell (p:=⟨B,0,none⟩) (cS hb)).trans hb
 obtain⟨sa,sc,hsv⟩:∃ a c,sv=.slice a ms.length c:=by
  rcases hrow with⟨h1,h2⟩|⟨S,cap,h1,_⟩
  ·exact⟨none,0,by rw [h2,<-hvl,h1];rfl⟩
  exact⟨_,cap,by rw [h1,hvl]⟩
 have GA:=af hst;have BA:=af hrow;have HV:=af hV;have EA:=af hK;have HP:=af hp;have HL:=af hl;have FA:=af (ek.nil hf);obtain⟨p,c,rfl,_⟩:=hp;clear hst hrow hV hK hb hf hl;subst hsv;go_enter func215,ntmps215;go_wp2_with fail;generalize hN:ms.length=N at *;go_loopw [1,10] (λ u i wr=>∃ j n:Nat,j<=N/\i=.int .i64 (j:Nat)/\u=.int .u16 (n:Nat)/\Hid (ek (qh (ms.take j)) l f n)/\Below V.heap.size V wr) (λ _ i _=>N-(intOf i).toNat)
 case atStart=>exact⟨0,f,dG _,rfl,rfl,ae FA,aY _ _⟩
 case round =>
  obtain⟨j,n,hj,rfl,rfl,HF,hbl⟩:=hrel;have AA:=af hbl;clear hbl;by_cases hlt:j<N
  ·have hj':j<vs.length:=by omega
   have hjm:j<ms.length:=by omega
   have hv:vs[j]?=some vs[j]:=gW hj';have hm:ms[j]?=some ms[j]:=gW hjm;obtain⟨g,lb,hvj,eg,hc⟩:=(ae GA) j _ _ hv hm;have e1:=cj eg;rcases ae BA with⟨h1,_⟩|⟨S,cap,h1,hKS,hcell⟩
   ·rw [h1]at hj';simp at hj'
   injection h1 with h2 h3 h4
   subst h2 h4;have hWr:Below W.heap.size W wr:=(ae HV).trans ((ae AA).mono (ae HV).size);have hcl:wr.cell? ⟨S,j,none⟩=some (.func (.func g) #[] lb):=(hWr.cell (p:=⟨S,j,none⟩) ((ae EA) S hKS)).trans ((hcell j _ hv).trans (by rw [hvj]));have HC:=af (hc wr _ l n hWr ((ae HP).below (ae AA)) (ae HL) (ae HF).lt);have HJ:=af (xJ hm);generalize ms[j]=mj at *;clear hcell hc eg hvj hm hv h3 hWr;go_wp2_with (go_at_fn g;refine(ae HC).mono ?_;clear HC;rintro e w1 ⟨⟨r,rfl,hr⟩,hb1⟩;have CA:=af hb1;have HX:=af hr;clear hb1 hr)
   refine⟨⟨j+1,r,by omega,by go_num,rfl,?_,(ae AA).trans ((ae CA).mono (ae AA).size)⟩,by simp [intOf];omega⟩;show ek (qh (ms.take (j+1))) l f r;rw [ae HJ,G9];exact(ae HF).cat (ae HX)
  have DA:Hid (ek (qh ms) l f n):=by
   have h:=ae HF;rw [List.take_of_length_le (by omega)]at h;exact h
  go_wp2_with fail;go_ret;exact⟨⟨n,rfl,ae DA⟩,ae AA⟩
theorem GH(W:World)(B:Nat)(sv:Value)(ms:List aP)(K:Nat->Prop)(hK:∀ k,K k->k<W.heap.size)(hb:W.cell? ⟨B,0,none⟩=some sv)(hs:pC sv ms K W)(V:World)(hV:Below W.heap.size W V)(pv:Value)(l:List Int)(f:Nat)(hp:f9 V pv l)(hl:l.length<=12)(hf:f<2 ^ (l.length+1)) :
  Calls prog 222 (#[pv,.int .u16 (f:Int)]++#[au B 0]) V λ e V'=>(∃ r:Nat,e=.returned (.int .u16 (r:Int))/\ek (tq ms) l f r)/\Below V.heap.size V V':=by
 obtain⟨hml,vs,hvl,hrow,hst⟩:=hs;have hbV:=(hV.cell (p:=⟨B,0,none⟩) (cS hb)).trans hb
 obtain⟨sa,sc,hsv⟩:∃ a c,sv=.slice a ms.length c:=by
  rcases hrow with⟨h1,h2⟩|⟨S,cap,h1,_⟩
  ·exact⟨none,0,by rw [h2,<-hvl,h1];rfl⟩
  exact⟨_,cap,by rw [h1,hvl]⟩
 have GA:=af hst;have BA:=af hrow;have HV:=af hV;have FA:=af hK;have HP:=af hp;have HL:=af hl;have EA:=af hf;obtain⟨p,c,rfl,_⟩:=hp;clear hst hrow hV hK hb hf hl;subst hsv;go_enter func222,ntmps222;go_wp2_with fail;generalize hN:ms.length=N at *;go_loopw [6,11] (λ u i wr=>∃ j n:Nat,j<=N/\i=.int .i64 (j:Nat)/\u=.int .u16 (n:Nat)/\Hid (ek (tq (ms.take j)) l f n)/\Below V.heap.size V wr) (λ _ i _=>N-(intOf i).toNat)
 case atStart=>exact⟨0,0,dG _,rfl,rfl,ek.none l f,aY _ _⟩
 case round =>
  obtain⟨j,n,hj,rfl,rfl,HF,hbl⟩:=hrel;have AA:=af hbl;clear hbl;by_cases hlt:j<N
  ·have hj':j<vs.length:=by omega
   have hjm:j<ms.length:=by omega
   have hv:vs[j]?=some vs[j]:=gW hj';have hm:ms[j]?=some ms[j]:=gW hjm;obtain⟨g,lb,hvj,eg,hc⟩:=(ae GA) j _ _ hv hm;have e1:=cj eg;rcases ae BA with⟨h1,_⟩|⟨S,cap,h1,hKS,hcell⟩
   ·rw [h1]at hj';simp at hj'
   injection h1 with h2 h3 h4
   subst h2 h4;have hWr:Below W.heap.size W wr:=(ae HV).trans ((ae AA).mono (ae HV).size);have hcl:wr.cell? ⟨S,j,none⟩=some (.func (.func g) #[] lb):=(hWr.cell (p:=⟨S,j,none⟩) ((ae FA) S hKS)).trans ((hcell j _ hv).trans (by rw [hvj]));have HC:=af (hc wr _ l f hWr ((ae HP).below (ae AA)) (ae HL) (ae EA));have HJ:=af (xJ hm);generalize ms[j]=mj at *;clear hcell hc eg hvj hm hv h3 hWr;go_wp2_with (go_at_fn g;refine(ae HC).mono ?_;clear HC;rintro e w1 ⟨⟨r,rfl,hr⟩,hb1⟩;have CA:=af hb1;have HX:=af hr;clear hb1 hr)
   refine⟨⟨j+1,n ||| r,by omega,by go_num,?_,?_,(ae AA).trans ((ae CA).mono (ae AA).size)⟩,by simp [intOf];omega⟩
   ·rw [Mf ((ae HF).lt16 (ae HL)) ((ae HX).lt16 (ae HL))]
   show ek (tq (ms.take (j+1))) l f _;rw [ae HJ,Fx];exact(ae HF).or (ae HX)
  have DA:Hid (ek (tq ms) l f n):=by
   have h:=ae HF;rw [List.take_of_length_le (by omega)]at h;exact h
  go_wp2_with fail;go_ret;exact⟨⟨n,rfl,ae DA⟩,ae AA⟩
theorem Gt(W:World)(B:Nat)(va:Value)(ma:aP)(Ka:Nat->Prop)(ha:kP va ma Ka W)(c1:W.cell? ⟨B,0,none⟩=some va)(V:World)(hV:Below W.heap.size W V)(pv:Value)(l:List Int)(f:Nat)(hp:f9 V pv l)(hl:l.length<=12)(hf:f<2 ^ (l.length+1)) :
  Calls prog 275 (#[pv,.int .u16 (f:Int)]++#[au B 0]) V λ e V'=>(∃ r:Nat,e=.returned (.int .u16 (r:Int))/\ek (Me ma) l f r)/\Below V.heap.size V V':=by
 obtain⟨g,lb,rfl,eg,hc⟩:=ha;have e1:=cj eg;have d1:=(hV.cell (p:=⟨B,0,none⟩) (cS c1)).trans c1;have HC:=af (hc V pv l f hV hp hl hf);have HF:=af hf;have HL:=af hl;obtain⟨p,c,rfl,_⟩:=hp;clear hc eg hf hl c1 hV;go_enter func275,ntmps275;go_wp2_with (go_at_fn g;refine(ae HC).mono ?_;clear HC;rintro e w1 ⟨⟨r,rfl,hr⟩,hb1⟩;have HX:=af (And.intro hr hb1);clear hr hb1)
 go_ret;refine⟨⟨f ||| r,?_,ek.opt (ae HF) (ae HX).1⟩,(ae HX).2⟩;rw [Mf ((ek.nil (ae HF)).lt16 (ae HL)) ((ae HX).1.lt16 (ae HL))];rfl
theorem Ft(W:World)(B:Nat)(va:Value)(ma:aP)(Ka:Nat->Prop)(ha:kP va ma Ka W)(c1:W.cell? ⟨B,0,none⟩=some va)(V:World)(hV:Below W.heap.size W V)(pv:Value)(l:List Int)(f:Nat)(hp:f9 V pv l)(hl:l.length<=12)(hf:f<2 ^ (l.length+1)) :
  Calls prog 274 (#[pv,.int .u16 (f:Int)]++#[au B 0]) V λ e V'=>(∃ r:Nat,e=.returned (.int .u16 (r:Int))/\ek (kO ma) l f r)/\Below V.heap.size V V':=by
 obtain⟨g,lb,rfl,eg,hc⟩:=ha;have e1:=cj eg;have lB:=cS c1;have d1:=(hV.cell (p:=⟨B,0,none⟩) lB).trans c1;have lBV:B<V.heap.size:=gY lB hV.size;have HC:=af hc;have HP:=af hp;have HF:=af hf;have HL:=af hl;have HV:=af hV;obtain⟨p,c,rfl,_⟩:=hp;clear hc eg hf hl c1 hV;go_enter func274,ntmps274;go_wp2_with fail;go_loopw [6,7] (λ u x wr=>∃ t a:Nat,u=.int .u16 (t:Nat)/\x=.int .u16 (a:Nat)/\t<65536/\a<2 ^ (l.length+1)/\Hid (gZ ma l f a t)/\Below V.heap.size V wr) (λ u x _=>if intOf x=0 then 0 else 65537-(intOf u).toNat)
 case atStart=>exact⟨0,f,rfl,rfl,by decide,ae HF,gZ.start ma l f,aY _ _⟩
 case round =>
  obtain⟨t,a,rfl,rfl,ht,hal,HA,hbl⟩:=hrel;have AA:=af hbl;have DA:=af hal;have hd:=(hbl.cell (p:=⟨B,0,none⟩) lBV).trans d1;clear hbl hal;by_cases ha0:a=0
  ·subst ha0;have CA:=af (ae HA).done;go_wp2_with fail;go_ret;exact⟨⟨t,rfl,ae CA⟩,ae AA⟩
  have hne:((a:Int) != 0)=true:=by simp;omega
  have BA:=af ((ae HC) wr _ l a ((ae HV).trans ((ae AA).mono (ae HV).size)) ((ae HP).below (ae AA)) (ae HL) (ae DA));go_wp2_with (go_at_fn g;refine(ae BA).mono ?_;clear BA;rintro e w1 ⟨⟨nx,rfl,hr⟩,hb1⟩;have HX:=af (And.intro hr hb1);clear hr hb1)
  have hnx:=(ae HX).1.lt16 (ae HL);have o1:=u16_andNot_nat nx t hnx ht;have o2:=Mf ht hnx;have hbit:=λ j=>tp nx t j hnx ht
  refine⟨⟨t ||| nx,nx &&& (65535-t),by rw [o2],by rw [o1],E4 ht hnx,?_,(ae HA).step (ae HX).1 hbit,(ae AA).trans ((ae HX).2.mono (ae AA).size)⟩,?_⟩
  ·exact Nat.lt_of_le_of_lt Nat.and_le_left (ae HX).1.lt
  rw [o1,o2];show(if((nx &&& (65535-t):Nat):Int)=0 then 0 else 65537-((t ||| nx:Nat):Int).toNat)<(if((a:Nat):Int)=0 then 0 else 65537-((t:Nat):Int).toNat);rw [aG (show ¬((a:Nat):Int)=0 by omega)];by_cases hz:(nx &&& (65535-t))=0
  ·rw [hz,aS (show((0:Nat):Int)=0 from rfl)];omega
  have:=JS hz hnx ht;have h3:=E4 ht hnx;rw [aG (by omega)];omega
theorem Gq{m:aP}{l:List Int}{r:Nat}(h:ek m l 1 r):(r.testBit l.length=true)↔m l:=by
 rw [h l.length]
 constructor
 ·rintro⟨i,hi,_,_,hm⟩
  have h0:i=0:=by
   rcases Ic i with h1|h1
   ·exact h1
   have:=Nat.testBit_lt_two_pow (x:=1) (i:=i) (Nat.one_lt_two_pow (by omega));rw [this]at hi;cases hi
  subst h0;simpa using hm
 intro hm;exact⟨0,rfl,dG _,aL _,by simpa using hm⟩
theorem Jy(V:World)(va:Value)(ma:aP)(Ka:Nat->Prop)(ha:kP va ma Ka V)(pv:Value)(l:List Int)(hp:f9 V pv l)(hl:l.length<=12) :
  Calls prog 288 #[pv,va] V λ e V'=>(∃ b:Bool,e=.returned (.bool b)/\(b=true↔ma l))/\Below V.heap.size V V':=by
 obtain⟨g,lb,rfl,eg,hc⟩:=ha;have e1:=cj eg;have HC:=af (hc V pv l 1 (aY _ _) hp hl (Nat.one_lt_two_pow (by omega)));have HL:=af hl;have hN:(l.length:Int)<=12:=by omega
 obtain⟨p,c,rfl,_⟩:=hp;clear hc eg hl;go_enter func288,ntmps288;go_wp2_with (go_at_fn g;refine(ae HC).mono ?_;clear HC;rintro e w1 ⟨⟨r,rfl,hr⟩,hb1⟩;have HX:=af (And.intro hr hb1);clear hr hb1)
 go_ret;refine⟨⟨r.testBit l.length,?_,Gq (ae HX).1⟩,(ae HX).2⟩;refine aO ?_;have h16:=(ae HX).1.lt16 (ae HL);cases hb:r.testBit l.length with
 | true=>exact wA h16 hb
 | false=>exact zS h16 hb
theorem B9{w:World}{A:Nat->Prop}{sv:Value}{ms:List aP}{vs:List Value}(ho:w.ownsRow 0 220 1 sv ms.length vs)(hl:ms.length<=1000000)(hA:∀ k,sv.ownBlock=some k->A k)
  (hv:∀(i:Nat) (v:Value) (m:aP),vs[i]?=some v->ms[i]?=some m->nX w A v m):ax w A (pC sv ms):=by
 have hvl:vs.length=ms.length:=by simpa using ho.1
 have hlast:∀ i:Fin ms.length,ax w A (kP (vs[i.1]'(by omega)) ms[i.1]):=λ i=>hv i.1 _ _ (gW (by omega)) (gW i.2)
 rcases ho.2 with⟨h1,h0⟩|⟨g,cap,cur,h1,hb,hg,hn,hm,hs,ht⟩
 ·refine ax.new (λ _=>False) (λ _ h=>h.elim) (λ W _ _=>⟨by omega,vs,by omega,inl ⟨List.eq_nil_of_length_eq_zero (by omega),h1⟩,λ i v m hi hm=>?_⟩);have hnil:ms=[]:=List.eq_nil_of_length_eq_zero (by omega);rw [hnil]at hm;simp at hm
 have hcell:∀(W:World),W.heap[g]?=w.heap[g]?->∀ i v,vs[i]?=some v->W.cell? ⟨g,i,none⟩=some v:=λ W hW i v hi=>by
  rw [ag (hW.trans hg),<-Array.getElem?_toList];rw [<-ht,List.getElem?_take]at hi;split at hi
  ·exact hi
  cases hi
 refine⟨λ k=>k=g\/∃ i:Fin ms.length,Classical.choose (hlast i) k,λ k hk=>?_,λ W hW hk=>?_⟩
 ·rcases hk with rfl|⟨i,hi⟩
  ·exact⟨ah hg,hA k (by rw [h1];rfl)⟩
  exact(Classical.choose_spec (hlast i)).1 k hi
 refine⟨by omega,vs,by omega,inr ⟨g,cap,by rw [h1,hvl],inl rfl,hcell W (hk g (inl rfl))⟩,λ i v m hi hm=>?_⟩
 have hi':i<ms.length:=by
  rcases Nat.lt_or_ge i ms.length with h|h
  ·exact h
  rw [List.getElem?_eq_none h]at hm;cases hm
 have e1:v=vs[i]:=by rw [gW (by omega)]at hi;exact(kd hi).symm
 have e2:m=ms[i]:=by rw [gW hi']at hm;exact(kd hm).symm
 subst e1 e2;obtain⟨g',lb,hq1,hq2,hq3⟩:=(Classical.choose_spec (hlast ⟨i,hi'⟩)).2 W hW (λ k h=>hk k (inr ⟨⟨i,hi'⟩,h⟩));exact⟨g',lb,hq1,hq2,hq3⟩
theorem Kd(w:World)(a:Option Addr)(n c:Nat) :
  Calls prog 183 #[.slice a n c] w λ e w'=>e=.returned (.func (.func 215) #[] #[au w.heap.size 0])/\w'=w.alloc (aE (.slice a n c) 271):=by
 have hmf:∀(fn:Fn) (first cap:Array Value) (w:World),(Instr.makeFunc fn first cap).run prog w=.ok (.func fn first cap) w:=λ _ _ _ _=>rfl
 go_enter func183,ntmps183;go_wp2_with fail;go_ret;exact⟨rfl,rfl⟩
theorem DD(w:World)(a:Option Addr)(n c:Nat) :
  Calls prog 186 #[.slice a n c] w λ e w'=>e=.returned (.func (.func 222) #[] #[au w.heap.size 0])/\w'=w.alloc (aE (.slice a n c) 271):=by
 have hmf:∀(fn:Fn) (first cap:Array Value) (w:World),(Instr.makeFunc fn first cap).run prog w=.ok (.func fn first cap) w:=λ _ _ _ _=>rfl
 go_enter func186,ntmps186;go_wp2_with fail;go_ret;exact⟨rfl,rfl⟩
theorem Bo(w:World)(sv:Value)(ms:List aP)(A:Nat->Prop)(hA:∀ k,w.heap.size<=k->A k)(hs:ax w A (pC sv ms))(hf:∃ a n c,sv=.slice a n c) :
  Calls prog 183 #[sv] w λ e w'=>∃ v,e=.returned v/\jD v/\w'=w.alloc (aE sv 271)/\nX w' A v (qh ms):=by
 obtain⟨a,n,c,rfl⟩:=hf;refine(Kd w a n c).mono ?_;rintro e w' ⟨rfl,rfl⟩;refine⟨_,rfl,inl ⟨_,_,_,rfl⟩,rfl,?_⟩;have h1:ax (w.alloc (aE (.slice a n c) 271)) A (pC (.slice a n c) ms):=hs.mono (by simp) (λ k hk ha=>⟨mC _ _ _ hk,ha⟩) (λ _ _ h=>h);refine ax.one h1 (λ k=>k=w.heap.size) (λ k hk=>⟨by subst hk;simp,hA k (by omega)⟩) (λ K1 hK1 q1 W hW hk=>?_);exact⟨_,_,rfl,Tryz.entRow,λ V pv l f hV hp hl hf=>Ms W _ _ ms K1 (λ k hk1=>gY (hK1 k hk1).1 hW) (mF (hk _ (inr rfl)) (cM w _)) (q1 W hW (λ k h=>hk k (inl h))) V hV pv l f hp hl hf⟩
theorem DE(w:World)(sv:Value)(ms:List aP)(A:Nat->Prop)(hA:∀ k,w.heap.size<=k->A k)(hs:ax w A (pC sv ms))(hf:∃ a n c,sv=.slice a n c) :
  Calls prog 186 #[sv] w λ e w'=>∃ v,e=.returned v/\jD v/\w'=w.alloc (aE sv 271)/\nX w' A v (tq ms):=by
 obtain⟨a,n,c,rfl⟩:=hf;refine(DD w a n c).mono ?_;rintro e w' ⟨rfl,rfl⟩;refine⟨_,rfl,inl ⟨_,_,_,rfl⟩,rfl,?_⟩;have h1:ax (w.alloc (aE (.slice a n c) 271)) A (pC (.slice a n c) ms):=hs.mono (by simp) (λ k hk ha=>⟨mC _ _ _ hk,ha⟩) (λ _ _ h=>h);refine ax.one h1 (λ k=>k=w.heap.size) (λ k hk=>⟨by subst hk;simp,hA k (by omega)⟩) (λ K1 hK1 q1 W hW hk=>?_);exact⟨_,_,rfl,Tryz.entOneOf,λ V pv l f hV hp hl hf=>GH W _ _ ms K1 (λ k hk1=>gY (hK1 k hk1).1 hW) (mF (hk _ (inr rfl)) (cM w _)) (q1 W hW (λ k h=>hk k (inl h))) V hV pv l f hp hl hf⟩
theorem Di(w:World)(va:Value)(ha:jD va) :
  Calls prog 261 #[va] w λ e w'=>e=.returned (.func (.func 275) #[] #[au w.heap.size 0])/\w'=(w.alloc (aE va 220)):=by
 have hmf:∀(fn:Fn) (first cap:Array Value) (w:World),(Instr.makeFunc fn first cap).run prog w=.ok (.func fn first cap) w:=λ _ _ _ _=>rfl
 rcases ha with⟨f,a,b,rfl⟩|rfl <;>
 ·go_enter func261,ntmps261;go_wp2_with fail;go_ret;exact⟨rfl,rfl⟩
theorem Dk(w:World)(va:Value)(ma:aP)(A:Nat->Prop)(hA:∀ k,w.heap.size<=k->A k)(ha:nX w A va ma) :
  Calls prog 261 #[va] w λ e w'=>∃ v,e=.returned v/\jD v/\w'=w.alloc (aE va 220)/\nX w' A v (Me ma):=by
 obtain⟨K0,g0,lb0,hv0,_⟩:=ax.now ha;refine(Di w va (inl ⟨_,_,_,hv0⟩)).mono ?_;rintro e w' ⟨rfl,rfl⟩;refine⟨_,rfl,inl ⟨_,_,_,rfl⟩,rfl,?_⟩;have h1:ax (w.alloc (aE va 220)) A (kP va ma):=ha.mono (by simp) (λ k hk ha=>⟨mC _ _ _ hk,ha⟩) (λ _ _ h=>h);refine ax.one h1 (λ k=>k=w.heap.size) (λ k hk=>⟨by subst hk;simp,hA k (by omega)⟩) (λ K1 _ q1 W hW hk=>?_);exact⟨_,_,rfl,Tryz.entMaybe,λ V pv l f hV hp hl hf=>Gt W _ va ma K1 (q1 W hW (λ k h=>hk k (inl h))) (ag ((hk _ (inr rfl)).trans (cM w _))) V hV pv l f hp hl hf⟩
theorem Co(w:World)(va:Value)(ha:jD va) :
  Calls prog 260 #[va] w λ e w'=>e=.returned (.func (.func 274) #[] #[au w.heap.size 0])/\w'=(w.alloc (aE va 220)):=by
 have hmf:∀(fn:Fn) (first cap:Array Value) (w:World),(Instr.makeFunc fn first cap).run prog w=.ok (.func fn first cap) w:=λ _ _ _ _=>rfl
 rcases ha with⟨f,a,b,rfl⟩|rfl <;>
 ·go_enter func260,ntmps260;go_wp2_with fail;go_ret;exact⟨rfl,rfl⟩
theorem Cp(w:World)(va:Value)(ma:aP)(A:Nat->Prop)(hA:∀ k,w.heap.size<=k->A k)(ha:nX w A va ma) :
  Calls prog 260 #[va] w λ e w'=>∃ v,e=.returned v/\jD v/\w'=w.alloc (aE va 220)/\nX w' A v (kO ma):=by
 obtain⟨K0,g0,lb0,hv0,_⟩:=ax.now ha;refine(Co w va (inl ⟨_,_,_,hv0⟩)).mono ?_;rintro e w' ⟨rfl,rfl⟩;refine⟨_,rfl,inl ⟨_,_,_,rfl⟩,rfl,?_⟩;have h1:ax (w.alloc (aE va 220)) A (kP va ma):=ha.mono (by simp) (λ k hk ha=>⟨mC _ _ _ hk,ha⟩) (λ _ _ h=>h);refine ax.one h1 (λ k=>k=w.heap.size) (λ k hk=>⟨by subst hk;simp,hA k (by omega)⟩) (λ K1 _ q1 W hW hk=>?_);exact⟨_,_,rfl,Tryz.entAgain,λ V pv l f hV hp hl hf=>Ft W _ va ma K1 (q1 W hW (λ k h=>hk k (inl h))) (ag ((hk _ (inr rfl)).trans (cM w _))) V hV pv l f hp hl hf⟩
theorem BQ(w:World)(n:Int) :
  Calls prog 218 #[.int .i64 n] w λ e w'=>e=.returned (.func (.func 240) #[] #[au w.heap.size 0])/\w'=w.alloc (aE (.int .i64 n) 3):=by
 have hmf:∀(fn:Fn) (first cap:Array Value) (w:World),(Instr.makeFunc fn first cap).run prog w=.ok (.func fn first cap) w:=λ _ _ _ _=>rfl
 go_enter func218,ntmps218;go_wp2_with fail;go_ret;exact⟨rfl,rfl⟩
theorem BS(w:World)(n:Int)(A:Nat->Prop)(hA:∀ k,w.heap.size<=k->A k) :
  Calls prog 218 #[.int .i64 n] w λ e w'=>∃ v,e=.returned v/\jD v/\w'=w.alloc (aE (.int .i64 n) 3)/\nX w' A v (Dy n):=by
 refine(BQ w n).mono ?_;rintro e w' ⟨rfl,rfl⟩;refine⟨_,rfl,inl ⟨_,_,_,rfl⟩,rfl,ax.new (λ k=>k=w.heap.size) (λ k hk=>⟨by subst hk;simp,hA k (by omega)⟩) (λ W hW hk=>?_)⟩;exact⟨_,_,rfl,Tryz.entSystem,λ V pv l f hV hp hl hf=>D7 W _ n (ag ((hk _ rfl).trans (cM w _))) V hV pv l f hp hl hf⟩
theorem I0(w:World)(A:Nat->Prop):nX w A (.func (.func 219) #[] #[]) CV :=
 ax.new (λ _=>False) (λ _ h=>h.elim) (λ _ _ _=>⟨_,_,rfl,Tryz.entAnySystem,λ V pv l f _ hp hl hf=>vJ V pv l f hp hl hf⟩)
theorem Bj(w:World)(va:Value)(ma:aP)(z m:Bool)(A:Nat->Prop)(hA:∀ k,w.heap.size<=k->A k)(ha:nX w A va ma) :
  Calls prog 239 #[va,.bool z,.bool m] w λ e w'=>∃ v,e=.returned v/\jD v/\Below w.heap.size w w'/\nX w' A v (G0 z m ma):=by
 obtain⟨K0,g0,lb0,hv0,_⟩:=ax.now ha;subst hv0;have HA:=af ha;have BA:=af (Cp w _ ma A hA ha);have CA:=af (λ(W:World) (v:Value) (m:aP) (hW:Below w.heap.size w W) (hv:nX W A v m)=>Dk W v m A (λ k hk=>hA k (gG hW.size hk)) hv);clear ha hA;cases m with
 | false =>
  cases z with
  | false =>
   go_enter func239,ntmps239;go_wp2_with fail;go_ret;exact⟨_,rfl,inl ⟨_,_,_,rfl⟩,aY _ _,ae HA⟩
  | true =>
   go_enter func239,ntmps239;go_wp2_with (go_at_call 261;refine((ae CA) w _ ma (aY _ _) (ae HA)).mono ?_;rintro e w1 ⟨v,rfl,hfv,rfl,hv⟩;obtain⟨K1,g1,lb1,hv1,_⟩:=ax.now hv;have HV:=af hv;have AA:=af hfv;clear hv hfv;subst hv1)
   go_ret;exact⟨_,rfl,ae AA,(aY _ _).alloc (aL _) _,ae HV⟩
 | true =>
  cases z with
  | false =>
   go_enter func239,ntmps239;go_wp2_with (go_at_call 260;refine(ae BA).mono ?_;rintro e w1 ⟨v,rfl,hfv,rfl,hv⟩;obtain⟨K1,g1,lb1,hv1,_⟩:=ax.now hv;have HV:=af hv;have AA:=af hfv;clear hv hfv;subst hv1)
   go_ret;exact⟨_,rfl,ae AA,(aY _ _).alloc (aL _) _,ae HV⟩
  | true =>
   go_enter func239,ntmps239
   go_wp2_with (first
    | (go_at_call 260;refine(ae BA).mono ?_;rintro e w1 ⟨v,rfl,hfv,rfl,hv⟩;obtain⟨K1,g1,lb1,hv1,_⟩:=ax.now hv;have HV:=af hv;clear hv hfv;subst hv1)
    | (go_at_call 261;refine((ae CA) _ _ _ ((aY _ _).alloc (aL _) _) (ae HV)).mono ?_;rintro e w2 ⟨v2,rfl,hfv2,rfl,hv2⟩;obtain⟨K2,g2,lb2,hv3,_⟩:=ax.now hv2;have DA:=af hv2;have AA:=af hfv2;clear hv2 hfv2;subst hv3))
   go_ret;exact⟨_,rfl,ae AA,((aY _ _).alloc (aL _) _).alloc (by simp) _,ae DA⟩
def Io(pb:Nat)(ts:List ak)(w:World)(D O:Nat->Prop)(r:RS×aP)(e:Ending)(w':World):Prop :=
 ∃ v O',e=.returned v/\RA w' pb ts r.1 D O'/\Fr O w O' w'/\jD v/\nX w' (cW O' D w.heap.size) v r.2/\Ok ts r.1
def nH(fn pb:Nat)(ts:List ak)(tw:RS->Option (RS×aP)):Prop:=∀(w:World) (st:RS) (D O:Nat->Prop) (r:RS×aP),RA w pb ts st D O->Ok ts st->tw st=some r->Calls prog fn #[au pb 0] w (Io pb ts w D O r)
theorem G5{ts:List ak}{k:Nat}{st:RS}{z m:Bool}{r:RS×Bool×Bool}(h:j7 ts k st z m=some r):∃ g,k=g+1:=by
 cases k with
 | zero=>cases h
 | succ g=>exact⟨g,rfl⟩
theorem mh{pb:Nat}{ts:List ak}(ht:bY ts)(n:Nat){w w0:World}{st:RS}{D O O0:Nat->Prop}{va:Value}{ma:aP}{r:RS×aP}(h:RA w pb ts st D O)(hk:Ok ts st)(h0:Fr O0 w0 O w)(hv:nX w (cW O D w0.heap.size) va ma)(hr:dY ts n ma st=some r) :
  Calls prog 217 #[au pb 0,va] w (Io pb ts w0 D O0 r):=by
 unfold dY at hr
 obtain⟨r1,hr1,hr2⟩:∃ r1,j7 ts n st false false=some r1/\r=(r1.1,G0 r1.2.1 r1.2.2 ma):=by
  split at hr
  ·cases hr
  rename_i s z m hx;exact⟨(s,z,m),hx,(kd hr).symm⟩
 obtain⟨K0,g0,lb0,hv0,_⟩:=ax.now hv;subst hv0;have HR:=af h;have HF:=af h0;have HK:=af hk;have HT:=af ht;have HV:=af hv;have HL:=af hr1;clear h hk h0 ht hv hr hr1;subst hr2;go_enter func217,ntmps217;go_wp2_with fail;go_loopg [5,6] n (λ k z5 m6 wr=>∃(su:RS) (z m:Bool) (Ou:Nat->Prop),z5=.bool z/\m6=.bool m/\RA wr pb ts su D Ou/\Fr O0 w0 Ou wr/\nX wr (cW Ou D w0.heap.size) (.func (.func g0) #[] lb0) ma/\Ok ts su/\j7 ts k su z m=some r1)
 case atStart=>exact⟨st,false,false,O,rfl,rfl,ae HR,ae HF,ae HV,ae HK,ae HL⟩
 case round =>
  clear HR HF HV HK HL;obtain⟨su,z,m,Ou,rfl,rfl,hr,hf,hv,hk,hl⟩:=hrel;obtain⟨g,rfl⟩:=G5 hl;rw [j7]at hl;have HR:=af hr;have HF:=af hf;have HV:=af hv;have HK:=af hk;clear hr hf hv hk;by_cases e36:an ts su=36
  ·rw [aS e36]at hl;have HL:=af hl;have HE:=af e36;have HG:=af (bV (ae HK) (ae HT) e36 (by decide));clear hl e36;go_wp2_with (go_at_call 137;refine(bP (ae HR) (ae HK) (ae HT) 36 (ae HE)).mono ?_;rintro e w1 ⟨rfl,O1,hr1,hf1⟩;replace HR:=af hr1;replace HV:=af (ax.fr (ae HV) hf1 (aL _));replace HF:=af ((ae HF).trans hf1);clear hr1 hf1)
   go_roundg g
   case measure=>omega
   case rel=>exact⟨_,true,true,O1,rfl,rfl,ae HR,ae HF,ae HV,ae HG,ae HL⟩
  rw [aG e36]at hl;have n36:=af e36;clear e36;by_cases e38:an ts su=38
  ·rw [aS e38]at hl;have HL:=af hl;have HE:=af e38;have HG:=af (bV (ae HK) (ae HT) e38 (by decide));clear hl e38
   go_wp2_with (first
    | (go_at_call 137;refine(aH (ae HR) (ae HK) (ae HT) 36 (ae n36)).mono ?_;rintro e w1 ⟨rfl,hr1,hf1⟩;replace HR:=af hr1;replace HV:=af (ax.fr (ae HV) hf1 (aL _));replace HF:=af ((ae HF).trans hf1);clear hr1 hf1 n36)
    | (go_at_call 137;refine(bP (ae HR) (ae HK) (ae HT) 38 (ae HE)).mono ?_;rintro e w1 ⟨rfl,O1,hr1,hf1⟩;replace HR:=af hr1;replace HV:=af (ax.fr (ae HV) hf1 (aL _));replace HF:=af ((ae HF).trans hf1);clear hr1 hf1))
   go_roundg g
   case measure=>omega
   case rel=>exact⟨_,z,true,O1,rfl,rfl,ae HR,ae HF,ae HV,ae HG,ae HL⟩
  rw [aG e38]at hl;have n38:=af e38;clear e38;by_cases e37:an ts su=37
  ·rw [aS e37]at hl;have HL:=af hl;have HE:=af e37;have HG:=af (bV (ae HK) (ae HT) e37 (by decide));clear hl e37
   go_wp2_with (first
    | (go_at_call 137;refine(aH (ae HR) (ae HK) (ae HT) 36 (ae n36)).mono ?_;rintro e w1 ⟨rfl,hr1,hf1⟩;replace HR:=af hr1;replace HV:=af (ax.fr (ae HV) hf1 (aL _));replace HF:=af ((ae HF).trans hf1);clear hr1 hf1 n36)
    | (go_at_call 137;refine(aH (ae HR) (ae HK) (ae HT) 38 (ae n38)).mono ?_;rintro e w1 ⟨rfl,hr1,hf1⟩;replace HR:=af hr1;replace HV:=af (ax.fr (ae HV) hf1 (aL _));replace HF:=af ((ae HF).trans hf1);clear hr1 hf1 n38)
    | (go_at_call 137;refine(bP (ae HR) (ae HK) (ae HT) 37 (ae HE)).mono ?_;rintro e w1 ⟨rfl,O1,hr1,hf1⟩;replace HR:=af hr1;replace HV:=af (ax.fr (ae HV) hf1 (aL _));replace HF:=af ((ae HF).trans hf1);clear hr1 hf1))
   go_roundg g
   case measure=>omega
   case rel=>exact⟨_,true,m,O1,rfl,rfl,ae HR,ae HF,ae HV,ae HG,ae HL⟩
  rw [aG e37]at hl;have n37:=af e37;obtain rfl:=kd hl;clear hl e37;dsimp only
  go_wp2_with (first
   | (go_at_call 137;refine(aH (ae HR) (ae HK) (ae HT) 36 (ae n36)).mono ?_;rintro e w1 ⟨rfl,hr1,hf1⟩;replace HR:=af hr1;replace HV:=af (ax.fr (ae HV) hf1 (aL _));replace HF:=af ((ae HF).trans hf1);clear hr1 hf1 n36)
   | (go_at_call 137;refine(aH (ae HR) (ae HK) (ae HT) 38 (ae n38)).mono ?_;rintro e w1 ⟨rfl,hr1,hf1⟩;replace HR:=af hr1;replace HV:=af (ax.fr (ae HV) hf1 (aL _));replace HF:=af ((ae HF).trans hf1);clear hr1 hf1 n38)
   | (go_at_call 137;refine(aH (ae HR) (ae HK) (ae HT) 37 (ae n37)).mono ?_;rintro e w1 ⟨rfl,hr1,hf1⟩;replace HR:=af hr1;replace HV:=af (ax.fr (ae HV) hf1 (aL _));replace HF:=af ((ae HF).trans hf1);clear hr1 hf1 n37)
   | (go_at_call 239;refine(Bj _ _ ma z m _ ((ae HR).newFree (ae HF)) (ae HV)).mono ?_;rintro e w2 ⟨v2,rfl,hfv2,hb2,hv2⟩;obtain⟨K2,g2,lb2,hv3,_⟩:=ax.now hv2;have BA:=af hv2;have AA:=af hfv2;replace HR:=af ((ae HR).stay hb2);replace HF:=af ((ae HF).below hb2);clear hv2 hfv2 hb2;subst hv3))
  go_ret;exact⟨_,_,rfl,ae HR,ae HF,ae AA,ae BA,ae HK⟩
