/- part -/
import Derived.Laws.BitsAllLaws
import Derived.Test.YtgdeeodifnegiaaGreatDoorSetA
set_option maxRecDepth 100000
set_option maxHeartbeats 4000000
namespace Go.Proofs.YtgdeeodifnegiaaGreatDoor
open Go.Proofs.Tryz
open Or
open Go.RowKit
theorem eF.lt{L:aH}{l:List Int}{f r:Nat}(h:eF L l f r):r<2 ^ (l.length+1):=by
 refine Nat.lt_pow_two_of_testBit _ (λ i hi=>?_);cases hb:r.testBit i with
 | false=>rfl
 | true =>
  obtain⟨_,_,_,h3,_⟩:=(h i).1 hb;omega
theorem eF.lt16{L:aH}{l:List Int}{f r:Nat}(h:eF L l f r)(hl:l.length<=12):r<65536 :=
 eV h.lt (kr (Nat.pow_le_pow_right (by decide) (show l.length+1<=13 by omega)) (by decide))
theorem L6{f n i:Nat}(h:f<2 ^ (n+1))(hb:f.testBit i=true):i<=n:=by
 rcases Nat.lt_or_ge n i with h1|h1
 ·have h2:=Nat.testBit_lt_two_pow (eV h (Nat.pow_le_pow_right (by decide) (show n+1<=i by omega)));rw [h2]at hb;cases hb
 exact h1
theorem Ji(l:List Int)(i:Nat):(l.take i).drop i=[]:=by simp
theorem iR{l:List Int}{i j:Nat}(hj:j<=l.length):((l.take j).drop i).length=j-i:=by simp;omega
theorem uh{l a b:List Int}{i j:Nat}(hi:i<=j)(hj:j<=l.length)(h:(l.take j).drop i=a++b):i+a.length<=j/\(l.take (i+a.length)).drop i=a/\(l.take j).drop (i+a.length)=b:=by
 have h0:a.length+b.length=j-i:=by rw [<-List.length_append,<-h,iR hj]
 have h1:i+a.length<=j:=by omega
 refine⟨h1,?_,?_⟩
 ·have h2:((l.take j).drop i).take a.length=a:=by rw [h];simp
  have h3:((l.take j).drop i).take a.length=(l.take (i+a.length)).drop i:=by
   rw [List.take_drop,List.take_take,Nat.min_eq_left h1]
  rw [<-h3];exact h2
 rw [<-List.drop_drop,h];simp
theorem Aa{l:List Int}{i k j:Nat}(hi:i<=k)(hk:k<=j):(l.take j).drop i=(l.take k).drop i++(l.take j).drop k:=by
 have h1:l.take k=(l.take j).take k:=by rw [List.take_take,Nat.min_eq_left hk]
 rw [h1];generalize l.take j=m;have h2:m.drop i=(m.drop i).take (k-i)++(m.drop i).drop (k-i):=(List.take_append_drop _ _).symm;rw [h2,List.take_drop,List.drop_drop,Nat.add_sub_cancel' hi]
def CH(fits:Int->Bool):aH:=λ p=>∃ s,p=[s]/\fits s=true
def M6:aH:=λ p=>p=[]
def El(A B:aH):aH:=λ p=>∃ a b,p=a++b/\A a/\B b
def MI(A B:aH):aH:=λ p=>A p\/B p
def od(A:aH):aH:=λ p=>p=[]\/A p
inductive dC(A:aH):List Int->Prop where
 | one {p:List Int}:A p->dC A p
 | more {a b:List Int}:A a->dC A b->dC A (a++b)
theorem dC.snoc{A:aH}{a b:List Int}(h:dC A a)(hb:A b):dC A (a++b):=by
 induction h with
 | one h=>exact .more h (.one hb)
 | more h _ ih=>rw [List.append_assoc];exact .more h ih
def jM(ms:List aH):aH:=ms.foldl El M6
def kj(ms:List aH):aH:=ms.foldl MI (λ _=>False)
def nw(zero many:Bool)(A:aH):aH:=if zero then od (if many then dC A else A)else if many then dC A else A
theorem FH(ms:List aH)(m:aH):jM (ms++[m])=El (jM ms) m:=by simp [jM]
theorem Ed(ms:List aH)(m:aH):kj (ms++[m])=MI (kj ms) m:=by simp [kj]
theorem eF.nil{l:List Int}{f:Nat}(h:f<2 ^ (l.length+1)):eF M6 l f f:=by
 intro j;refine⟨λ hb=>⟨j,hb,aD _,L6 h hb,Ji l j⟩,λ⟨i,hi,hij,hj,hs⟩=>?_⟩;have h1:(l.take j).drop i=[]:=hs;have h2:=iR (i:=i) hj;rw [h1]at h2;have h3:i=j:=by simp at h2;omega
 rw [<-h3];exact hi
theorem eF.cat{A B:aH}{l:List Int}{f g r:Nat}(h1:eF A l f g)(h2:eF B l g r):eF (El A B) l f r:=by
 intro j;refine⟨λ hb=>?_,λ⟨i,hi,hij,hj,a,b,hp,ha,hb⟩=>?_⟩
 ·obtain⟨k,hk,hkj,hj,hB⟩:=(h2 j).1 hb;obtain⟨i,hi,hik,_,hA⟩:=(h1 k).1 hk;exact⟨i,hi,kr hik hkj,hj,_,_,Aa hik hkj,hA,hB⟩
 obtain⟨q1,q2,q3⟩:=uh hij hj hp;refine(h2 j).2 ⟨i+a.length,(h1 _).2 ⟨i,hi,Nat.le_add_right _ _,kr q1 hj,?_⟩,q1,hj,?_⟩
 ·rw [q2];exact ha
 rw [q3];exact hb
theorem eF.none(l:List Int)(f:Nat):eF (λ _=>False) l f 0:=by
 intro j;simp
theorem eF.or{A B:aH}{l:List Int}{f t r:Nat}(h1:eF A l f t)(h2:eF B l f r):eF (MI A B) l f (t ||| r):=by
 intro j;rw [Nat.testBit_or,Bool.or_eq_true,h1 j,h2 j]
 constructor
 ·rintro(⟨i,a,b,c,d⟩|⟨i,a,b,c,d⟩)
  ·exact⟨i,a,b,c,inl d⟩
  exact⟨i,a,b,c,inr d⟩
 rintro⟨i,a,b,c,d|d⟩
 ·exact inl ⟨i,a,b,c,d⟩
 exact inr ⟨i,a,b,c,d⟩
theorem eF.opt{A:aH}{l:List Int}{f r:Nat}(h:f<2 ^ (l.length+1))(h1:eF A l f r):eF (od A) l f (f ||| r):=eF.or (eF.nil h) h1
theorem eF.sysNone(fits:Int->Bool)(l:List Int)(f r:Nat)(h:∀ j,r.testBit j=true↔∃ i,∃ hi:i<l.length,f.testBit i=true/\fits l[i]=true/\j=i+1):eF (CH fits) l f r:=by
 intro j;rw [h j]
 constructor
 ·rintro⟨i,hi,h1,h2,rfl⟩;refine⟨i,h1,Nat.le_succ _,hi,l[i],?_,h2⟩;rw [List.take_succ_eq_append_getElem hi,List.drop_append_of_le_length (by simp;omega)];simp
 rintro⟨i,h1,hij,hj,s,hs,h2⟩;have h3:=iR (i:=i) hj;rw [hs]at h3;have h4:j=i+1:=by simp at h3;omega
 subst h4;have hi:i<l.length:=hj;refine⟨i,hi,h1,?_,rfl⟩;rw [List.take_succ_eq_append_getElem hi,List.drop_append_of_le_length (by simp;omega)]at hs;simp at hs;rw [hs];exact h2
def jY(fits:Int->Bool)(l:List Int)(f n t:Nat):Prop:=∀ j,t.testBit j=true↔∃ i,∃ hi:i<l.length,i<n/\f.testBit i=true/\fits l[i]=true/\j=i+1
theorem jY.zero(fits:Int->Bool)(l:List Int)(f:Nat):jY fits l f 0 0:=by
 intro j;simp
theorem jY.done{fits:Int->Bool}{l:List Int}{f t:Nat}(h:jY fits l f l.length t):eF (CH fits) l f t:=by
 refine eF.sysNone fits l f t (λ j=>?_);rw [h j]
 constructor
 ·rintro⟨i,hi,_,r⟩;exact⟨i,hi,r⟩
 rintro⟨i,hi,r⟩;exact⟨i,hi,hi,r⟩
theorem jY.skip{fits:Int->Bool}{l:List Int}{f n t:Nat}(h:jY fits l f n t)(hn:n<l.length)(hs:f.testBit n=false\/fits l[n]=false):jY fits l f (n+1) t:=by
 intro j;rw [h j]
 constructor
 ·rintro⟨i,hi,h1,r⟩;exact⟨i,hi,by omega,r⟩
 rintro⟨i,hi,h1,h2,h3,h4⟩;rcases Nat.lt_or_ge i n with h5|h5
 ·exact⟨i,hi,h5,h2,h3,h4⟩
 obtain rfl:i=n:=by omega
 rcases hs with h6|h6
 ·rw [h2]at h6;cases h6
 rw [h3]at h6;cases h6
theorem jY.step{fits:Int->Bool}{l:List Int}{f n t:Nat}(h:jY fits l f n t)(hn:n<l.length)(h1:f.testBit n=true)(h2:fits l[n]=true):jY fits l f (n+1) (t ||| 2 ^ (n+1)):=by
 intro j;rw [Nat.testBit_or,Bool.or_eq_true,h j,Nat.testBit_two_pow,decide_eq_true_eq]
 constructor
 ·rintro(⟨i,hi,h3,r⟩|h3)
  ·exact⟨i,hi,by omega,r⟩
  exact⟨n,hn,by omega,h1,h2,by omega⟩
 rintro⟨i,hi,h3,h4,h5,h6⟩;rcases Nat.lt_or_ge i n with h7|h7
 ·exact inl ⟨i,hi,h7,h4,h5,h6⟩
 right;omega
theorem jY.lt{fits:Int->Bool}{l:List Int}{f n t:Nat}(h:jY fits l f n t)(hl:l.length<=12):t<65536:=by
 refine eV (Nat.lt_pow_two_of_testBit (n:=13) _ (λ i hi=>?_)) (by decide);cases hb:t.testBit i with
 | false=>rfl
 | true =>
  obtain⟨k,hk,_,_,_,h5⟩:=(h i).1 hb;omega
structure hG(A:aH)(l:List Int)(f fresh tw:Nat):Prop where
 new:∀ j,fresh.testBit j=true->f.testBit j=true\/tw.testBit j=true
 sound:∀ j,tw.testBit j=true->∃ i,f.testBit i=true/\i<=j/\j<=l.length/\dC A ((l.take j).drop i)
 next:∀ i j,f.testBit i=true\/tw.testBit i=true->i<=j->j<=l.length->A ((l.take j).drop i)->fresh.testBit i=true\/tw.testBit j=true
theorem hG.start(A:aH)(l:List Int)(f:Nat):hG A l f f 0 :=
 ⟨λ _ h=>inl h,λ j h=>by simp at h,λ i j h _ _ _=>inl (h.elim id (λ h=>by simp at h))⟩
theorem hG.step{A:aH}{l:List Int}{f fresh tw nx fr2:Nat}(h:hG A l f fresh tw)(hb:eF A l fresh nx)(h2:∀ j,fr2.testBit j=(nx.testBit j&&!tw.testBit j)):hG A l f fr2 (tw ||| nx):=by
 refine⟨λ j hj=>?_,λ j hj=>?_,λ i j hi hij hjl hA=>?_⟩
 ·rw [h2 j,Bool.and_eq_true]at hj;right;rw [Nat.testBit_or,hj.1,Bool.or_true]
 ·rw [Nat.testBit_or,Bool.or_eq_true]at hj;rcases hj with hj|hj
  ·exact h.sound j hj
  obtain⟨i,hi,hij,hjl,hA⟩:=(hb j).1 hj;rcases h.new i hi with h3|h3
  ·exact⟨i,h3,hij,hjl,.one hA⟩
  obtain⟨k,hk,hki,_,hP⟩:=h.sound i h3;exact⟨k,hk,kr hki hij,hjl,by rw [Aa hki hij];exact hP.snoc hA⟩
 have hold:f.testBit i=true\/tw.testBit i=true->(tw ||| nx).testBit j=true:=λ hi=>by
  rw [Nat.testBit_or,Bool.or_eq_true];rcases h.next i j hi hij hjl hA with h3|h3
  ·exact inr ((hb j).2 ⟨i,h3,hij,hjl,hA⟩)
  exact inl h3
 rcases hi with hi|hi
 ·exact inr (hold (inl hi))
 cases ht:tw.testBit i with
 | true=>exact inr (hold (inr ht))
 | false =>
  rw [Nat.testBit_or,ht,Bool.false_or]at hi;left;rw [h2 i,hi,ht];rfl
theorem hG.closed{A:aH}{l:List Int}{f tw:Nat}(h:hG A l f 0 tw){p:List Int}(hp:dC A p):∀ i j,i<=j->j<=l.length->(l.take j).drop i=p->f.testBit i=true\/tw.testBit i=true->tw.testBit j=true:=by
 induction hp with
 | one hA =>
  intro i j hij hj hs hi;rcases h.next i j hi hij hj (by rw [hs];exact hA)with h3|h3
  ·simp at h3
  exact h3
 | more hA _ ih =>
  intro i j hij hj hs hi;obtain⟨q1,q2,q3⟩:=uh hij hj hs;refine ih _ j q1 hj q3 (inr ?_);rcases h.next i _ hi (Nat.le_add_right _ _) (kr q1 hj) (by rw [q2];exact hA)with h3|h3
  ·simp at h3
  exact h3
theorem hG.done{A:aH}{l:List Int}{f tw:Nat}(h:hG A l f 0 tw):eF (dC A) l f tw:=λ j =>
 ⟨h.sound j,λ⟨i,hi,hij,hj,hP⟩=>h.closed hP i j hij hj rfl (inl hi)⟩
theorem sL(nx tw j:Nat)(h1:nx<65536)(h2:tw<65536):(nx &&& (65535-tw)).testBit j=(nx.testBit j&&!tw.testBit j):=by
 rw [Nat.testBit_and];rcases Nat.lt_or_ge j 16 with h|h
 ·have h3:(65535-tw).testBit j=!tw.testBit j:=by
   have h4:=Nat.testBit_two_pow_sub_succ (n:=16) (x:=tw) h2 j;rw [show 2 ^ 16-(tw+1)=65535-tw by omega]at h4;rw [h4];simp [h]
  rw [h3]
 have h3:nx.testBit j=false:=Nat.testBit_lt_two_pow (eV h1 (by
  have:2 ^ 16<=2 ^ j:=Nat.pow_le_pow_right (by decide) h;omega))
 rw [h3];rfl
theorem IF{nx tw:Nat}(h:nx &&& (65535-tw)≠0)(h1:nx<65536)(h2:tw<65536):tw<(tw ||| nx):=by
 have h0:tw<=(tw ||| nx):=Nat.left_le_or;rcases Nat.lt_or_ge tw (tw ||| nx)with h3|h3
 ·exact h3
 exfalso;have h4:(tw ||| nx)=tw:=by omega
 apply h;apply Nat.eq_of_testBit_eq;intro j;rw [sL nx tw j h1 h2,Nat.zero_testBit];have h5:(tw ||| nx).testBit j=tw.testBit j:=by rw [h4]
 rw [Nat.testBit_or]at h5;cases h6:nx.testBit j<;>cases h7:tw.testBit j<;>simp_all
theorem DK{a b:Nat}(ha:a<65536)(hb:b<65536):(a ||| b)<65536:=Nat.or_lt_two_pow (n:=16) ha hb
theorem GT(f n:Nat):f / 2 ^ n % 2=if f.testBit n then 1 else 0:=by
 rw [Nat.testBit_eq_decide_div_mod_eq];have:f / 2 ^ n % 2<2:=Nat.mod_lt _ (by decide);by_cases h:f / 2 ^ n % 2=1
 ·simp [h]
 have h0:f / 2 ^ n % 2=0:=by omega
 simp [h0]
def repLp(ts:List aw):Nat->RS->Bool->Bool->Option (RS×Bool×Bool)
 | 0,_,_,_=>none
 | n+1,st,z,m =>
  if am ts st=36 then repLp ts n (bg ts st) true true
  else if am ts st=38 then repLp ts n (bg ts st) z true
  else if am ts st=37 then repLp ts n (bg ts st) true m
  else some (st,z,m)
def di(ts:List aw)(n:Nat)(A:aH)(st:RS):Option (RS×aH) :=
 match repLp ts n st false false with
 | none=>none
 | some (s,z,m)=>some (s,nw z m A)
def someR(r:Option (RS×aH)):Option (RS×Option aH):=match r with|none=>none|some (s,m)=>some (s,some m)
def Fb(n:Int):aH:=CH (λ s=>s==n)
def Ew:aH:=CH (λ _=>true)
def dM(ts:List aw)(n:Nat)(eith:RS->Option (RS×aH))(st:RS):Option (RS×Option aH) :=
 if am ts st=2 then someR (di ts n (Fb (aE ts 1 65535 st).2) (aE ts 1 65535 st).1)
 else if am ts st=41 then someR (di ts n Ew (bg ts st))
 else if am ts st=33 then
  (match eith (dt ts 33 st)with
   | none=>none
   | some (s,m)=>someR (di ts n m (gx ts 34 s)))
 else some (st,none)
def gw(ts:List aw)(n:Nat)(item:RS->Option (RS×Option aH))(st:RS):Option (RS×aH) :=
 match bO item n st []with
 | none=>none
 | some (s,l)=>some (if l.length=0 then cC ts s else s,jM l)
def altLp(ts:List aw)(row:RS->Option (RS×aH)):Nat->RS->List aH->Option (RS×List aH)
 | 0,_,_=>none
 | n+1,st,l =>
  if am ts st=35 then(match row (bg ts st)with|none=>none|some (s,m)=>altLp ts row n s (l++[m]))
  else some (st,l)
def nU(ts:List aw)(n:Nat)(row:RS->Option (RS×aH))(st:RS):Option (RS×aH) :=
 match row st with
 | none=>none
 | some (s,m)=>match altLp ts row n s [m]with
  | none=>none
  | some (s2,l)=>some (s2,kj l)
def eithTw(ts:List aw)(n:Nat):Nat->RS->Option (RS×aH)
 | 0,_=>none
 | f+1,st=>nU ts n (gw ts n (dM ts n (eithTw ts n f))) st
theorem Ly(f n:Nat)(hf:f<65536):bits .and .u16 ((f:Int) / 2 ^ n) 1=if f.testBit n then 1 else 0:=by
 have h1:((f:Int) / 2 ^ n)=((f / 2 ^ n:Nat):Int):=by simp
 have h2:f / 2 ^ n<65536:=Nat.lt_of_le_of_lt (Nat.div_le_self _ _) hf;rw [h1];have h3:=u16_and_nat (f / 2 ^ n) 1 h2 (by decide);have h4:((1:Nat):Int)=1:=rfl;rw [h4]at h3;rw [h3,nat_mask1,GT];split<;>rfl
theorem vB{f n:Nat}(hf:f<65536)(h:f.testBit n=true):(bits .and .u16 ((f:Int) / 2 ^ n) 1==1)=true:=by rw [Ly f n hf,h];rfl
theorem yF{f n:Nat}(hf:f<65536)(h:f.testBit n=false):(bits .and .u16 ((f:Int) / 2 ^ n) 1==1)=false:=by rw [Ly f n hf,h];rfl
theorem Nd(n:Nat)(hn:n<=12):IntKind.u16.wrap (2 ^ (n+1))=((2 ^ (n+1):Nat):Int):=by
 have h1:(2:Nat) ^ (n+1)<65536:=Nat.lt_of_le_of_lt (Nat.pow_le_pow_right (by decide) (show n+1<=13 by omega)) (by decide);rw [IntKind.wrap_u16];have h2:((2:Int) ^ (n+1))=((2 ^ (n+1):Nat):Int):=by simp
 rw [h2];generalize 2 ^ (n+1)=q at *;omega
theorem KM{a b:Nat}(ha:a<65536)(hb:b<65536):bits .or .u16 (a:Int) (b:Int)=((a ||| b:Nat):Int):=u16_or_nat a b ha hb
theorem qL(W:World)(pv:Value)(l:List Int)(f g:Nat)(lb:Array Value)(fits:Int->Bool)(hp:gy W pv l)(hl:l.length<=12)(hf:f<2 ^ (l.length+1))(eg:Enters prog g)
  (hc:∀(V:World) (s:Int),Below W.heap.size W V->Calls prog g (#[.int .i64 s]++lb) V λ e V'=>e=.returned (.bool (fits s))/\Below V.heap.size V V') :
  Calls prog 336 #[pv,.int .u16 (f:Int),.func (.func g) #[] lb] W λ e W'=>(∃ r:Nat,e=.returned (.int .u16 (r:Int))/\eF (CH fits) l f r)/\Below W.heap.size W W':=by
 obtain⟨p,c,rfl,hr⟩:=hp;have e1:=cL eg;have hf16:f<65536:=eV hf (kr (Nat.pow_le_pow_right (by decide) (show l.length+1<=13 by omega)) (by decide));have HC:=ae hc;have HR:=ae hr;have HL:=ae hl;clear hr hc eg hf;have hN:(l.length:Int)<=12:=by omega
 go_enter func336,ntmps336;go_wp2_with fail;go_loopw [7,12] (λ t i wr=>∃ j n:Nat,j<=l.length/\i=.int .i64 (j:Nat)/\t=.int .u16 (n:Nat)/\Hid (jY fits l f j n)/\Below W.heap.size W wr) (λ _ i _=>l.length-(intOf i).toNat)
 case atStart=>exact⟨0,0,iL _,rfl,rfl,jY.zero fits l f,aX _ _⟩
 case round =>
  obtain⟨j,n,hj,rfl,rfl,HA,hbl⟩:=hrel;have HB:=ae hbl;have hn16:=(ab HA).lt (ab HL);clear hbl;by_cases hlt:j<l.length
  ·rcases ab HR with h|⟨b,o,rfl,hb,hcc⟩
   ·rw [h]at hlt;simp at hlt
   have hcl:=((ab HB).cell (p:=⟨b,o+j,none⟩) hb).trans (hcc j hlt);have BA:=ae ((ab HC) wr l[j] (ab HB));clear hcc;cases hbit:f.testBit j with
   | false =>
    have hb1:=yF hf16 hbit;have AA:=ae ((ab HA).skip hlt (inl hbit));go_wp2_with fail;exact⟨⟨j+1,n,by omega,by go_num,rfl,AA,ab HB⟩,by simp [intOf];omega⟩
   | true =>
    have hb1:=vB hf16 hbit;cases hfit:fits l[j]with
    | false =>
     rw [hfit]at BA;have AA:=ae ((ab HA).skip hlt (inr hfit));go_wp2_with (go_at_fn g;refine(ab BA).mono ?_;rintro e w1 ⟨rfl,hb2⟩;have CA:=ae ((ab HB).trans (hb2.mono (ab HB).size));clear hb2)
     exact⟨⟨j+1,n,by omega,by go_num,rfl,AA,ab CA⟩,by simp [intOf];omega⟩
    | true =>
     rw [hfit]at BA;have AA:=ae ((ab HA).step hlt hbit hfit);have hs:=Nd j (by omega);have ho:=KM hn16 (show 2 ^ (j+1)<65536 from Nat.lt_of_le_of_lt (Nat.pow_le_pow_right (by decide) (show j+1<=13 by omega)) (by decide));have z1:((j:Int)+1).toNat=j+1:=by omega
     go_wp2_with (go_at_fn g;refine(ab BA).mono ?_;rintro e w1 ⟨rfl,hb2⟩;have CA:=ae ((ab HB).trans (hb2.mono (ab HB).size));clear hb2)
     refine⟨⟨j+1,n ||| 2 ^ (j+1),by omega,by go_num,?_,AA,ab CA⟩,by simp [intOf];omega⟩;rw [<-ho];simp
  obtain rfl:j=l.length:=by omega
  have AA:=ae (ab HA).done;go_wp2_with fail;go_ret;exact⟨⟨n,rfl,ab AA⟩,ab HB⟩
abbrev nn(w:World)(A:Nat->Prop)(v:Value)(m:aH):Prop:=az w A (kB v m)
theorem CG(V:World)(B:Nat)(n s:Int)(c1:V.cell? ⟨B,0,none⟩=some (.int .i64 n)) :
  Calls prog 337 (#[.int .i64 s]++#[ay B 0]) V λ e V'=>e=.returned (.bool (s==n))/\Below V.heap.size V V':=by
 go_enter func337,ntmps337;go_wp2_with fail;go_ret;exact⟨rfl,aX _ _⟩
theorem A6(V:World)(s:Int) :
  Calls prog 338 (#[.int .i64 s]++#[]) V λ e V'=>e=.returned (.bool true)/\Below V.heap.size V V':=by
 go_enter func338,ntmps338;go_wp2_with fail;go_ret;exact⟨rfl,aX _ _⟩
theorem Tryz.entSysFit:Enters prog 337:=enters_of func337 (by kernel_rfl) rfl
theorem Tryz.entAnyFit:Enters prog 338:=enters_of func338 (by kernel_rfl) rfl
theorem Tryz.entSystem:Enters prog 335:=enters_of func335 (by kernel_rfl) rfl
theorem Tryz.entAnySystem:Enters prog 308:=enters_of func308 (by kernel_rfl) rfl
theorem Tryz.entRow:Enters prog 304:=enters_of func304 (by kernel_rfl) rfl
theorem Tryz.entOneOf:Enters prog 311:=enters_of func311 (by kernel_rfl) rfl
theorem Tryz.entMaybe:Enters prog 372:=enters_of func372 (by kernel_rfl) rfl
theorem Tryz.entAgain:Enters prog 371:=enters_of func371 (by kernel_rfl) rfl
theorem CJ(W:World)(B:Nat)(n:Int)(c1:W.cell? ⟨B,0,none⟩=some (.int .i64 n))(V:World)(hV:Below W.heap.size W V)(pv:Value)(l:List Int)(f:Nat)(hp:gy V pv l)(hl:l.length<=12)(hf:f<2 ^ (l.length+1)) :
  Calls prog 335 (#[pv,.int .u16 (f:Int)]++#[ay B 0]) V λ e V'=>(∃ r:Nat,e=.returned (.int .u16 (r:Int))/\eF (Fb n) l f r)/\Below V.heap.size V V':=by
 have d1:=(hV.cell (p:=⟨B,0,none⟩) (dD c1)).trans c1;have HA:=ae (qL V pv l f 337 #[ay B 0] (λ s=>s==n) hp hl hf Tryz.entSysFit (λ U s hU=>CG U B n s ((hU.cell (p:=⟨B,0,none⟩) (dD d1)).trans d1)));have hmf:∀(fn:Fn) (first cap:Array Value) (w:World),(Instr.makeFunc fn first cap).run prog w=.ok (.func fn first cap) w:=λ _ _ _ _=>rfl
 obtain⟨p,c,rfl,_⟩:=hp;clear hf hl c1 d1 hV;go_enter func335,ntmps335;go_wp2_with (go_at_call 336;refine(ab HA).mono ?_;clear HA;rintro e w1 ⟨⟨r,rfl,hr⟩,hb1⟩;have HX:=ae (And.intro hr hb1);clear hr hb1)
 go_ret;exact⟨⟨r,rfl,(ab HX).1⟩,(ab HX).2⟩
theorem uN(V:World)(pv:Value)(l:List Int)(f:Nat)(hp:gy V pv l)(hl:l.length<=12)(hf:f<2 ^ (l.length+1)) :
  Calls prog 308 (#[pv,.int .u16 (f:Int)]++#[]) V λ e V'=>(∃ r:Nat,e=.returned (.int .u16 (r:Int))/\eF Ew l f r)/\Below V.heap.size V V':=by
 have HA:=ae (qL V pv l f 338 #[] (λ _=>true) hp hl hf Tryz.entAnyFit (λ U s hU=>A6 U s));obtain⟨p,c,rfl,_⟩:=hp;clear hf hl;go_enter func308,ntmps308;go_wp2_with (go_at_call 336;refine(ab HA).mono ?_;clear HA;rintro e w1 ⟨⟨r,rfl,hr⟩,hb1⟩;have HX:=ae (And.intro hr hb1);clear hr hb1)
 go_ret;exact⟨⟨r,rfl,(ab HX).1⟩,(ab HX).2⟩
def oF(sv:Value)(ms:List aH)(K:Nat->Prop)(W:World):Prop :=
 ms.length<=1000000/\∃ vs:List Value,vs.length=ms.length/\LZ W K sv vs/\∀(i:Nat) (v:Value) (m:aH),vs[i]?=some v->ms[i]?=some m->kB v m K W
theorem wF{α:Type}{l:List α}{j:Nat}{x:α}(h:l[j]?=some x):l.take (j+1)=l.take j++[x]:=by
 rw [List.take_add_one,h];rfl
theorem Lb(W:World)(B:Nat)(sv:Value)(ms:List aH)(K:Nat->Prop)(hK:∀ k,K k->k<W.heap.size)(hb:W.cell? ⟨B,0,none⟩=some sv)(hs:oF sv ms K W)(V:World)(hV:Below W.heap.size W V)(pv:Value)(l:List Int)(f:Nat)(hp:gy V pv l)(hl:l.length<=12)(hf:f<2 ^ (l.length+1)) :
  Calls prog 304 (#[pv,.int .u16 (f:Int)]++#[ay B 0]) V λ e V'=>(∃ r:Nat,e=.returned (.int .u16 (r:Int))/\eF (jM ms) l f r)/\Below V.heap.size V V':=by
 obtain⟨hml,vs,hvl,hrow,hst⟩:=hs;have hbV:=(hV.cell (p:=⟨B,0,none⟩) (dD hb)).trans hb
 obtain⟨sa,sc,hsv⟩:∃ a c,sv=.slice a ms.length c:=by
  rcases hrow with⟨h1,h2⟩|⟨S,cap,h1,_⟩
  ·exact⟨none,0,by rw [h2,<-hvl,h1];rfl⟩
  exact⟨_,cap,by rw [h1,hvl]⟩
 have GA:=ae hst;have BA:=ae hrow;have HV:=ae hV;have EA:=ae hK;have HP:=ae hp;have HL:=ae hl;have FA:=ae (eF.nil hf);obtain⟨p,c,rfl,_⟩:=hp;clear hst hrow hV hK hb hf hl;subst hsv;go_enter func304,ntmps304;go_wp2_with fail;generalize hN:ms.length=N at *;go_loopw [1,10] (λ u i wr=>∃ j n:Nat,j<=N/\i=.int .i64 (j:Nat)/\u=.int .u16 (n:Nat)/\Hid (eF (jM (ms.take j)) l f n)/\Below V.heap.size V wr) (λ _ i _=>N-(intOf i).toNat)
 case atStart=>exact⟨0,f,iL _,rfl,rfl,ab FA,aX _ _⟩
 case round =>
  obtain⟨j,n,hj,rfl,rfl,HF,hbl⟩:=hrel;have AA:=ae hbl;clear hbl;by_cases hlt:j<N
  ·have hj':j<vs.length:=by omega
   have hjm:j<ms.length:=by omega
   have hv:vs[j]?=some vs[j]:=iK hj';have hm:ms[j]?=some ms[j]:=iK hjm;obtain⟨g,lb,hvj,eg,hc⟩:=(ab GA) j _ _ hv hm;have e1:=cL eg;rcases ab BA with⟨h1,_⟩|⟨S,cap,h1,hKS,hcell⟩
   ·rw [h1]at hj';simp at hj'
   injection h1 with h2 h3 h4
   subst h2 h4;have hWr:Below W.heap.size W wr:=(ab HV).trans ((ab AA).mono (ab HV).size);have hcl:wr.cell? ⟨S,j,none⟩=some (.func (.func g) #[] lb):=(hWr.cell (p:=⟨S,j,none⟩) ((ab EA) S hKS)).trans ((hcell j _ hv).trans (by rw [hvj]));have HC:=ae (hc wr _ l n hWr ((ab HP).below (ab AA)) (ab HL) (ab HF).lt);have HJ:=ae (wF hm);generalize ms[j]=mj at *;clear hcell hc eg hvj hm hv h3 hWr;go_wp2_with (go_at_fn g;refine(ab HC).mono ?_;clear HC;rintro e w1 ⟨⟨r,rfl,hr⟩,hb1⟩;have CA:=ae hb1;have HX:=ae hr;clear hb1 hr)
   refine⟨⟨j+1,r,by omega,by go_num,rfl,?_,(ab AA).trans ((ab CA).mono (ab AA).size)⟩,by simp [intOf];omega⟩;show eF (jM (ms.take (j+1))) l f r;rw [ab HJ,FH];exact(ab HF).cat (ab HX)
  have DA:Hid (eF (jM ms) l f n):=by
   have h:=ab HF;rw [List.take_of_length_le (by omega)]at h;exact h
  go_wp2_with fail;go_ret;exact⟨⟨n,rfl,ab DA⟩,ab AA⟩
theorem Fd(W:World)(B:Nat)(sv:Value)(ms:List aH)(K:Nat->Prop)(hK:∀ k,K k->k<W.heap.size)(hb:W.cell? ⟨B,0,none⟩=some sv)(hs:oF sv ms K W)(V:World)(hV:Below W.heap.size W V)(pv:Value)(l:List Int)(f:Nat)(hp:gy V pv l)(hl:l.length<=12)(hf:f<2 ^ (l.length+1)) :
  Calls prog 311 (#[pv,.int .u16 (f:Int)]++#[ay B 0]) V λ e V'=>(∃ r:Nat,e=.returned (.int .u16 (r:Int))/\eF (kj ms) l f r)/\Below V.heap.size V V':=by
 obtain⟨hml,vs,hvl,hrow,hst⟩:=hs;have hbV:=(hV.cell (p:=⟨B,0,none⟩) (dD hb)).trans hb
 obtain⟨sa,sc,hsv⟩:∃ a c,sv=.slice a ms.length c:=by
  rcases hrow with⟨h1,h2⟩|⟨S,cap,h1,_⟩
  ·exact⟨none,0,by rw [h2,<-hvl,h1];rfl⟩
  exact⟨_,cap,by rw [h1,hvl]⟩
 have GA:=ae hst;have BA:=ae hrow;have HV:=ae hV;have FA:=ae hK;have HP:=ae hp;have HL:=ae hl;have EA:=ae hf;obtain⟨p,c,rfl,_⟩:=hp;clear hst hrow hV hK hb hf hl;subst hsv;go_enter func311,ntmps311;go_wp2_with fail;generalize hN:ms.length=N at *;go_loopw [6,11] (λ u i wr=>∃ j n:Nat,j<=N/\i=.int .i64 (j:Nat)/\u=.int .u16 (n:Nat)/\Hid (eF (kj (ms.take j)) l f n)/\Below V.heap.size V wr) (λ _ i _=>N-(intOf i).toNat)
 case atStart=>exact⟨0,0,iL _,rfl,rfl,eF.none l f,aX _ _⟩
 case round =>
  obtain⟨j,n,hj,rfl,rfl,HF,hbl⟩:=hrel;have AA:=ae hbl;clear hbl;by_cases hlt:j<N
  ·have hj':j<vs.length:=by omega
   have hjm:j<ms.length:=by omega
   have hv:vs[j]?=some vs[j]:=iK hj';have hm:ms[j]?=some ms[j]:=iK hjm;obtain⟨g,lb,hvj,eg,hc⟩:=(ab GA) j _ _ hv hm;have e1:=cL eg;rcases ab BA with⟨h1,_⟩|⟨S,cap,h1,hKS,hcell⟩
   ·rw [h1]at hj';simp at hj'
   injection h1 with h2 h3 h4
   subst h2 h4;have hWr:Below W.heap.size W wr:=(ab HV).trans ((ab AA).mono (ab HV).size);have hcl:wr.cell? ⟨S,j,none⟩=some (.func (.func g) #[] lb):=(hWr.cell (p:=⟨S,j,none⟩) ((ab FA) S hKS)).trans ((hcell j _ hv).trans (by rw [hvj]));have HC:=ae (hc wr _ l f hWr ((ab HP).below (ab AA)) (ab HL) (ab EA));have HJ:=ae (wF hm);generalize ms[j]=mj at *;clear hcell hc eg hvj hm hv h3 hWr;go_wp2_with (go_at_fn g;refine(ab HC).mono ?_;clear HC;rintro e w1 ⟨⟨r,rfl,hr⟩,hb1⟩;have CA:=ae hb1;have HX:=ae hr;clear hb1 hr)
   refine⟨⟨j+1,n ||| r,by omega,by go_num,?_,?_,(ab AA).trans ((ab CA).mono (ab AA).size)⟩,by simp [intOf];omega⟩
   ·rw [KM ((ab HF).lt16 (ab HL)) ((ab HX).lt16 (ab HL))]
   show eF (kj (ms.take (j+1))) l f _;rw [ab HJ,Ed];exact(ab HF).or (ab HX)
  have DA:Hid (eF (kj ms) l f n):=by
   have h:=ab HF;rw [List.take_of_length_le (by omega)]at h;exact h
  go_wp2_with fail;go_ret;exact⟨⟨n,rfl,ab DA⟩,ab AA⟩
theorem E5(W:World)(B:Nat)(va:Value)(ma:aH)(Ka:Nat->Prop)(ha:kB va ma Ka W)(c1:W.cell? ⟨B,0,none⟩=some va)(V:World)(hV:Below W.heap.size W V)(pv:Value)(l:List Int)(f:Nat)(hp:gy V pv l)(hl:l.length<=12)(hf:f<2 ^ (l.length+1)) :
  Calls prog 372 (#[pv,.int .u16 (f:Int)]++#[ay B 0]) V λ e V'=>(∃ r:Nat,e=.returned (.int .u16 (r:Int))/\eF (od ma) l f r)/\Below V.heap.size V V':=by
 obtain⟨g,lb,rfl,eg,hc⟩:=ha;have e1:=cL eg;have d1:=(hV.cell (p:=⟨B,0,none⟩) (dD c1)).trans c1;have HC:=ae (hc V pv l f hV hp hl hf);have HF:=ae hf;have HL:=ae hl;obtain⟨p,c,rfl,_⟩:=hp;clear hc eg hf hl c1 hV;go_enter func372,ntmps372;go_wp2_with (go_at_fn g;refine(ab HC).mono ?_;clear HC;rintro e w1 ⟨⟨r,rfl,hr⟩,hb1⟩;have HX:=ae (And.intro hr hb1);clear hr hb1)
 go_ret;refine⟨⟨f ||| r,?_,eF.opt (ab HF) (ab HX).1⟩,(ab HX).2⟩;rw [KM ((eF.nil (ab HF)).lt16 (ab HL)) ((ab HX).1.lt16 (ab HL))];rfl
theorem Eb(W:World)(B:Nat)(va:Value)(ma:aH)(Ka:Nat->Prop)(ha:kB va ma Ka W)(c1:W.cell? ⟨B,0,none⟩=some va)(V:World)(hV:Below W.heap.size W V)(pv:Value)(l:List Int)(f:Nat)(hp:gy V pv l)(hl:l.length<=12)(hf:f<2 ^ (l.length+1)) :
  Calls prog 371 (#[pv,.int .u16 (f:Int)]++#[ay B 0]) V λ e V'=>(∃ r:Nat,e=.returned (.int .u16 (r:Int))/\eF (dC ma) l f r)/\Below V.heap.size V V':=by
 obtain⟨g,lb,rfl,eg,hc⟩:=ha;have e1:=cL eg;have lB:=dD c1;have d1:=(hV.cell (p:=⟨B,0,none⟩) lB).trans c1;have lBV:B<V.heap.size:=eV lB hV.size;have HC:=ae hc;have HP:=ae hp;have HF:=ae hf;have HL:=ae hl;have HV:=ae hV;obtain⟨p,c,rfl,_⟩:=hp;clear hc eg hf hl c1 hV;go_enter func371,ntmps371;go_wp2_with fail;go_loopw [6,7] (λ u x wr=>∃ t a:Nat,u=.int .u16 (t:Nat)/\x=.int .u16 (a:Nat)/\t<65536/\a<2 ^ (l.length+1)/\Hid (hG ma l f a t)/\Below V.heap.size V wr) (λ u x _=>if intOf x=0 then 0 else 65537-(intOf u).toNat)
 case atStart=>exact⟨0,f,rfl,rfl,by decide,ab HF,hG.start ma l f,aX _ _⟩
 case round =>
  obtain⟨t,a,rfl,rfl,ht,hal,HA,hbl⟩:=hrel;have AA:=ae hbl;have DA:=ae hal;have hd:=(hbl.cell (p:=⟨B,0,none⟩) lBV).trans d1;clear hbl hal;by_cases ha0:a=0
  ·subst ha0;have CA:=ae (ab HA).done;go_wp2_with fail;go_ret;exact⟨⟨t,rfl,ab CA⟩,ab AA⟩
  have hne:((a:Int) != 0)=true:=by simp;omega
  have BA:=ae ((ab HC) wr _ l a ((ab HV).trans ((ab AA).mono (ab HV).size)) ((ab HP).below (ab AA)) (ab HL) (ab DA));go_wp2_with (go_at_fn g;refine(ab BA).mono ?_;clear BA;rintro e w1 ⟨⟨nx,rfl,hr⟩,hb1⟩;have HX:=ae (And.intro hr hb1);clear hr hb1)
  have hnx:=(ab HX).1.lt16 (ab HL);have o1:=u16_andNot_nat nx t hnx ht;have o2:=KM ht hnx;have hbit:=λ j=>sL nx t j hnx ht
  refine⟨⟨t ||| nx,nx &&& (65535-t),by rw [o2],by rw [o1],DK ht hnx,?_,(ab HA).step (ab HX).1 hbit,(ab AA).trans ((ab HX).2.mono (ab AA).size)⟩,?_⟩
  ·exact Nat.lt_of_le_of_lt Nat.and_le_left (ab HX).1.lt
  rw [o1,o2];show(if((nx &&& (65535-t):Nat):Int)=0 then 0 else 65537-((t ||| nx:Nat):Int).toNat)<(if((a:Nat):Int)=0 then 0 else 65537-((t:Nat):Int).toNat);rw [au (show ¬((a:Nat):Int)=0 by omega)];by_cases hz:(nx &&& (65535-t))=0
  ·rw [hz,aC (show((0:Nat):Int)=0 from rfl)];omega
  have:=IF hz hnx ht;have h3:=DK ht hnx;rw [au (by omega)];omega
theorem EY{m:aH}{l:List Int}{r:Nat}(h:eF m l 1 r):(r.testBit l.length=true)↔m l:=by
 rw [h l.length]
 constructor
 ·rintro⟨i,hi,_,_,hm⟩
  have h0:i=0:=by
   rcases yj i with h1|h1
   ·exact h1
   have:=Nat.testBit_lt_two_pow (x:=1) (i:=i) (Nat.one_lt_two_pow (by omega));rw [this]at hi;cases hi
  subst h0;simpa using hm
 intro hm;exact⟨0,rfl,iL _,aD _,by simpa using hm⟩
theorem Ij(V:World)(va:Value)(ma:aH)(Ka:Nat->Prop)(ha:kB va ma Ka V)(pv:Value)(l:List Int)(hp:gy V pv l)(hl:l.length<=12) :
  Calls prog 385 #[pv,va] V λ e V'=>(∃ b:Bool,e=.returned (.bool b)/\(b=true↔ma l))/\Below V.heap.size V V':=by
 obtain⟨g,lb,rfl,eg,hc⟩:=ha;have e1:=cL eg;have HC:=ae (hc V pv l 1 (aX _ _) hp hl (Nat.one_lt_two_pow (by omega)));have HL:=ae hl;have hN:(l.length:Int)<=12:=by omega
 obtain⟨p,c,rfl,_⟩:=hp;clear hc eg hl;go_enter func385,ntmps385;go_wp2_with (go_at_fn g;refine(ab HC).mono ?_;clear HC;rintro e w1 ⟨⟨r,rfl,hr⟩,hb1⟩;have HX:=ae (And.intro hr hb1);clear hr hb1)
 go_ret;refine⟨⟨r.testBit l.length,?_,EY (ab HX).1⟩,(ab HX).2⟩;refine bQ ?_;have h16:=(ab HX).1.lt16 (ab HL);cases hb:r.testBit l.length with
 | true=>exact vB h16 hb
 | false=>exact yF h16 hb
theorem AO{w:World}{A:Nat->Prop}{sv:Value}{ms:List aH}{vs:List Value}(ho:w.ownsRow 0 305 1 sv ms.length vs)(hl:ms.length<=1000000)(hA:∀ k,sv.ownBlock=some k->A k)
  (hv:∀(i:Nat) (v:Value) (m:aH),vs[i]?=some v->ms[i]?=some m->nn w A v m):az w A (oF sv ms):=by
 have hvl:vs.length=ms.length:=by simpa using ho.1
 have hlast:∀ i:Fin ms.length,az w A (kB (vs[i.1]'(by omega)) ms[i.1]):=λ i=>hv i.1 _ _ (iK (by omega)) (iK i.2)
 rcases ho.2 with⟨h1,h0⟩|⟨g,cap,cur,h1,hb,hg,hn,hm,hs,ht⟩
 ·refine az.new (λ _=>False) (λ _ h=>h.elim) (λ W _ _=>⟨by omega,vs,by omega,inl ⟨List.eq_nil_of_length_eq_zero (by omega),h1⟩,λ i v m hi hm=>?_⟩);have hnil:ms=[]:=List.eq_nil_of_length_eq_zero (by omega);rw [hnil]at hm;simp at hm
 have hcell:∀(W:World),W.heap[g]?=w.heap[g]?->∀ i v,vs[i]?=some v->W.cell? ⟨g,i,none⟩=some v:=λ W hW i v hi=>by
  rw [af (hW.trans hg),<-Array.getElem?_toList];rw [<-ht,List.getElem?_take]at hi;split at hi
  ·exact hi
  cases hi
 refine⟨λ k=>k=g\/∃ i:Fin ms.length,Classical.choose (hlast i) k,λ k hk=>?_,λ W hW hk=>?_⟩
 ·rcases hk with rfl|⟨i,hi⟩
  ·exact⟨ai hg,hA k (by rw [h1];rfl)⟩
  exact(Classical.choose_spec (hlast i)).1 k hi
 refine⟨by omega,vs,by omega,inr ⟨g,cap,by rw [h1,hvl],inl rfl,hcell W (hk g (inl rfl))⟩,λ i v m hi hm=>?_⟩
 have hi':i<ms.length:=by
  rcases Nat.lt_or_ge i ms.length with h|h
  ·exact h
  rw [List.getElem?_eq_none h]at hm;cases hm
 have e1:v=vs[i]:=by rw [iK (by omega)]at hi;exact(fZ hi).symm
 have e2:m=ms[i]:=by rw [iK hi']at hm;exact(fZ hm).symm
 subst e1 e2;obtain⟨g',lb,hq1,hq2,hq3⟩:=(Classical.choose_spec (hlast ⟨i,hi'⟩)).2 W hW (λ k h=>hk k (inr ⟨⟨i,hi'⟩,h⟩));exact⟨g',lb,hq1,hq2,hq3⟩
theorem Jb(w:World)(a:Option Addr)(n c:Nat) :
  Calls prog 262 #[.slice a n c] w λ e w'=>e=.returned (.func (.func 304) #[] #[ay w.heap.size 0])/\w'=w.alloc (aF (.slice a n c) 353):=by
 have hmf:∀(fn:Fn) (first cap:Array Value) (w:World),(Instr.makeFunc fn first cap).run prog w=.ok (.func fn first cap) w:=λ _ _ _ _=>rfl
 go_enter func262,ntmps262;go_wp2_with fail;go_ret;exact⟨rfl,rfl⟩
theorem B9(w:World)(a:Option Addr)(n c:Nat) :
  Calls prog 265 #[.slice a n c] w λ e w'=>e=.returned (.func (.func 311) #[] #[ay w.heap.size 0])/\w'=w.alloc (aF (.slice a n c) 353):=by
 have hmf:∀(fn:Fn) (first cap:Array Value) (w:World),(Instr.makeFunc fn first cap).run prog w=.ok (.func fn first cap) w:=λ _ _ _ _=>rfl
 go_enter func265,ntmps265;go_wp2_with fail;go_ret;exact⟨rfl,rfl⟩
theorem zY(w:World)(sv:Value)(ms:List aH)(A:Nat->Prop)(hA:∀ k,w.heap.size<=k->A k)(hs:az w A (oF sv ms))(hf:∃ a n c,sv=.slice a n c) :
  Calls prog 262 #[sv] w λ e w'=>∃ v,e=.returned v/\jl v/\w'=w.alloc (aF sv 353)/\nn w' A v (jM ms):=by
 obtain⟨a,n,c,rfl⟩:=hf;refine(Jb w a n c).mono ?_;rintro e w' ⟨rfl,rfl⟩;refine⟨_,rfl,inl ⟨_,_,_,rfl⟩,rfl,?_⟩;have h1:az (w.alloc (aF (.slice a n c) 353)) A (oF (.slice a n c) ms):=hs.mono (by simp) (λ k hk ha=>⟨eW _ _ _ hk,ha⟩) (λ _ _ h=>h);refine az.one h1 (λ k=>k=w.heap.size) (λ k hk=>⟨by subst hk;simp,hA k (by omega)⟩) (λ K1 hK1 q1 W hW hk=>?_);exact⟨_,_,rfl,Tryz.entRow,λ V pv l f hV hp hl hf=>Lb W _ _ ms K1 (λ k hk1=>eV (hK1 k hk1).1 hW) (lS (hk _ (inr rfl)) (cN w _)) (q1 W hW (λ k h=>hk k (inl h))) V hV pv l f hp hl hf⟩
theorem Ca(w:World)(sv:Value)(ms:List aH)(A:Nat->Prop)(hA:∀ k,w.heap.size<=k->A k)(hs:az w A (oF sv ms))(hf:∃ a n c,sv=.slice a n c) :
  Calls prog 265 #[sv] w λ e w'=>∃ v,e=.returned v/\jl v/\w'=w.alloc (aF sv 353)/\nn w' A v (kj ms):=by
 obtain⟨a,n,c,rfl⟩:=hf;refine(B9 w a n c).mono ?_;rintro e w' ⟨rfl,rfl⟩;refine⟨_,rfl,inl ⟨_,_,_,rfl⟩,rfl,?_⟩;have h1:az (w.alloc (aF (.slice a n c) 353)) A (oF (.slice a n c) ms):=hs.mono (by simp) (λ k hk ha=>⟨eW _ _ _ hk,ha⟩) (λ _ _ h=>h);refine az.one h1 (λ k=>k=w.heap.size) (λ k hk=>⟨by subst hk;simp,hA k (by omega)⟩) (λ K1 hK1 q1 W hW hk=>?_);exact⟨_,_,rfl,Tryz.entOneOf,λ V pv l f hV hp hl hf=>Fd W _ _ ms K1 (λ k hk1=>eV (hK1 k hk1).1 hW) (lS (hk _ (inr rfl)) (cN w _)) (q1 W hW (λ k h=>hk k (inl h))) V hV pv l f hp hl hf⟩
theorem BY(w:World)(va:Value)(ha:jl va) :
  Calls prog 357 #[va] w λ e w'=>e=.returned (.func (.func 372) #[] #[ay w.heap.size 0])/\w'=(w.alloc (aF va 305)):=by
 have hmf:∀(fn:Fn) (first cap:Array Value) (w:World),(Instr.makeFunc fn first cap).run prog w=.ok (.func fn first cap) w:=λ _ _ _ _=>rfl
 rcases ha with⟨f,a,b,rfl⟩|rfl <;>
 ·go_enter func357,ntmps357;go_wp2_with fail;go_ret;exact⟨rfl,rfl⟩
theorem BZ(w:World)(va:Value)(ma:aH)(A:Nat->Prop)(hA:∀ k,w.heap.size<=k->A k)(ha:nn w A va ma) :
  Calls prog 357 #[va] w λ e w'=>∃ v,e=.returned v/\jl v/\w'=w.alloc (aF va 305)/\nn w' A v (od ma):=by
 obtain⟨K0,g0,lb0,hv0,_⟩:=az.now ha;refine(BY w va (inl ⟨_,_,_,hv0⟩)).mono ?_;rintro e w' ⟨rfl,rfl⟩;refine⟨_,rfl,inl ⟨_,_,_,rfl⟩,rfl,?_⟩;have h1:az (w.alloc (aF va 305)) A (kB va ma):=ha.mono (by simp) (λ k hk ha=>⟨eW _ _ _ hk,ha⟩) (λ _ _ h=>h);refine az.one h1 (λ k=>k=w.heap.size) (λ k hk=>⟨by subst hk;simp,hA k (by omega)⟩) (λ K1 _ q1 W hW hk=>?_);exact⟨_,_,rfl,Tryz.entMaybe,λ V pv l f hV hp hl hf=>E5 W _ va ma K1 (q1 W hW (λ k h=>hk k (inl h))) (af ((hk _ (inr rfl)).trans (cN w _))) V hV pv l f hp hl hf⟩
theorem AX(w:World)(va:Value)(ha:jl va) :
  Calls prog 356 #[va] w λ e w'=>e=.returned (.func (.func 371) #[] #[ay w.heap.size 0])/\w'=(w.alloc (aF va 305)):=by
 have hmf:∀(fn:Fn) (first cap:Array Value) (w:World),(Instr.makeFunc fn first cap).run prog w=.ok (.func fn first cap) w:=λ _ _ _ _=>rfl
 rcases ha with⟨f,a,b,rfl⟩|rfl <;>
 ·go_enter func356,ntmps356;go_wp2_with fail;go_ret;exact⟨rfl,rfl⟩
theorem AY(w:World)(va:Value)(ma:aH)(A:Nat->Prop)(hA:∀ k,w.heap.size<=k->A k)(ha:nn w A va ma) :
  Calls prog 356 #[va] w λ e w'=>∃ v,e=.returned v/\jl v/\w'=w.alloc (aF va 305)/\nn w' A v (dC ma):=by
 obtain⟨K0,g0,lb0,hv0,_⟩:=az.now ha;refine(AX w va (inl ⟨_,_,_,hv0⟩)).mono ?_;rintro e w' ⟨rfl,rfl⟩;refine⟨_,rfl,inl ⟨_,_,_,rfl⟩,rfl,?_⟩;have h1:az (w.alloc (aF va 305)) A (kB va ma):=ha.mono (by simp) (λ k hk ha=>⟨eW _ _ _ hk,ha⟩) (λ _ _ h=>h);refine az.one h1 (λ k=>k=w.heap.size) (λ k hk=>⟨by subst hk;simp,hA k (by omega)⟩) (λ K1 _ q1 W hW hk=>?_);exact⟨_,_,rfl,Tryz.entAgain,λ V pv l f hV hp hl hf=>Eb W _ va ma K1 (q1 W hW (λ k h=>hk k (inl h))) (af ((hk _ (inr rfl)).trans (cN w _))) V hV pv l f hp hl hf⟩
theorem Aw(w:World)(n:Int) :
  Calls prog 307 #[.int .i64 n] w λ e w'=>e=.returned (.func (.func 335) #[] #[ay w.heap.size 0])/\w'=w.alloc (aF (.int .i64 n) 3):=by
 have hmf:∀(fn:Fn) (first cap:Array Value) (w:World),(Instr.makeFunc fn first cap).run prog w=.ok (.func fn first cap) w:=λ _ _ _ _=>rfl
 go_enter func307,ntmps307;go_wp2_with fail;go_ret;exact⟨rfl,rfl⟩
theorem Ax(w:World)(n:Int)(A:Nat->Prop)(hA:∀ k,w.heap.size<=k->A k) :
  Calls prog 307 #[.int .i64 n] w λ e w'=>∃ v,e=.returned v/\jl v/\w'=w.alloc (aF (.int .i64 n) 3)/\nn w' A v (Fb n):=by
 refine(Aw w n).mono ?_;rintro e w' ⟨rfl,rfl⟩;refine⟨_,rfl,inl ⟨_,_,_,rfl⟩,rfl,az.new (λ k=>k=w.heap.size) (λ k hk=>⟨by subst hk;simp,hA k (by omega)⟩) (λ W hW hk=>?_)⟩;exact⟨_,_,rfl,Tryz.entSystem,λ V pv l f hV hp hl hf=>CJ W _ n (af ((hk _ rfl).trans (cN w _))) V hV pv l f hp hl hf⟩
theorem Hk(w:World)(A:Nat->Prop):nn w A (.func (.func 308) #[] #[]) Ew :=
 az.new (λ _=>False) (λ _ h=>h.elim) (λ _ _ _=>⟨_,_,rfl,Tryz.entAnySystem,λ V pv l f _ hp hl hf=>uN V pv l f hp hl hf⟩)
theorem zT(w:World)(va:Value)(ma:aH)(z m:Bool)(A:Nat->Prop)(hA:∀ k,w.heap.size<=k->A k)(ha:nn w A va ma) :
  Calls prog 334 #[va,.bool z,.bool m] w λ e w'=>∃ v,e=.returned v/\jl v/\Below w.heap.size w w'/\nn w' A v (nw z m ma):=by
 obtain⟨K0,g0,lb0,hv0,_⟩:=az.now ha;subst hv0;have HA:=ae ha;have BA:=ae (AY w _ ma A hA ha);have CA:=ae (λ(W:World) (v:Value) (m:aH) (hW:Below w.heap.size w W) (hv:nn W A v m)=>BZ W v m A (λ k hk=>hA k (kr hW.size hk)) hv);clear ha hA;cases m with
 | false =>
  cases z with
  | false =>
   go_enter func334,ntmps334;go_wp2_with fail;go_ret;exact⟨_,rfl,inl ⟨_,_,_,rfl⟩,aX _ _,ab HA⟩
  | true =>
   go_enter func334,ntmps334;go_wp2_with (go_at_call 357;refine((ab CA) w _ ma (aX _ _) (ab HA)).mono ?_;rintro e w1 ⟨v,rfl,hfv,rfl,hv⟩;obtain⟨K1,g1,lb1,hv1,_⟩:=az.now hv;have HV:=ae hv;have AA:=ae hfv;clear hv hfv;subst hv1)
   go_ret;exact⟨_,rfl,ab AA,(aX _ _).alloc (aD _) _,ab HV⟩
 | true =>
  cases z with
  | false =>
   go_enter func334,ntmps334;go_wp2_with (go_at_call 356;refine(ab BA).mono ?_;rintro e w1 ⟨v,rfl,hfv,rfl,hv⟩;obtain⟨K1,g1,lb1,hv1,_⟩:=az.now hv;have HV:=ae hv;have AA:=ae hfv;clear hv hfv;subst hv1)
   go_ret;exact⟨_,rfl,ab AA,(aX _ _).alloc (aD _) _,ab HV⟩
  | true =>
   go_enter func334,ntmps334
   go_wp2_with (first
    | (go_at_call 356;refine(ab BA).mono ?_;rintro e w1 ⟨v,rfl,hfv,rfl,hv⟩;obtain⟨K1,g1,lb1,hv1,_⟩:=az.now hv;have HV:=ae hv;clear hv hfv;subst hv1)
    | (go_at_call 357;refine((ab CA) _ _ _ ((aX _ _).alloc (aD _) _) (ab HV)).mono ?_;rintro e w2 ⟨v2,rfl,hfv2,rfl,hv2⟩;obtain⟨K2,g2,lb2,hv3,_⟩:=az.now hv2;have DA:=ae hv2;have AA:=ae hfv2;clear hv2 hfv2;subst hv3))
   go_ret;exact⟨_,rfl,ab AA,((aX _ _).alloc (aD _) _).alloc (by simp) _,ab DA⟩
def GJ(pb:Nat)(ts:List aw)(w:World)(D O:Nat->Prop)(r:RS×aH)(e:Ending)(w':World):Prop :=
 ∃ v O',e=.returned v/\RA w' pb ts r.1 D O'/\Fr O w O' w'/\jl v/\nn w' (dk O' D w.heap.size) v r.2/\Ok ts r.1
def mP(fn pb:Nat)(ts:List aw)(tw:RS->Option (RS×aH)):Prop:=∀(w:World) (st:RS) (D O:Nat->Prop) (r:RS×aH),RA w pb ts st D O->Ok ts st->tw st=some r->Calls prog fn #[ay pb 0] w (GJ pb ts w D O r)
theorem Fy{ts:List aw}{k:Nat}{st:RS}{z m:Bool}{r:RS×Bool×Bool}(h:repLp ts k st z m=some r):∃ g,k=g+1:=by
 cases k with
 | zero=>cases h
 | succ g=>exact⟨g,rfl⟩
theorem lI{pb:Nat}{ts:List aw}(ht:cE ts)(n:Nat){w w0:World}{st:RS}{D O O0:Nat->Prop}{va:Value}{ma:aH}{r:RS×aH}(h:RA w pb ts st D O)(hk:Ok ts st)(h0:Fr O0 w0 O w)(hv:nn w (dk O D w0.heap.size) va ma)(hr:di ts n ma st=some r) :
  Calls prog 306 #[ay pb 0,va] w (GJ pb ts w0 D O0 r):=by
 unfold di at hr
 obtain⟨r1,hr1,hr2⟩:∃ r1,repLp ts n st false false=some r1/\r=(r1.1,nw r1.2.1 r1.2.2 ma):=by
  split at hr
  ·cases hr
  rename_i s z m hx;exact⟨(s,z,m),hx,(fZ hr).symm⟩
 obtain⟨K0,g0,lb0,hv0,_⟩:=az.now hv;subst hv0;have HR:=ae h;have HF:=ae h0;have HK:=ae hk;have HT:=ae ht;have HV:=ae hv;have HL:=ae hr1;clear h hk h0 ht hv hr hr1;subst hr2;go_enter func306,ntmps306;go_wp2_with fail;go_loopg [5,6] n (λ k z5 m6 wr=>∃(su:RS) (z m:Bool) (Ou:Nat->Prop),z5=.bool z/\m6=.bool m/\RA wr pb ts su D Ou/\Fr O0 w0 Ou wr/\nn wr (dk Ou D w0.heap.size) (.func (.func g0) #[] lb0) ma/\Ok ts su/\repLp ts k su z m=some r1)
 case atStart=>exact⟨st,false,false,O,rfl,rfl,ab HR,ab HF,ab HV,ab HK,ab HL⟩
 case round =>
  clear HR HF HV HK HL;obtain⟨su,z,m,Ou,rfl,rfl,hr,hf,hv,hk,hl⟩:=hrel;obtain⟨g,rfl⟩:=Fy hl;rw [repLp]at hl;have HR:=ae hr;have HF:=ae hf;have HV:=ae hv;have HK:=ae hk;clear hr hf hv hk;by_cases e36:am ts su=36
  ·rw [aC e36]at hl;have HL:=ae hl;have HE:=ae e36;have HG:=ae (cu (ab HK) (ab HT) e36 (by decide));clear hl e36;go_wp2_with (go_at_call 211;refine(bY (ab HR) (ab HK) (ab HT) 36 (ab HE)).mono ?_;rintro e w1 ⟨rfl,O1,hr1,hf1⟩;replace HR:=ae hr1;replace HV:=ae (az.fr (ab HV) hf1 (aD _));replace HF:=ae ((ab HF).trans hf1);clear hr1 hf1)
   go_roundg g
   case measure=>omega
   case rel=>exact⟨_,true,true,O1,rfl,rfl,ab HR,ab HF,ab HV,ab HG,ab HL⟩
  rw [au e36]at hl;have n36:=ae e36;clear e36;by_cases e38:am ts su=38
  ·rw [aC e38]at hl;have HL:=ae hl;have HE:=ae e38;have HG:=ae (cu (ab HK) (ab HT) e38 (by decide));clear hl e38
   go_wp2_with (first
    | (go_at_call 211;refine(aL (ab HR) (ab HK) (ab HT) 36 (ab n36)).mono ?_;rintro e w1 ⟨rfl,hr1,hf1⟩;replace HR:=ae hr1;replace HV:=ae (az.fr (ab HV) hf1 (aD _));replace HF:=ae ((ab HF).trans hf1);clear hr1 hf1 n36)
    | (go_at_call 211;refine(bY (ab HR) (ab HK) (ab HT) 38 (ab HE)).mono ?_;rintro e w1 ⟨rfl,O1,hr1,hf1⟩;replace HR:=ae hr1;replace HV:=ae (az.fr (ab HV) hf1 (aD _));replace HF:=ae ((ab HF).trans hf1);clear hr1 hf1))
   go_roundg g
   case measure=>omega
   case rel=>exact⟨_,z,true,O1,rfl,rfl,ab HR,ab HF,ab HV,ab HG,ab HL⟩
  rw [au e38]at hl;have n38:=ae e38;clear e38;by_cases e37:am ts su=37
  ·rw [aC e37]at hl;have HL:=ae hl;have HE:=ae e37;have HG:=ae (cu (ab HK) (ab HT) e37 (by decide));clear hl e37
   go_wp2_with (first
    | (go_at_call 211;refine(aL (ab HR) (ab HK) (ab HT) 36 (ab n36)).mono ?_;rintro e w1 ⟨rfl,hr1,hf1⟩;replace HR:=ae hr1;replace HV:=ae (az.fr (ab HV) hf1 (aD _));replace HF:=ae ((ab HF).trans hf1);clear hr1 hf1 n36)
    | (go_at_call 211;refine(aL (ab HR) (ab HK) (ab HT) 38 (ab n38)).mono ?_;rintro e w1 ⟨rfl,hr1,hf1⟩;replace HR:=ae hr1;replace HV:=ae (az.fr (ab HV) hf1 (aD _));replace HF:=ae ((ab HF).trans hf1);clear hr1 hf1 n38)
    | (go_at_call 211;refine(bY (ab HR) (ab HK) (ab HT) 37 (ab HE)).mono ?_;rintro e w1 ⟨rfl,O1,hr1,hf1⟩;replace HR:=ae hr1;replace HV:=ae (az.fr (ab HV) hf1 (aD _));replace HF:=ae ((ab HF).trans hf1);clear hr1 hf1))
   go_roundg g
   case measure=>omega
   case rel=>exact⟨_,true,m,O1,rfl,rfl,ab HR,ab HF,ab HV,ab HG,ab HL⟩
  rw [au e37]at hl;have n37:=ae e37;obtain rfl:=fZ hl;clear hl e37;dsimp only
  go_wp2_with (first
   | (go_at_call 211;refine(aL (ab HR) (ab HK) (ab HT) 36 (ab n36)).mono ?_;rintro e w1 ⟨rfl,hr1,hf1⟩;replace HR:=ae hr1;replace HV:=ae (az.fr (ab HV) hf1 (aD _));replace HF:=ae ((ab HF).trans hf1);clear hr1 hf1 n36)
   | (go_at_call 211;refine(aL (ab HR) (ab HK) (ab HT) 38 (ab n38)).mono ?_;rintro e w1 ⟨rfl,hr1,hf1⟩;replace HR:=ae hr1;replace HV:=ae (az.fr (ab HV) hf1 (aD _));replace HF:=ae ((ab HF).trans hf1);clear hr1 hf1 n38)
   | (go_at_call 211;refine(aL (ab HR) (ab HK) (ab HT) 37 (ab n37)).mono ?_;rintro e w1 ⟨rfl,hr1,hf1⟩;replace HR:=ae hr1;replace HV:=ae (az.fr (ab HV) hf1 (aD _));replace HF:=ae ((ab HF).trans hf1);clear hr1 hf1 n37)
   | (go_at_call 334;refine(zT _ _ ma z m _ ((ab HR).newFree (ab HF)) (ab HV)).mono ?_;rintro e w2 ⟨v2,rfl,hfv2,hb2,hv2⟩;obtain⟨K2,g2,lb2,hv3,_⟩:=az.now hv2;have BA:=ae hv2;have AA:=ae hfv2;replace HR:=ae ((ab HR).stay hb2);replace HF:=ae ((ab HF).below hb2);clear hv2 hfv2 hb2;subst hv3))
  go_ret;exact⟨_,_,rfl,ab HR,ab HF,ab AA,ab BA,ab HK⟩
