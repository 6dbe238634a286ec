/- part -/
import Derived.WalkKit
import Derived.Test.YtgdeeodifnegiaaGreatDoorRows
import Derived.WalkSpells
import Derived.WalkLawsBesides
import Derived.Deep.QuietTactic
import Derived.BigQuiet
set_option maxRecDepth 100000
set_option maxHeartbeats 1000000
namespace Go.Proofs.YtgdeeodifnegiaaGreatDoor
open Go.Proofs.Tryz
open Or
open Go.RowKit
abbrev iL:=@Nat.zero_le
abbrev eO:=@bodyPost_ret
abbrev jj:=@decide_eq_true
abbrev cN:=@heap_alloc_new
abbrev aC:=@if_pos
abbrev au:=@if_neg
abbrev nN:=@List.getElem_mem
abbrev jX:=@World.ownsRow_nil
abbrev kr:=@Nat.le_trans
abbrev eW:=@Below.heap_alloc
abbrev fZ:=@Option.some.inj
abbrev aX:=@Below.refl
abbrev aD:=@Nat.le_refl
theorem ae{p:Prop}(h:p):Hid p:=h
theorem ab{p:Prop}(h:Hid p):p:=h
def bt(s:ByteArray)(k:Nat):Int:=if h:k<s.size then(s[k].toNat:Int)else 0
theorem cA{s:ByteArray}{k:Nat}(h:k<s.size):bt s k=(s[k].toNat:Int):=by simp [bt,h]
def dF(n:Int):Bool:=decide (97<=n)&&decide (n<=122)
def ff(n:Int):Bool:=decide (48<=n)&&decide (n<=57)
theorem jJ(n:Int):ff n=true↔48<=n/\n<=57:=by simp [ff]
def dZ(s:ByteArray):Nat->Int
 | 0=>0
 | k+1=>10*dZ s k+(bt s k-48)
abbrev lT(s:ByteArray)(k:Nat):Prop:=∀ j,j<k->ff (bt s j)=true
theorem te{s:ByteArray}{k:Nat}(h:lT s k)(hk:ff (bt s k)=true):lT s (k+1):=by
 intro j hj;by_cases e:j=k
 ·subst e;exact hk
 exact h j (by omega)
theorem pf{s:ByteArray}{k:Nat}(h:lT s k):0<=dZ s k/\dZ s k<10 ^ k:=by
 induction k with
 | zero=>simp [dZ]
 | succ k ih =>
  have⟨a,b⟩:=ih (λ j hj=>h j (by omega));have hd:=(jJ _).1 (h k (by omega));simp only [dZ,Int.pow_succ];omega
def bf(s:ByteArray)(m:Int):Int :=
 if s.size=0\/10<s.size\/(1<s.size/\bt s 0=48)then -1
 else if lT s s.size then(if m<dZ s s.size then -1 else dZ s s.size)else -1
theorem rR{s:ByteArray}{m:Int}(h:s.size=0\/10<s.size\/(1<s.size/\bt s 0=48)):bf s m = -1:=by
 unfold bf;rw [aC h]
theorem zE{s:ByteArray}{m:Int}{k:Nat}(hk:k<s.size)(h:ff (bt s k)=false):bf s m = -1:=by
 unfold bf;split
 ·rfl
 rw [au];intro hd;rw [hd k hk]at h;cases h
theorem zF{s:ByteArray}{m:Int}(h:¬(s.size=0\/10<s.size\/(1<s.size/\bt s 0=48)))(hd:lT s s.size) :
  bf s m=if m<dZ s s.size then -1 else dZ s s.size:=by
 unfold bf;rw [au h,aC hd]
def ny(p:Int->Bool)(s:ByteArray):Nat->Nat->Nat
 | 0,i=>i
 | f+1,i=>if i<s.size/\p (bt s i)=true then ny p s f (i+1)else i
def aG(p:Int->Bool)(s:ByteArray)(i:Nat):Nat:=ny p s (s.size-i) i
theorem eT{p:Int->Bool}{s:ByteArray}{i:Nat}(h:i<s.size)(hp:p (bt s i)=true):aG p s i=aG p s (i+1):=by
 unfold aG;have e:s.size-i=(s.size-(i+1))+1:=by omega
 rw [e,ny,aC ⟨h,hp⟩]
theorem fx{p:Int->Bool}{s:ByteArray}{i:Nat}(h:¬(i<s.size/\p (bt s i)=true)):aG p s i=i:=by
 unfold aG;cases s.size-i with
 | zero=>rfl
 | succ f=>rw [ny,au h]
theorem Le{p:Int->Bool}{s:ByteArray}(f i:Nat)(h:i<=s.size):i<=ny p s f i/\ny p s f i<=s.size:=by
 induction f generalizing i with
 | zero=>simp [ny];omega
 | succ f ih =>
  rw [ny];split
  ·rename_i h;have:=ih (i+1) (by omega);omega
  omega
theorem jB{p:Int->Bool}{s:ByteArray}{i:Nat}(h:i<=s.size):i<=aG p s i/\aG p s i<=s.size:=Le _ _ h
theorem Cq{p:Int->Bool}{s:ByteArray}{i:Nat}(h:s.size<=i):aG p s i=i:=fx (by omega)
theorem DM{k:Nat}(h:k<=32):(0:Int)<(2:Int) ^ k/\(2:Int) ^ k<=4294967296:=by
 have h1:(2:Nat) ^ k<=4294967296:=kr (Nat.pow_le_pow_right (by omega) h) (by decide);have h2:((2 ^ k:Nat):Int)=(2:Int) ^ k:=by simp
 have h3:0<(2:Nat) ^ k:=Nat.pow_pos (by omega);omega
theorem Fs(k:Nat):(2:Int) ^ (k+1)=2*2 ^ k:=by rw [Int.pow_succ];omega
def eK:List ByteArray:=[⟨#[115,101,116]⟩,⟨#[119,97,121]⟩,⟨#[97,99,99,101,112,116]⟩,⟨#[114,101,106,101,99,116]⟩,⟨#[112,114,101,102]⟩,⟨#[109,101,100]⟩,⟨#[109,97,114,107]⟩,⟨#[117,110,109,97,114,107]⟩,⟨#[112,114,101,112,101,110,100]⟩,⟨#[105,102]⟩,⟨#[116,104,101,110]⟩,⟨#[101,108,115,101]⟩,⟨#[108,101,110]⟩,⟨#[111,114]⟩,⟨#[97,110,100]⟩,⟨#[110,111,116]⟩,⟨#[110,101,116]⟩,⟨#[105,110]⟩,⟨#[112,97,116,104]⟩,⟨#[108,105,107,101]⟩,⟨#[109,97,114,107,101,100]⟩]
def mQ(l:List ByteArray)(w:ByteArray)(k:Nat):Bool:=(l.take k).any (λ x=>x.toList==w.toList)
def jF(l:List ByteArray)(w:ByteArray):Bool:=l.any (λ x=>x.toList==w.toList)
theorem wT{l:List ByteArray}{w:ByteArray}{k:Nat}(h:k<l.length):mQ l w (k+1)=(mQ l w k||(l[k].toList==w.toList)):=by
 unfold mQ;rw [List.take_succ_eq_append_getElem h,List.any_append];simp
theorem vv{l:List ByteArray}{w:ByteArray}{k:Nat}(h:k<l.length)(e:(l[k].toList==w.toList)=true):jF l w=true:=by
 unfold jF;rw [List.any_eq_true];exact⟨l[k],nN h,e⟩
theorem AZ{l:List ByteArray}{w:ByteArray}(h:mQ l w l.length=false):jF l w=false:=by
 unfold mQ at h;rw [List.take_length]at h;exact h
def tI(a l:Int):Bool:=decide (0<=a/\a<=4294967295/\0<=l/\l<=32/\a % 2 ^ (32-l).toNat=0)
def du(s:ByteArray):Nat->Nat->Nat->Nat->Int->Int->Int×Int×Bool
 | 0,_,_,_,a,l=>(a,l,tI a l)
 | f+1,i,p,q,a,l =>
  if i<s.size/\(ff (bt s i)=true\/p=4)then du s f (i+1) p q a l
  else if(i<s.size/\bt s i≠(if p=3 then 47 else 46))\/(s.size<=i/\p≠4)then(a,l,false)
  else if bf (s.extract q i) (if p=4 then 32 else 255)<0 then(a,l,false)
  else if p=4 then du s f (i+1) (p+1) (i+1) a (bf (s.extract q i) 32)
  else du s f (i+1) (p+1) (i+1) (256*a+bf (s.extract q i) 255) l
def aV(s:ByteArray):Int×Int×Bool:=du s (s.size+1) 0 0 0 0 0
theorem rQ{s:ByteArray}{m:Int}(h:0<=m):bf s m<=m:=by
 unfold bf;split
 ·omega
 split
 ·split<;>omega
 omega
theorem xL{s:ByteArray}{i p q:Nat}{a l:Int}(h:i<s.size)(hd:ff (bt s i)=true\/p=4) :
  du s (s.size+1-i) i p q a l=du s (s.size+1-(i+1)) (i+1) p q a l:=by
 rw [show s.size+1-i=(s.size+1-(i+1))+1 by omega,du,aC ⟨h,hd⟩]
theorem oh{s:ByteArray}{i p q:Nat}{a l:Int}(h:i<=s.size)(hd:i<s.size->ff (bt s i)=false/\p≠4)(hb:(i<s.size/\bt s i≠(if p=3 then 47 else 46))\/(s.size<=i/\p≠4)) :
  du s (s.size+1-i) i p q a l=(a,l,false):=by
 rw [show s.size+1-i=(s.size+1-(i+1))+1 by omega,du,au (λ⟨h1,h2⟩=>by have:=hd h1;simp_all),aC hb]
theorem mU{s:ByteArray}{i p q:Nat}{a l:Int}(h:i<=s.size)(hd:i<s.size->ff (bt s i)=false/\p≠4)(hb:¬((i<s.size/\bt s i≠(if p=3 then 47 else 46))\/(s.size<=i/\p≠4)))
  (hv:bf (s.extract q i) (if p=4 then 32 else 255)<0):du s (s.size+1-i) i p q a l=(a,l,false):=by
 rw [show s.size+1-i=(s.size+1-(i+1))+1 by omega,du,au (λ⟨h1,h2⟩=>by have:=hd h1;simp_all),au hb,aC hv]
theorem DL{s:ByteArray}{i q:Nat}{a l:Int}(h:i=s.size)
  (hv:¬bf (s.extract q i) 32<0):du s (s.size+1-i) i 4 q a l=du s (s.size+1-(i+1)) (i+1) 5 (i+1) a (bf (s.extract q i) 32):=by
 rw [show s.size+1-i=(s.size+1-(i+1))+1 by omega,du,au (by omega),au (by simp;omega),au (by simpa using hv),aC rfl]
theorem rT{s:ByteArray}{i p q:Nat}{a l:Int}(h:i<s.size)(hd:ff (bt s i)=false)(hp:p≠4)(hb:bt s i=(if p=3 then 47 else 46))
  (hv:¬bf (s.extract q i) 255<0):du s (s.size+1-i) i p q a l=du s (s.size+1-(i+1)) (i+1) (p+1) (i+1) (256*a+bf (s.extract q i) 255) l:=by
 rw [show s.size+1-i=(s.size+1-(i+1))+1 by omega,du,au (by simp [hd,hp]),au (by simp only [hb];omega),au (by rw [au hp];exact hv),au hp]
theorem II{s:ByteArray}{p q:Nat}{a l:Int}:du s (s.size+1-(s.size+1)) (s.size+1) p q a l=(a,l,tI a l):=by
 rw [Nat.sub_self,du]
theorem rr{a v:Int}{p:Nat}(h:a<256 ^ p)(hv:v<=255):256*a+v<256 ^ (p+1):=by
 rw [Int.pow_succ];omega
theorem wg{a:Int}{p:Nat}(hp:p<=4)(h:a<256 ^ p):a<=4294967295:=by
 have h1:(256:Nat) ^ p<=4294967296:=kr (Nat.pow_le_pow_right (by omega) hp) (by decide);have h2:((256 ^ p:Nat):Int)=(256:Int) ^ p:=by simp
 omega
def cP(n:Int):Bool:=n==32||n==10
def bX(n:Int):Bool:=ff n||n==46||n==47
def wv:ByteArray:=⟨#[61,59,44,123,125,91,93,40,41,124,42,63,43,45,60,46]⟩
def x8(n:Int)(k:Nat):Prop:=∀ m,m<k->(bt wv m==n)=false
def nL(n:Int):Bool:=(List.range 16).any (λ j=>bt wv j==n)
theorem Jn{n:Int}{k:Nat}(hk:k<16)(h:(bt wv k==n)=true):nL n=true:=by
 unfold nL;rw [List.any_eq_true];exact⟨k,by simpa using hk,h⟩
theorem Jm{n:Int}(h:x8 n 16):nL n=false:=by
 unfold nL;rw [List.any_eq_false];intro j hj;rw [h j (by simpa using hj)];simp
theorem Ac{n:Int}{k:Nat}(h:x8 n k)(hk:(bt wv k==n)=false):x8 n (k+1):=by
 intro m hm;by_cases e:m=k
 ·subst e;exact hk
 exact h m (by omega)
structure kA where
 kind:Int
 text:ByteArray
 at_:Nat
def g7(s:ByteArray)(i:Nat):kA×Nat :=
 if s.size<=i then(⟨46,⟨#[]⟩,s.size⟩,i)
 else if dF (bt s i)=true then
  (if jF eK (s.extract i (aG dF s i))=true then(⟨107,s.extract i (aG dF s i),i⟩,aG dF s i)
   else if aG dF s i-i<=8 then(⟨110,s.extract i (aG dF s i),i⟩,aG dF s i)
   else(⟨33,⟨#[]⟩,i⟩,aG dF s i))
 else if ff (bt s i)=true then
  (if 0<=bf (s.extract i (aG bX s i)) 4294967295 then(⟨48,s.extract i (aG bX s i),i⟩,aG bX s i)
   else if(aV (s.extract i (aG bX s i))).2.2=true then(⟨47,s.extract i (aG bX s i),i⟩,aG bX s i)
   else(⟨33,⟨#[]⟩,i⟩,aG bX s i))
 else if nL (bt s i)=true then(⟨115,s.extract i (i+1),i⟩,i+1)
 else(⟨33,⟨#[]⟩,i⟩,i+1)
def fG(s:ByteArray)(i:Nat):kA×Nat:=g7 s (aG cP s i)
structure aw where
 kind:Int
 at_:Int
 text:ByteArray
 number:Int
 addr:Int
 len:Int
def jz:aw:=⟨0,0,⟨#[]⟩,0,0,0⟩
structure Rt where
 addr:Int
 len:Int
 path:List Int
 marks:List Int
 pref:Int
 med:Int
abbrev bh:=Rt->Option Int
abbrev aQ:=Rt->Option Bool
abbrev dU:=Int->Int->Bool
abbrev aH:=List Int->Prop
def eF(L:aH)(l:List Int)(f r:Nat):Prop:=∀ j,r.testBit j=true↔∃ i,f.testBit i=true/\i<=j/\j<=l.length/\L ((l.take j).drop i)
abbrev aM:=Rt->Rt×Int
def sY(n:Int):bh:=λ _=>some n
def DO:bh:=λ r=>some r.pref
def Kw:bh:=λ r=>some r.med
def Kp:bh:=λ r=>some (r.path.length:Int)
abbrev jW(x:Int):Int:=wrap64 x
def lW(s x y:Int):Option Int:=if 0<=jW (x+jW (s*y))/\jW (x+jW (s*y))<=4294967295 then some (jW (x+jW (s*y)))else none
def jm(a b:bh)(s:Int):bh:=λ r =>
 match a r with
 | none=>none
 | some x=>match b r with
  | none=>none
  | some y=>lW s x y
def Fh(a b:aQ):aQ:=λ r =>
 match a r with
 | none=>none
 | some true=>some true
 | some false=>b r
def pZ(a b:aQ):aQ:=λ r =>
 match a r with
 | none=>none
 | some false=>some false
 | some true=>b r
def tK(a:aQ):aQ:=λ r=>(a r).map (λ x=>!x)
def rI(f:Int->Int->Bool)(a b:bh):aQ:=λ r =>
 match a r with
 | none=>none
 | some x=>match b r with
  | none=>none
  | some y=>some (f x y)
def LD(a b:bh):aQ:=rI (λ x y=>decide (x=y)) a b
def LG(a b:bh):aQ:=rI (λ x y=>decide (x<y)) a b
def nZ(s:dU):aQ:=λ r=>some (s r.addr r.len)
noncomputable def oV(w:aH):aQ:=λ r=>some (@decide (w r.path) (Classical.propDecidable _))
def jx(n:Int):aQ:=λ r=>some (r.marks.contains n)
def aK:List aM->Rt->Rt×Int
 | [],r=>(r,0)
 | s::l,r=>if(s r).2=0 then aK l (s r).1 else s r
def gq(v:Int):aM:=λ r=>(r,v)
def fJ(a:bh):aM:=λ r=>match a r with|none=>(r,3)|some n=>({ r with pref:=n },0)
def gE(a:bh):aM:=λ r=>match a r with|none=>(r,3)|some n=>({ r with med:=n },0)
def ce(l:List Int)(n:Int):Nat:=(l.filter (λ x=>decide (x<n))).length
def fV(n:Int):aM:=λ r=>if r.marks.contains n then(r,0)else if r.marks.length=8 then(r,3)else({ r with marks:=r.marks.take (ce r.marks n)++n::r.marks.drop (ce r.marks n) },0)
def el(n:Int):aM:=λ r=>if r.marks.contains n then({ r with marks:=r.marks.erase n },0)else(r,0)
def dw(n:Int):aM:=λ r=>if r.path.length=12 then(r,3)else({ r with path:=n::r.path },0)
def eR(c:aQ)(yes no:List aM):aM:=λ r =>
 match c r with
 | none=>(r,3)
 | some true=>aK yes r
 | some false=>aK no r
structure fe where
 name:ByteArray
 set:Option dU
 way:Option aH
structure RS where
 next:Nat
 depth:Int
 defs:List fe
 page:List UInt8
 gap:ByteArray
 syn:Option Int
 nam:Option Int
 num:Option Int
def lJ:RS:=⟨0,0,[],[],⟨#[]⟩,none,none,none⟩
def iC(f:Option Int)(at_:Int):Option Int:=match f with|none=>some at_|some x=>some x
def bL(ts:List aw)(st:RS):aw:=ts[st.next]?.getD jz
def am(ts:List aw)(st:RS):Int:=if st.syn.isSome then 0 else(bL ts st).kind
def cC(ts:List aw)(st:RS):RS:={ st with syn:=iC st.syn (bL ts st).at_ }
def fH:ByteArray:=⟨#[32]⟩
def qc:ByteArray:=⟨#[10]⟩
def rG(st:RS)(t:aw):RS :=
 { st with page:=if t.kind=27\/t.kind=28 then st.page++t.text.data.toList else(st.page++st.gap.data.toList)++t.text.data.toList,gap:=if t.kind=27 then qc else fH }
def eA(st:RS):RS:={ st with gap:=qc }
def bg(ts:List aw)(st:RS):RS:=rG { st with next:=st.next+1 } (bL ts st)
def ar(ts:List aw)(k:Int)(st:RS):RS×aw:=if am ts st=k then(bg ts st,bL ts st)else(cC ts st,jz)
def dt(ts:List aw)(k:Int)(st:RS):RS :=
 let st1:=(ar ts k (if st.depth=8 then cC ts st else st)).1
 { st1 with depth:=jW (st1.depth+1) }
def nT(st:RS):RS:={ st with depth:=jW (st.depth-1) }
def gx(ts:List aw)(k:Int)(st:RS):RS:=nT (ar ts k st).1
def eU(st:RS)(at_:Int):RS:={ st with nam:=iC st.nam at_ }
def jy(st:RS)(at_:Int):RS:={ st with num:=iC st.num at_ }
def nY(st:RS)(name:ByteArray):Bool:=st.defs.any (λ d=>d.name.toList==name.toList)
def aI(ts:List aw)(st:RS):RS×ByteArray :=
 let p:=ar ts 4 st
 (if nY p.1 p.2.text then eU p.1 p.2.at_ else p.1,p.2.text)
def dP:List fe->ByteArray->Option dU
 | [],_=>none
 | d::l,n=>if(d.name.toList==n.toList)&&d.set.isSome then d.set else dP l n
def dQ:List fe->ByteArray->Option aH
 | [],_=>none
 | d::l,n=>if(d.name.toList==n.toList)&&d.way.isSome then d.way else dQ l n
def de(ts:List aw)(st:RS):RS×Option dU :=
 let p:=ar ts 4 st
 match dP p.1.defs p.2.text with
 | some s=>(p.1,some s)
 | none=>(eU p.1 p.2.at_,none)
def dg(ts:List aw)(st:RS):RS×Option aH :=
 let p:=ar ts 4 st
 match dQ p.1.defs p.2.text with
 | some s=>(p.1,some s)
 | none=>(eU p.1 p.2.at_,none)
def aE(ts:List aw)(lo hi:Int)(st:RS):RS×Int :=
 let p:=ar ts 2 st
 (if p.2.number<lo\/hi<p.2.number then jy p.1 p.2.at_ else p.1,p.2.number)
def rq(a b:Option bh)(s:Int):Option bh:=match a with|none=>none|some x=>match b with|none=>none|some y=>some (jm x y s)
def sumLp(ts:List aw)(term:RS->Option (RS×Option bh)):Nat->RS->Option bh->Option (RS×Option bh)
 | 0,_,_=>none
 | n+1,st,a =>
  if am ts st=38 then(match term (bg ts st)with|none=>none|some (st1,b)=>sumLp ts term n st1 (rq a b 1))
  else if am ts st=39 then(match term (bg ts st)with|none=>none|some (st1,b)=>sumLp ts term n st1 (rq a b (-1)))
  else some (st,a)
def sumBy(ts:List aw)(term:RS->Option (RS×Option bh))(n:Nat)(st:RS):Option (RS×Option bh) :=
 match term st with
 | none=>none
 | some (st1,a)=>sumLp ts term n st1 a
def termTw(ts:List aw)(n:Nat):Nat->RS->Option (RS×Option bh)
 | 0,_=>none
 | f+1,st =>
  if am ts st=2 then some (bg ts st,some (sY (bL ts st).number))
  else if am ts st=9 then some (bg ts st,some DO)
  else if am ts st=10 then some (bg ts st,some Kw)
  else if am ts st=17 then some (bg ts st,some Kp)
  else if am ts st=33 then
   (match sumBy ts (termTw ts n f) n (dt ts 33 st)with
    | none=>none
    | some (st1,a)=>some (gx ts 34 st1,a))
  else some (cC ts st,none)
def sumTw(ts:List aw)(n f:Nat)(st:RS):Option (RS×Option bh):=sumBy ts (termTw ts n f) n st
def wW(m:aQ->aQ->aQ)(a b:Option aQ):Option aQ:=match a with|none=>none|some x=>match b with|none=>none|some y=>some (m x y)
def binLp(ts:List aw)(k:Int)(m:aQ->aQ->aQ)(read:RS->Option (RS×Option aQ)):Nat->RS->Option aQ->Option (RS×Option aQ)
 | 0,_,_=>none
 | n+1,st,a =>
  if am ts st=k then(match read (bg ts st)with|none=>none|some (st1,b)=>binLp ts k m read n st1 (wW m a b))
  else some (st,a)
def binBy(ts:List aw)(k:Int)(m:aQ->aQ->aQ)(read:RS->Option (RS×Option aQ))(n:Nat)(st:RS):Option (RS×Option aQ) :=
 match read st with
 | none=>none
 | some (st1,a)=>binLp ts k m read n st1 a
def Lw(ts:List aw)(nt:RS->Option (RS×Option aQ))(n:Nat):RS->Option (RS×Option aQ):=binBy ts 19 pZ nt n
def ig(ts:List aw)(nt:RS->Option (RS×Option aQ))(n:Nat):RS->Option (RS×Option aQ):=binBy ts 18 Fh (Lw ts nt n) n
def Eo(m:bh->bh->aQ)(a b:Option bh):Option aQ:=match a with|none=>none|some x=>match b with|none=>none|some y=>some (m x y)
def eN(ts:List aw)(sum:RS->Option (RS×Option bh))(st:RS):Option (RS×Option aQ) :=
 match sum st with
 | none=>none
 | some (st1,a) =>
  if am ts st1=40 then(match sum (bg ts st1)with|none=>none|some (st2,b)=>some (st2,Eo LG a b))
  else(match sum (ar ts 26 st1).1 with|none=>none|some (st2,b)=>some (st2,Eo LD a b))
noncomputable def notTw(ts:List aw)(n:Nat)(sum:RS->Option (RS×Option bh)):Nat->RS->Option (RS×Option aQ)
 | 0,_=>none
 | f+1,st =>
  if am ts st=20 then
   (match notTw ts n sum f (dt ts 20 st)with
    | none=>none
    | some (st1,c)=>some (nT st1,c.map tK))
  else if am ts st=21 then some ((de ts (ar ts 22 (bg ts st)).1).1,(de ts (ar ts 22 (bg ts st)).1).2.map nZ)
  else if am ts st=23 then some ((dg ts (ar ts 24 (bg ts st)).1).1,(dg ts (ar ts 24 (bg ts st)).1).2.map oV)
  else if am ts st=25 then some ((aE ts 0 65535 (bg ts st)).1,some (jx (aE ts 0 65535 (bg ts st)).2))
  else if am ts st=31 then
   (match ig ts (notTw ts n sum f) n (dt ts 31 st)with
    | none=>none
    | some (st1,c)=>some (gx ts 32 st1,c))
  else eN ts sum st
def iz:List (Option aM)->Option (List aM)
 | []=>some []
 | none::_=>none
 | some x::l=>(iz l).map (λ t=>x::t)
def iO(c:Option aQ)(yes no:List (Option aM)):Option aM :=
 match c with
 | none=>none
 | some x=>match iz yes with
  | none=>none
  | some y=>match iz no with
   | none=>none
   | some z=>some (eR x y z)
def bO{α:Type}(read:RS->Option (RS×Option α)):Nat->RS->List α->Option (RS×List α)
 | 0,_,_=>none
 | n+1,st,l =>
  match read st with
  | none=>none
  | some (st1,none)=>some (st1,l)
  | some (st1,some x)=>bO read n st1 (l++[x])
def fU(ts:List aw)(stmt:RS->Option (RS×Option (Option aM)))(n:Nat)(st:RS):Option (RS×List (Option aM)) :=
 match bO stmt n (eA (dt ts 29 st)) []with
 | none=>none
 | some (st1,l)=>some (eA (gx ts 30 st1),l)
def g9(ts:List aw)(st:RS):RS:=(ar ts 27 st).1
def stmtTw(ts:List aw)(n:Nat)(ok:Int->Bool)(sum:RS->Option (RS×Option bh))(cnd:RS->Option (RS×Option aQ)):Nat->RS->Option (RS×Option (Option aM))
 | 0,_=>none
 | f+1,st =>
  if ok (am ts st)=false then none
  else if am ts st=14 then
   (match cnd (bg ts st)with
    | none=>none
    | some (st1,c) =>
     match fU ts (stmtTw ts n ok sum cnd f) n (ar ts 15 st1).1 with
     | none=>none
     | some (st2,yes) =>
      if am ts st2=16 then
       (match fU ts (stmtTw ts n ok sum cnd f) n (bg ts st2)with
       | none=>none
       | some (st3,no)=>some (st3,some (iO c yes no)))
      else some (st2,some (iO c yes [])))
  else if am ts st=7 then some (g9 ts (bg ts st),some (some (gq 1)))
  else if am ts st=8 then some (g9 ts (bg ts st),some (some (gq 2)))
  else if am ts st=9 then
   (match sum (ar ts 26 (bg ts st)).1 with
    | none=>none
    | some (st1,a)=>some (g9 ts st1,some (a.map fJ)))
  else if am ts st=10 then
   (match sum (ar ts 26 (bg ts st)).1 with
    | none=>none
    | some (st1,a)=>some (g9 ts st1,some (a.map gE)))
  else if am ts st=11 then some (g9 ts (aE ts 0 65535 (bg ts st)).1,some (some (fV (aE ts 0 65535 (bg ts st)).2)))
  else if am ts st=12 then some (g9 ts (aE ts 0 65535 (bg ts st)).1,some (some (el (aE ts 0 65535 (bg ts st)).2)))
  else if am ts st=13 then some (g9 ts (aE ts 1 65535 (bg ts st)).1,some (some (dw (aE ts 1 65535 (bg ts st)).2)))
  else some (st,none)
def i6(ts:List aw)(n:Nat)(stmt:RS->Option (RS×Option (Option aM)))(st:RS):Option (RS×List (Option aM)) :=
 match bO stmt n st []with
 | none=>none
 | some (st1,l) =>
  let st2:=if l.length=0 then cC ts st1 else st1
  some (if am ts st2=1 then st2 else cC ts st2,l)
namespace rf
structure PS where
 next:kA
 i:Nat
 taken:List kA
 lines:List Bool
 bad:Int
 opn:Int
def aT(st:PS)(x:ByteArray):Bool:=decide (st.bad<0)&&(st.next.kind==115||st.next.kind==107)&&(st.next.text.toList==x.toList)
def aY(st:PS):PS:=if st.bad<0 then{ st with bad:=st.next.at_ }else st
def cx(st:PS):PS:=if st.opn=8 then{ aY st with opn:=wrap64 (st.opn+1) }else{ st with opn:=wrap64 (st.opn+1) }
def fw(st:PS):PS:=if st.bad<0 then{ st with lines:=st.lines.set (st.lines.length-1) true }else st
def gd(t:kA):Bool:=(t.kind==115)&&(t.text.toList==[59])
def ux(s:ByteArray)(st:PS):PS:={ st with taken:=st.taken++[st.next],lines:=st.lines++[gd st.next],next:=(fG s st.i).1,i:=(fG s st.i).2 }
structure Ok(s:ByteArray)(st:PS):Prop where
 hs:s.size<=600
 hi:st.i<=s.size
 tk0:st.taken.length<=st.i
 tk:st.next.kind≠46->st.taken.length+1<=st.i
 ln:st.lines.length=st.taken.length
 tx:st.next.text.size<=600
def ax(s:ByteArray)(st:PS):PS:=if st.next.kind=33\/st.next.kind=46 then aY st else if st.bad<0 then ux s st else st
def aJ(s:ByteArray)(st:PS)(x:ByteArray):PS:=if aT st x=true then ax s st else aY st
def aA(s:ByteArray)(st:PS)(k:Int):PS:=if st.next.kind=k then ax s st else aY st
def kh:ByteArray:=⟨#[112,114,101,102]⟩
def pI:ByteArray:=⟨#[109,101,100]⟩
def yg:ByteArray:=⟨#[108,101,110]⟩
def fu:ByteArray:=⟨#[40]⟩
def mO:ByteArray:=⟨#[41]⟩
def dI:ByteArray:=⟨#[43]⟩
def iJ:ByteArray:=⟨#[45]⟩
def fh(st:PS):Bool:=decide (st.bad<0)&&(st.next.kind==48||aT st kh||aT st pI||aT st yg||aT st fu)
inductive Tr where
 | mk (op text:ByteArray) (n a:Int) (kids:List Tr)
def cy:ByteArray:=⟨#[110,117,109,98,101,114]⟩
def p8(st:PS):PS:={ st with opn:=wrap64 (st.opn-1) }
mutual
def sumTw(s:ByteArray):Nat->PS->Option (PS×Tr)
 | 0,_=>none
 | f+1,st=>match termTw s f st with
  | none=>none
  | some (st1,t)=>sumLp s f st1 t
def sumLp(s:ByteArray):Nat->PS->Tr->Option (PS×Tr)
 | 0,_,_=>none
 | f+1,st,t=>if(aT st dI||aT st iJ)=true then
   (match termTw s f (ax s st)with
    | none=>none
    | some (st2,x)=>sumLp s f st2 (.mk st.next.text ⟨#[]⟩ 0 0 [t,x]))
  else some (st,t)
def termTw(s:ByteArray):Nat->PS->Option (PS×Tr)
 | 0,_=>none
 | f+1,st =>
  if fh st=true then
   (if aT st fu=true then
    (match sumTw s f (ax s (cx st))with
     | none=>none
     | some (st1,t)=>some (p8 (aJ s st1 mO),t))
    else if st.next.kind=48 then some (aA s st 48,.mk cy ⟨#[]⟩ (bf st.next.text 4294967295) st.next.at_ [])
    else some (ax s st,.mk st.next.text ⟨#[]⟩ 0 0 []))
  else if st.next.kind=48 then some (aY st,.mk cy ⟨#[]⟩ (bf st.next.text 4294967295) st.next.at_ [])
  else some (aY st,.mk st.next.text ⟨#[]⟩ 0 0 [])
end
def jV:ByteArray:=⟨#[46]⟩
def AM:ByteArray:=⟨#[124]⟩
def fK:ByteArray:=⟨#[42]⟩
def eZ:ByteArray:=⟨#[63]⟩
def gF:ByteArray:=⟨#[101,105,116,104,101,114]⟩
def pK:ByteArray:=⟨#[114,111,119]⟩
def bF(s:ByteArray)(w:ByteArray)(q:PS×Tr×Bool):PS×Tr×Bool:=if aT q.1 w=true then(ax s q.1,.mk w ⟨#[]⟩ 0 0 [q.2.1],true)else q
def jU(s:ByteArray)(st:PS)(x:Tr):PS×Tr×Bool:=bF s eZ (bF s dI (bF s fK (st,x,false)))
def gi(s:ByteArray):Nat->PS->Tr->Option (PS×Tr)
 | 0,_,_=>none
 | f+1,st,x=>if(jU s st x).2.2=true then gi s f (jU s st x).1 (jU s st x).2.1 else some ((jU s st x).1,(jU s st x).2.1)
def lV(st:PS):Bool:=decide (st.bad<0)&&(st.next.kind==48)||aT st jV||aT st fu
mutual
def dq(s:ByteArray):Nat->PS->Option (PS×Tr)
 | 0,_=>none
 | f+1,st=>dp s f st []
def dp(s:ByteArray):Nat->PS->List Tr->Option (PS×Tr)
 | 0,_,_=>none
 | f+1,st,kids=>match jn s f st with
  | none=>none
  | some (st1,r)=>if aT st1 AM=true then dp s f (ax s st1) (kids++[r])else some (st1,.mk gF ⟨#[]⟩ 0 0 (kids++[r]))
def jn(s:ByteArray):Nat->PS->Option (PS×Tr)
 | 0,_=>none
 | f+1,st=>gV s f st []
def gV(s:ByteArray):Nat->PS->List Tr->Option (PS×Tr)
 | 0,_,_=>none
 | f+1,st,kids=>match gT s f st with
  | none=>none
  | some (st1,x)=>match gi s f st1 x with
   | none=>none
   | some (st2,x2)=>if lV st2=true then gV s f st2 (kids++[x2])else some (st2,.mk pK ⟨#[]⟩ 0 0 (kids++[x2]))
def gT(s:ByteArray):Nat->PS->Option (PS×Tr)
 | 0,_=>none
 | f+1,st =>
  if aT st jV=true then some (ax s st,.mk jV ⟨#[]⟩ 0 0 [])
  else if aT st fu=true then
   (match dq s f (ax s (cx st))with
    | none=>none
    | some (st1,t)=>some (p8 (aJ s st1 mO),t))
  else some (aA s st 48,.mk cy ⟨#[]⟩ (bf st.next.text 4294967295) st.next.at_ [])
end
def pG(s:ByteArray)(st:PS)(x:Tr):Nat->PS×Tr×Bool
 | 0=>(st,x,false)
 | 1=>bF s fK (st,x,false)
 | 2=>bF s dI (bF s fK (st,x,false))
 | _=>jU s st x
def lM:Nat->ByteArray
 | 0=>fK
 | 1=>dI
 | _=>eZ
def l8:ByteArray:=⟨#[110,111,116]⟩
def jP:ByteArray:=⟨#[91]⟩
def m7:ByteArray:=⟨#[93]⟩
def vh:ByteArray:=⟨#[110,101,116]⟩
def pJ:ByteArray:=⟨#[112,97,116,104]⟩
def eo:ByteArray:=⟨#[109,97,114,107,101,100]⟩
def AN:ByteArray:=⟨#[105,110]⟩
def jd:ByteArray:=⟨#[108,105,107,101]⟩
def ku:ByteArray:=⟨#[61]⟩
def jo:ByteArray:=⟨#[60]⟩
def Lo:ByteArray:=⟨#[111,114]⟩
def ye:ByteArray:=⟨#[97,110,100]⟩
def Cb(lv:Nat):ByteArray:=if lv=0 then Lo else ye
mutual
def cQ(s:ByteArray):Nat->Nat->PS->Option (PS×Tr)
 | 0,_,_=>none
 | f+1,lv,st =>
  if lv<2 then
   (match cQ s f (lv+1) st with
    | none=>none
    | some (st1,t)=>eJ s f lv st1 t)
  else if aT st l8=true then
   (match cQ s f 2 (ax s (cx st))with
    | none=>none
    | some (st1,x)=>some (p8 st1,.mk l8 ⟨#[]⟩ 0 0 [x]))
  else if aT st jP=true then
   (match cQ s f 0 (ax s (cx st))with
    | none=>none
    | some (st1,x)=>some (p8 (aJ s st1 m7),x))
  else if aT st vh=true then some (aA s (aJ s (ax s st) AN) 110,.mk AN (aJ s (ax s st) AN).next.text 0 (aJ s (ax s st) AN).next.at_ [])
  else if aT st pJ=true then some (aA s (aJ s (ax s st) jd) 110,.mk jd (aJ s (ax s st) jd).next.text 0 (aJ s (ax s st) jd).next.at_ [])
  else if aT st eo=true then some (aA s (ax s st) 48,.mk eo ⟨#[]⟩ (bf (ax s st).next.text 4294967295) (ax s st).next.at_ [])
  else if fh st=false then some (aY st,.mk ⟨#[]⟩ ⟨#[]⟩ 0 0 [])
  else
   (match sumTw s f st with
    | none=>none
    | some (st1,a)=>match sumTw s f (aJ s st1 (if aT st1 ku=true then ku else jo))with
     | none=>none
     | some (st2,b)=>some (st2,.mk (if aT st1 ku=true then ku else jo) ⟨#[]⟩ 0 0 [a,b]))
def eJ(s:ByteArray):Nat->Nat->PS->Tr->Option (PS×Tr)
 | 0,_,_,_=>none
 | f+1,lv,st,t=>if aT st (Cb lv)=true then
   (match cQ s f (lv+1) (ax s st)with
    | none=>none
    | some (st2,x)=>eJ s f lv st2 (.mk (Cb lv) ⟨#[]⟩ 0 0 [t,x]))
  else some (st,t)
end
def bP:ByteArray:=⟨#[98,108,111,99,107]⟩
def iw:ByteArray:=⟨#[123]⟩
def fC:ByteArray:=⟨#[125]⟩
def fy:ByteArray:=⟨#[59]⟩
def MF:ByteArray:=⟨#[105,102]⟩
def uB:ByteArray:=⟨#[116,104,101,110]⟩
def uA:ByteArray:=⟨#[101,108,115,101]⟩
def wJ:ByteArray:=⟨#[109,97,114,107]⟩
def m9:ByteArray:=⟨#[117,110,109,97,114,107]⟩
def kT:ByteArray:=⟨#[112,114,101,112,101,110,100]⟩
def mZ:ByteArray:=⟨#[97,99,99,101,112,116]⟩
def m8:ByteArray:=⟨#[114,101,106,101,99,116]⟩
def aO:List ByteArray:=[mZ,m8,kh,pI,wJ,m9,kT,MF]
def cZ(st:PS):Bool:=aO.any (λ x=>aT st x)
def Ey(a:ByteArray)(l:List UInt8):Bool:=a.toList==l
abbrev kI:List UInt8:=[112,114,101,102]
abbrev tC:List UInt8:=[109,101,100]
abbrev eH:List UInt8:=[109,97,114,107]
abbrev db:List UInt8:=[117,110,109,97,114,107]
abbrev cU:List UInt8:=[112,114,101,112,101,110,100]
abbrev M4:List UInt8:=[105,102]
mutual
def ef(s:ByteArray):Nat->PS->Option (PS×Tr)
 | 0,_=>none
 | f+1,st=>dO s f (fw (aJ s (if aT st iw=true then cx st else st) iw)) []
def dO(s:ByteArray):Nat->PS->List Tr->Option (PS×Tr)
 | 0,_,_=>none
 | f+1,st,kids=>if aT st fC=false/\st.bad<0 then
   (match stmtTw s f st with
    | none=>none
    | some (st1,x)=>dO s f st1 (kids++[x]))
  else some (p8 (fw (aJ s st fC)),.mk bP ⟨#[]⟩ 0 0 kids)
def stmtTw(s:ByteArray):Nat->PS->Option (PS×Tr)
 | 0,_=>none
 | f+1,st=>ft s f (if cZ st=true then st else aY st)
def ft(s:ByteArray):Nat->PS->Option (PS×Tr)
 | 0,_=>none
 | f+1,st =>
  if Ey st.next.text kI=true\/Ey st.next.text tC=true then
   (match sumTw s f (aJ s (ax s st) ku)with
    | none=>none
    | some (st3,x)=>some (aJ s st3 fy,.mk st.next.text ⟨#[]⟩ 0 0 [x]))
  else if Ey st.next.text eH=true\/Ey st.next.text db=true\/Ey st.next.text cU=true then
   some (aJ s (aA s (ax s st) 48) fy,.mk st.next.text ⟨#[]⟩ 0 0 [.mk cy ⟨#[]⟩ (bf (ax s st).next.text 4294967295) (ax s st).next.at_ []])
  else if Ey st.next.text M4=true then
   (match cQ s f 0 (ax s st)with
    | none=>none
    | some (st2,c)=>match ef s f (aJ s st2 uB)with
     | none=>none
     | some (st3,b)=>if aT st3 uA=true then
       (match ef s f (ax s st3)with
       | none=>none
       | some (st4,x)=>some (st4,.mk st.next.text ⟨#[]⟩ 0 0 [c,b,x]))
      else some (st3,.mk st.next.text ⟨#[]⟩ 0 0 [c,b]))
  else some (aJ s (ax s st) fy,.mk st.next.text ⟨#[]⟩ 0 0 [])
end
structure Rg where
 addr:Int
 len:Int
 lo:Int
 hi:Int
 loAt:Int
 hiAt:Int
def uG:ByteArray:=⟨#[123]⟩
def rW:ByteArray:=⟨#[125]⟩
def ji:ByteArray:=⟨#[44]⟩
def dV(s:ByteArray)(st:PS):PS×Rg :=
 if(aA s st 47).bad<0/\(aA s st 47).next.kind=48 then
  (aA s (aA s (aA s st 47) 48) 48,⟨(aV st.next.text).1,(aV st.next.text).2.1,bf (aA s st 47).next.text 4294967295,bf (aA s (aA s st 47) 48).next.text 4294967295,(aA s st 47).next.at_,(aA s (aA s st 47) 48).next.at_⟩)
 else(aA s st 47,⟨(aV st.next.text).1,(aV st.next.text).2.1,(aV st.next.text).2.1,(aV st.next.text).2.1,-1,-1⟩)
def rangesLp(s:ByteArray):Nat->Bool->PS->List Rg->Option (PS×List Rg)
 | 0,_,_,_=>none
 | f+1,more,st,l=>if more=true/\st.bad<0 then
   (if aT (dV s st).1 ji=true then rangesLp s f true (ax s (dV s st).1) (l++[(dV s st).2])
    else rangesLp s f false (dV s st).1 (l++[(dV s st).2]))
  else some (aJ s st rW,l)
def ja(s:ByteArray)(f:Nat)(st:PS):Option (PS×List Rg):=rangesLp s f true (aJ s st uG) []
def nz:ByteArray:=⟨#[119,97,121]⟩
def qE:ByteArray:=⟨#[115,101,116]⟩
structure Df where
 name:kA
 isWay:Bool
 ranges:List Rg
 way:Tr
def Nq:Tr:=.mk ⟨#[]⟩ ⟨#[]⟩ 0 0 []
def nD(s:ByteArray)(f:Nat)(st:PS):Option (PS×Df) :=
 if aT st nz=true then
  (match dq s f (aJ s (aA s (ax s st) 110) ku)with
   | none=>none
   | some (st4,t)=>some (aJ s st4 fy,⟨(ax s st).next,true,[],t⟩))
 else
  (match ja s f (aJ s (aA s (ax s st) 110) ku)with
   | none=>none
   | some (st4,l)=>some (aJ s st4 fy,⟨(ax s st).next,false,l,Nq⟩))
mutual
def gj:Tr->Nat
 | .mk _ _ _ _ kids=>1+rV kids
def rV:List Tr->Nat
 | []=>0
 | t::ts=>gj t+rV ts
end
abbrev j9:List UInt8:=[110,117,109,98,101,114]
mutual
def cF:Tr->Int
 | .mk op _ n a kids=>if(op.toList==j9)=true/\(n<1\/65535<n)then a else dj kids
def dj:List Tr->Int
 | [] => -1
 | t::ts=>if 0<=cF t then cF t else dj ts
end
abbrev il:List UInt8:=[109,97,114,107,101,100]
def my:List Tr->Int
 | .mk _ _ n _ _::_=>n
 | []=>0
def oT:List Tr->Int
 | .mk _ _ _ a _::_=>a
 | []=>0
mutual
def bH:Tr->Int
 | .mk op _ n a kids =>
  if(op.toList==il)=true/\65535<n then a
  else if((op.toList==eH)=true\/(op.toList==db)=true)/\65535<my kids then oT kids
  else if(op.toList==cU)=true/\(my kids<1\/65535<my kids)then oT kids
  else cq kids
def cq:List Tr->Int
 | [] => -1
 | t::ts=>if 0<=bH t then bH t else cq ts
end
mutual
def k8:Tr->Prop
 | .mk op _ _ _ kids=>(((op.toList==eH)||(op.toList==db)||(op.toList==cU))=true->0<kids.length)/\f9 kids
def f9:List Tr->Prop
 | []=>True
 | t::ts=>k8 t/\f9 ts
end
def dJ(name:ByteArray)(way:Bool):List Df->Nat->Int
 | [],_ => -1
 | d::ds,i=>if(d.name.text.toList==name.toList)=true/\(d.isWay==way)=true then(i:Int)else dJ name way ds (i+1)
abbrev JP:List UInt8:=[105,110]
abbrev iX:List UInt8:=[108,105,107,101]
mutual
def br(ds:List Df):Tr->Int
 | .mk op text _ a kids=>if((op.toList==JP)=true\/(op.toList==iX)=true)/\dJ text (op.toList==iX) ds 0<0 then a else cS ds kids
def cS(ds:List Df):List Tr->Int
 | [] => -1
 | t::ts=>if 0<=br ds t then br ds t else cS ds ts
end
def gY(l:List Df)(x:ByteArray):Bool:=l.any (λ d=>d.name.text.toList==x.toList)
def oQ(ds:List Df)(body:Tr):Nat->Nat->Int
 | 0,_=>br ds body
 | f+1,i=>if h:i<ds.length then(if gY (ds.take i) ds[i].name.text=true then(ds[i].name.at_:Int)else oQ ds body f (i+1))else br ds body
def gL(ds:List Df)(body:Tr):Int:=oQ ds body ds.length 0
def gD(r:Rg):Option Int:=if r.lo<r.len\/32<r.lo then some r.loAt else if r.hi<r.lo\/32<r.hi then some r.hiAt else none
def eD:List Rg->Option Int
 | []=>none
 | r::rs=>match gD r with
  | some x=>some x
  | none=>eD rs
def mt(d:Df):Option Int:=if d.isWay=true then(if 0<=cF d.way then some (cF d.way)else none)else eD d.ranges
def ii(body:Tr):List Df->Int
 | []=>bH body
 | d::ds=>match mt d with
  | some x=>x
  | none=>ii body ds
def ec(ds:List Df)(body:Tr):Int:=ii body ds
def Mv(s:ByteArray):PS:=⟨(fG s 0).1,(fG s 0).2,[],[],-1,0⟩
def gB(s:ByteArray)(F:Nat):Nat->PS->List Df->Option (PS×List Df)
 | 0,_,_=>none
 | k+1,st,l=>if(aT st qE||aT st nz)=true then
   (match nD s F (if l.length=8 then aY st else st)with
    | none=>none
    | some (st1,d)=>gB s F k st1 (l++[d]))
  else some (st,l)
def fQ(s:ByteArray)(F:Nat):Nat->Bool->PS->List Tr->Option (PS×List Tr)
 | 0,_,_,_=>none
 | k+1,more,st,l=>if more=true/\st.bad<0 then
   (match stmtTw s F st with
    | none=>none
    | some (st1,x)=>fQ s F k (st1.next.kind != 46) st1 (l++[x]))
  else some (st,l)
def vI(s:ByteArray)(F:Nat):Option (PS×List Df×List Tr) :=
 match gB s F F (Mv s) []with
 | none=>none
 | some (st,ds)=>match fQ s F F true st []with
  | none=>none
  | some (st1,ks)=>some (st1,ds,ks)
theorem bJ{k:IntKind}{a b:Int}(h:a=b):Ending.returned (.int k a)=.returned (.int k b):=by rw [h]
theorem jb{a b:Bool}(h:a=b):Ending.returned (.bool a)=.returned (.bool b):=by rw [h]
theorem ew(n:Int)(w:World) :
  Calls prog 112 #[.int .u8 n] w λ e w'=>e=.returned (.bool (dF n))/\w'=w:=by
 go_enter func112,ntmps112;go_wp2
 all_goals (go_ret;exact⟨jb (by simp [dF];omega),rfl⟩)
theorem aS(n:Int)(w:World) :
  Calls prog 115 #[.int .u8 n] w λ e w'=>e=.returned (.bool (ff n))/\w'=w:=by
 go_enter func115,ntmps115;go_wp2
 all_goals (go_ret;exact⟨jb (by simp [ff];omega),rfl⟩)
theorem bV(s:ByteArray)(m:Int)(w:World) :
  Calls prog 116 #[.string s,.int .i64 m] w λ e w'=>e=.returned (.int .i64 (bf s m))/\w'=w:=by
 by_cases h:s.size=0\/10<s.size\/(1<s.size/\bt s 0=48)
 ·have HN:=ae (rR (m:=m) h);rcases h with h|h|⟨h,h2⟩
  ·go_enter func116,ntmps116;go_wp2
   all_goals first|(go_ret;exact⟨bJ (ab HN).symm,rfl⟩)|(exfalso;simp_all;done)
  ·go_enter func116,ntmps116;go_wp2
   all_goals (go_ret;exact⟨bJ (ab HN).symm,rfl⟩)
  rw [cA (by omega)]at h2;have h3:((s[0].toNat:Int)==48)=true:=by simpa using h2
  clear h2;go_enter func116,ntmps116;go_wp2
  all_goals (go_ret;exact⟨bJ (ab HN).symm,rfl⟩)
 have HY:=λ hd=>ae (zF (m:=m) h hd)
 have HB:=λ k hk hd=>ae (zE (s:=s) (m:=m) (k:=k) hk hd)
 have hs0:((s.size:Int)==0)=false:=beq_eq_false_iff_ne.2 (by omega);have hs1:(s.size:Int)<=10:=by omega
 have hs2:0<s.size:=by omega
 have hor:¬1<s.size\/(1<s.size/\((s[0].toNat:Int)==48)=false):=by
  by_cases h1:1<s.size
  ·right;refine⟨h1,?_⟩;rw [cA hs2]at h;simp;omega
  left;exact h1
 clear h;rcases hor with h1|⟨h1,h3⟩
 all_goals
  go_enter func116,ntmps116;go_wp2
  go_loop [5,6] (λ n i=>∃ k:Nat,k<=s.size/\lT s k/\i=.int .i64 k/\n=.int .i64 (dZ s k)) (λ _ i=>s.size-(intOf i).toNat)
  case atStart=>exact⟨0,iL _,λ j hj=>absurd hj (by omega),rfl,rfl⟩
  case round =>
   obtain⟨k,hk,hd,rfl,rfl⟩:=hrel;have hb:=pf hd
   have hp:(10:Int) ^ k<=10 ^ 10:=by
    have h1:(10:Nat) ^ k<=10 ^ 10:=Nat.pow_le_pow_right (by omega) (by omega)
    exact_mod_cast h1
   have hb1:0<=dZ s k:=hb.1;have hb2:dZ s k<10000000000:=by have:=hb.2;omega
   clear hb hp;by_cases hlt:k<s.size
   ·cases hdb:ff (bt s k)with
    | true =>
     have hdig:=(jJ _).1 hdb;rw [cA hlt]at hdig;obtain⟨hdl,hdh⟩:=hdig;have HE:=ae (show dZ s (k+1)=10*dZ s k+((s[k].toNat:Int)-48)by rw [dZ,cA hlt]);have HD:=ae (te hd hdb);rw [cA hlt]at hdb;go_wp2_with (go_at_call 115;refine(aS _ _).mono ?_;rintro e w' ⟨rfl,rfl⟩)
     go_round
     case rel=>exact⟨k+1,by omega,ab HD,by go_num,by rw [ab HE]⟩
     case measure=>simp [intOf];omega
    | false =>
     have HN:=HB k hlt hdb;rw [cA hlt]at hdb;go_wp2_with (go_at_call 115;refine(aS _ _).mono ?_;rintro e w' ⟨rfl,rfl⟩)
     go_ret;exact⟨bJ (ab HN).symm,rfl⟩
   have hke:k=s.size:=by omega
   have HN:=HY (hke▸hd);have HK:=ae hke;clear hke;by_cases hm:m<dZ s k
   all_goals
    go_wp2
    go_ret;refine⟨bJ ?_,rfl⟩;rw [ab HN,<-ab HK]
    first|rw [aC hm]|rw [au (by omega)]
theorem wh(n:Nat)(w:World)(h:n<=32) :
  Calls prog 193 #[.int .i64 n] w λ e w'=>e=.returned (.int .i64 ((2:Int) ^ n))/\w'=w:=by
 go_enter func193,ntmps193;go_wp2
 go_loop [3,4] (λ p i=>∃ k:Nat,k<=n/\i=.int .i64 k/\p=.int .i64 ((2:Int) ^ k)) (λ _ i=>n-(intOf i).toNat)
 case atStart=>exact⟨0,iL _,rfl,rfl⟩
 case round =>
  obtain⟨k,hk,rfl,rfl⟩:=hrel;have⟨hb0,hb⟩:=DM (k:=k) (by omega);have HE:=ae (Fs k);generalize hq:(2:Int) ^ k=q at *;have HQ:=ae hq;clear hq;by_cases hlt:k<n
  ·go_wp2
   go_round
   case rel=>exact⟨k+1,by omega,by go_num,by rw [ab HE]⟩
   case measure=>simp [intOf];omega
  go_wp2
  go_ret;exact⟨bJ (by rw [<-ab HQ,show k=n by omega]),rfl⟩
theorem qG(w:World) :
  Calls prog 114 #[] w λ e w'=>e=.returned (.slice (some ⟨w.heap.size,0,none⟩) 21 21)/\w'=w.alloc (.cells (eK.map Value.string).toArray 9):=by
 go_enter func114,ntmps114;go_wp2
 go_ret;exact⟨rfl,rfl⟩
theorem pY(b:Nat)(l:List ByteArray)(x:ByteArray)(n c:Nat)(w:World)(hn:l.length=n)(hm:n<=1000)(hc:∀ j,(h:j<l.length)->w.cell? ⟨b,j,none⟩=some (.string l[j])) :
  Calls prog 113 #[.slice (some ⟨b,0,none⟩) n c,.string x] w λ e w'=>e=.returned (.bool (jF l x))/\w'=w:=by
 subst hn;go_enter func113,ntmps113;go_wp2
 go_loop [5] (λ i=>∃ k:Nat,k<=l.length/\mQ l x k=false/\i=.int .i64 k) (λ i=>l.length-(intOf i).toNat)
 case atStart=>exact⟨0,iL _,rfl,rfl⟩
 case round =>
  obtain⟨k,hk,ha,rfl⟩:=hrel;have HA:=ae ha;clear ha;by_cases hlt:k<l.length
  ·have hck:=hc k hlt;have HC:=ae hc;clear hc;cases he:(l[k].toList==x.toList)with
   | true =>
    have HT:=ae (vv hlt he);go_wp2
    go_ret;exact⟨jb (ab HT).symm,rfl⟩
   | false =>
    have HS:=ae (wT (w:=x) hlt);go_wp2
    go_round
    case rel=>exact⟨k+1,by omega,by rw [ab HS,ab HA,he];rfl,by go_num⟩
    case measure=>simp [intOf];omega
  go_wp2
  go_ret;exact⟨jb (AZ (by rw [<-show k=l.length by omega];exact ab HA)).symm,rfl⟩
theorem wi(n:Int)(w:World)(h0:0<=n)(h:n<=32) :
  Calls prog 193 #[.int .i64 n] w λ e w'=>e=.returned (.int .i64 ((2:Int) ^ n.toNat))/\w'=w:=by
 obtain⟨k,rfl⟩:=Int.eq_ofNat_of_zero_le h0;rw [Int.toNat_natCast];exact wh k w (by omega)
theorem Hv(a l:Int)(w:World)(h1:0<=a)(h2:a<=4294967295)(h3:0<=l)(h4:l<=32) :
  Calls prog 141 #[.agg #[.int .i64 a,.int .i64 l]] w λ e w'=>e=.returned (.bool (tI a l))/\Below w.heap.size w w':=by
 have HN:Hid (tI a l=(a % 2 ^ (32-l).toNat==0)):=by
  unfold Hid tI;simp only [h1,h2,h3,h4,true_and];rw [Bool.eq_iff_iff];simp
 have⟨hp1,hp2⟩:=DM (k:=(32-l).toNat) (by omega);have hpz:((2:Int) ^ (32-l).toNat==0)=false:=beq_eq_false_iff_ne.2 (by omega);go_enter func141,ntmps141;go_wp2_with fail;go_quiet ((go_at_call 193;exact Calls.quiet_of_same (wi (32-l) _ (by omega) (by omega))))
 go_wp2
 go_ret;exact⟨jb (ab HN).symm,by exact below_drewN ((aX _ _).alloc (aD _) _) _⟩
theorem yB{W w1:World}(hb:Below W.heap.size W w1):(∀ b o,b<W.heap.size->w1.cell? ⟨b,o,none⟩=W.cell? ⟨b,o,none⟩)/\(∀ b o,b<W.heap.size->w1.frozen? ⟨b,o,none⟩=W.frozen? ⟨b,o,none⟩) :=
 ⟨λ b o h=>hb.cell (p:=⟨b,o,none⟩) h,λ b o h=>hb.frozen (p:=⟨b,o,none⟩) h⟩
theorem gM(s:ByteArray)(w:World)(hs:s.size<=1000) :
  Calls prog 117 #[.string s] w λ e w'=>e=.returned (.tuple #[.agg #[.int .i64 (aV s).1,.int .i64 (aV s).2.1],.bool (aV s).2.2])/\Below w.heap.size w w':=by
 go_enter func117,ntmps117;go_wp2
 go_loopw [5,6,7] (λ fr pt i wr=>∃(k p q:Nat) (a l:Int),k<=s.size+1/\(p<=4\/(p=5/\k=s.size+1))/\(k=s.size+1->p=5)/\q<=k/\0<=a/\a<256 ^ (min p 4)/\0<=l/\l<=32/\fr=.int .i64 q/\pt=.int .i64 p/\i=.int .i64 k/\du s (s.size+1-k) k p q a l=aV s/\wr=(w.alloc (.cells #[.int .i64 0,.int .i64 0] 25)).alloc (.cells #[.int .i64 a,.int .i64 l] 25)) (λ _ _ i _=>s.size+1-(intOf i).toNat)
 case atStart=>exact⟨0,0,0,0,0,by omega,by omega,by omega,by omega,by omega,by simp,by omega,by omega,rfl,rfl,rfl,rfl,rfl⟩
 case round =>
  obtain⟨k,p,q,a,l,hk,hp,hp5,hq,ha0,ha1,hl0,hl1,rfl,rfl,rfl,hpg,rfl⟩:=hrel;have HG:=ae hpg;have HA:=ae ha1;clear hpg ha1;by_cases hle:k<=s.size
  ·have hp4:p<=4:=by omega
   have ha2:a<=4294967295:=wg (p:=min p 4) (by omega) (ab HA);clear hp hp5;by_cases hlt:k<s.size
   ·cases hdb:ff (bt s k)with
    | true =>
     have HS:=ae (xL (q:=q) (a:=a) (l:=l) hlt (inl hdb) (p:=p));rw [cA hlt]at hdb;by_cases h3:p=3
     ·subst h3;go_wp2_with (go_at_call 115;refine(aS _ _).mono ?_;rintro e w' ⟨rfl,rfl⟩)
      go_roundw
      case rel=>exact⟨k+1,3,q,a,l,by omega,by omega,by omega,by omega,ha0,ab HA,hl0,hl1,rfl,rfl,by go_num,by rw [<-ab HS];exact ab HG,rfl⟩
      case measure=>simp [intOf];omega
     have h3b:((p:Int)==3)=false:=beq_eq_false_iff_ne.2 (by omega);go_wp2_with (go_at_call 115;refine(aS _ _).mono ?_;rintro e w' ⟨rfl,rfl⟩)
     go_roundw
     case rel=>exact⟨k+1,p,q,a,l,by omega,by omega,by omega,by omega,ha0,ab HA,hl0,hl1,rfl,rfl,by go_num,by rw [<-ab HS];exact ab HG,rfl⟩
     case measure=>simp [intOf];omega
    | false =>
     by_cases h4:p=4
     ·subst h4;have HS:=ae (xL (q:=q) (a:=a) (l:=l) hlt (inr rfl) (p:=4));rw [cA hlt]at hdb;go_wp2_with (first|(go_at_call 115;refine(aS _ _).mono ?_;rintro e w' ⟨rfl,rfl⟩)|(go_at_call 116;refine(bV _ _ _).mono ?_;rintro e w' ⟨rfl,rfl⟩))
      go_roundw
      case rel=>exact⟨k+1,4,q,a,l,by omega,by omega,by omega,by omega,by omega,ab HA,hl0,hl1,by go_num,by go_num,by go_num,by rw [<-ab HS];exact ab HG,rfl⟩
      case measure=>simp [intOf];omega
     have h4b:((p:Int)==4)=false:=beq_eq_false_iff_ne.2 (by omega)
     have h3o:(p=3/\((p:Int)==3)=true)\/(p≠3/\((p:Int)==3)=false):=by
      by_cases h3:p=3
      ·left;exact⟨h3,by rw [h3];rfl⟩
      right;exact⟨h3,beq_eq_false_iff_ne.2 (by omega)⟩
     have hneg:k<s.size->ff (bt s k)=false/\p≠4:=λ _=>⟨hdb,h4⟩
     rcases h3o with⟨h3,h3b⟩|⟨h3,h3b⟩
     ·by_cases hw:bt s k=47
      ·have hnb:¬((k<s.size/\bt s k≠(if p=3 then 47 else 46))\/(s.size<=k/\p≠4)):=by rw [aC h3];omega
       have hwb:((s[k].toNat:Int) != 47)=false:=by rw [<-cA hlt,hw];rfl
       by_cases hv:bf (s.extract q k) 255<0
       ·have HS:=ae (mU (q:=q) (a:=a) (l:=l) hle hneg hnb (by rw [au h4];exact hv));rw [cA hlt]at hdb;clear hneg hnb hw h3;go_wp2_with (first|(go_at_call 115;refine(aS _ _).mono ?_;rintro e w' ⟨rfl,rfl⟩)|(go_at_call 116;refine(bV _ _ _).mono ?_;rintro e w' ⟨rfl,rfl⟩))
        refine eO (v:=.tuple #[.agg #[.int .i64 a,.int .i64 l],.bool false]) (by simp [results,results117,go_sem]) rfl ⟨?_,(((aX _ _).alloc (aD _) _).alloc (by simp) _)⟩;rw [<-ab HG,ab HS]
       have HS:=ae (rT (q:=q) (a:=a) (l:=l) hlt hdb h4 (by rw [aC h3];exact hw) hv);have hv2:=rQ (s:=s.extract q k) (m:=255) (by omega);have HP:=ae (show 256*a+bf (s.extract q k) 255<256 ^ (min (p+1) 4)by rw [show min (p+1) 4=min p 4+1 by omega];exact rr (ab HA) hv2);rw [cA hlt]at hdb;clear hneg hnb hw h3;go_wp2_with (first|(go_at_call 115;refine(aS _ _).mono ?_;rintro e w' ⟨rfl,rfl⟩)|(go_at_call 116;refine(bV _ _ _).mono ?_;rintro e w' ⟨rfl,rfl⟩))
       go_roundw
       case rel=>exact⟨k+1,p+1,k+1,256*a+bf (s.extract q k) 255,l,by omega,by omega,by omega,by omega,by omega,ab HP,hl0,hl1,by go_num,by go_num,by go_num,by rw [<-ab HS];exact ab HG,rfl⟩
       case measure=>simp [intOf];omega
      have HS:=ae (oh (q:=q) (a:=a) (l:=l) hle hneg (inl ⟨hlt,by rw [aC h3];exact hw⟩));have hwb:((s[k].toNat:Int) != 47)=true:=by rw [<-cA hlt];simpa using hw
      rw [cA hlt]at hdb;clear hneg hw h3;go_wp2_with (first|(go_at_call 115;refine(aS _ _).mono ?_;rintro e w' ⟨rfl,rfl⟩)|(go_at_call 116;refine(bV _ _ _).mono ?_;rintro e w' ⟨rfl,rfl⟩))
      refine eO (v:=.tuple #[.agg #[.int .i64 a,.int .i64 l],.bool false]) (by simp [results,results117,go_sem]) rfl ⟨?_,(((aX _ _).alloc (aD _) _).alloc (by simp) _)⟩;rw [<-ab HG,ab HS]
     by_cases hw:bt s k=46
     ·have hnb:¬((k<s.size/\bt s k≠(if p=3 then 47 else 46))\/(s.size<=k/\p≠4)):=by rw [au h3];omega
      have hwb:((s[k].toNat:Int) != 46)=false:=by rw [<-cA hlt,hw];rfl
      by_cases hv:bf (s.extract q k) 255<0
      ·have HS:=ae (mU (q:=q) (a:=a) (l:=l) hle hneg hnb (by rw [au h4];exact hv));rw [cA hlt]at hdb;clear hneg hnb hw h3;go_wp2_with (first|(go_at_call 115;refine(aS _ _).mono ?_;rintro e w' ⟨rfl,rfl⟩)|(go_at_call 116;refine(bV _ _ _).mono ?_;rintro e w' ⟨rfl,rfl⟩))
       refine eO (v:=.tuple #[.agg #[.int .i64 a,.int .i64 l],.bool false]) (by simp [results,results117,go_sem]) rfl ⟨?_,(((aX _ _).alloc (aD _) _).alloc (by simp) _)⟩;rw [<-ab HG,ab HS]
      have HS:=ae (rT (q:=q) (a:=a) (l:=l) hlt hdb h4 (by rw [au h3];exact hw) hv);have hv2:=rQ (s:=s.extract q k) (m:=255) (by omega);have HP:=ae (show 256*a+bf (s.extract q k) 255<256 ^ (min (p+1) 4)by rw [show min (p+1) 4=min p 4+1 by omega];exact rr (ab HA) hv2);rw [cA hlt]at hdb;clear hneg hnb hw h3;go_wp2_with (first|(go_at_call 115;refine(aS _ _).mono ?_;rintro e w' ⟨rfl,rfl⟩)|(go_at_call 116;refine(bV _ _ _).mono ?_;rintro e w' ⟨rfl,rfl⟩))
      go_roundw
      case rel=>exact⟨k+1,p+1,k+1,256*a+bf (s.extract q k) 255,l,by omega,by omega,by omega,by omega,by omega,ab HP,hl0,hl1,by go_num,by go_num,by go_num,by rw [<-ab HS];exact ab HG,rfl⟩
      case measure=>simp [intOf];omega
     have HS:=ae (oh (q:=q) (a:=a) (l:=l) hle hneg (inl ⟨hlt,by rw [au h3];exact hw⟩));have hwb:((s[k].toNat:Int) != 46)=true:=by rw [<-cA hlt];simpa using hw
     rw [cA hlt]at hdb;clear hneg hw h3;go_wp2_with (first|(go_at_call 115;refine(aS _ _).mono ?_;rintro e w' ⟨rfl,rfl⟩)|(go_at_call 116;refine(bV _ _ _).mono ?_;rintro e w' ⟨rfl,rfl⟩))
     refine eO (v:=.tuple #[.agg #[.int .i64 a,.int .i64 l],.bool false]) (by simp [results,results117,go_sem]) rfl ⟨?_,(((aX _ _).alloc (aD _) _).alloc (by simp) _)⟩;rw [<-ab HG,ab HS]
   have hks:k=s.size:=by omega
   have HK:=ae hks;have hkb:((k:Int)==(s.size:Int))=true:=beq_iff_eq.2 (by omega);by_cases h4:p=4
   ·subst h4;have hnb:¬((k<s.size/\bt s k≠(if 4=3 then 47 else 46))\/(s.size<=k/\4≠4)):=by omega
    by_cases hv:bf (s.extract q k) 32<0
    ·have HS:=ae (mU (q:=q) (a:=a) (l:=l) hle (λ h=>absurd h hlt) hnb (by simpa using hv));clear hnb hks;go_wp2_with (first|(go_at_call 115;refine(aS _ _).mono ?_;rintro e w' ⟨rfl,rfl⟩)|(go_at_call 116;refine(bV _ _ _).mono ?_;rintro e w' ⟨rfl,rfl⟩))
     refine eO (v:=.tuple #[.agg #[.int .i64 a,.int .i64 l],.bool false]) (by simp [results,results117,go_sem]) rfl ⟨?_,(((aX _ _).alloc (aD _) _).alloc (by simp) _)⟩;rw [<-ab HG,ab HS]
    have HS:=ae (DL (q:=q) (a:=a) (l:=l) hks hv);have hv2:=rQ (s:=s.extract q k) (m:=32) (by omega);clear hnb hks;go_wp2_with (first|(go_at_call 115;refine(aS _ _).mono ?_;rintro e w' ⟨rfl,rfl⟩)|(go_at_call 116;refine(bV _ _ _).mono ?_;rintro e w' ⟨rfl,rfl⟩))
    go_roundw
    case rel=>exact⟨k+1,5,k+1,a,bf (s.extract q k) 32,by omega,by omega,by omega,by omega,by omega,ab HA,by omega,by omega,by go_num,by go_num,by go_num,by rw [<-ab HS];exact ab HG,rfl⟩
    case measure=>simp [intOf];omega
   have h4b:((p:Int)==4)=false:=beq_eq_false_iff_ne.2 (by omega);have h4c:((p:Int) != 4)=true:=by simp;omega
   have HS:=ae (oh (q:=q) (a:=a) (l:=l) hle (λ h=>absurd h hlt) (inr ⟨by omega,h4⟩));clear hks;have h3o:((p:Int)==3)=true\/((p:Int)==3)=false:=by cases ((p:Int)==3)<;>simp
   rcases h3o with h3b|h3b
   all_goals
    go_wp2_with (first|(go_at_call 115;refine(aS _ _).mono ?_;rintro e w' ⟨rfl,rfl⟩)|(go_at_call 116;refine(bV _ _ _).mono ?_;rintro e w' ⟨rfl,rfl⟩))
    refine eO (v:=.tuple #[.agg #[.int .i64 a,.int .i64 l],.bool false]) (by simp [results,results117,go_sem]) rfl ⟨?_,(((aX _ _).alloc (aD _) _).alloc (by simp) _)⟩;rw [<-ab HG,ab HS]
  have hks:k=s.size+1:=by omega
  obtain rfl:p=5:=hp5 hks;have ha2:a<=4294967295:=wg (p:=4) (by omega) (ab HA);have HS:=ae (show du s (s.size+1-k) k 5 q a l=(a,l,tI a l)by rw [hks];exact II);clear hks hp hp5;go_wp2_with (go_at_call 141;refine(Hv _ _ _ (by omega) (by omega) (by omega) (by omega)).mono ?_;rintro e w' ⟨rfl,hb⟩;obtain⟨hc,hf⟩:=yB hb)
  refine eO (v:=.tuple #[.agg #[.int .i64 a,.int .i64 l],.bool (tI a l)]) ?_ rfl ⟨?_,?_⟩
  ·have hz:w.heap.size+1<w'.heap.size:=by have:=hb.size;simp at this;omega
   have c0:w'.cell? ⟨w.heap.size,0,none⟩=some (.int .i64 0):=by rw [hc _ _ (by simp;omega)];simp
   have c1:w'.cell? ⟨w.heap.size,1,none⟩=some (.int .i64 0):=by rw [hc _ _ (by simp;omega)];simp
   simp [results,results117,go_sem,c0,c1]
  ·rw [<-ab HG,ab HS]
  exact(((((aX _ _).alloc (aD _) _).alloc (by simp) _).trans (hb.mono (by simp;omega))).setCell (by simp) _).setCell (by simp) _
