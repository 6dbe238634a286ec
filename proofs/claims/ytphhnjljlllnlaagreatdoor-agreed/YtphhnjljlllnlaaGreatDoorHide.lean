/- part -/
import Derived.WalkKit
namespace Go.Proofs.YtphhnjljlllnlaaGreatDoor
open Go.RowKit
abbrev gH:=@bodyPost_ret
abbrev Fh:=@decide_eq_true
abbrev Cf:=@decide_eq_false
abbrev cM:=@heap_alloc_new
abbrev aS:=@if_pos
abbrev aG:=@if_neg
abbrev ej:=@List.getElem_mem
abbrev aL:=@Nat.le_refl
theorem af{p:Prop}(h:p):Hid p:=h
theorem ae{p:Prop}(h:Hid p):p:=h
structure fI where
 gone:List (Int×Int)
 nets:List (Int×Int)
 path:List Int
 marks:List Int
 pref:Int
 med:Int
def en(n:Int):List Int:=[n / 256 % 256,n % 256]
def eD(n:Int):List Int:=en (n / 65536)++en (n % 65536)
def eX(n:Int):Nat:=((n+7) / 8).toNat
def iC(n:Int):Int:=2 ^ (32-n).toNat
abbrev dX(x:Int×Int):Prop:=(0<=x.1/\x.1<=4294967295)/\(0<=x.2/\x.2<=32)/\x.1 % iC x.2=0
abbrev kI(l:List (Int×Int)):Prop:=l.length<=20/\(∀ x∈l,dX x)/\l.Nodup
abbrev j5(p:List Int):Prop:=p.length<=12/\∀ s∈p,1<=s/\s<=65535
def uQ:Int->List Int->Bool
 | _,[]=>true
 | n,x::l=>decide (n<=x)&&(decide (x<=65535)&&uQ (x+1) l)
abbrev gx(n:Int)(l:List Int):Prop:=uQ n l=true
theorem iO(n:Int):gx n []:=rfl
theorem fQ{n x:Int}{l:List Int}:gx n (x::l)↔n<=x/\x<=65535/\gx (x+1) l:=by
 simp only [gx,uQ,Bool.and_eq_true,decide_eq_true_eq]
abbrev iV(m:List Int):Prop:=m.length<=8/\gx 0 m
abbrev iE(n:Int):Prop:=0<=n/\n<=4294967295
abbrev NM(u:fI):Prop:=u.path=[]/\u.marks=[]/\u.pref=0/\u.med=0
abbrev eW(u:fI):Prop:=kI (u.gone++u.nets)/\j5 u.path/\iV u.marks/\iE u.pref/\iE u.med/\(u.nets≠[]\/NM u)
def pW(x:Int×Int):List Int:=x.2::(eD x.1).take (eX x.2)
def cJ(l:List (Int×Int)):List Int:=l.flatMap pW
def lJ(a:Int×Int×List Int):List Int:=a.1::a.2.1::(a.2.2.length:Int)::a.2.2
def cI(l:List Int):List Int:=l.flatMap en
def fD(p:List Int):List Int:=if p=[]then []else 2::(p.length:Int)::cI p
def cT(u:fI):List (Int×Int×List Int) :=
 if u.nets=[]then []else
  (64,2,fD u.path)::((if 0<u.med then [(128,4,eD u.med)]else [])++(64,5,eD u.pref)::(if u.marks=[]then []else [(192,8,cI u.marks)]))
def cG(l:List (Int×Int×List Int)):List Int:=l.flatMap lJ
def jv(u:fI):List Int :=
 let g:=cJ u.gone
 let a:=cG (cT u)
 en g.length++(g++(en a.length++(a++cJ u.nets)))
def bZ(b:List Int):Int:=b.foldl (λ n x=>256*n+x) 0
def iB(b:List Int):List Int:=b++List.replicate (4-b.length) 0
def aK(b:List Int):Prop:=∀ x∈b,0<=x/\x<=255
theorem bj{x:Int}{l:List Int}:aK (x::l)↔(0<=x/\x<=255)/\aK l:=by simp [aK]
theorem cN{a b:List Int}:aK (a++b)↔aK a/\aK b:=by
 simp only [aK,List.mem_append];exact⟨λ h=>⟨λ x hx=>h x (Or.inl hx),λ x hx=>h x (Or.inr hx)⟩,λ h x hx=>hx.elim (h.1 x) (h.2 x)⟩
theorem gP:aK []:=by simp [aK]
theorem bU{a:List Int}(h:aK a)(n:Nat):aK (a.take n):=λ x hx=>h x (List.mem_of_mem_take hx)
theorem cB{a:List Int}(h:aK a)(n:Nat):aK (a.drop n):=λ x hx=>h x (List.mem_of_mem_drop hx)
def cE(n:Int):Nat:=if 32<n then 0 else eX n
def jp:Nat->List Int->Option (List (Int×Int))
 | _,[]=>some []
 | 0,_::_=>none
 | f+1,n::t=>if t.length<cE n then none else(jp f (t.drop (cE n))).map (λ l=>(bZ (iB (t.take (cE n))),n)::l)
def c8(b:List Int):Option (List (Int×Int)):=jp b.length b
def kB:Nat->List Int->Option (List (Int×Int×List Int))
 | _,[]=>some []
 | f+1,x::y::z::t=>if t.length<z.toNat then none else(kB f (t.drop z.toNat)).map (λ l=>(x,y,t.take z.toNat)::l)
 | _,_=>none
def eU(b:List Int):Option (List (Int×Int×List Int)):=kB b.length b
def words:List Int->List Int
 | x::y::t=>(256*x+y)::words t
 | _=>[]
def iq(v:List Int):Option (List Int) :=
 match v with
 | []=>some []
 | x::n::t=>if x=2/\1<=n/\n<=12/\(t.length:Int)=2*n/\(∀ s∈words t,s≠0)then some (words t)else none
 | _=>none
def lU(v:List Int):Option (List Int) :=
 if v≠[]/\v.length % 2=0/\v.length<=16/\gx 0 (words v)then some (words v)else none
def il(w:Int):Int:=if w=2\/w=5 then 64 else if w=4 then 128 else if w=8 then 192 else -1
def jK(u:fI)(w:Int)(v:List Int):Option fI :=
 if w=2 then(iq v).map (λ p=>{ u with path:=p })
 else if w=8 then(lU v).map (λ m=>{ u with marks:=m })
 else if w=4 then(if v.length=4/\0<bZ v then some { u with med:=bZ v }else none)
 else if v.length=4 then some { u with pref:=bZ v }else none
structure AS where
 u:fI
 last:Int
 two:Bool
 five:Bool
def cV:AS->List (Int×Int×List Int)->Except Int AS
 | s,[]=>.ok s
 | s,(f,w,v)::l =>
  if f≠il w\/w<=s.last then .error 7
  else match jK s.u w v with
   | none=>.error 8
   | some u=>cV ⟨u,w,s.two||w=2,s.five||w=5⟩ l
def fN:fI:=⟨[],[],[],[],0,0⟩
def jt(b:List Int):Except Int fI :=
 match b with
 | x::y::t =>
  let n:=(256*x+y).toNat
  if t.length<n+2 then .error 6 else
  let m:=(bZ ((t.drop n).take 2)).toNat
  let r:=t.drop (n+2)
  if r.length<m then .error 6 else
  match c8 (t.take n),eU (r.take m),c8 (r.drop m)with
  | some gone,some l,some there =>
   match cV ⟨fN,0,false,false⟩ l with
   | .error e=>.error e
   | .ok s =>
    if(there≠[]/\¬(s.two=true/\s.five=true))\/(there=[]/\l≠[])then .error 9
    else if kI (gone++there)then .ok { s.u with gone:=gone,nets:=there }else .error 10
  | _,_,_=>.error 6
 | _=>.error 6
theorem nD(n:Int):(en n).length=2:=rfl
theorem cK(n:Int):(eD n).length=4:=rfl
theorem nE(x y:Int):bZ [x,y]=256*x+y:=by simp [bZ]
theorem KH{n:Int}(h:0<=n/\n<65536):bZ (en n)=n:=by rw [en,nE];omega
theorem nU(a b c d:Int):bZ [a,b,c,d]=256*(256*(256*a+b)+c)+d:=by simp [bZ]
theorem tZ(n:Int):eD n=[n / 65536 / 256 % 256,n / 65536 % 256,n % 65536 / 256 % 256,n % 65536 % 256]:=rfl
theorem qS{n:Int}(h:0<=n/\n<=4294967295):bZ (eD n)=n:=by rw [tZ,nU];omega
theorem zl{x y:Int}(hx:0<=x/\x<=255)(hy:0<=y/\y<=255):en (256*x+y)=[x,y]:=by
 have h1:(256*x+y) / 256 % 256=x:=by omega
 have h2:(256*x+y) % 256=y:=by omega
 rw [en,h1,h2]
theorem m8{a b c d:Int}(ha:0<=a/\a<=255)(hb:0<=b/\b<=255)(hc:0<=c/\c<=255)(hd:0<=d/\d<=255):eD (bZ [a,b,c,d])=[a,b,c,d]:=by
 rw [nU,tZ];have h1:(256*(256*(256*a+b)+c)+d) / 65536 / 256 % 256=a:=by omega
 have h2:(256*(256*(256*a+b)+c)+d) / 65536 % 256=b:=by omega
 have h3:(256*(256*(256*a+b)+c)+d) % 65536 / 256 % 256=c:=by omega
 have h4:(256*(256*(256*a+b)+c)+d) % 65536 % 256=d:=by omega
 rw [h1,h2,h3,h4]
theorem qB(n:Int):aK (en n):=by
 intro x hx;simp [en]at hx;omega
theorem m9(n:Int):aK (eD n):=cN.2 ⟨qB _,qB _⟩
theorem jk{n:Int}(h:0<=n/\n<=32):eX n<=4/\n<=8*eX n:=by unfold eX;omega
theorem Dn{a n:Int}(h:a % iC n=0)(hn:0<=n/\n<=32):a % (2 ^ (32-8*eX n):Nat)=0:=by
 have h1:(2 ^ (32-8*eX n):Nat) ∣ 2 ^ (32-n).toNat:=Nat.pow_dvd_pow 2 (by have:=jk hn;omega);have h2:((2 ^ (32-8*eX n):Nat):Int) ∣ ((2 ^ (32-n).toNat:Nat):Int):=Int.natCast_dvd_natCast.2 h1;have h3:((2 ^ (32-n).toNat:Nat):Int)=iC n:=by unfold iC;push_cast;rfl
 rw [h3]at h2;exact Int.emod_eq_zero_of_dvd (Int.dvd_trans h2 (Int.dvd_of_emod_eq_zero h))
theorem JY{a n:Int}(h:dX (a,n)):bZ (iB ((eD a).take (eX n)))=a:=by
 obtain⟨h1,h2,h3⟩:=h;have h4:=Dn h3 h2;have h5:=(jk h2).1;simp only at h1;generalize eX n=k at h4 h5
 rcases(by omega:k=0\/k=1\/k=2\/k=3\/k=4)with rfl|rfl|rfl|rfl|rfl <;>
  simp only [tZ,iB,List.take,List.length,List.replicate,List.append_nil,List.nil_append,List.cons_append,Nat.sub_zero,Nat.sub_self,Nat.reduceSub,Nat.reduceAdd,nU] <;>
  simp at h4<;>omega
theorem Gv{x:Int×Int}(h:dX x):(pW x).length=1+eX x.2:=by
 have:=(jk h.2.1).1;simp [pW,cK];omega
theorem DO:∀(f:Nat) (b:List Int) (g:Nat),b.length<=f->b.length<=g->jp f b=jp g b:=by
 intro f
 induction f with
 | zero=>intro b g h1 h2;cases b with
  | nil=>cases g<;>rfl
  | cons x t=>simp at h1
 | succ f ih =>
  intro b g h1 h2;cases b with
  | nil=>cases g<;>rfl
  | cons x t =>
   cases g with
   | zero=>simp at h2
   | succ g =>
    simp only [jp];simp at h1 h2;rw [ih (t.drop (cE x)) g (by simp;omega) (by simp;omega)]
theorem o0(n:Int)(t:List Int):c8 (n::t)=if t.length<cE n then none else(c8 (t.drop (cE n))).map (λ l=>(bZ (iB (t.take (cE n))),n)::l):=by
 unfold c8;rw [List.length_cons,jp];rw [DO t.length (t.drop (cE n)) _ (by simp) (aL _)]
theorem Gz:c8 []=some []:=rfl
theorem Gy{x:Int×Int}(h:dX x)(b:List Int):c8 (pW x++b)=(c8 b).map (λ l=>x::l):=by
 obtain⟨a,n⟩:=x;have hk:=(jk h.2.1).1;simp only at hk;have h1:cE n=eX n:=by unfold cE;rw [aG];have:=h.2.1;simp only at this;omega
 rw [pW,List.cons_append,o0,h1];have hl:((eD a).take (eX n)).length=eX n:=by simp [cK];omega
 rw [aG (by simp [cK];omega),List.drop_left' hl,List.take_left' hl,JY h]
theorem uy:∀{l:List (Int×Int)},(∀ x∈l,dX x)->c8 (cJ l)=some l:=by
 intro l
 induction l with
 | nil=>intro _;rfl
 | cons x l ih =>
  intro h;rw [cJ,List.flatMap_cons,Gy (h x (by simp)),<-cJ,ih (λ y hy=>h y (by simp [hy]))];rfl
theorem I9{t:List Int}(h:aK t)(hl:t.length<=4):(eD (bZ (iB t))).take t.length=t:=by
 match t,h,hl with
 | [],_,_=>rfl
 | [a],h,_=>simp only [bj]at h;simp only [iB,List.length,List.replicate,List.cons_append,List.nil_append,Nat.reduceAdd,Nat.reduceSub];rw [m8 h.1 (by omega) (by omega) (by omega)];rfl
 | [a,b],h,_=>simp only [bj]at h;simp only [iB,List.length,List.replicate,List.cons_append,List.nil_append,Nat.reduceAdd,Nat.reduceSub];rw [m8 h.1 h.2.1 (by omega) (by omega)];rfl
 | [a,b,c],h,_=>simp only [bj]at h;simp only [iB,List.length,List.replicate,List.cons_append,List.nil_append,Nat.reduceAdd,Nat.reduceSub];rw [m8 h.1 h.2.1 h.2.2.1 (by omega)];rfl
 | [a,b,c,d],h,_=>simp only [bj]at h;simp only [iB,List.length,List.replicate,List.append_nil,Nat.reduceAdd,Nat.reduceSub];rw [m8 h.1 h.2.1 h.2.2.1 h.2.2.2.1];rfl
 | a::b::c::d::e::t,_,hl=>simp at hl
theorem uz:∀(f:Nat) {b:List Int} {l:List (Int×Int)},aK b->jp f b=some l->(∀ x∈l,dX x)->cJ l=b:=by
 intro f
 induction f with
 | zero =>
  intro b l hb hr hn;cases b with
  | nil=>simp [jp]at hr;subst hr;rfl
  | cons x t=>simp [jp]at hr
 | succ f ih =>
  intro b l hb hr hn;cases b with
  | nil=>simp [jp]at hr;subst hr;rfl
  | cons n t =>
   simp only [jp]at hr;split at hr
   ·cases hr
   rename_i hlen;cases hq:jp f (t.drop (cE n))with
   | none=>rw [hq]at hr;cases hr
   | some l' =>
    rw [hq]at hr;simp only [Option.map_some,Option.some.injEq]at hr;subst hr;have hb':=bj.1 hb;have h1:=hn _ (List.mem_cons_self ..);have h2:cE n=eX n:=by unfold cE;rw [aG];have:=h1.2.1;simp only at this;omega
    have h3:=(jk h1.2.1).1;simp only at h3;rw [cJ,List.flatMap_cons,<-cJ,ih (cB hb'.2 _) hq (λ x hx=>hn x (by simp [hx]))];have h4:(t.take (cE n)).length=eX n:=by rw [<-h2];simp;omega
    have h5:=I9 (bU hb'.2 (cE n)) (by rw [h4];exact h3);rw [h4]at h5;rw [pW];simp only;rw [h5,List.cons_append,List.take_append_drop]
theorem Fg:∀{l:List Int},(∀ x∈l,0<=x/\x<=65535)->words (cI l)=l:=by
 intro l
 induction l with
 | nil=>intro _;rfl
 | cons x l ih =>
  intro h;have h1:=h x (by simp);rw [cI,List.flatMap_cons,<-cI];simp only [en,List.cons_append,List.nil_append,words];rw [ih (λ y hy=>h y (by simp [hy]))];have:256*(x / 256 % 256)+x % 256=x:=by omega
  rw [this]
theorem ed:∀(l:List Int),(cI l).length=2*l.length:=by
 intro l
 induction l with
 | nil=>rfl
 | cons x l ih=>rw [cI,List.flatMap_cons,<-cI,List.length_append,ih,nD,List.length_cons];omega
theorem xS:∀(n:Nat) {l:List Int},l.length=2*n->aK l->cI (words l)=l/\(words l).length=n/\(∀ x∈words l,0<=x/\x<=65535):=by
 intro n
 induction n with
 | zero=>intro l h _;have:l=[]:=List.length_eq_zero_iff.1 (by omega);subst this;exact⟨rfl,rfl,by simp [words]⟩
 | succ n ih =>
  intro l h hb
  match l,h,hb with
  | [],h,_=>simp at h
  | [_],h,_=>simp at h;omega
  | x::y::t,h,hb =>
   simp only [List.length_cons]at h;simp only [bj]at hb;obtain⟨h1,h2,h3⟩:=ih (l:=t) (by omega) hb.2.2;simp only [words];refine⟨?_,by simp [h2],?_⟩
   ·rw [cI,List.flatMap_cons,<-cI,h1,zl hb.1 hb.2.1];rfl
   intro z hz;rcases List.mem_cons.1 hz with rfl|hz
   ·have:=hb.1;have:=hb.2.1;omega
   exact h3 z hz
theorem nV:∀(l:List Int),aK (cI l):=by
 intro l
 induction l with
 | nil=>exact gP
 | cons x l ih=>rw [cI,List.flatMap_cons,<-cI];exact cN.2 ⟨qB _,ih⟩
theorem Ek{l:List Int}:cI l=[]↔l=[]:=by
 constructor
 ·intro h;have:=ed l;rw [h]at this;exact List.length_eq_zero_iff.1 (by simp at this;omega)
 rintro rfl;rfl
theorem nO:∀{l:List Int} {n:Int},gx n l->∀ x∈l,n<=x/\x<=65535:=by
 intro l
 induction l with
 | nil=>intro n _ x hx;cases hx
 | cons y l ih =>
  intro n h x hx;obtain⟨h1,h2,h3⟩:=fQ.1 h;rcases List.mem_cons.1 hx with rfl|hx
  ·exact⟨h1,h2⟩
  have:=ih h3 x hx;omega
theorem Ml{p:List Int}(h:j5 p):iq (fD p)=some p:=by
 unfold fD;split
 ·rename_i h1;subst h1;rfl
 rename_i h1;have h2:0<p.length:=List.length_pos_iff.2 h1;have h3:=Fg (l:=p) (λ x hx=>by have:=h.2 x hx;omega);have h4:=h.1;simp only [iq];rw [aS,h3];refine⟨trivial,by omega,by omega,by rw [ed];push_cast;rfl,?_⟩;rw [h3];intro s hs;have:=h.2 s hs;omega
theorem KR{v p:List Int}(hb:aK v)(h:iq v=some p):j5 p/\fD p=v:=by
 match v,hb,h with
 | [],_,h=>simp only [iq,Option.some.injEq]at h;subst h;exact⟨⟨by simp,by simp⟩,rfl⟩
 | [_],_,h=>simp [iq]at h
 | x::n::t,hb,h =>
  simp only [iq]at h;split at h
  ·rename_i hc;obtain⟨h1,h2,h3,h4,h5⟩:=hc;simp only [Option.some.injEq]at h;subst h;simp only [bj]at hb;obtain⟨a,b,c⟩:=xS n.toNat (l:=t) (by omega) hb.2.2;refine⟨⟨by rw [b];omega,λ s hs=>by have:=c s hs;have:=h5 s hs;omega⟩,?_⟩;unfold fD;rw [aG (by intro he;rw [he]at b;simp at b;omega),a,b,h1];have:((n.toNat:Nat):Int)=n:=by omega
   rw [this]
  cases h
theorem JE{m:List Int}(h:iV m)(hn:m≠[]):lU (cI m)=some m:=by
 have h3:=Fg (l:=m) (λ x hx=>by have:=nO h.2 x hx;omega);unfold lU;rw [aS,h3];refine⟨λ e=>hn (Ek.1 e),by rw [ed];omega,by rw [ed];have:=h.1;omega,by rw [h3];exact h.2⟩
theorem Ie{v m:List Int}(hb:aK v)(h:lU v=some m):iV m/\m≠[]/\cI m=v:=by
 unfold lU at h;split at h
 ·rename_i hc;obtain⟨h1,h2,h3,h4⟩:=hc;simp only [Option.some.injEq]at h;subst h;obtain⟨a,b,c⟩:=xS (v.length / 2) (l:=v) (by omega) hb;refine⟨⟨by rw [b];omega,h4⟩,?_,a⟩;intro e;rw [e]at a;exact h1 a.symm
 cases h
theorem DN:∀(f:Nat) (b:List Int) (g:Nat),b.length<=f->b.length<=g->kB f b=kB g b:=by
 intro f
 induction f with
 | zero=>intro b g h1 h2;cases b with
  | nil=>cases g<;>rfl
  | cons x t=>simp at h1
 | succ f ih =>
  intro b g h1 h2
  match b,g with
  | [],0=>rfl
  | [],g+1=>rfl
  | [_],0=>simp at h2
  | [_],g+1=>rfl
  | [_,_],0=>simp at h2
  | [_,_],g+1=>rfl
  | x::y::z::t,0=>simp at h2
  | x::y::z::t,g+1 =>
   simp only [kB];simp at h1 h2;rw [ih (t.drop z.toNat) g (by simp;omega) (by simp;omega)]
theorem oW(x y z:Int)(t:List Int):eU (x::y::z::t)=if t.length<z.toNat then none else(eU (t.drop z.toNat)).map (λ l=>(x,y,t.take z.toNat)::l):=by
 unfold eU;rw [List.length_cons,kB];rw [DN _ (t.drop z.toNat) (t.drop z.toNat).length (by simp;omega) (aL _)]
theorem FF:eU []=some []:=rfl
theorem FE(a:Int×Int×List Int)(b:List Int):eU (lJ a++b)=(eU b).map (λ l=>a::l):=by
 obtain⟨x,y,v⟩:=a;simp only [lJ,List.cons_append];rw [oW];have h:(v.length:Int).toNat=v.length:=by omega
 rw [h,aG (by simp),List.drop_left' rfl,List.take_left' rfl]
theorem Lc(l:List (Int×Int×List Int)):eU (cG l)=some l:=by
 induction l with
 | nil=>rfl
 | cons a l ih=>rw [cG,List.flatMap_cons,<-cG,FE,ih];rfl
theorem En:∀(f:Nat) {b:List Int} {l:List (Int×Int×List Int)},aK b->kB f b=some l->cG l=b/\∀ a∈l,aK a.2.2:=by
 intro f
 induction f with
 | zero =>
  intro b l hb hr;cases b with
  | nil=>simp [kB]at hr;subst hr;exact⟨rfl,by simp⟩
  | cons x t=>simp [kB]at hr
 | succ f ih =>
  intro b l hb hr
  match b,hb,hr with
  | [],_,hr=>simp [kB]at hr;subst hr;exact⟨rfl,by simp⟩
  | [_],_,hr=>simp [kB]at hr
  | [_,_],_,hr=>simp [kB]at hr
  | x::y::z::t,hb,hr =>
   simp only [kB]at hr;simp only [bj]at hb;split at hr
   ·cases hr
   rename_i hlen;cases hq:kB f (t.drop z.toNat)with
   | none=>rw [hq]at hr;cases hr
   | some l' =>
    rw [hq]at hr;simp only [Option.map_some,Option.some.injEq]at hr;subst hr;obtain⟨h1,h2⟩:=ih (cB hb.2.2.2 _) hq;refine⟨?_,?_⟩
    ·rw [cG,List.flatMap_cons,<-cG,h1,lJ];simp only [List.cons_append];rw [List.take_append_drop];have:((t.take z.toNat).length:Int)=z:=by rw [List.length_take];omega
     rw [this]
    intro a ha;rcases List.mem_cons.1 ha with rfl|ha
    ·exact bU hb.2.2.2 _
    exact h2 a ha
theorem ID{u:fI}(h:eW u)(hn:u.nets≠[]):∃ last,cV ⟨fN,0,false,false⟩ (cT u)=.ok ⟨{ u with gone:=[],nets:=[] },last,true,true⟩:=by
 obtain⟨_,hp,hm,h1,h2,_⟩:=h;unfold cT;rw [aG hn];have ep:=Ml hp;have e4:=qS h1;by_cases hz:u.marks=[]
 ·by_cases hd:0<u.med
  ·have e5:=qS h2;refine⟨5,?_⟩;simp [cV,il,jK,ep,hd,hz,e4,e5,cK,fN]
  refine⟨5,?_⟩;have:u.med=0:=by have:=h2.1;omega
  simp [cV,il,jK,ep,hz,e4,cK,fN,this]
 have em:=JE hm hz;by_cases hd:0<u.med
 ·have e5:=qS h2;refine⟨8,?_⟩;simp [cV,il,jK,ep,hd,hz,e4,e5,em,cK,fN]
 refine⟨8,?_⟩;have:u.med=0:=by have:=h2.1;omega
 simp [cV,il,jK,ep,hz,e4,em,cK,fN,this]
structure Il(l:List (Int×Int×List Int))(s:AS):Prop where
 gone:s.u.gone=[]
 nets:s.u.nets=[]
 path:j5 s.u.path
 marks:iV s.u.marks
 pref:iE s.u.pref
 med:iE s.u.med
 is:∃ s2 s4 s5 s8:Bool,
  l=(if s2 then [(64,2,fD s.u.path)]else [])++((if s4 then [(128,4,eD s.u.med)]else [])++((if s5 then [(64,5,eD s.u.pref)]else [])++(if s8 then [(192,8,cI s.u.marks)]else [])))
  /\ s.two=s2/\s.five=s5/\(s2=false->s.u.path=[])/\(s4=decide (0<s.u.med))/\(s5=false->s.u.pref=0)/\(s8=false↔s.u.marks=[])
  /\ s.last=(if s8 then 8 else if s5 then 5 else if s4 then 4 else if s2 then 2 else 0)
theorem Om:Il [] ⟨fN,0,false,false⟩ :=
 ⟨rfl,rfl,⟨by simp [fN],by simp [fN]⟩,⟨by simp [fN],iO _⟩,by simp [fN,iE],by simp [fN,iE],
  false,false,false,false,by simp,rfl,rfl,λ _=>rfl,by simp [fN],λ _=>rfl,by simp [fN],by simp⟩
theorem Fe{v:List Int}(h:v.length=4)(hb:aK v):iE (bZ v)/\eD (bZ v)=v:=by
 match v,h,hb with
 | [a,b,c,d],_,hb =>
  simp only [bj]at hb;obtain⟨ha,hb,hc,hd,_⟩:=hb;exact⟨by rw [nU,iE];omega,m8 ha hb hc hd⟩
theorem Hg{l:List (Int×Int×List Int)}{s:AS}(h:Il l s){f w:Int}{v:List Int}{u:fI}(hb:aK v)
  (hf:f=il w) (hw:s.last<w) (hu:jK s.u w v=some u) (hok:f ≠ -1):Il (l++[(f,w,v)]) ⟨u,w,s.two||w=2,s.five||w=5⟩:=by
 obtain⟨hg,hn,hp,hm,h5,h4,s2,s4,s5,s8,el,e2,e5,z2,z4,z5,z8,hl⟩:=h
 have hw':w=2\/w=4\/w=5\/w=8:=by
  unfold il at hf;split at hf
  ·omega
  split at hf
  ·omega
  split at hf
  ·omega
  exact absurd hf hok
 rcases hw' with rfl|rfl|rfl|rfl
 ·
  have x8:s8=false:=by
   cases hk:s8 with
   | false=>rfl
   | true=>rw [hk]at hl;simp at hl;omega
  subst x8
  have x5:s5=false:=by
   cases hk:s5 with
   | false=>rfl
   | true=>rw [hk]at hl;simp at hl;omega
  subst x5
  have x4:s4=false:=by
   cases hk:s4 with
   | false=>rfl
   | true=>rw [hk]at hl;simp at hl;omega
  have x2:s2=false:=by
   cases hk:s2 with
   | false=>rfl
   | true=>rw [hk]at hl;simp at hl;omega
  subst x4 x2;simp only [jK,aS]at hu;cases hq:iq v with
  | none=>rw [hq]at hu;cases hu
  | some p =>
   rw [hq]at hu;simp only [Option.map_some,Option.some.injEq]at hu;subst hu;obtain⟨q1,q2⟩:=KR hb hq;refine⟨hg,hn,q1,hm,h5,h4,true,false,false,false,?_,by simp,by simpa using e5,by simp,z4,z5,z8,by simp⟩;simp [el,q2,hf,il]
 ·have x8:s8=false:=by
   cases hk:s8 with
   | false=>rfl
   | true=>rw [hk]at hl;simp at hl;omega
  subst x8
  have x5:s5=false:=by
   cases hk:s5 with
   | false=>rfl
   | true=>rw [hk]at hl;simp at hl;omega
  subst x5
  have x4:s4=false:=by
   cases hk:s4 with
   | false=>rfl
   | true=>rw [hk]at hl;simp at hl;omega
  subst x4;simp only [jK]at hu;simp only [show ¬((4:Int)=2)by omega,show ¬((4:Int)=8)by omega,if_false,if_true]at hu;split at hu
  ·rename_i hc;simp only [Option.some.injEq]at hu;subst hu;obtain⟨q1,q2⟩:=Fe hc.1 hb;refine⟨hg,hn,hp,hm,h5,q1,s2,true,false,false,?_,by simpa using e2,by simpa using e5,z2,by simp [hc.2],z5,z8,by simp⟩;simp [el,q2,hf,il]
  cases hu
 ·have x8:s8=false:=by
   cases hk:s8 with
   | false=>rfl
   | true=>rw [hk]at hl;simp at hl;omega
  subst x8
  have x5:s5=false:=by
   cases hk:s5 with
   | false=>rfl
   | true=>rw [hk]at hl;simp at hl;omega
  subst x5;simp only [jK]at hu;simp only [show ¬((5:Int)=2)by omega,show ¬((5:Int)=8)by omega,show ¬((5:Int)=4)by omega,if_false]at hu;split at hu
  ·rename_i hc;simp only [Option.some.injEq]at hu;subst hu;obtain⟨q1,q2⟩:=Fe hc hb;refine⟨hg,hn,hp,hm,q1,h4,s2,s4,true,false,?_,by simpa using e2,by simp,z2,z4,by simp,z8,by simp⟩;simp [el,q2,hf,il]
  cases hu
 have x8:s8=false:=by
  cases hk:s8 with
  | false=>rfl
  | true=>rw [hk]at hl;simp at hl;omega
 subst x8;simp only [jK]at hu;simp only [show ¬((8:Int)=2)by omega,if_false,if_true]at hu;cases hq:lU v with
 | none=>rw [hq]at hu;cases hu
 | some m =>
  rw [hq]at hu;simp only [Option.map_some,Option.some.injEq]at hu;subst hu;obtain⟨q1,q2,q3⟩:=Ie hb hq;refine⟨hg,hn,hp,q1,h5,h4,s2,s4,s5,true,?_,by simpa using e2,by simpa using e5,z2,z4,z5,by simp [q2],by simp⟩;simp [el,q3,hf,il]
theorem Kh:∀{l l0:List (Int×Int×List Int)} {s s':AS},Il l0 s->(∀ a∈l,aK a.2.2)->(∀ a∈l,0<=a.1)->cV s l=.ok s'->Il (l0++l) s':=by
 intro l
 induction l with
 | nil=>intro l0 s s' h _ _ hr;simp only [cV,Except.ok.injEq]at hr;subst hr;simpa using h
 | cons a l ih =>
  obtain⟨f,w,v⟩:=a;intro l0 s s' h hb h0 hr;simp only [cV]at hr;split at hr
  ·cases hr
  rename_i hc;cases hq:jK s.u w v with
  | none=>rw [hq]at hr;cases hr
  | some u =>
   rw [hq]at hr;have h1:(0:Int)<=f:=h0 _ (List.mem_cons_self ..);have h2:=Hg h (hb _ (List.mem_cons_self ..)) (f:=f) (w:=w) (v:=v) (by omega) (by omega) hq (by omega);have:=ih h2 (λ a ha=>hb a (by simp [ha])) (λ a ha=>h0 a (by simp [ha])) hr;simpa using this
theorem AK{l:List (Int×Int)}(h:∀ x∈l,dX x):aK (cJ l):=by
 induction l with
 | nil=>exact gP
 | cons x l ih =>
  rw [cJ,List.flatMap_cons,<-cJ];refine cN.2 ⟨?_,ih (λ y hy=>h y (by simp [hy]))⟩;have:=(h x (by simp)).2.1;rw [pW];exact bj.2 ⟨by omega,bU (m9 _) _⟩
theorem k7{l:List (Int×Int)}(h:∀ x∈l,dX x):(cJ l).length<=5*l.length:=by
 induction l with
 | nil=>simp [cJ]
 | cons x l ih =>
  have h1:=ih (λ y hy=>h y (by simp [hy]));have h2:=Gv (h x (by simp));have h3:=(jk (h x (by simp)).2.1).1;rw [cJ,List.flatMap_cons,<-cJ,List.length_append,h2,List.length_cons];omega
theorem tB(a:Int×Int×List Int):(lJ a).length=3+a.2.2.length:=by simp only [lJ,List.length_cons];omega
theorem qZ{p:List Int}(h:j5 p):(fD p).length<=26:=by
 unfold fD;split
 ·simp
 have:=h.1;simp [ed];omega
theorem qL{u:fI}(h:eW u):(cG (cT u)).length<=62:=by
 obtain⟨_,hp,hm,_⟩:=h;unfold cT;have h1:=qZ hp;have h2:=hm.1;split
 ·simp [cG]
 split<;>split<;>simp [cG,tB,cK,ed]<;>omega
theorem Hw(n:Nat)(h:n<65536)(t:List Int):∃ x y,en n++t=x::y::t/\(256*x+y).toNat=n:=by
 refine⟨_,_,rfl,by omega⟩
theorem sH{u:fI}(h:eW u):jt (jv u)=.ok u:=by
 have hall:=h;obtain⟨⟨hlen,hno,hnd⟩,hp,hm,h5,h4,hz⟩:=h;have hg:∀ x∈u.gone,dX x:=λ x hx=>hno x (by simp [hx])
 have hn:∀ x∈u.nets,dX x:=λ x hx=>hno x (by simp [hx])
 have l1:=k7 hg;have l2:=qL hall;simp only [List.length_append]at hlen;unfold jv;simp only;generalize hG:cJ u.gone=G at l1;generalize hA:cG (cT u)=A at l2;obtain⟨x,y,e1,e2⟩:=Hw G.length (by omega) (G++(en A.length++(A++cJ u.nets)));rw [e1];simp only [jt];rw [e2];rw [aG (by simp [nD])]
 have d1:(G++(en A.length++(A++cJ u.nets))).drop (G.length+2)=A++cJ u.nets:=by
  rw [<-List.drop_drop,List.drop_left' rfl,List.drop_left' (nD _)]
 have d2:bZ (((G++(en A.length++(A++cJ u.nets))).drop G.length).take 2)=A.length:=by
  rw [List.drop_left' rfl,List.take_left' (nD _),KH (by omega)]
 rw [d1,d2];simp only [Int.toNat_natCast];rw [aG (by simp),List.take_left' rfl,List.take_left' rfl,List.drop_left' rfl,<-hG,<-hA,uy hg,Lc,uy hn];simp only;by_cases hnz:u.nets=[]
 ·have hz:=hz.resolve_left (λ hh=>hh hnz);have ha:cT u=[]:=by unfold cT;rw [aS hnz]
  rw [ha];simp only [cV,hnz,ne_eq,not_true_eq_false,false_and,and_false,or_false,if_false];rw [aS (by rw [<-hnz];exact⟨by simpa using hlen,hno,hnd⟩)];obtain⟨z1,z2,z3,z4⟩:=hz;cases u;simp_all [fN]
 obtain⟨last,hq⟩:=ID hall hnz;rw [hq];simp only [hnz,ne_eq,not_false_eq_true,true_and,not_true_eq_false,false_and,or_false,if_false,and_self];rw [aS ⟨by simpa using hlen,hno,hnd⟩]
theorem Lw{b:List Int}{u:fI}(hb:aK b)(h:jt b=.ok u):eW u/\jv u=b:=by
 match b,hb,h with
 | [],_,h=>cases h
 | [_],_,h=>cases h
 | x::y::t,hb,h =>
  simp only [jt]at h;simp only [bj]at hb;obtain⟨hx,hy,ht⟩:=hb;split at h
  ·cases h
  rename_i c1;split at h
  ·cases h
  rename_i c2;generalize hn:(256*x+y).toNat=n at h c1 c2;generalize hm:(bZ ((t.drop n).take 2)).toNat=m at h c2;split at h
  ·rename_i _ _ _ gone l there q1 q2 q3;split at h
   ·cases h
   rename_i s q4;split at h
   ·cases h
   rename_i c3;split at h
   ·rename_i c4;simp only [Except.ok.injEq]at h;subst h;have hr:=cB ht (n+2);obtain⟨a1,a2⟩:=En _ (bU hr m) q2;have g1:=uz _ (bU ht n) q1 (λ x hx=>c4.2.1 x (by simp [hx]));have g2:=uz _ (cB hr m) q3 (λ x hx=>c4.2.1 x (by simp [hx]))
    have hpos:∀ a∈l,(0:Int)<=a.1:=by
     intro a ha
     have h1:a.1∈cG l:=by
      rw [cG,List.mem_flatMap];exact⟨a,ha,by simp [lJ]⟩
     rw [a1]at h1;exact(bU hr m _ h1).1
    have hs:=Kh Om a2 hpos q4;rw [List.nil_append]at hs;obtain⟨hg,hn',hp,hmk,h5,h4,s2,s4,s5,s8,el,e2,e5,z2,z4,z5,z8,hl⟩:=hs
    have hmid:∃ p q,(t.drop n).take 2=[p,q]/\(0<=p/\p<=255)/\(0<=q/\q<=255):=by
     have h1:((t.drop n).take 2).length=2:=by simp;omega
     match hd:(t.drop n).take 2,h1 with
     | [p,q],_ =>
      have h2:=bU (cB ht n) 2;rw [hd]at h2;simp only [bj]at h2;exact⟨p,q,rfl,h2.1,h2.2.1⟩
    obtain⟨p,q,hpq,hp',hq'⟩:=hmid;rw [hpq,nE]at hm;have lt1:(t.take n).length=n:=by simp;omega
    have lt2:((t.drop (n+2)).take m).length=m:=by simp;simp at c2;omega
    have bits:∀(l':List (Int×Int×List Int)),cG l'=(t.drop (n+2)).take m ->
      en (cJ gone).length++(cJ gone++(en (cG l').length++(cG l'++cJ there)))=x::y::t:=by
     intro l' hl';rw [g1,g2,hl',lt1,lt2];have i1:((n:Nat):Int)=256*x+y:=by omega
     have i2:((m:Nat):Int)=256*p+q:=by omega
     rw [i1,i2,zl hx hy,zl hp' hq',List.take_append_drop,<-hpq]
     have:(t.drop n).take 2++t.drop (n+2)=t.drop n:=by
      rw [<-List.drop_drop];exact List.take_append_drop ..
     rw [this,List.take_append_drop];rfl
    by_cases hz:there=[]
    ·have hl0:l=[]:=by
      by_cases hh:l=[]
      ·exact hh
      exact absurd (Or.inr ⟨hz,hh⟩) c3
     rw [hl0]at el
     have f2:s2=false:=by
      cases hk:s2 with
      | false=>rfl
      | true=>rw [hk]at el;simp at el
     have f4:s4=false:=by
      cases hk:s4 with
      | false=>rfl
      | true=>rw [hk]at el;simp at el
     have f5:s5=false:=by
      cases hk:s5 with
      | false=>rfl
      | true=>rw [hk]at el;simp at el
     have f8:s8=false:=by
      cases hk:s8 with
      | false=>rfl
      | true=>rw [hk]at el;simp at el
     have y1:=z2 f2;have y2:=z5 f5;have y3:=z8.1 f8
     have y4:s.u.med=0:=by
      rw [f4]at z4;have h1:=h4.1;have:¬(0<s.u.med):=by simpa using z4.symm
      omega
     refine⟨⟨c4,hp,hmk,h5,h4,Or.inr ⟨y1,y3,y2,y4⟩⟩,?_⟩;have:cT { s.u with gone:=gone,nets:=there }=l:=by unfold cT;simp [hz,hl0]
     unfold jv;simp only [this];exact bits l a1
    have h25:s.two=true/\s.five=true:=by
     by_cases hh:s.two=true/\s.five=true
     ·exact hh
     exact absurd (Or.inl ⟨hz,hh⟩) c3
    refine⟨⟨c4,hp,hmk,h5,h4,Or.inl hz⟩,?_⟩
    have:cT { s.u with gone:=gone,nets:=there }=l:=by
     unfold cT;simp only [hz,if_false];rw [el];have t2:s2=true:=e2▸h25.1;have t5:s5=true:=e5▸h25.2;subst t2 t5 z4;by_cases hmz:s.u.marks=[]
     ·have:=z8.2 hmz;subst this;simp [hmz]
     have:s8=true:=by
      cases s8
      ·exact absurd (z8.1 rfl) hmz
      rfl
     subst this;simp [hmz]
    unfold jv;simp only [this];exact bits l a1
   cases h
  cases h
theorem sG{f w:Int}{v:List Int}(hf:0<=f/\f<=255)(hw:0<=w/\w<=255)(hl:v.length<=255)(hv:aK v):aK (lJ (f,w,v)):=by
 simp only [lJ];exact bj.2 ⟨hf,bj.2 ⟨hw,bj.2 ⟨by omega,hv⟩⟩⟩
theorem Fz{u:fI}(hp:u.path.length<=12)(hm:u.marks.length<=8):aK (cG (cT u)):=by
 have b2:aK (lJ (64,2,fD u.path)):=by
  refine sG (by omega) (by omega) ?_ ?_
  ·unfold fD;split
   ·simp
   simp [ed];omega
  unfold fD;split
  ·exact gP
  exact bj.2 ⟨by omega,bj.2 ⟨by omega,nV _⟩⟩
 have b4:aK (lJ (128,4,eD u.med)):=sG (by omega) (by omega) (by simp [cK]) (m9 _);have b5:aK (lJ (64,5,eD u.pref)):=sG (by omega) (by omega) (by simp [cK]) (m9 _);have b8:aK (lJ (192,8,cI u.marks)):=sG (by omega) (by omega) (by simp [ed];omega) (nV _);unfold cT;split
 ·exact gP
 split<;>split<;>simp only [cG,List.flatMap_cons,List.flatMap_append,List.flatMap_nil,List.append_nil,List.nil_append,cN]<;>simp only [b2,b4,b5,b8,and_self]
theorem EF{u:fI}(h:eW u):aK (jv u):=by
 obtain⟨⟨_,hno,_⟩,hp,hm,_⟩:=h;unfold jv;refine cN.2 ⟨qB _,cN.2 ⟨AK (λ x hx=>hno x (by simp [hx])),cN.2 ⟨qB _,cN.2 ⟨?_,AK (λ x hx=>hno x (by simp [hx]))⟩⟩⟩⟩;refine Fz ?_ ?_
 ·exact hp.1
 exact hm.1
def cl(b:List Int):fI:=match jt b with|.ok u=>u|.error _=>fN
def lP(b:List Int):Int:=match jt b with|.ok _=>0|.error e=>e
theorem wt:∀{l:List (Int×Int×List Int)} {s:AS} {e:Int},cV s l=.error e->6<=e/\e<=10:=by
 intro l
 induction l with
 | nil=>intro s e h;cases h
 | cons a l ih =>
  obtain⟨f,w,v⟩:=a;intro s e h;simp only [cV]at h;split at h
  ·simp only [Except.error.injEq]at h;omega
  split at h
  ·simp only [Except.error.injEq]at h;omega
  exact ih h
theorem IV{b:List Int}{e:Int}(h:jt b=.error e):6<=e/\e<=10:=by
 match b,h with
 | [],h=>simp only [jt,Except.error.injEq]at h;omega
 | [_],h=>simp only [jt,Except.error.injEq]at h;omega
 | x::y::t,h =>
  simp only [jt]at h;split at h
  ·simp only [Except.error.injEq]at h;omega
  split at h
  ·simp only [Except.error.injEq]at h;omega
  split at h
  ·split at h
   ·rename_i q4;simp only [Except.error.injEq]at h;subst h;exact wt q4
   split at h
   ·simp only [Except.error.injEq]at h;omega
   split at h
   ·cases h
   simp only [Except.error.injEq]at h;omega
  simp only [Except.error.injEq]at h;omega
def aw(c n:Int):Int:=(if c<0 then -(c+1)else c) % n
theorem aN{c n:Int}(h:0<n):0<=aw c n/\aw c n<n:=by
 unfold aw;exact⟨Int.emod_nonneg _ (by omega),Int.emod_lt_of_pos _ h⟩
def KQ(k:Int):Int:=if k=0 then 8 else if k=1 then 16 else if k=2 then 24 else if k=3 then 32 else if k=4 then 0 else if k=5 then 9 else if k=6 then 17 else 25
theorem NT(k:Int):0<=KQ k/\KQ k<=32:=by unfold KQ;repeat' split<;>omega
def fw(n:Int):Int:=167772160+aw (n.tdiv 8) 3*65536+aw (n.tdiv 24) 2*256+aw (n.tdiv 48) 2
theorem iW(n:Int):167772160<=fw n/\fw n<=167903489:=by
 have h1:=aN (c:=n.tdiv 8) (n:=3) (by omega);have h2:=aN (c:=n.tdiv 24) (n:=2) (by omega);have h3:=aN (c:=n.tdiv 48) (n:=2) (by omega);unfold fw;omega
def fO(n:Int):Int×Int:=(fw n / iC (KQ (aw n 8))*iC (KQ (aw n 8)),KQ (aw n 8))
theorem J3(n:Int):0<iC n:=by unfold iC;exact Int.pow_pos (by omega)
theorem fj{a p:Int}(h:0<p)(ha:0<=a):0<=a / p*p/\a / p*p<=a/\a / p*p % p=0:=by
 have h1:=Int.ediv_nonneg ha (Int.le_of_lt h);have h2:=Int.ediv_mul_le a (b:=p) (by omega);exact⟨Int.mul_nonneg h1 (by omega),h2,Int.mul_emod_left ..⟩
theorem L4(n:Int):dX (fO n):=by
 have h1:=NT (aw n 8);have h3:=iW n;have h4:=fj (J3 (KQ (aw n 8))) (a:=fw n) (by omega);unfold fO;exact⟨⟨h4.1,by have:=h4.2.1;simp only;omega⟩,h1,h4.2.2⟩
theorem L3(n:Int):fO n≠(1,32):=by
 intro h;have h3:=iW n;unfold fO at h;simp only [Prod.mk.injEq]at h;obtain⟨h1,h2⟩:=h;rw [h2]at h1;have:iC 32=1:=rfl;rw [this]at h1;omega
def fE(l:List Int)(most:Nat):List Int:=(l.take most).map (λ x=>1+aw x 3)
theorem J0(l:List Int){most:Nat}(h:most<=12):j5 (fE l most):=by
 unfold fE;refine⟨by simp;omega,λ s hs=>?_⟩;obtain⟨x,_,rfl⟩:=List.mem_map.1 hs;have:=aN (c:=x) (n:=3) (by omega);omega
def j3:Int->List Int->List Int
 | _,[]=>[]
 | n,x::l=>(n+1+aw x 3)::j3 (n+1+aw x 3) l
def cU(l:List Int)(most:Nat):List Int:=j3 (-1) (l.take most)
theorem ur:∀(l:List Int) (n:Int),(j3 n l).length=l.length:=by
 intro l
 induction l with
 | nil=>intro n;rfl
 | cons x l ih=>intro n;simp [j3,ih]
theorem yB:∀(l:List Int) (n:Int),n+3*l.length<=65535->gx (n+1) (j3 n l):=by
 intro l
 induction l with
 | nil=>intro n _;exact iO _
 | cons x l ih =>
  intro n h;have:=aN (c:=x) (n:=3) (by omega);simp only [List.length_cons]at h;exact fQ.2 ⟨by omega,by omega,ih _ (by omega)⟩
theorem Gr(l:List Int){most:Nat}(h:most<=8):iV (cU l most):=by
 unfold cU;refine⟨by rw [ur];simp;omega,?_⟩;have h1:=yB (l.take most) (-1) (by have:(l.take most).length<=most:=List.length_take_le _ _;omega);simpa using h1
theorem AD:∀(l:List Int) (n x:Int),j3 n (l++[x])=j3 n l++[(j3 n l).getLastD n+1+aw x 3]:=by
 intro l
 induction l with
 | nil=>intro n x;rfl
 | cons y l ih =>
  intro n x;simp only [List.cons_append,j3,ih];cases hm:j3 (n+1+aw y 3) l with
  | nil=>simp
  | cons a b=>simp [List.getLast?_cons]
def cF(l:List Int)(i:Nat):Int:=l[i]?.getD 0
def uB(gone nets:List Int)(i:Nat):Int×Int:=if i<gone.length then fO (cF gone i)else fO (cF nets (i-gone.length))
def GU(gone nets:List Int)(i:Nat)(s:List (Int×Int)×List (Int×Int)):List (Int×Int)×List (Int×Int) :=
 if uB gone nets i∈s.1\/uB gone nets i∈s.2 then s
 else if i<gone.length then(s.1++[uB gone nets i],s.2)else(s.1,s.2++[uB gone nets i])
def gS(gone nets:List Int):Nat->List (Int×Int)×List (Int×Int)
 | 0=>([],[])
 | k+1=>GU gone nets k (gS gone nets k)
theorem Mc(gone nets:List Int)(i:Nat):dX (uB gone nets i)/\uB gone nets i≠(1,32):=by
 unfold uB;split<;>exact⟨L4 _,L3 _⟩
theorem Bd(gone nets:List Int)(k:Nat) :
  ((gS gone nets k).1++(gS gone nets k).2).Nodup/\((gS gone nets k).1.length+(gS gone nets k).2.length<=k) /\
  (∀ x∈(gS gone nets k).1++(gS gone nets k).2,dX x/\x≠(1,32)):=by
 induction k with
 | zero=>simp [gS]
 | succ k ih =>
  obtain⟨h1,h2,h3⟩:=ih;simp only [gS,GU];generalize gS gone nets k=s at h1 h2 h3;have hx:=Mc gone nets k;generalize uB gone nets k=x at hx;split
  ·exact⟨h1,by omega,h3⟩
  rename_i hn;rw [List.nodup_append]at h1;split
  ·refine⟨?_,by simp;omega,?_⟩
   ·simp only [List.nodup_append,List.mem_append,List.mem_singleton]
    grind
   intro y hy;simp only [List.mem_append,List.mem_singleton]at hy;rcases hy with(hy|rfl)|hy
   ·exact h3 y (by simp [hy])
   ·exact hx
   exact h3 y (by simp [hy])
  refine⟨?_,by simp;omega,?_⟩
  ·simp only [List.nodup_append,List.mem_append,List.mem_singleton]
   grind
  intro y hy;simp only [List.mem_append,List.mem_singleton]at hy;rcases hy with hy|(hy|rfl)
  ·exact h3 y (by simp [hy])
  ·exact h3 y (by simp [hy])
  exact hx
