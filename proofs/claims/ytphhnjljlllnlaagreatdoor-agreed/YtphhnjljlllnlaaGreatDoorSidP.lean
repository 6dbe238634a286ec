/- part -/
import Derived.Test.YtphhnjljlllnlaaGreatDoorKnA
namespace Go.Proofs.YtphhnjljlllnlaaGreatDoor
open Go.RowKit
theorem o9{ts:List ak}{tm:RS->Option (RS×Option bh)}(h0:∀ st r,tm st=some r->r.1.defs=st.defs):∀(n:Nat) (st:RS) (a:Option bh) (r:RS×Option bh),jF ts tm n st a=some r->r.1.defs=st.defs
 | 0,_,_,_,h=>by cases h
 | n+1,st,a,r,h=>by
  rw [jF]at h;split at h
  ·split at h
   ·cases h
   rename_i s b hx;rw [o9 h0 n _ _ r h];exact h0 _ _ hx
  split at h
  ·split at h
   ·cases h
   rename_i s b hx;rw [o9 h0 n _ _ r h];exact h0 _ _ hx
  cases h;rfl
theorem vf{ts:List ak}{tm:RS->Option (RS×Option bh)}{n:Nat}(h0:∀ st r,tm st=some r->r.1.defs=st.defs){st:RS}{r:RS×Option bh}(h:nB ts tm n st=some r):r.1.defs=st.defs:=by
 unfold nB at h;split at h
 ·cases h
 rename_i s a hx;rw [o9 h0 n _ _ r h];exact h0 _ _ hx
theorem iN(ts:List ak)(k:Int)(st:RS):(ft ts k st).defs=st.defs:=by
 show(aC ts k (if st.depth=8 then dL ts st else st)).1.defs=_;rw [aU];split<;>rfl
theorem mr(ts:List ak)(k:Int)(st:RS):(ka ts k st).defs=st.defs:=by
 show(aC ts k st).1.defs=_;rw [aU]
theorem sf(ts:List ak)(n:Nat):∀(f:Nat) (st:RS) (r:RS×Option bh),fT ts n f st=some r->r.1.defs=st.defs
 | 0,_,_,h=>by cases h
 | f+1,st,r,h=>by
  rw [fT]at h;split at h
  ·cases h;rfl
  split at h
  ·cases h;rfl
  split at h
  ·cases h;rfl
  split at h
  ·cases h;rfl
  split at h
  ·split at h
   ·cases h
   rename_i s a hx;cases h
   show(ka ts 34 s).defs=_;have h1:=vf (sf ts n f) hx;dsimp only at h1;rw [mr,h1,iN]
  cases h;rfl
theorem lA{ts:List ak}{st:RS}{r:RS×Option bh}(h:iQ ts st=some r):r.1.defs=st.defs:=vf (sf ts 100 20) h
theorem pI{ts:List ak}{st:RS}{r:RS×Option aR}(h:eB ts (iQ ts) st=some r):r.1.defs=st.defs:=by
 unfold eB at h;split at h
 ·cases h
 rename_i s a hx;have h1:=lA hx;dsimp only at h1;split at h
 ·split at h
  ·cases h
  rename_i s2 b hy;cases h
  have h2:=lA hy;dsimp only at h2 ⊢;rw [h2];exact h1
 split at h
 ·cases h
 rename_i s2 b hy;cases h
 have h2:=lA hy;dsimp only at h2 ⊢;rw [h2,aU];exact h1
inductive Ct where
 | net
 | way
 | mrk (n:Nat)
 | len (n:Nat)
 | prf (n:Nat)
 | med (n:Nat)
 | not (a:Ct)
 | brk (a:Ct)
 | and (a b:Ct)
 | or (a b:Ct)
def Ct.pc:Ct->List Pc->List Pc
 | .net,R=>fH 16::.sp::fH 17::.sp::r7::R
 | .way,R=>fH 18::.sp::fH 19::.sp::xP::R
 | .mrk n,R=>fH 20::.sp::sJ n::R
 | .len n,R=>fH 12::.sp::gN 60::.sp::sJ n::R
 | .prf n,R=>fH 4::.sp::gN 61::.sp::sJ n::R
 | .med n,R=>fH 5::.sp::gN 43::.sp::sJ 1::.sp::gN 60::.sp::fH 4::.sp::gN 43::.sp::sJ n::R
 | .not a,R=>fH 15::.sp::a.pc R
 | .brk a,R=>gN 91::.sp::a.pc (.sp::gN 93::R)
 | .and a b,R=>gN 91::.sp::a.pc (.sp::fH 14::.sp::b.pc (.sp::gN 93::R))
 | .or a b,R=>gN 91::.sp::a.pc (.sp::fH 13::.sp::b.pc (.sp::gN 93::R))
def Ct.tk:Ct->List ak->List ak
 | .net,R=>wT 16::wT 17::M4::R
 | .way,R=>wT 18::wT 19::M5::R
 | .mrk n,R=>wT 20::nT n::R
 | .len n,R=>wT 12::sT 60::nT n::R
 | .prf n,R=>wT 4::sT 61::nT n::R
 | .med n,R=>wT 5::sT 43::nT 1::sT 60::wT 4::sT 43::nT n::R
 | .not a,R=>wT 15::a.tk R
 | .brk a,R=>sT 91::a.tk (sT 93::R)
 | .and a b,R=>sT 91::a.tk (wT 14::b.tk (sT 93::R))
 | .or a b,R=>sT 91::a.tk (wT 13::b.tk (sT 93::R))
def Ct.n:Ct->Nat
 | .net=>3
 | .way=>3
 | .mrk _=>2
 | .len _=>3
 | .prf _=>3
 | .med _=>7
 | .not a=>a.n+1
 | .brk a=>a.n+2
 | .and a b=>a.n+b.n+3
 | .or a b=>a.n+b.n+3
def Ct.h:Ct->Nat
 | .not a=>a.h+1
 | .brk a=>a.h+1
 | .and a b=>max a.h b.h+1
 | .or a b=>max a.h b.h+1
 | _=>0
def Ct.ok:Ct->Prop
 | .net=>True
 | .way=>True
 | .mrk n=>n<=9
 | .len n=>n<=9
 | .prf n=>n<=9
 | .med n=>n<=9
 | .not a=>a.ok
 | .brk a=>a.ok
 | .and a b=>a.ok/\b.ok
 | .or a b=>a.ok/\b.ok
noncomputable def Ct.M(S:dU)(W:aP):Ct->aR
 | .net=>qW S
 | .way=>wW W
 | .mrk n=>nN (n:Int)
 | .len n=>H7 Gn (ie (n:Int))
 | .prf n=>Lx oJ (ie (n:Int))
 | .med n=>H7 (iu Dl (ie 1) 1) (iu oJ (ie (n:Int)) 1)
 | .not a=>Dx (a.M S W)
 | .brk a=>a.M S W
 | .and a b=>tn (a.M S W) (b.M S W)
 | .or a b=>Ia (a.M S W) (b.M S W)
theorem Ct.pc_T:∀(a:Ct) (R:List Pc),p7 (a.pc R)=a.tk (p7 R)
 | .net,_=>rfl
 | .way,_=>rfl
 | .mrk _,_=>rfl
 | .len _,_=>rfl
 | .prf _,_=>rfl
 | .med _,_=>rfl
 | .not a,R=>by show wT 15::p7 (a.pc R)=_;rw [a.pc_T];rfl
 | .brk a,R=>by show sT 91::p7 (a.pc _)=_;rw [a.pc_T];rfl
 | .and a b,R=>by
  show sT 91::p7 (a.pc _)=_;rw [a.pc_T];show sT 91::a.tk (wT 14::p7 (b.pc _))=_;rw [b.pc_T];rfl
 | .or a b,R=>by
  show sT 91::p7 (a.pc _)=_;rw [a.pc_T];show sT 91::a.tk (wT 13::p7 (b.pc _))=_;rw [b.pc_T];rfl
theorem NZ:ew ((91:UInt8).toNat:Int)=31:=by decide +kernel
theorem Mw:ew ((93:UInt8).toNat:Int)=32:=by decide +kernel
theorem Ol:ew ((60:UInt8).toNat:Int)=40:=by decide +kernel
theorem NS:ew ((61:UInt8).toNat:Int)=26:=by decide +kernel
theorem Kf:ew ((59:UInt8).toNat:Int)=27:=by decide +kernel
theorem Hb:ew ((123:UInt8).toNat:Int)=29:=by decide +kernel
theorem vY:ew ((125:UInt8).toNat:Int)=30:=by decide +kernel
def sP(R:List Pc):Prop:=wQ (aD R)/\Aq (aD R)
theorem kc(R:List Pc):sP (.sp::R):=cP _
theorem Ct.pc_ok:∀(a:Ct) (R:List Pc),a.ok->fY R->sP R->fY (a.pc R)
 | .net,_,_,h,hs=>fB (by decide) (fB (by decide) (yI h hs.1) (cP _).1) (cP _).1
 | .way,_,_,h,hs=>fB (by decide) (fB (by decide) (AY h hs.1) (cP _).1) (cP _).1
 | .mrk n,_,ho,h,hs=>fB (by decide) (sy (gG ho (by decide)) h hs.2) (cP _).1
 | .len n,_,ho,h,hs=>fB (by decide) (jz (by rw [Ol];decide) (sy (gG ho (by decide)) h hs.2)) (cP _).1
 | .prf n,_,ho,h,hs=>fB (by decide) (jz (by rw [NS];decide) (sy (gG ho (by decide)) h hs.2)) (cP _).1
 | .med n,_,ho,h,hs=>fB (by decide) (jz (by rw [M7];decide) (sy (by decide) (jz (by rw [Ol];decide) (fB (by decide) (jz (by rw [M7];decide) (sy (gG ho (by decide)) h hs.2)) (cP _).1)) (cP _).2)) (cP _).1
 | .not a,R,ho,h,hs=>fB (by decide) (a.pc_ok R ho h hs) (cP _).1
 | .brk a,_,ho,h,_=>jz (by rw [NZ];decide) (a.pc_ok _ ho (jz (by rw [Mw];decide) h) (kc _))
 | .and a b,_,ho,h,_=>jz (by rw [NZ];decide) (a.pc_ok _ ho.1 (fB (by decide) (b.pc_ok _ ho.2 (jz (by rw [Mw];decide) h) (kc _)) (cP _).1) (kc _))
 | .or a b,_,ho,h,_=>jz (by rw [NZ];decide) (a.pc_ok _ ho.1 (fB (by decide) (b.pc_ok _ ho.2 (jz (by rw [Mw];decide) h) (kc _)) (cP _).1) (kc _))
def tg(ts T:List ak):Prop:=∀ k,D8 ts k=D8 T k
theorem tg.pcs(L:List Pc):tg (fP 0 L) (p7 L):=λ k=>Mn L k
theorem aT{ts T:List ak}(h:tg ts T){k:Nat}{t:ak}{r:List ak}(hd:T.drop k=t::r):D8 ts k=(t.kind,t.text,t.number,t.addr,t.len)/\T.drop (k+1)=r:=by
 have e:T[k]?=some t:=by
  have:=jC (·[0]?) hd;simpa [List.getElem?_drop]using this
 refine⟨?_,by rw [<-List.drop_drop,hd];rfl⟩;rw [h k];unfold D8;rw [e];rfl
theorem pY{ts T:List ak}(h:tg ts T){k:Nat}{t:ak}{r:List ak}(hd:T.drop k=t::r):ce ts k=t.kind:=aF (aT h hd).1
def dO{α:Type}(Ds:List i8)(ts:List ak)(rd:RS->Option (RS×α))(d:Int)(k k':Nat)(m:α):Prop:=∀ st,cR ts st d k->st.defs=Ds->∃ st',rd st=some (st',m)/\cR ts st' d k'/\st'.defs=Ds
def M6(k:Int):Prop:=k≠38/\k≠39
theorem Nn{Ds:List i8}{ts:List ak}{f n:Nat}{d:Int}{k k':Nat}{c:aR}(h:bX ts (eB ts (iQ ts)) d k k' (some c))(e:ce ts k=9\/ce ts k=10\/ce ts k=17):dO Ds ts (gw ts n (iQ ts) (f+1)) d k k' (some c):=λ st g hd=>by
 obtain⟨s,e1,g1⟩:=h st g;refine⟨s,?_,g1,(pI e1).trans hd⟩;rw [gw,g.kind,aG (by omega),aG (by omega),aG (by omega),aG (by omega),aG (by omega)];exact e1
theorem zR{Ds:List i8}{ts:List ak}{q:Int}{m:aR->aR->aR}{rd:RS->Option (RS×Option aR)}{d:Int}{k k1 k' n:Nat}{a b:aR}(h1:dO Ds ts rd d k k1 (some a))(e1:ce ts k1=q)(h2:dO Ds ts rd d (k1+1) k' (some b))(e2:ce ts k'≠q):dO Ds ts (kq ts q m rd (n+2)) d k k' (some (m a b)):=λ st g hd=>by
 obtain⟨s1,a1,g1,d1⟩:=h1 st g hd;obtain⟨s2,a2,g2,d2⟩:=h2 _ g1.go d1;refine⟨s2,?_,g2,d2⟩;rw [kq,a1];dsimp only;rw [iD,g1.kind,aS e1,a2];dsimp only;rw [iD,g2.kind,aG e2];rfl
theorem mR{Ds:List i8}{ts:List ak}{q:Int}{m:aR->aR->aR}{rd:RS->Option (RS×Option aR)}{d:Int}{k k' n:Nat}{a:aR}(h1:dO Ds ts rd d k k' (some a))(e1:ce ts k'≠q):dO Ds ts (kq ts q m rd (n+1)) d k k' (some a):=λ st g hd=>by
 obtain⟨s1,a1,g1,d1⟩:=h1 st g hd;refine⟨s1,?_,g1,d1⟩;rw [kq,a1];dsimp only;rw [iD,g1.kind,aG e1]
theorem nK{Ds:List i8}{ts:List ak}{nt:RS->Option (RS×Option aR)}{d:Int}{k k':Nat}{a:aR}(h1:dO Ds ts nt d k k' (some a))(e1:ce ts k'≠18)(e2:ce ts k'≠19):dO Ds ts (jW ts nt 100) d k k' (some a) :=
 mR (n:=99) (mR (n:=99) h1 e2) e1
theorem FN{Ds:List i8}{ts:List ak}{nt:RS->Option (RS×Option aR)}{d:Int}{k k1 k':Nat}{a b:aR}(h1:dO Ds ts nt d k k1 (some a))(e0:ce ts k1=19)(h2:dO Ds ts nt d (k1+1) k' (some b))(e1:ce ts k'≠18)(e2:ce ts k'≠19):dO Ds ts (jW ts nt 100) d k k' (some (tn a b)) :=
 mR (n:=99) (zR (n:=98) h1 e0 h2 e2) e1
theorem Aa{Ds:List i8}{ts:List ak}{nt:RS->Option (RS×Option aR)}{d:Int}{k k1 k':Nat}{a b:aR}(h1:dO Ds ts nt d k k1 (some a))(e0:ce ts k1=18)(h2:dO Ds ts nt d (k1+1) k' (some b))(e1:ce ts k'≠18)(e2:ce ts k'≠19):dO Ds ts (jW ts nt 100) d k k' (some (Ia a b)) :=
 zR (n:=98) (mR (n:=99) h1 (by rw [e0];decide)) e0 (mR (n:=99) h2 e2) e1
theorem Nm{Ds:List i8}{ts:List ak}{f:Nat}{d:Int}{k k1:Nat}{c:aR}(h0:0<=d)(h8:d<8)(e0:ce ts k=31)(h1:dO Ds ts (jW ts (gw ts 100 (iQ ts) f) 100) (d+1) (k+1) k1 (some c))(e1:ce ts k1=32):dO Ds ts (gw ts 100 (iQ ts) (f+1)) d k (k1+1) (some c):=λ st g hd=>by
 obtain⟨s1,a1,g1,d1⟩:=h1 _ (g.open e0 h0 h8) (by rw [iN];exact hd);refine⟨_,?_,g1.shut e1 h0 h8,by rw [mr];exact d1⟩;rw [gw,g.kind,e0,aG (by decide),aG (by decide),aG (by decide),aG (by decide),aS rfl,a1]
theorem Oz{Ds:List i8}{ts:List ak}{f:Nat}{d:Int}{k k1:Nat}{c:aR}(h0:0<=d)(h8:d<8)(e0:ce ts k=20)(h1:dO Ds ts (gw ts 100 (iQ ts) f) (d+1) (k+1) k1 (some c)):dO Ds ts (gw ts 100 (iQ ts) (f+1)) d k k1 (some (Dx c)):=λ st g hd=>by
 obtain⟨s1,a1,g1,d1⟩:=h1 _ (g.open e0 h0 h8) (by rw [iN];exact hd);refine⟨_,?_,g1.dec h0 h8,d1⟩;rw [gw,g.kind,e0,aS rfl,a1];rfl
theorem Ct.reads{ts T:List ak}(hts:tg ts T){Ds:List i8}{S:dU}{W:aP}(hS:fW Ds (br [115])=some S)(hW:fC Ds (br [119])=some W):∀(a:Ct) (f:Nat) (d:Int) (k:Nat) (t:ak) (R:List ak),a.ok->a.h<f->0<=d->d+(a.h:Int)<=8->M6 t.kind->T.drop k=a.tk (t::R) ->
  dO Ds ts (gw ts 100 (iQ ts) f) d k (k+a.n) (some (a.M S W))/\T.drop (k+a.n)=t::R
 | .net,f,d,k,t,R,_,hf,_,_,_,hd=>by
  obtain⟨f,rfl⟩:∃ g,f=g+1:=⟨f-1,by omega⟩
  obtain⟨e0,d1⟩:=aT hts (show T.drop k=wT 16::_ from hd);obtain⟨e1,d2⟩:=aT hts d1;obtain⟨e2,d3⟩:=aT hts d2;refine⟨λ st g hds=>?_,d3⟩;have g2:=g.go.go;obtain⟨tx,_,_,_⟩:=qA g2 e2;dsimp only at tx
  have hu:gE ts (b9 ts (b9 ts st))=(b9 ts (b9 ts (b9 ts st)),some S):=by
   unfold gE;rw [g2.take (show ce ts (k+1+1)=4 from aF e2)];dsimp only;rw [tx]
   have:fW (b9 ts (b9 ts (b9 ts st))).defs (br [115])=some S:=by
    show fW st.defs _=_;rw [hds];exact hS
   show(match fW _ (br [115])with|some s=>_|none=>_)=_;rw [this]
  have hk:ce ts k=21:=aF e0;have hk1:ce ts (k+1)=22:=aF e1;refine⟨_,?_,g2.go,hds⟩;rw [gw,g.kind,hk,aG (by decide),aS rfl,g.go.take hk1];dsimp only;rw [hu];rfl
 | .way,f,d,k,t,R,_,hf,_,_,_,hd=>by
  obtain⟨f,rfl⟩:∃ g,f=g+1:=⟨f-1,by omega⟩
  obtain⟨e0,d1⟩:=aT hts (show T.drop k=wT 18::_ from hd);obtain⟨e1,d2⟩:=aT hts d1;obtain⟨e2,d3⟩:=aT hts d2;refine⟨λ st g hds=>?_,d3⟩;have g2:=g.go.go;obtain⟨tx,_,_,_⟩:=qA g2 e2;dsimp only at tx
  have hu:gF ts (b9 ts (b9 ts st))=(b9 ts (b9 ts (b9 ts st)),some W):=by
   unfold gF;rw [g2.take (show ce ts (k+1+1)=4 from aF e2)];dsimp only;rw [tx]
   have:fC (b9 ts (b9 ts (b9 ts st))).defs (br [119])=some W:=by
    show fC st.defs _=_;rw [hds];exact hW
   show(match fC _ (br [119])with|some s=>_|none=>_)=_;rw [this]
  have hk:ce ts k=23:=aF e0;have hk1:ce ts (k+1)=24:=aF e1;refine⟨_,?_,g2.go,hds⟩;rw [gw,g.kind,hk,aG (by decide),aG (by decide),aS rfl,g.go.take hk1];dsimp only;rw [hu];rfl
 | .mrk n,f,d,k,t,R,ho,hf,_,_,_,hd=>by
  obtain⟨f,rfl⟩:∃ g,f=g+1:=⟨f-1,by omega⟩
  obtain⟨e0,d1⟩:=aT hts (show T.drop k=wT 20::_ from hd);obtain⟨e1,d2⟩:=aT hts d1;refine⟨λ st g hds=>?_,d2⟩;have hn:=gM e1;have ho':n<=9:=ho;have hw:=g.go.within (lo:=0) (hi:=65535) (aF e1) (by rw [hn];show(0:Int)<=(n:Int);omega) (by rw [hn];show(n:Int)<=65535;omega);rw [hn]at hw;have hk:ce ts k=25:=aF e0;refine⟨_,?_,g.go.go,hds⟩;rw [gw,g.kind,hk,aG (by decide),aG (by decide),aG (by decide),aS rfl,hw];rfl
 | .len n,f,d,k,t,R,_,hf,_,_,ht,hd=>by
  obtain⟨f,rfl⟩:∃ g,f=g+1:=⟨f-1,by omega⟩
  obtain⟨e0,d1⟩:=aT hts (show T.drop k=wT 12::_ from hd);obtain⟨e1,d2⟩:=aT hts d1;obtain⟨e2,d3⟩:=aT hts d2;have hk:ce ts k=17:=aF e0;have hk1:ce ts (k+1)=40:=(aF e1).trans Ol;have hk3:ce ts (k+3)=t.kind:=pY hts d3;have hn2:=gM e2;have r2:=jQ (ts:=ts) (n:=100) (f:=19) (d:=d) (k:=k+2) (aF e2);rw [hn2]at r2;exact⟨Nn (CK (k1:=k+1) (nS (n:=100) (xK (f:=19) hk) (by rw [hk1];decide) (by rw [hk1];decide) (by decide)) hk1 (nS (n:=100) (k1:=k+3) r2 (by rw [hk3];exact ht.1) (by rw [hk3];exact ht.2) (by decide))) (Or.inr (Or.inr hk)),d3⟩
 | .prf n,f,d,k,t,R,_,hf,_,_,ht,hd=>by
  obtain⟨f,rfl⟩:∃ g,f=g+1:=⟨f-1,by omega⟩
  obtain⟨e0,d1⟩:=aT hts (show T.drop k=wT 4::_ from hd);obtain⟨e1,d2⟩:=aT hts d1;obtain⟨e2,d3⟩:=aT hts d2;have hk:ce ts k=9:=aF e0;have hk1:ce ts (k+1)=26:=(aF e1).trans NS;have hk3:ce ts (k+3)=t.kind:=pY hts d3;have hn2:=gM e2;have r2:=jQ (ts:=ts) (n:=100) (f:=19) (d:=d) (k:=k+2) (aF e2);rw [hn2]at r2;exact⟨Nn (No (k1:=k+1) (nS (n:=100) (mu (f:=19) hk) (by rw [hk1];decide) (by rw [hk1];decide) (by decide)) hk1 (nS (n:=100) (k1:=k+3) r2 (by rw [hk3];exact ht.1) (by rw [hk3];exact ht.2) (by decide))) (Or.inl hk),d3⟩
 | .med n,f,d,k,t,R,_,hf,_,_,ht,hd=>by
  obtain⟨f,rfl⟩:∃ g,f=g+1:=⟨f-1,by omega⟩
  obtain⟨e0,d1⟩:=aT hts (show T.drop k=wT 5::_ from hd);obtain⟨e1,d2⟩:=aT hts d1;obtain⟨e2,d3⟩:=aT hts d2;obtain⟨e3,d4⟩:=aT hts d3;obtain⟨e4,d5⟩:=aT hts d4;obtain⟨e5,d6⟩:=aT hts d5;obtain⟨e6,d7⟩:=aT hts d6;have hk:ce ts k=10:=aF e0;have hk1:ce ts (k+1)=38:=(aF e1).trans M7;have hk3:ce ts (k+3)=40:=(aF e3).trans Ol;have hk4:ce ts (k+4)=9:=aF e4;have hk5:ce ts (k+5)=38:=(aF e5).trans M7;have hk7:ce ts (k+7)=t.kind:=pY hts d7;have r2:=jQ (ts:=ts) (n:=100) (f:=19) (d:=d) (k:=k+2) (aF e2);rw [gM e2]at r2;have r6:=jQ (ts:=ts) (n:=100) (f:=19) (d:=d) (k:=k+6) (aF e6);rw [gM e6]at r6
  have a1:bX ts (iQ ts) d k (k+3) (some (iu Dl (ie 1) 1)) :=
   lC (n:=100) (xL (f:=19) hk) (.plus (k1:=k+3) hk1 r2 (.nil (by rw [hk3];decide) (by rw [hk3];decide))) (by decide)
  have a2:bX ts (iQ ts) d (k+3+1) (k+7) (some (iu oJ (ie (n:Int)) 1)) :=
   lC (n:=100) (k1:=k+5) (mu (f:=19) hk4) (.plus (k1:=k+7) hk5 r6 (.nil (by rw [hk7];exact ht.1) (by rw [hk7];exact ht.2))) (by decide)
  exact⟨Nn (CK a1 hk3 a2) (Or.inr (Or.inl hk)),d7⟩
 | .not a,f,d,k,t,R,ho,hf,h0,h8,ht,hd=>by
  simp only [Ct.h]at hf h8;obtain⟨f,rfl⟩:∃ g,f=g+1:=⟨f-1,by omega⟩
  obtain⟨e0,d1⟩:=aT hts (show T.drop k=wT 15::_ from hd);obtain⟨r1,d2⟩:=a.reads hts hS hW f (d+1) (k+1) t R ho (by omega) (by omega) (by omega) ht d1;have hk:k+(Ct.not a).n=k+1+a.n:=by simp only [Ct.n];omega
  rw [hk];exact⟨Oz h0 (by omega) (aF e0) r1,d2⟩
 | .brk a,f,d,k,t,R,ho,hf,h0,h8,ht,hd=>by
  simp only [Ct.h]at hf h8;obtain⟨f,rfl⟩:∃ g,f=g+1:=⟨f-1,by omega⟩
  obtain⟨e0,d1⟩:=aT hts (show T.drop k=sT 91::_ from hd);obtain⟨r1,d2⟩:=a.reads hts hS hW f (d+1) (k+1) (sT 93) (t::R) ho (by omega) (by omega) (by omega) (by have h:(sT 93).kind=32:=Mw;rw [h];exact⟨by decide,by decide⟩) d1;have k2:ce ts (k+1+a.n)=32:=(pY hts d2).trans Mw;obtain⟨_,d3⟩:=aT hts d2;have hk:k+(Ct.brk a).n=k+1+a.n+1:=by simp only [Ct.n];omega
  rw [hk];exact⟨Nm h0 (by omega) ((aF e0).trans NZ) (nK r1 (by rw [k2];decide) (by rw [k2];decide)) k2,d3⟩
 | .and a b,f,d,k,t,R,ho,hf,h0,h8,ht,hd=>by
  simp only [Ct.h]at hf h8;obtain⟨f,rfl⟩:∃ g,f=g+1:=⟨f-1,by omega⟩
  obtain⟨e0,d1⟩:=aT hts (show T.drop k=sT 91::_ from hd);obtain⟨r1,d2⟩:=a.reads hts hS hW f (d+1) (k+1) (wT 14) (b.tk (sT 93::t::R)) ho.1 (by omega) (by omega) (by omega) ⟨by decide,by decide⟩ d1;have k2:ce ts (k+1+a.n)=19:=pY hts d2;obtain⟨_,d3⟩:=aT hts d2;obtain⟨r2,d4⟩:=b.reads hts hS hW f (d+1) (k+1+a.n+1) (sT 93) (t::R) ho.2 (by omega) (by omega) (by omega) (by have h:(sT 93).kind=32:=Mw;rw [h];exact⟨by decide,by decide⟩) d3;have k4:ce ts (k+1+a.n+1+b.n)=32:=(pY hts d4).trans Mw;obtain⟨_,d5⟩:=aT hts d4;have hk:k+(Ct.and a b).n=k+1+a.n+1+b.n+1:=by simp only [Ct.n];omega
  rw [hk];exact⟨Nm h0 (by omega) ((aF e0).trans NZ) (FN r1 k2 r2 (by rw [k4];decide) (by rw [k4];decide)) k4,d5⟩
 | .or a b,f,d,k,t,R,ho,hf,h0,h8,ht,hd=>by
  simp only [Ct.h]at hf h8;obtain⟨f,rfl⟩:∃ g,f=g+1:=⟨f-1,by omega⟩
  obtain⟨e0,d1⟩:=aT hts (show T.drop k=sT 91::_ from hd);obtain⟨r1,d2⟩:=a.reads hts hS hW f (d+1) (k+1) (wT 13) (b.tk (sT 93::t::R)) ho.1 (by omega) (by omega) (by omega) ⟨by decide,by decide⟩ d1;have k2:ce ts (k+1+a.n)=18:=pY hts d2;obtain⟨_,d3⟩:=aT hts d2;obtain⟨r2,d4⟩:=b.reads hts hS hW f (d+1) (k+1+a.n+1) (sT 93) (t::R) ho.2 (by omega) (by omega) (by omega) (by have h:(sT 93).kind=32:=Mw;rw [h];exact⟨by decide,by decide⟩) d3;have k4:ce ts (k+1+a.n+1+b.n)=32:=(pY hts d4).trans Mw;obtain⟨_,d5⟩:=aT hts d4;have hk:k+(Ct.or a b).n=k+1+a.n+1+b.n+1:=by simp only [Ct.n];omega
  rw [hk];exact⟨Nm h0 (by omega) ((aF e0).trans NZ) (Aa r1 k2 r2 (by rw [k4];decide) (by rw [k4];decide)) k4,d5⟩
theorem Ct.hd:∀(a:Ct) (R:List Pc),aD (a.pc R)=aD (a.pc [])++aD R
 | .net,R=>by simp [Ct.pc,aD,fH,r7]
 | .way,R=>by simp [Ct.pc,aD,fH,xP]
 | .mrk n,R=>by simp [Ct.pc,aD,fH,sJ]
 | .len n,R=>by simp [Ct.pc,aD,fH,sJ,gN]
 | .prf n,R=>by simp [Ct.pc,aD,fH,sJ,gN]
 | .med n,R=>by simp [Ct.pc,aD,fH,sJ,gN]
 | .not a,R=>by
  show(wd 15).data.toList++32::aD (a.pc R)=((wd 15).data.toList++32::aD (a.pc []))++_;rw [a.hd];simp
 | .brk a,R=>by
  show 91::32::aD (a.pc _)=(91::32::aD (a.pc _))++_;rw [a.hd,a.hd [.sp,gN 93]];simp [aD,gN]
 | .and a b,R=>by
  show 91::32::aD (a.pc _)=(91::32::aD (a.pc _))++_;rw [a.hd,a.hd (.sp::fH 14::.sp::b.pc [.sp,gN 93])];simp only [aD,gN,fH];rw [b.hd,b.hd [.sp,.tk [93] _]];simp [aD]
 | .or a b,R=>by
  show 91::32::aD (a.pc _)=(91::32::aD (a.pc _))++_;rw [a.hd,a.hd (.sp::fH 13::.sp::b.pc [.sp,gN 93])];simp only [aD,gN,fH];rw [b.hd,b.hd [.sp,.tk [93] _]];simp [aD]
def Ct.bs(a:Ct):List UInt8:=aD (a.pc [])
theorem di:(wd 16).data.toList=[110,101,116]/\(wd 17).data.toList=[105,110]/\(wd 18).data.toList=[112,97,116,104]/\(wd 19).data.toList=[108,105,107,101]/\(wd 20).data.toList=[109,97,114,107,101,100]/\(wd 12).data.toList=[108,101,110]/\(wd 4).data.toList=[112,114,101,102]/\(wd 5).data.toList=[109,101,100]/\(wd 15).data.toList=[110,111,116]/\(wd 14).data.toList=[97,110,100]/\(wd 13).data.toList=[111,114]:=by decide +kernel
theorem Lr:Lib.decDigits 1=[49]:=by rw [dW,aS (by decide)];rfl
theorem Ct.bs_net:Ct.net.bs=[110,101,116,32,105,110,32,115]:=by
 simp [Ct.bs,Ct.pc,aD,fH,r7,di.1,di.2.1]
theorem Ct.bs_way:Ct.way.bs=[112,97,116,104,32,108,105,107,101,32,119]:=by
 simp [Ct.bs,Ct.pc,aD,fH,xP,di.2.2.1,di.2.2.2.1]
theorem Ct.bs_mrk(n:Nat):(Ct.mrk n).bs=[109,97,114,107,101,100,32]++Lib.decDigits n:=by
 simp [Ct.bs,Ct.pc,aD,fH,sJ,di.2.2.2.2.1]
theorem Ct.bs_lenN(n:Nat):(Ct.len n).bs=[108,101,110,32,60,32]++Lib.decDigits n:=by
 simp [Ct.bs,Ct.pc,aD,fH,sJ,gN,di.2.2.2.2.2.1]
theorem Ct.bs_prf(n:Nat):(Ct.prf n).bs=[112,114,101,102,32,61,32]++Lib.decDigits n:=by
 simp [Ct.bs,Ct.pc,aD,fH,sJ,gN,di.2.2.2.2.2.2.1]
theorem Ct.bs_med(n:Nat):(Ct.med n).bs=[109,101,100,32,43,32,49,32,60,32,112,114,101,102,32,43,32]++Lib.decDigits n:=by
 simp [Ct.bs,Ct.pc,aD,fH,sJ,gN,di.2.2.2.2.2.2.1,di.2.2.2.2.2.2.2.1,Lr]
theorem Ct.bs_not(a:Ct):(Ct.not a).bs=[110,111,116,32]++a.bs:=by
 show(wd 15).data.toList++32::aD (a.pc [])=_;rw [di.2.2.2.2.2.2.2.2.1];rfl
theorem Ct.bs_brk(a:Ct):(Ct.brk a).bs=[91,32]++a.bs++[32,93]:=by
 show 91::32::aD (a.pc [.sp,gN 93])=_;rw [a.hd];simp [aD,gN,Ct.bs]
theorem Ct.bs_and(a b:Ct):(Ct.and a b).bs=[91,32]++a.bs++[32,97,110,100,32]++b.bs++[32,93]:=by
 show 91::32::aD (a.pc (.sp::fH 14::.sp::b.pc [.sp,gN 93]))=_;rw [a.hd];simp only [aD,gN,fH];rw [b.hd,di.2.2.2.2.2.2.2.2.2.1];simp [aD,Ct.bs]
theorem Ct.bs_or(a b:Ct):(Ct.or a b).bs=[91,32]++a.bs++[32,111,114,32]++b.bs++[32,93]:=by
 show 91::32::aD (a.pc (.sp::fH 13::.sp::b.pc [.sp,gN 93]))=_;rw [a.hd];simp only [aD,gN,fH];rw [b.hd,di.2.2.2.2.2.2.2.2.2.2];simp [aD,Ct.bs]
theorem Ct.bs_len:∀(a:Ct),a.ok->a.bs.length+9<=36*2 ^ a.h
 | .net,_=>by rw [Ct.bs_net];decide
 | .way,_=>by rw [Ct.bs_way];decide
 | .mrk n,ho=>by
  have:=lQ (u:=n) (gG ho (by decide));rw [Ct.bs_mrk];simp only [List.length_append,List.length_cons,List.length_nil,Ct.h];omega
 | .len n,ho=>by
  have:=lQ (u:=n) (gG ho (by decide));rw [Ct.bs_lenN];simp only [List.length_append,List.length_cons,List.length_nil,Ct.h];omega
 | .prf n,ho=>by
  have:=lQ (u:=n) (gG ho (by decide));rw [Ct.bs_prf];simp only [List.length_append,List.length_cons,List.length_nil,Ct.h];omega
 | .med n,ho=>by
  have:=lQ (u:=n) (gG ho (by decide));rw [Ct.bs_med];simp only [List.length_append,List.length_cons,List.length_nil,Ct.h];omega
 | .not a,ho=>by
  have:=a.bs_len ho;rw [Ct.bs_not];simp only [List.length_append,List.length_cons,List.length_nil,Ct.h,Nat.pow_succ];omega
 | .brk a,ho=>by
  have:=a.bs_len ho;rw [Ct.bs_brk];simp only [List.length_append,List.length_cons,List.length_nil,Ct.h,Nat.pow_succ];omega
 | .and a b,ho=>by
  have h1:=a.bs_len ho.1;have h2:=b.bs_len ho.2;have h3:2 ^ a.h<=2 ^ (max a.h b.h):=Nat.pow_le_pow_right (by decide) (Nat.le_max_left _ _);have h4:2 ^ b.h<=2 ^ (max a.h b.h):=Nat.pow_le_pow_right (by decide) (Nat.le_max_right _ _);rw [Ct.bs_and];simp only [List.length_append,List.length_cons,List.length_nil,Ct.h,Nat.pow_succ];omega
 | .or a b,ho=>by
  have h1:=a.bs_len ho.1;have h2:=b.bs_len ho.2;have h3:2 ^ a.h<=2 ^ (max a.h b.h):=Nat.pow_le_pow_right (by decide) (Nat.le_max_left _ _);have h4:2 ^ b.h<=2 ^ (max a.h b.h):=Nat.pow_le_pow_right (by decide) (Nat.le_max_right _ _);rw [Ct.bs_or];simp only [List.length_append,List.length_cons,List.length_nil,Ct.h,Nat.pow_succ];omega
theorem Ct.bs_lt{a:Ct}(ho:a.ok)(h:a.h<=2):a.bs.length<=135:=by
 have h1:=a.bs_len ho;have h2:2 ^ a.h<=2 ^ 2:=Nat.pow_le_pow_right (by decide) h;omega
def NW:List Pc:=[fH 0,.sp,r7,.sp,gN 61,.sp,gN 123,.sp,OH ⟨10,0,0,0⟩ 8,.sp,sJ 16,.sp,sJ 24,.sp,gN 125,gN 59,.sp,fH 1,.sp,xP,.sp,gN 61,.sp,sJ 1,.sp,gN 46,.sp,gN 42,gN 59,.sp]
def Ov:List ak:=[wT 0,M4,sT 61,sT 123,pT ⟨10,0,0,0⟩ 8,nT 16,nT 24,sT 125,sT 59,wT 1,M5,sT 61,nT 1,sT 46,sT 42,sT 59]
def S0:dU:=my [qo 167772160 8 16 24]
def W0:aP:=yg (Dy 1) (G0 true true CV)
def Cg:List i8:=[⟨br [115],some S0,none⟩,⟨br [119],none,some W0⟩]
theorem IY{l:List Pc}(h:fY l):fY (NW++l):=by
 have hq:(⟨10,0,0,0⟩:oR).ok:=⟨by decide,by decide,by decide,by decide⟩
 have hn:dX ((⟨10,0,0,0⟩:oR).addr,((8:Nat):Int)):=by decide
 refine fB (by decide) ?_ (cP _).1;refine yI ?_ (cP _).1;refine jz (by decide +kernel) (jz (by decide +kernel) ?_);refine OF hq (by decide) hn ?_ (cP _).2;refine sy (by decide) ?_ (cP _).2;refine sy (by decide) ?_ (cP _).2;refine jz (by decide +kernel) (jz (by decide +kernel) ?_);refine fB (by decide) ?_ (cP _).1;refine AY ?_ (cP _).1;refine jz (by decide +kernel) ?_;refine sy (by decide) ?_ (cP _).2;exact jz (by decide +kernel) (jz (by decide +kernel) (jz (by decide +kernel) h))
theorem FQ{ts:List ak}{st:RS}{k k' n f:Nat}{nm:ByteArray}{z a l:Int}{m:aP}(g:cR ts st 0 k)(hnd:j0 st nm=false)(e0:ce ts k=6)(e1:D8 ts (k+1)=(4,nm,z,a,l))(e2:ce ts (k+2)=26)
  (hr:gK ts (gL ts n f) 0 (k+3) k' m) (e3:ce ts k'=27) :
  ∃ st',CR ts n f st=some (st',true)/\cR ts st' 0 (k'+1)/\st'.defs=st.defs++[⟨nm,none,some m⟩]:=by
 have g1:=g.go;obtain⟨tx,_,_,_⟩:=qA g1 e1;dsimp only at tx
 have hnn:bI ts (b9 ts st)=(b9 ts (b9 ts st),nm):=by
  unfold bI;rw [g1.take (aF e1)];dsimp only;have hnd2:j0 (b9 ts (b9 ts st)) (dH ts (b9 ts st)).text=false:=by rw [tx];exact hnd
  rw [hnd2,tx];rfl
 obtain⟨s',a1,g2,d2⟩:=hr _ g1.go.go;refine⟨ee (b9 ts s') ⟨nm,none,some m⟩,?_,?_,?_⟩
 ·unfold CR;rw [g.kind,aS e0,hnn];dsimp only;rw [g1.go.take e2];dsimp only;rw [a1];dsimp only;rw [g2.take e3]
 ·have g3:=g2.go;exact⟨g3.next,g3.depth,g3.syn,g3.nam,g3.num,g3.t0,g3.page⟩
 show s'.defs++[_]=_;rw [d2];rfl
theorem FU{ts T:List ak}(hts:tg ts T){R:List ak}(hT:T=Ov++R){t:ak}{R':List ak}(hR:R=t::R')(ht:t.kind=14) :
  ∃ st,mW ts 100 20 8 qE=some st/\cR ts st 0 16/\st.defs=Cg/\T.drop 16=R:=by
 have d0:T.drop 0=Ov++R:=hT;have d16:T.drop 16=R:=by rw [hT];rfl
 obtain⟨a0,d1⟩:=aT hts (show T.drop 0=wT 0::_ from d0);obtain⟨a1,d2⟩:=aT hts d1;obtain⟨a2,d3⟩:=aT hts d2;obtain⟨a3,d4⟩:=aT hts d3;obtain⟨a4,d5⟩:=aT hts d4;obtain⟨a5,d6⟩:=aT hts d5;obtain⟨a6,d7⟩:=aT hts d6;obtain⟨a7,d8⟩:=aT hts d7;obtain⟨a8,d9⟩:=aT hts d8;obtain⟨a9,d10⟩:=aT hts d9;obtain⟨a10,d11⟩:=aT hts d10;obtain⟨a11,d12⟩:=aT hts d11;obtain⟨a12,d13⟩:=aT hts d12;obtain⟨a13,d14⟩:=aT hts d13;obtain⟨a14,d15⟩:=aT hts d14;obtain⟨a15,_⟩:=aT hts d15
 have k16:ce ts 16=14:=by
  have h:=d16;rw [hR]at h;exact(pY hts h).trans ht
 have k12:ce ts 12=2:=aF a12;have k13':yG (ce ts 13):=by rw [(aF a13).trans OO];exact⟨by decide,by decide,by decide⟩
 have hi1:gK ts (iM ts 100 (gL ts 100 19)) 0 12 13 (some (Dy 1)):=λ st g=>by
  have hn:=gM a12;have hw:=g.within (lo:=1) (hi:=65535) k12 (by rw [hn];decide) (by rw [hn];decide);rw [hn]at hw;obtain⟨s,b1,g1,q1⟩:=BG (yZ (ts:=ts) (d:=0) (k:=13) (n:=99) (Dy 1) k13') _ g.go;refine⟨s,?_,g1,q1⟩;unfold iM;rw [g.kind,k12,aS rfl,hw];exact b1
 have k13:ce ts 13=41:=(aF a13).trans OO;have k14:ce ts 14=36:=(aF a14).trans OI;have k15:ce ts 15=27:=(aF a15).trans Kf;have n15:yG (ce ts (14+1)):=by rw [k15];exact⟨by decide,by decide,by decide⟩
 have hi2:gK ts (iM ts 100 (gL ts 100 19)) 0 13 15 (some (G0 true true CV)):=λ st g=>by
  obtain⟨s,b1,g1,q1⟩:=BG (Bk (ts:=ts) (d:=0) (k:=14) (n:=98) CV 42 (Or.inl rfl) (k14.trans OI.symm) n15) _ g.go;refine⟨s,?_,g1,q1⟩;unfold iM;rw [g.kind,k13,aG (by decide),aS rfl];exact b1
 have he:gL ts 100 20=oX ts 100 (li ts 100 (iM ts 100 (gL ts 100 19))):=by funext st;rfl
 have hw:gK ts (gL ts 100 20) 0 12 15 W0:=by
  rw [he];exact I2 (n:=99) (Mt (n:=97) hi1 hi2 (Jm (by rw [k15];rintro(h|h|h)<;>cases h))) (by rw [k15];decide)
 clear d0 d1 d2 d3 d4 d5 d6 d7 d8 d9 d10 d11 d12 d13 d14 d15 hi1 hi2 he
 have t0:(ts[0]?.getD fZ).text.data.toList≠[]:=by
  have:(ts[0]?.getD fZ).text=wd 0:=jC (λ x=>x.2.1) a0;rw [this];decide +kernel
 have g0:cR ts qE 0 0:=⟨rfl,rfl,rfl,rfl,rfl,t0,Or.inl rfl⟩
 have h125:ce ts 7=30:=(aF a7).trans vY;obtain⟨st1,c1,g1,hd1⟩:=FS (n:=100) g0 rfl (aF a0) a1 ((aF a2).trans NS) (λ s g=>yX g ((aF a3).trans Hb) (λ st d g=>yK g a4 a5 a6 (by decide) (by decide) (by decide) (by decide)) (.nil (by rw [h125];decide)) (by decide) h125) ((aF a8).trans Kf);have hk1:an ts st1=6:=by rw [g1.kind];exact aF a9
 have hd0:CR ts 100 20 qE=some (st1,true):=by
  have h6:an ts qE=5:=by rw [g0.kind];exact aF a0
  unfold CR;rw [h6,aG (by decide)];exact c1
 obtain⟨st2,c2,g2,hd2⟩:=FQ (n:=100) (f:=20) g1 (by unfold j0;rw [hd1];decide +kernel) (aF a9) a10 ((aF a11).trans NS) hw k15;have hk2:an ts st2=14:=by rw [g2.kind];exact k16
 refine⟨st2,?_,g2,?_,d16⟩
 ·rw [show(8:Nat)=7+1 from rfl,mW,hd0];dsimp only;rw [show(7:Nat)=6+1 from rfl,mW,c2];dsimp only;rw [show(6:Nat)=5+1 from rfl,mW,CR,hk2,aG (by decide),FP,hk2,aG (by decide),aG (by decide)]
 rw [hd2,hd1];rfl
noncomputable abbrev sm(ts:List ak):RS->Option (RS×Option aR):=jW ts (gw ts 100 (iQ ts) 20) 100
noncomputable abbrev oo(ts:List ak)(f:Nat):RS->Option (RS×Option (Option aJ)):=cH ts 100 H8 (iQ ts) (sm ts) f
inductive Tc where
 | one (a:Ct)
 | or (a b:Ct)
def Tc.pc:Tc->List Pc->List Pc
 | .one a,R=>a.pc R
 | .or a b,R=>a.pc (.sp::fH 13::.sp::b.pc R)
def Tc.n:Tc->Nat
 | .one a=>a.n
 | .or a b=>a.n+b.n+1
def Tc.ok:Tc->Prop
 | .one a=>a.ok/\a.h<=6
 | .or a b=>(a.ok/\a.h<=6)/\(b.ok/\b.h<=6)
noncomputable def Tc.M:Tc->aR
 | .one a=>a.M S0 W0
 | .or a b=>Ia (a.M S0 W0) (b.M S0 W0)
theorem Tc.pc_ok{q:Tc}(ho:q.ok){R:List Pc}(h:fY R)(hs:sP R):fY (q.pc R):=by
 cases q with
 | one a=>exact a.pc_ok R ho.1 h hs
 | or a b=>exact a.pc_ok _ ho.1.1 (fB (by decide) (b.pc_ok R ho.2.1 h hs) (cP _).1) (kc _)
theorem tW:fW Cg (br [115])=some S0:=by
 unfold Cg;rw [fW,aS (by simp)]
theorem tX:fC Cg (br [119])=some W0:=by
 unfold Cg;rw [fC,aG (by simp),fC,aS (by simp)]
theorem Tc.reads{ts T:List ak}(hts:tg ts T)(q:Tc)(k:Nat)(R:List Pc)(t:ak)(RT:List ak)(ho:q.ok)(hR:p7 R=t::RT)(ht:t.kind=15)(hd:T.drop k=p7 (q.pc R)) :
  dO Cg ts (sm ts) 0 k (k+q.n) (some q.M)/\T.drop (k+q.n)=t::RT:=by
 have hns:M6 t.kind:=by rw [ht];exact⟨by decide,by decide⟩
 cases q with
 | one a =>
  have hd':T.drop k=a.tk (t::RT):=by rw [hd];show p7 (a.pc R)=_;rw [a.pc_T,hR]
  obtain⟨r1,d1⟩:=a.reads hts tW tX 20 0 k t RT ho.1 (by have:=ho.2;omega) (by omega) (by have:=ho.2;omega) hns hd';have hk:k+(Tc.one a).n=k+a.n:=rfl;rw [hk];exact⟨nK r1 (by rw [pY hts d1,ht];decide) (by rw [pY hts d1,ht];decide),d1⟩
 | or a b =>
  have hd':T.drop k=a.tk (wT 13::b.tk (t::RT)):=by
   rw [hd];show p7 (a.pc (.sp::fH 13::.sp::b.pc R))=_;rw [a.pc_T];show a.tk (wT 13::p7 (b.pc R))=_;rw [b.pc_T,hR]
  obtain⟨r1,d1⟩:=a.reads hts tW tX 20 0 k (wT 13) (b.tk (t::RT)) ho.1.1 (by have:=ho.1.2;omega) (by omega) (by have:=ho.1.2;omega) ⟨by decide,by decide⟩ hd';have k1:ce ts (k+a.n)=18:=pY hts d1;obtain⟨_,d2⟩:=aT hts d1;obtain⟨r2,d3⟩:=b.reads hts tW tX 20 0 (k+a.n+1) t RT ho.2.1 (by have:=ho.2.2;omega) (by omega) (by have:=ho.2.2;omega) hns d2;have hk:k+(Tc.or a b).n=k+a.n+1+b.n:=by simp only [Tc.n];omega
  rw [hk];exact⟨Aa r1 k1 r2 (by rw [pY hts d3,ht];decide) (by rw [pY hts d3,ht];decide),d3⟩
theorem Oq{ts:List ak}{st:RS}{f k k1 k2:Nat}{c:aR}{yes:List aJ}(g:cR ts st 0 k)(hds:st.defs=Cg)(e:ce ts k=14)(hc:dO Cg ts (sm ts) 0 (k+1) k1 (some c))(e1:ce ts k1=15)(hy:bX ts (ef ts (oo ts f) 100) 0 (k1+1) k2 (yes.map some))(e2:ce ts k2≠16) :
  ∃ s,oo ts (f+1) st=some (s,some (some (gD c yes [])))/\cR ts s 0 k2:=by
 obtain⟨s1,h1,g1,_⟩:=hc _ g.go hds;obtain⟨s2,h2,g2⟩:=hy _ g1.go;refine⟨s2,?_,g2⟩;have h2':ef ts (cH ts 100 H8 (iQ ts) (sm ts) f) 100 (b9 ts s1)=some (s2,yes.map some):=h2;unfold oo;rw [cH,g.kind,e,aG (by decide),aS rfl,h1];dsimp only;rw [g1.take e1];dsimp only;rw [h2'];dsimp only;rw [g2.kind,aG e2,ks,pD];rfl
def Fq(R:List Pc):List Pc:=gN 123::.sp::fH 2::gN 59::.sp::gN 125::R
theorem Ap(l:List UInt8):wQ (59::l)/\Aq (59::l):=⟨λ b hb=>by rcases kd hb with rfl;decide,λ b hb=>by rcases kd hb with rfl;decide⟩
theorem eZ{c:UInt8}{l:List Pc}(h:fY l)(hc:c=123\/c=125\/c=59\/c=61\/c=43):fY (gN c::l):=by
 rcases hc with rfl|rfl|rfl|rfl|rfl
 ·exact jz (by rw [Hb];decide) h
 ·exact jz (by rw [vY];decide) h
 ·exact jz (by rw [Kf];decide) h
 ·exact jz (by rw [NS];decide) h
 exact jz (by rw [M7];decide) h
theorem K5{R:List Pc}(h:fY R):fY (Fq R) :=
 eZ (fB (by decide) (eZ (eZ h (by simp)) (by simp)) (Ap _).1) (by simp)
theorem sK{ts:List ak}{n f:Nat}{sum:RS->Option (RS×Option bh)}{cnd:RS->Option (RS×Option aR)}{d:Int}{k:Nat}(h:ce ts k=30):bX ts (cH ts n H8 sum cnd (f+1)) d k k none :=
 mt (by rw [h];decide) (by rw [h];rfl)
theorem Cl{ts T:List ak}(hts:tg ts T){R:List Pc}{f k:Nat}(hd:T.drop k=p7 (Fq R)):bX ts (ef ts (oo ts (f+1)) 100) 0 k (k+4) ([ci 1].map some)/\T.drop (k+4)=p7 R:=by
 obtain⟨e0,d1⟩:=aT hts (show T.drop k=sT 123::_ from hd);obtain⟨e1,d2⟩:=aT hts d1;obtain⟨e2,d3⟩:=aT hts d2;obtain⟨e3,d4⟩:=aT hts d3;refine⟨jc (k':=k+3) ((aF e0).trans Hb) (by decide) (by decide) ?_ (by decide) ((aF e3).trans vY),d4⟩;exact .cons (k1:=k+3) (iz (aF e1) rfl ((aF e2).trans Kf)) (.nil (sK ((aF e3).trans vY)))
theorem I3{ts:List ak}{k:Nat}(h:ce ts k=1):bX ts (oo ts 3) 0 k k none :=
 mt (by rw [h];decide) (by rw [h];rfl)
theorem wI{ts T:List ak}(hts:tg ts T){q:Tc}{B:List Pc}(ho:q.ok)(hT:T=Ov++p7 (fH 9::.sp::q.pc (.sp::fH 10::.sp::B))) :
  ∃ st,mW ts 100 20 8 qE=some st/\cR ts st 0 16/\st.defs=Cg/\ce ts 16=14/\dO Cg ts (sm ts) 0 17 (17+q.n) (some q.M)/\ce ts (17+q.n)=15/\T.drop (17+q.n+1)=p7 B:=by
 obtain⟨st,h1,g1,hd,d16⟩:=FU hts (t:=wT 9) hT rfl rfl;obtain⟨e16,d17⟩:=aT hts (show T.drop 16=wT 9::p7 (q.pc (.sp::fH 10::.sp::B))from d16);obtain⟨r1,dk⟩:=q.reads hts 17 (.sp::fH 10::.sp::B) (wT 10) (p7 B) ho rfl rfl d17;obtain⟨e2,d2⟩:=aT hts dk;exact⟨st,h1,g1,hd,aF e16,r1,aF e2,d2⟩
