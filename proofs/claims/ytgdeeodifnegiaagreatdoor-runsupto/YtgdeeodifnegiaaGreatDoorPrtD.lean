/- part -/
import Derived.Test.YtgdeeodifnegiaaGreatDoorKnA
namespace Go.Proofs.YtgdeeodifnegiaaGreatDoor
open Go.Proofs.Tryz
open Or
open Go.RowKit
structure Cl(ts:List aw)(I:RS->Prop):Prop where
 go:∀ st k,I st->am ts st=k->2<=k->I (bg ts st)
 fail:∀ st,I st->I (cC ts st)
 line:∀ st,I st->I (eA st)
 same:∀ st st',I st->st'.next=st.next->st'.page=st.page->st'.gap=st.gap->st'.syn=st.syn->(st.nam.isSome=true->st'.nam.isSome=true)->(st.num.isSome=true->st'.num.isSome=true)->I st'
theorem ck(f:Option Int)(x:Int):(iC f x).isSome=true:=by cases f<;>rfl
section
variable {ts:List aw} {I:RS->Prop} (C:Cl ts I)
include C
theorem Cl.take{st:RS}(h:I st){k:Int}(hk:2<=k):I (ar ts k st).1:=by
 unfold ar;split
 ·rename_i e;exact C.go st k h e hk
 exact C.fail st h
theorem Cl.open_{st:RS}(h:I st){k:Int}(hk:2<=k):I (dt ts k st):=by
 have h1:I (ar ts k (if st.depth=8 then cC ts st else st)).1:=by
  refine C.take ?_ hk;split
  ·exact C.fail st h
  exact h
 exact C.same _ _ h1 rfl rfl rfl rfl (by first|exact λ h=>h|exact λ _=>ck _ _) (by first|exact λ h=>h|exact λ _=>ck _ _)
theorem Cl.dec{st:RS}(h:I st):I (nT st):=C.same _ _ h rfl rfl rfl rfl (by first|exact λ h=>h|exact λ _=>ck _ _) (by first|exact λ h=>h|exact λ _=>ck _ _)
theorem Cl.shut{st:RS}(h:I st){k:Int}(hk:2<=k):I (gx ts k st):=C.dec (C.take h hk)
theorem Cl.within{st:RS}(h:I st)(a b:Int):I (aE ts a b st).1:=by
 unfold aE;dsimp only;split
 ·exact C.same _ _ (C.take h (k:=2) (by decide)) rfl rfl rfl rfl (by first|exact λ h=>h|exact λ _=>ck _ _) (by first|exact λ h=>h|exact λ _=>ck _ _)
 exact C.take h (by decide)
theorem Cl.newName{st:RS}(h:I st):I (aI ts st).1:=by
 unfold aI;dsimp only;split
 ·exact C.same _ _ (C.take h (k:=4) (by decide)) rfl rfl rfl rfl (by first|exact λ h=>h|exact λ _=>ck _ _) (by first|exact λ h=>h|exact λ _=>ck _ _)
 exact C.take h (by decide)
theorem Cl.useSet{st:RS}(h:I st):I (de ts st).1:=by
 unfold de;dsimp only;split
 ·exact C.take h (by decide)
 exact C.same _ _ (C.take h (k:=4) (by decide)) rfl rfl rfl rfl (by first|exact λ h=>h|exact λ _=>ck _ _) (by first|exact λ h=>h|exact λ _=>ck _ _)
theorem Cl.useWay{st:RS}(h:I st):I (dg ts st).1:=by
 unfold dg;dsimp only;split
 ·exact C.take h (by decide)
 exact C.same _ _ (C.take h (k:=4) (by decide)) rfl rfl rfl rfl (by first|exact λ h=>h|exact λ _=>ck _ _) (by first|exact λ h=>h|exact λ _=>ck _ _)
def bS{α:Type}(I:RS->Prop)(rd:RS->Option (RS×α)):Prop:=∀ st r,I st->rd st=some r->I r.1
theorem Cl.sumLp{tm:RS->Option (RS×Option bh)}(h0:bS I tm):∀(n:Nat) (st:RS) (a:Option bh) (r:RS×Option bh),I st->sumLp ts tm n st a=some r->I r.1
 | 0,_,_,_,_,h=>by cases h
 | n+1,st,a,r,hi,h=>by
  rw [Go.Proofs.YtgdeeodifnegiaaGreatDoor.sumLp]at h;split at h
  ·rename_i e;split at h
   ·cases h
   rename_i s b hx;exact Cl.sumLp h0 n _ _ r (h0 _ _ (C.go st 38 hi e (by decide)) hx) h
  split at h
  ·rename_i e;split at h
   ·cases h
   rename_i s b hx;exact Cl.sumLp h0 n _ _ r (h0 _ _ (C.go st 39 hi e (by decide)) hx) h
  cases h;exact hi
theorem Cl.sumBy{tm:RS->Option (RS×Option bh)}(h0:bS I tm)(n:Nat):bS I (sumBy ts tm n):=λ st r hi h=>by
 unfold Go.Proofs.YtgdeeodifnegiaaGreatDoor.sumBy at h;split at h
 ·cases h
 rename_i s a hx;exact C.sumLp h0 n _ _ r (h0 _ _ hi hx) h
theorem Cl.termTw(n:Nat):∀ f,bS I (termTw ts n f)
 | 0=>λ _ _ _ h=>by cases h
 | f+1=>λ st r hi h=>by
  rw [Go.Proofs.YtgdeeodifnegiaaGreatDoor.termTw]at h;split at h
  ·rename_i e;cases h;exact C.go st 2 hi e (by decide)
  split at h
  ·rename_i e;cases h;exact C.go st 9 hi e (by decide)
  split at h
  ·rename_i e;cases h;exact C.go st 10 hi e (by decide)
  split at h
  ·rename_i e;cases h;exact C.go st 17 hi e (by decide)
  split at h
  ·split at h
   ·cases h
   rename_i s a hx;cases h
   exact C.shut (C.sumBy (Cl.termTw n f) n _ _ (C.open_ hi (by decide)) hx) (by decide)
  cases h;exact C.fail st hi
theorem Cl.sumTw(n f:Nat):bS I (sumTw ts n f):=C.sumBy (C.termTw n f) n
theorem Cl.compare{sum:RS->Option (RS×Option bh)}(h0:bS I sum):bS I (eN ts sum):=λ st r hi h=>by
 unfold eN at h;split at h
 ·cases h
 rename_i s a hx;have h1:=h0 _ _ hi hx;split at h
 ·rename_i e;split at h
  ·cases h
  rename_i s2 b hy;cases h
  exact h0 _ _ (C.go s 40 h1 e (by decide)) hy
 split at h
 ·cases h
 rename_i s2 b hy;cases h
 exact h0 _ _ (C.take h1 (by decide)) hy
theorem Cl.binLp{q:Int}(hq:2<=q){m:aQ->aQ->aQ}{rd:RS->Option (RS×Option aQ)}(h0:bS I rd):∀(n:Nat) (st:RS) (a:Option aQ) (r:RS×Option aQ),I st->binLp ts q m rd n st a=some r->I r.1
 | 0,_,_,_,_,h=>by cases h
 | n+1,st,a,r,hi,h=>by
  rw [Go.Proofs.YtgdeeodifnegiaaGreatDoor.binLp]at h;split at h
  ·rename_i e;split at h
   ·cases h
   rename_i s b hx;exact Cl.binLp hq h0 n _ _ r (h0 _ _ (C.go st q hi e hq) hx) h
  cases h;exact hi
theorem Cl.binBy{q:Int}(hq:2<=q){m:aQ->aQ->aQ}{rd:RS->Option (RS×Option aQ)}(h0:bS I rd)(n:Nat):bS I (binBy ts q m rd n):=λ st r hi h=>by
 unfold Go.Proofs.YtgdeeodifnegiaaGreatDoor.binBy at h;split at h
 ·cases h
 rename_i s a hx;exact C.binLp hq h0 n _ _ r (h0 _ _ hi hx) h
theorem Cl.cond{nt:RS->Option (RS×Option aQ)}(h0:bS I nt)(n:Nat):bS I (ig ts nt n):=C.binBy (by decide) (C.binBy (by decide) h0 n) n
theorem Cl.notTw{sum:RS->Option (RS×Option bh)}(h0:bS I sum)(n:Nat):∀ f,bS I (notTw ts n sum f)
 | 0=>λ _ _ _ h=>by cases h
 | f+1=>λ st r hi h=>by
  rw [Go.Proofs.YtgdeeodifnegiaaGreatDoor.notTw]at h;split at h
  ·split at h
   ·cases h
   rename_i s c hx;cases h
   exact C.dec (Cl.notTw h0 n f _ _ (C.open_ hi (by decide)) hx)
  split at h
  ·rename_i e;cases h
   exact C.useSet (C.take (C.go st 21 hi e (by decide)) (by decide))
  split at h
  ·rename_i e;cases h
   exact C.useWay (C.take (C.go st 23 hi e (by decide)) (by decide))
  split at h
  ·rename_i e;cases h
   exact C.within (C.go st 25 hi e (by decide)) _ _
  split at h
  ·split at h
   ·cases h
   rename_i s c hx;cases h
   exact C.shut (C.cond (Cl.notTw h0 n f) n _ _ (C.open_ hi (by decide)) hx) (by decide)
  exact C.compare h0 _ _ hi h
theorem Cl.repLp:∀(n:Nat) (st:RS) (z m:Bool) (r:RS×Bool×Bool),I st->repLp ts n st z m=some r->I r.1
 | 0,_,_,_,_,_,h=>by cases h
 | n+1,st,z,m,r,hi,h=>by
  rw [Go.Proofs.YtgdeeodifnegiaaGreatDoor.repLp]at h;split at h
  ·rename_i e;exact Cl.repLp n _ _ _ r (C.go st 36 hi e (by decide)) h
  split at h
  ·rename_i e;exact Cl.repLp n _ _ _ r (C.go st 38 hi e (by decide)) h
  split at h
  ·rename_i e;exact Cl.repLp n _ _ _ r (C.go st 37 hi e (by decide)) h
  cases h;exact hi
theorem Cl.repeats(n:Nat)(A:aH):bS I (di ts n A):=λ st r hi h=>by
 unfold di at h;split at h
 ·cases h
 rename_i s z m hx;cases h
 exact C.repLp n st false false _ hi hx
theorem Cl.someR{n:Nat}{A:aH}{st:RS}{r:RS×Option aH}(hi:I st)(h:someR (di ts n A st)=some r):I r.1:=by
 unfold Go.Proofs.YtgdeeodifnegiaaGreatDoor.someR at h;split at h
 ·cases h
 rename_i s m hx;cases h
 exact C.repeats n A _ _ hi hx
omit C in
theorem eC{α:Type}{rd:RS->Option (RS×Option α)}(h0:bS I rd):∀(n:Nat) (st:RS) (l:List α) (r:RS×List α),I st->bO rd n st l=some r->I r.1
 | 0,_,_,_,_,h=>by cases h
 | n+1,st,l,r,hi,h=>by
  rw [bO]at h;split at h
  ·cases h
  ·rename_i s hx;cases h
   exact h0 _ _ hi hx
  rename_i s x hx;exact eC h0 n _ _ r (h0 _ _ hi hx) h
theorem Cl.altLp{rd:RS->Option (RS×aH)}(h0:bS I rd):∀(n:Nat) (st:RS) (l:List aH) (r:RS×List aH),I st->altLp ts rd n st l=some r->I r.1
 | 0,_,_,_,_,h=>by cases h
 | n+1,st,l,r,hi,h=>by
  rw [Go.Proofs.YtgdeeodifnegiaaGreatDoor.altLp]at h;split at h
  ·rename_i e;split at h
   ·cases h
   rename_i s m hx;exact Cl.altLp h0 n _ _ r (h0 _ _ (C.go st 35 hi e (by decide)) hx) h
  cases h;exact hi
theorem Cl.eithTw(n:Nat):∀ f,bS I (eithTw ts n f)
 | 0=>λ _ _ _ h=>by cases h
 | f+1=>λ st r hi h=>by
  have hit:bS I (dM ts n (Go.Proofs.YtgdeeodifnegiaaGreatDoor.eithTw ts n f)):=λ st r hi h=>by
   unfold dM at h;split at h
   ·exact C.someR (C.within hi _ _) h
   split at h
   ·rename_i e;exact C.someR (C.go st 41 hi e (by decide)) h
   split at h
   ·split at h
    ·cases h
    rename_i s m hx;exact C.someR (C.shut (Cl.eithTw n f _ _ (C.open_ hi (by decide)) hx) (by decide)) h
   cases h;exact hi
  have hrw:bS I (gw ts n (dM ts n (Go.Proofs.YtgdeeodifnegiaaGreatDoor.eithTw ts n f))):=λ st r hi h=>by
   unfold gw at h;split at h
   ·cases h
   rename_i s l hx;cases h
   have h1:=eC hit n st [] _ hi hx;dsimp only at h1 ⊢;split
   ·exact C.fail _ h1
   exact h1
  rw [Go.Proofs.YtgdeeodifnegiaaGreatDoor.eithTw]at h;unfold nU at h;split at h
  ·cases h
  rename_i s m hx;split at h
  ·cases h
  rename_i s2 l hy;cases h
  exact C.altLp hrw n _ _ _ (hrw _ _ hi hx) hy
theorem Cl.oneRange{st:RS}(hi:I st):I (aZ ts st).1:=by
 have h1:=C.take hi (k:=3) (by decide);unfold aZ;split
 ·exact C.within (C.within h1 _ _) _ _
 exact h1
theorem Cl.rangesLp:∀(n:Nat) (st:RS) (l:List dU) (r:RS×List dU),I st->rangesLp ts n st l=some r->I r.1
 | 0,_,_,_,_,h=>by cases h
 | n+1,st,l,r,hi,h=>by
  rw [Go.Proofs.YtgdeeodifnegiaaGreatDoor.rangesLp]at h;split at h
  ·rename_i e;exact Cl.rangesLp n _ _ r (C.oneRange (C.go st 28 hi e (by decide))) h
  cases h;exact hi
theorem Cl.ranges(n:Nat):bS I (gv ts n):=λ st r hi h=>by
 unfold gv at h;split at h
 ·cases h
 rename_i s l hx;cases h
 exact C.take (C.rangesLp n _ _ _ (C.oneRange (C.take hi (by decide))) hx) (by decide)
theorem Cl.defW(n f:Nat):bS I (defW ts n f):=λ st r hi h=>by
 unfold Go.Proofs.YtgdeeodifnegiaaGreatDoor.defW at h;split at h
 ·rename_i e;split at h
  ·cases h
  rename_i s m hx;cases h
  exact C.same _ _ (C.take (C.eithTw n f _ _ (C.take (C.newName (C.go st 6 hi e (by decide))) (by decide)) hx) (k:=27) (by decide)) rfl rfl rfl rfl (by first|exact λ h=>h|exact λ _=>ck _ _) (by first|exact λ h=>h|exact λ _=>ck _ _)
 unfold yY at h;split at h
 ·rename_i e;split at h
  ·cases h
  rename_i s m hx;cases h
  exact C.same _ _ (C.take (C.ranges n _ _ (C.take (C.newName (C.go st 5 hi e (by decide))) (by decide)) hx) (k:=27) (by decide)) rfl rfl rfl rfl (by first|exact λ h=>h|exact λ _=>ck _ _) (by first|exact λ h=>h|exact λ _=>ck _ _)
 first
  | (cases h;exact hi)
  | (split at h;(cases h);(cases h;exact hi))
theorem Cl.defsW(n f:Nat):∀(k:Nat) (st s:RS),I st->defsW ts n f k st=some s->I s
 | 0,st,s,hi,h=>by cases h;exact hi
 | k+1,st,s,hi,h=>by
  rw [Go.Proofs.YtgdeeodifnegiaaGreatDoor.defsW]at h;split at h
  ·cases h
  ·rename_i s1 hx;exact Cl.defsW n f k _ _ (C.defW n f _ _ hi hx) h
  rename_i s1 hx;cases h
  exact C.defW n f _ _ hi hx
theorem Cl.block{rd:RS->Option (RS×Option (Option aM))}(h0:bS I rd)(n:Nat):bS I (fU ts rd n):=λ st r hi h=>by
 unfold fU at h;split at h
 ·cases h
 rename_i s l hx;cases h
 exact C.line _ (C.shut (eC h0 n _ _ _ (C.line _ (C.open_ hi (by decide))) hx) (by decide))
theorem Cl.end_{st:RS}(h:I st):I (g9 ts st):=C.take h (by decide)
theorem Cl.stmtTw(n:Nat)(ok:Int->Bool){sum:RS->Option (RS×Option bh)}(hs:bS I sum){cnd:RS->Option (RS×Option aQ)}(hc:bS I cnd):∀ f,bS I (stmtTw ts n ok sum cnd f)
 | 0=>λ _ _ _ h=>by cases h
 | f+1=>λ st r hi h=>by
  have IH:=Cl.stmtTw n ok hs hc f;rw [Go.Proofs.YtgdeeodifnegiaaGreatDoor.stmtTw]at h;split at h
  ·cases h
  split at h
  ·rename_i e;split at h
   ·cases h
   rename_i s1 c hx;have h1:=hc _ _ (C.go st 14 hi e (by decide)) hx;split at h
   ·cases h
   rename_i s2 yes hy;have h2:=C.block IH n _ _ (C.take h1 (by decide)) hy;split at h
   ·rename_i e2;split at h
    ·cases h
    rename_i s3 no hz;cases h
    exact C.block IH n _ _ (C.go s2 16 h2 e2 (by decide)) hz
   cases h;exact h2
  split at h
  ·rename_i e;cases h;exact C.end_ (C.go st 7 hi e (by decide))
  split at h
  ·rename_i e;cases h;exact C.end_ (C.go st 8 hi e (by decide))
  split at h
  ·rename_i e;split at h
   ·cases h
   rename_i s1 a hx;cases h
   exact C.end_ (hs _ _ (C.take (C.go st 9 hi e (by decide)) (by decide)) hx)
  split at h
  ·rename_i e;split at h
   ·cases h
   rename_i s1 a hx;cases h
   exact C.end_ (hs _ _ (C.take (C.go st 10 hi e (by decide)) (by decide)) hx)
  split at h
  ·rename_i e;cases h;exact C.end_ (C.within (C.go st 11 hi e (by decide)) _ _)
  split at h
  ·rename_i e;cases h;exact C.end_ (C.within (C.go st 12 hi e (by decide)) _ _)
  split at h
  ·rename_i e;cases h;exact C.end_ (C.within (C.go st 13 hi e (by decide)) _ _)
  cases h;exact hi
theorem Cl.policyW(n f:Nat){stmt:RS->Option (RS×Option (Option aM))}(h0:bS I stmt):bS I (policyW ts n f stmt):=λ st r hi h=>by
 unfold Go.Proofs.YtgdeeodifnegiaaGreatDoor.policyW at h;split at h
 ·cases h
 rename_i s hx;have h1:=C.defsW n f 8 _ _ hi hx;unfold i6 at h;split at h
 ·cases h
 rename_i s1 l hy;have h2:=eC h0 n _ _ _ h1 hy;cases h
 dsimp only at h2 ⊢
 have h3:I (if l.length=0 then cC ts s1 else s1):=by
  split
  ·exact C.fail _ h2
  exact h2
 generalize (if l.length=0 then cC ts s1 else s1)=s2 at *;split
 ·exact h3
 exact C.fail _ h3
end
structure Pg(ts:List aw)(st:RS):Prop where
 ex:∃ l:List Gp,st.page=Cm l/\l.map (·.2)=ts.take st.next/\(∀ x∈l.tail,Jj x)/\(∀ x,l.head?=some x->x.1=[]\/tp x.1)
 gap:(st.gap.data.toList=[]/\st.next=0)\/tp st.gap.data.toList
theorem Fx(l:List Gp)(x:Gp):Cm (l++[x])=Cm l++(x.1++x.2.text.data.toList):=by simp [Cm]
theorem CN{ts:List aw}{st:RS}{k:Int}(e:am ts st=k)(hk:2<=k):ts[st.next]?=some (bL ts st):=by
 obtain⟨h1,_⟩:=mS e hk;unfold bL at h1 ⊢;cases h:ts[st.next]? with
 | none =>
  rw [h]at h1;have:(0:Int)=k:=h1;omega
 | some t=>rfl
theorem LJ(ts:List aw):Cl ts (Pg ts):=by
 refine⟨λ st k h e hk=>?_,λ st h=>⟨h.ex,h.gap⟩,λ st h=>⟨h.ex,inr (inr rfl)⟩,λ st st' h h1 h2 h3 _ _ _=>⟨by rw [h1,h2];exact h.ex,by rw [h1,h3];exact h.gap⟩⟩;obtain⟨⟨l,hp,hm,hs,hh⟩,hg⟩:=h;have hat:=CN e hk;have htk:ts.take (st.next+1)=ts.take st.next++[bL ts st]:=by rw [List.take_add_one,hat];rfl
 have hgap:∀ g:Int,tp ((if g=27 then qc else fH):ByteArray).data.toList:=λ g=>by
  split
  ·exact inr rfl
  exact inl rfl
 have hlast:l≠[]->tp st.gap.data.toList:=λ hne=>by
  rcases hg with⟨_,h0⟩|hg
  ·rw [h0]at hm;exact absurd (List.map_eq_nil_iff.1 hm) hne
  exact hg
 have key:∀ x:Gp,x.2=bL ts st->(l≠[]->Jj x)->(x.1=[]\/tp x.1)->∃ l2:List Gp,Cm l++(x.1++(bL ts st).text.data.toList)=Cm l2/\l2.map (·.2)=ts.take (st.next+1)/\(∀ y∈l2.tail,Jj y)/\(∀ y,l2.head?=some y->y.1=[]\/tp y.1):=λ x hx hsx hx0=>by
  refine⟨l++[x],by rw [Fx,hx],by rw [List.map_append,hm,htk];simp [hx],λ y hy=>?_,λ y hy=>?_⟩
  ·cases l with
   | nil=>simp at hy
   | cons a l =>
    simp only [List.cons_append,List.tail_cons,List.mem_append,List.mem_singleton]at hy;rcases hy with hy|rfl
    ·exact hs y hy
    exact hsx (by simp)
  cases l with
  | nil=>simp at hy;rw [<-hy];exact hx0
  | cons a l=>exact hh y (by simpa using hy)
 by_cases hq:(bL ts st).kind=27\/(bL ts st).kind=28
 ·obtain⟨l2,k1,k2,k3,k4⟩:=key ([],bL ts st) rfl (λ _=>inr ⟨rfl,hq⟩) (inl rfl);refine⟨⟨l2,?_,k2,k3,k4⟩,inr (hgap _)⟩;show(if(bL ts st).kind=27\/(bL ts st).kind=28 then st.page++(bL ts st).text.data.toList else _)=_;rw [aC hq,hp,<-k1];rfl
 obtain⟨l2,k1,k2,k3,k4⟩:=key (st.gap.data.toList,bL ts st) rfl (λ hne=>inl (hlast hne)) (hg.elim (λ h=>inl h.1) inr);refine⟨⟨l2,?_,k2,k3,k4⟩,inr (hgap _)⟩;show(if(bL ts st).kind=27\/(bL ts st).kind=28 then st.page++(bL ts st).text.data.toList else(st.page++st.gap.data.toList)++(bL ts st).text.data.toList)=_;rw [au hq,hp,<-k1,List.append_assoc]
theorem NE(ts:List aw):Pg ts lJ:=⟨⟨[],rfl,by simp [lJ],λ x hx=>(by cases hx),λ x hx=>(by cases hx)⟩,inl ⟨rfl,rfl⟩⟩
theorem zO{ts:List aw}{n f:Nat}{stmt:RS->Option (RS×Option (Option aM))}(h0:∀ I,Cl ts I->bS I stmt){r:RS×List (Option aM)}(h:policyW ts n f stmt lJ=some r):Pg ts r.1 :=
 (LJ ts).policyW n f (h0 _ (LJ ts)) _ _ (NE ts) h
def fE(ts:List aw)(st:RS):Nat:=if st.syn.isSome then 0 else ts.length-st.next
def qK{α:Type}(ts:List aw)(N:Nat)(rd:RS->Option (RS×α)):Prop:=∀ st,fE ts st<N->∃ r,rd st=some r/\fE ts r.1<=fE ts st
section
variable {ts:List aw}
theorem cR{st:RS}{k:Int}(e:am ts st=k)(hk:2<=k):fE ts (bg ts st)+1=fE ts st:=by
 have hat:=CN e hk;obtain⟨_,hs⟩:=mS e hk;have hlt:st.next<ts.length:=(List.getElem?_eq_some_iff.1 hat).1
 have h1:fE ts (bg ts st)=ts.length-(st.next+1):=by
  unfold fE;rw [show(bg ts st).syn=st.syn from rfl,hs];rfl
 have h2:fE ts st=ts.length-st.next:=by
  unfold fE;rw [hs];rfl
 omega
theorem oR(st:RS):fE ts (cC ts st)=0:=by
 unfold fE;rw [show(cC ts st).syn=iC st.syn _ from rfl,aC (ck _ _)]
theorem cY(st:RS){k:Int}(hk:2<=k):fE ts (ar ts k st).1<=fE ts st-1:=by
 unfold ar;split
 ·rename_i e;have:=cR e hk;dsimp only;omega
 dsimp only;rw [oR];omega
theorem mD(st:RS){k:Int}(hk:2<=k):fE ts (dt ts k st)<=fE ts st-1:=by
 show fE ts (ar ts k (if st.depth=8 then cC ts st else st)).1<=_;split
 ·have:=cY (ts:=ts) (cC ts st) hk;rw [oR]at this;omega
 exact cY st hk
theorem pE(st:RS){k:Int}(hk:2<=k):fE ts (gx ts k st)<=fE ts st-1:=cY st hk
theorem gP(st:RS)(a b:Int):fE ts (aE ts a b st).1<=fE ts st-1:=by
 have:=cY (ts:=ts) st (k:=2) (by decide);unfold aE;dsimp only;split
 ·exact this
 exact this
theorem CV(st:RS):fE ts (de ts st).1<=fE ts st-1:=by
 have:=cY (ts:=ts) st (k:=4) (by decide);unfold de;dsimp only;split
 ·exact this
 exact this
theorem CX(st:RS):fE ts (dg ts st).1<=fE ts st-1:=by
 have:=cY (ts:=ts) st (k:=4) (by decide);unfold dg;dsimp only;split
 ·exact this
 exact this
theorem qC{tm:RS->Option (RS×Option bh)}{N:Nat}(h0:qK ts N tm):∀(n:Nat) (st:RS) (x:Option bh),fE ts st<n->fE ts st<N->∃ r,sumLp ts tm n st x=some r/\fE ts r.1<=fE ts st
 | 0,_,_,h,_=>by omega
 | n+1,st,x,h1,h2=>by
  rw [sumLp];split
  ·rename_i e;have hg:=cR e (by decide);obtain⟨⟨s,y⟩,e1,l1⟩:=h0 (bg ts st) (by omega);dsimp only at l1;rw [e1];obtain⟨r,e2,l2⟩:=qC h0 n s (rq x y 1) (by omega) (by omega);exact⟨r,e2,by omega⟩
  split
  ·rename_i e;have hg:=cR e (by decide);obtain⟨⟨s,y⟩,e1,l1⟩:=h0 (bg ts st) (by omega);dsimp only at l1;rw [e1];obtain⟨r,e2,l2⟩:=qC h0 n s (rq x y (-1)) (by omega) (by omega);exact⟨r,e2,by omega⟩
  exact⟨_,rfl,aD _⟩
theorem wD{tm:RS->Option (RS×Option bh)}{N n:Nat}(h0:qK ts N tm)(hn:N<=n):qK ts N (sumBy ts tm n):=λ st h=>by
 obtain⟨⟨s,y⟩,e1,l1⟩:=h0 st h;dsimp only at l1;unfold sumBy;rw [e1];obtain⟨r,e2,l2⟩:=qC h0 n s y (by omega) (by omega);exact⟨r,e2,by omega⟩
theorem AD(n:Nat):∀ f,f<=n->qK ts f (termTw ts n f)
 | 0,_=>λ st h=>by omega
 | f+1,hf=>λ st h=>by
  rw [termTw];split
  ·rename_i e;have:=cR e (by decide);exact⟨_,rfl,by dsimp only;omega⟩
  split
  ·rename_i e;have:=cR e (by decide);exact⟨_,rfl,by dsimp only;omega⟩
  split
  ·rename_i e;have:=cR e (by decide);exact⟨_,rfl,by dsimp only;omega⟩
  split
  ·rename_i e;have:=cR e (by decide);exact⟨_,rfl,by dsimp only;omega⟩
  split
  ·rename_i e;have hg:=cR e (by decide);have ho:=mD (ts:=ts) st (k:=33) (by decide);obtain⟨⟨s,y⟩,e1,l1⟩:=wD (AD n f (by omega)) (n:=n) (by omega) (dt ts 33 st) (by omega);dsimp only at l1;rw [e1];have hs:=pE (ts:=ts) s (k:=34) (by decide);exact⟨_,rfl,by dsimp only;omega⟩
  exact⟨_,rfl,by dsimp only;rw [oR];omega⟩
theorem Ga{n f:Nat}(h:f<=n):qK ts f (sumTw ts n f):=wD (AD n f h) h
theorem yP{sm:RS->Option (RS×Option bh)}{N:Nat}(h0:qK ts N sm):qK ts N (eN ts sm):=λ st h=>by
 obtain⟨⟨s,y⟩,e1,l1⟩:=h0 st h;dsimp only at l1;unfold eN;rw [e1];dsimp only;split
 ·rename_i e;have hg:=cR e (by decide);obtain⟨⟨s2,y2⟩,e2,l2⟩:=h0 (bg ts s) (by omega);dsimp only at l2;rw [e2];exact⟨_,rfl,by dsimp only;omega⟩
 have hg:=cY (ts:=ts) s (k:=26) (by decide);obtain⟨⟨s2,y2⟩,e2,l2⟩:=h0 (ar ts 26 s).1 (by omega);dsimp only at l2;rw [e2];exact⟨_,rfl,by dsimp only;omega⟩
theorem vz{q:Int}(hq:2<=q){m:aQ->aQ->aQ}{rd:RS->Option (RS×Option aQ)}{N:Nat}(h0:qK ts N rd):∀(n:Nat) (st:RS) (x:Option aQ),fE ts st<n->fE ts st<N->∃ r,binLp ts q m rd n st x=some r/\fE ts r.1<=fE ts st
 | 0,_,_,h,_=>by omega
 | n+1,st,x,h1,h2=>by
  rw [binLp];split
  ·rename_i e;have hg:=cR e hq;obtain⟨⟨s,y⟩,e1,l1⟩:=h0 (bg ts st) (by omega);dsimp only at l1;rw [e1];obtain⟨r,e2,l2⟩:=vz hq h0 n s (wW m x y) (by omega) (by omega);exact⟨r,e2,by omega⟩
  exact⟨_,rfl,aD _⟩
theorem vw{q:Int}(hq:2<=q){m:aQ->aQ->aQ}{rd:RS->Option (RS×Option aQ)}{N n:Nat}(h0:qK ts N rd)(hn:N<=n):qK ts N (binBy ts q m rd n):=λ st h=>by
 obtain⟨⟨s,y⟩,e1,l1⟩:=h0 st h;dsimp only at l1;unfold binBy;rw [e1];obtain⟨r,e2,l2⟩:=vz (m:=m) hq h0 n s y (by omega) (by omega);exact⟨r,e2,by omega⟩
theorem yU{nt:RS->Option (RS×Option aQ)}{N n:Nat}(h0:qK ts N nt)(hn:N<=n):qK ts N (ig ts nt n):=vw (by decide) (vw (by decide) h0 hn) hn
theorem DG{sm:RS->Option (RS×Option bh)}{n:Nat}:∀ f,f<=n->qK ts f sm->qK ts f (notTw ts n sm f)
 | 0,_,_=>λ st h=>by omega
 | f+1,hf,h0=>λ st h=>by
  have IH:qK ts f (notTw ts n sm f):=DG f (by omega) (λ st h=>h0 st (by omega));rw [notTw];split
  ·rename_i e;have hg:=cR e (by decide);have ho:=mD (ts:=ts) st (k:=20) (by decide);obtain⟨⟨s,y⟩,e1,l1⟩:=IH (dt ts 20 st) (by omega);dsimp only at l1;rw [e1];exact⟨_,rfl,by show fE ts s<=_;omega⟩
  split
  ·rename_i e;have hg:=cR e (by decide);have h1:=cY (ts:=ts) (bg ts st) (k:=22) (by decide);have h2:=CV (ts:=ts) (ar ts 22 (bg ts st)).1;exact⟨_,rfl,by dsimp only;omega⟩
  split
  ·rename_i e;have hg:=cR e (by decide);have h1:=cY (ts:=ts) (bg ts st) (k:=24) (by decide);have h2:=CX (ts:=ts) (ar ts 24 (bg ts st)).1;exact⟨_,rfl,by dsimp only;omega⟩
  split
  ·rename_i e;have hg:=cR e (by decide);have h2:=gP (ts:=ts) (bg ts st) 0 65535;exact⟨_,rfl,by dsimp only;omega⟩
  split
  ·rename_i e;have hg:=cR e (by decide);have ho:=mD (ts:=ts) st (k:=31) (by decide);obtain⟨⟨s,y⟩,e1,l1⟩:=yU IH (n:=n) (by omega) (dt ts 31 st) (by omega);dsimp only at l1;rw [e1];have hs:=pE (ts:=ts) s (k:=32) (by decide);exact⟨_,rfl,by dsimp only;omega⟩
  exact yP h0 st h
end
def AT{α:Type}(ts:List aw)(N:Nat)(rd:RS->Option (RS×Option α)):Prop:=∀ st,fE ts st<N->∃ r,rd st=some r/\fE ts r.1<=fE ts st/\(r.2.isSome=true->fE ts r.1<fE ts st)
section
variable {ts:List aw}
theorem mV:∀(n:Nat) (st:RS) (z m:Bool),fE ts st<n->∃ r,repLp ts n st z m=some r/\fE ts r.1<=fE ts st
 | 0,_,_,_,h=>by omega
 | n+1,st,z,m,h=>by
  rw [repLp];split
  ·rename_i e;have hg:=cR e (by decide);obtain⟨r,e1,l1⟩:=mV n (bg ts st) true true (by omega);exact⟨r,e1,by omega⟩
  split
  ·rename_i e;have hg:=cR e (by decide);obtain⟨r,e1,l1⟩:=mV n (bg ts st) z true (by omega);exact⟨r,e1,by omega⟩
  split
  ·rename_i e;have hg:=cR e (by decide);obtain⟨r,e1,l1⟩:=mV n (bg ts st) true m (by omega);exact⟨r,e1,by omega⟩
  exact⟨_,rfl,aD _⟩
theorem qu(n:Nat)(A:aH)(st:RS)(h:fE ts st<n):∃ r,someR (di ts n A st)=some r/\fE ts r.1<=fE ts st:=by
 obtain⟨⟨s,z,m⟩,e1,l1⟩:=mV n st false false h;unfold di;rw [e1];exact⟨_,rfl,l1⟩
theorem oZ{α:Type}{rd:RS->Option (RS×Option α)}{N:Nat}(h0:AT ts N rd):∀(n:Nat) (st:RS) (l:List α),fE ts st<n->fE ts st<N->∃ r,bO rd n st l=some r/\fE ts r.1<=fE ts st
 | 0,_,_,h,_=>by omega
 | n+1,st,l,h1,h2=>by
  rw [bO];obtain⟨⟨s,y⟩,e1,l1,l2⟩:=h0 st h2;dsimp only at l1 l2;rw [e1];cases y with
  | none=>exact⟨_,rfl,l1⟩
  | some x =>
   have h3:=l2 rfl;obtain⟨r,e2,l4⟩:=oZ h0 n s (l++[x]) (by omega) (by omega);exact⟨r,e2,by omega⟩
theorem H6{n N:Nat}(hn:N<=n){ei:RS->Option (RS×aH)}(h0:∀ st,fE ts st+1<N->∃ r,ei st=some r/\fE ts r.1<=fE ts st):AT ts N (dM ts n ei):=λ st h=>by
 unfold dM;split
 ·rename_i e;have hg:=cR e (by decide);have hw:=gP (ts:=ts) st 1 65535;obtain⟨r,e1,l1⟩:=qu (ts:=ts) n (Fb (aE ts 1 65535 st).2) (aE ts 1 65535 st).1 (by omega);exact⟨r,e1,by omega,λ _=>by omega⟩
 split
 ·rename_i e;have hg:=cR e (by decide);obtain⟨r,e1,l1⟩:=qu (ts:=ts) n Ew (bg ts st) (by omega);exact⟨r,e1,by omega,λ _=>by omega⟩
 split
 ·rename_i e;have hg:=cR e (by decide);have ho:=mD (ts:=ts) st (k:=33) (by decide);obtain⟨⟨s,m⟩,e1,l1⟩:=h0 (dt ts 33 st) (by omega);dsimp only at l1;rw [e1];have hs:=pE (ts:=ts) s (k:=34) (by decide);obtain⟨r,e2,l2⟩:=qu (ts:=ts) n m (gx ts 34 s) (by omega);exact⟨r,e2,by omega,λ _=>by omega⟩
 exact⟨_,rfl,aD _,λ h=>by cases h⟩
theorem Lc{n N:Nat}(hn:N<=n){it:RS->Option (RS×Option aH)}(h0:AT ts N it):qK ts N (gw ts n it):=λ st h=>by
 obtain⟨⟨s,l⟩,e1,l1⟩:=oZ h0 n st [] (by omega) h;dsimp only at l1;unfold gw;rw [e1];refine⟨_,rfl,?_⟩;dsimp only;split
 ·rw [oR];omega
 exact l1
theorem vu{rd:RS->Option (RS×aH)}{N:Nat}(h0:qK ts N rd):∀(n:Nat) (st:RS) (l:List aH),fE ts st<n->fE ts st<N->∃ r,altLp ts rd n st l=some r/\fE ts r.1<=fE ts st
 | 0,_,_,h,_=>by omega
 | n+1,st,l,h1,h2=>by
  rw [altLp];split
  ·rename_i e;have hg:=cR e (by decide);obtain⟨⟨s,m⟩,e1,l1⟩:=h0 (bg ts st) (by omega);dsimp only at l1;rw [e1];obtain⟨r,e2,l2⟩:=vu h0 n s (l++[m]) (by omega) (by omega);exact⟨r,e2,by omega⟩
  exact⟨_,rfl,aD _⟩
theorem zi{n:Nat}:∀ f,f<=n->qK ts f (eithTw ts n f)
 | 0,_=>λ st h=>by omega
 | f+1,hf=>λ st h=>by
  have IH:qK ts f (eithTw ts n f):=zi f (by omega);have hrw:qK ts (f+1) (gw ts n (dM ts n (eithTw ts n f))):=Lc hf (H6 hf (λ st h=>IH st (by omega)));rw [eithTw];unfold nU;obtain⟨⟨s,m⟩,e1,l1⟩:=hrw st h;dsimp only at l1;rw [e1];dsimp only;obtain⟨⟨s2,l2⟩,e2,l3⟩:=vu hrw n s [m] (by omega) (by omega);dsimp only at l3;rw [e2];exact⟨_,rfl,by dsimp only;omega⟩
theorem pi(st:RS):fE ts (aZ ts st).1<=fE ts st:=by
 have h1:=cY (ts:=ts) st (k:=3) (by decide);unfold aZ;split
 ·have h2:=gP (ts:=ts) (ar ts 3 st).1 (ar ts 3 st).2.len 32;have h3:=gP (ts:=ts) (aE ts (ar ts 3 st).2.len 32 (ar ts 3 st).1).1 (aE ts (ar ts 3 st).2.len 32 (ar ts 3 st).1).2 32;dsimp only;omega
 dsimp only;omega
theorem py:∀(n:Nat) (st:RS) (l:List dU),fE ts st<n->∃ r,rangesLp ts n st l=some r/\fE ts r.1<=fE ts st
 | 0,_,_,h=>by omega
 | n+1,st,l,h=>by
  rw [rangesLp];split
  ·rename_i e;have hg:=cR e (by decide);have ho:=pi (ts:=ts) (bg ts st);obtain⟨r,e1,l1⟩:=py n (aZ ts (bg ts st)).1 (l++[(aZ ts (bg ts st)).2]) (by omega);exact⟨r,e1,by omega⟩
  exact⟨_,rfl,aD _⟩
theorem Ci(n:Nat):qK ts n (gv ts n):=λ st h=>by
 have h1:=cY (ts:=ts) st (k:=29) (by decide);have h2:=pi (ts:=ts) (ar ts 29 st).1;obtain⟨⟨s,l⟩,e1,l1⟩:=py (ts:=ts) n (aZ ts (ar ts 29 st).1).1 [(aZ ts (ar ts 29 st).1).2] (by omega);dsimp only at l1;unfold gv;rw [e1];have h3:=cY (ts:=ts) s (k:=30) (by decide);exact⟨_,rfl,by dsimp only;omega⟩
theorem rn(st:RS):fE ts (aI ts st).1<=fE ts st-1:=by
 have:=cY (ts:=ts) st (k:=4) (by decide);unfold aI;dsimp only;split
 ·exact this
 exact this
theorem Kg{n f:Nat}(hf:f<=n):qK ts f (defW ts n f):=λ st h=>by
 unfold defW;split
 ·rename_i e;have hg:=cR e (by decide);have h1:=rn (ts:=ts) (bg ts st);have h2:=cY (ts:=ts) (aI ts (bg ts st)).1 (k:=26) (by decide);obtain⟨⟨s,m⟩,e1,l1⟩:=zi (ts:=ts) f hf (ar ts 26 (aI ts (bg ts st)).1).1 (by omega);dsimp only at l1;rw [e1];have h3:=cY (ts:=ts) s (k:=27) (by decide);exact⟨_,rfl,by show fE ts (ar ts 27 s).1<=_;omega⟩
 rename_i e6;unfold yY;split
 ·rename_i e;have hg:=cR e (by decide);have h1:=rn (ts:=ts) (bg ts st);have h2:=cY (ts:=ts) (aI ts (bg ts st)).1 (k:=26) (by decide);obtain⟨⟨s,m⟩,e1,l1⟩:=Ci (ts:=ts) n (ar ts 26 (aI ts (bg ts st)).1).1 (by omega);dsimp only at l1;rw [e1];have h3:=cY (ts:=ts) s (k:=27) (by decide);exact⟨_,rfl,by show fE ts (ar ts 27 s).1<=_;omega⟩
 exact⟨_,rfl,aD _⟩
theorem y8{n f:Nat}(hf:f<=n):∀(k:Nat) (st:RS),fE ts st<f->∃ s,defsW ts n f k st=some s/\fE ts s<=fE ts st
 | 0,st,_=>⟨st,rfl,aD _⟩
 | k+1,st,h=>by
  obtain⟨⟨s,y⟩,e1,l1⟩:=Kg hf st h;dsimp only at l1;rw [defsW,e1];cases y with
  | true =>
   obtain⟨s2,e2,l2⟩:=y8 hf k s (by omega);exact⟨s2,e2,by omega⟩
  | false=>exact⟨s,rfl,l1⟩
theorem vC{rd:RS->Option (RS×Option (Option aM))}{n N:Nat}(hn:N<=n)(h0:AT ts N rd)(st:RS)(h:fE ts st<N):∃ r,fU ts rd n st=some r/\fE ts r.1<=fE ts st:=by
 have ho:=mD (ts:=ts) st (k:=29) (by decide);have hl:fE ts (eA (dt ts 29 st))=fE ts (dt ts 29 st):=rfl;obtain⟨⟨s,l⟩,e1,l1⟩:=oZ h0 n (eA (dt ts 29 st)) [] (by omega) (by omega);dsimp only at l1;unfold fU;rw [e1];have hs:=pE (ts:=ts) s (k:=30) (by decide);exact⟨_,rfl,by show fE ts (gx ts 30 s)<=_;omega⟩
theorem la(st:RS):fE ts (g9 ts st)<=fE ts st-1:=cY st (by decide)
theorem Ar{n:Nat}{ok:Int->Bool}(hok:∀ k,ok k=true){sm:RS->Option (RS×Option bh)}{cd:RS->Option (RS×Option aQ)}:∀ f,f<=n->qK ts f sm->qK ts f cd->AT ts f (stmtTw ts n ok sm cd f)
 | 0,_,_,_=>λ st h=>by omega
 | f+1,hf,hs,hc=>λ st h=>by
  have IH:AT ts f (stmtTw ts n ok sm cd f):=Ar hok f (by omega) (λ st h=>hs st (by omega)) (λ st h=>hc st (by omega));rw [stmtTw,au (by rw [hok];decide)];split
  ·rename_i e;have hg:=cR e (by decide);obtain⟨⟨s1,c⟩,e1,l1⟩:=hc (bg ts st) (by omega);dsimp only at l1;rw [e1];dsimp only;have h1:=cY (ts:=ts) s1 (k:=15) (by decide);obtain⟨⟨s2,y⟩,e2,l2⟩:=vC (n:=n) (by omega) IH (ar ts 15 s1).1 (by omega);dsimp only at l2;rw [e2];dsimp only;split
   ·rename_i e16;have hg2:=cR e16 (by decide);obtain⟨⟨s3,z⟩,e3,l3⟩:=vC (n:=n) (by omega) IH (bg ts s2) (by omega);dsimp only at l3;rw [e3];exact⟨_,rfl,by dsimp only;omega,λ _=>by dsimp only;omega⟩
   exact⟨_,rfl,by dsimp only;omega,λ _=>by dsimp only;omega⟩
  split
  ·rename_i e;have hg:=cR e (by decide);have h2:=la (ts:=ts) (bg ts st);exact⟨_,rfl,by dsimp only;omega,λ _=>by dsimp only;omega⟩
  split
  ·rename_i e;have hg:=cR e (by decide);have h2:=la (ts:=ts) (bg ts st);exact⟨_,rfl,by dsimp only;omega,λ _=>by dsimp only;omega⟩
  split
  ·rename_i e;have hg:=cR e (by decide);have h1:=cY (ts:=ts) (bg ts st) (k:=26) (by decide);obtain⟨⟨s1,y⟩,e1,l1⟩:=hs (ar ts 26 (bg ts st)).1 (by omega);dsimp only at l1;rw [e1];have h2:=la (ts:=ts) s1;exact⟨_,rfl,by dsimp only;omega,λ _=>by dsimp only;omega⟩
  split
  ·rename_i e;have hg:=cR e (by decide);have h1:=cY (ts:=ts) (bg ts st) (k:=26) (by decide);obtain⟨⟨s1,y⟩,e1,l1⟩:=hs (ar ts 26 (bg ts st)).1 (by omega);dsimp only at l1;rw [e1];have h2:=la (ts:=ts) s1;exact⟨_,rfl,by dsimp only;omega,λ _=>by dsimp only;omega⟩
  split
  ·rename_i e;have hg:=cR e (by decide);have h1:=gP (ts:=ts) (bg ts st) 0 65535;have h2:=la (ts:=ts) (aE ts 0 65535 (bg ts st)).1;exact⟨_,rfl,by dsimp only;omega,λ _=>by dsimp only;omega⟩
  split
  ·rename_i e;have hg:=cR e (by decide);have h1:=gP (ts:=ts) (bg ts st) 0 65535;have h2:=la (ts:=ts) (aE ts 0 65535 (bg ts st)).1;exact⟨_,rfl,by dsimp only;omega,λ _=>by dsimp only;omega⟩
  split
  ·rename_i e;have hg:=cR e (by decide);have h1:=gP (ts:=ts) (bg ts st) 1 65535;have h2:=la (ts:=ts) (aE ts 1 65535 (bg ts st)).1;exact⟨_,rfl,by dsimp only;omega,λ _=>by dsimp only;omega⟩
  exact⟨_,rfl,aD _,λ h=>by cases h⟩
theorem Ce{n f N:Nat}(hf:f<=n){stmt:RS->Option (RS×Option (Option aM))}(h0:AT ts N stmt)(st:RS)(h1:fE ts st<f)(h2:fE ts st<N):∃ r,policyW ts n f stmt st=some r:=by
 obtain⟨s,e1,l1⟩:=y8 hf 8 st h1;unfold policyW;rw [e1];dsimp only;unfold i6;obtain⟨⟨s2,l⟩,e2,_⟩:=oZ h0 n s [] (by omega) (by omega);rw [e2];exact⟨_,rfl⟩
end
def fY(st:RS):Prop:=st.syn.isSome=true\/st.nam.isSome=true\/st.num.isSome=true
theorem dE(ts:List aw):Cl ts fY :=
 ⟨λ _ _ h _ _=>h,λ _ _=>inl (ck _ _),λ _ h=>h,λ st st' h _ _ _ h4 h5 h6=>by
  unfold fY at *;rw [h4];exact h.imp id (λ h=>h.imp h5 h6)⟩
def NT{α:Type}(rd:RS->Option (RS×Option α)):Prop:=∀ st r,rd st=some r->r.2=none->fY r.1
section
variable {ts:List aw}
theorem qb(st:RS):fY (cC ts st):=inl (ck _ _)
theorem mR{st:RS}(h:fY st):fY (bg ts st):=h
theorem tT{a b:Option bh}{s:Int}(h:rq a b s=none):a=none\/b=none:=by
 cases a with
 | none=>exact inl rfl
 | some x=>cases b with
  | none=>exact inr rfl
  | some y=>cases h
theorem Ei{m:aQ->aQ->aQ}{a b:Option aQ}(h:wW m a b=none):a=none\/b=none:=by
 cases a with
 | none=>exact inl rfl
 | some x=>cases b with
  | none=>exact inr rfl
  | some y=>cases h
theorem vG{m:bh->bh->aQ}{a b:Option bh}(h:Eo m a b=none):a=none\/b=none:=by
 cases a with
 | none=>exact inl rfl
 | some x=>cases b with
  | none=>exact inr rfl
  | some y=>cases h
theorem up{tm:RS->Option (RS×Option bh)}(hk:bS fY tm)(h0:NT tm):∀(n:Nat) (st:RS) (a:Option bh) (r:RS×Option bh),(a=none->fY st)->sumLp ts tm n st a=some r->r.2=none->fY r.1
 | 0,_,_,_,_,h,_=>by cases h
 | n+1,st,a,r,ha,h,hn=>by
  rw [sumLp]at h;split at h
  ·split at h
   ·cases h
   rename_i s b hx;refine up hk h0 n s _ r (λ e=>?_) h hn;rcases tT e with e|e
   ·exact hk _ _ (mR (ha e)) hx
   exact h0 _ _ hx e
  split at h
  ·split at h
   ·cases h
   rename_i s b hx;refine up hk h0 n s _ r (λ e=>?_) h hn;rcases tT e with e|e
   ·exact hk _ _ (mR (ha e)) hx
   exact h0 _ _ hx e
  cases h;exact ha hn
theorem As{tm:RS->Option (RS×Option bh)}(hk:bS fY tm)(h0:NT tm)(n:Nat):NT (sumBy ts tm n):=λ st r h hn=>by
 unfold sumBy at h;split at h
 ·cases h
 rename_i s a hx;exact up hk h0 n s a r (λ e=>h0 _ _ hx e) h hn
theorem D3(n:Nat):∀ f,NT (termTw ts n f)
 | 0=>λ _ _ h _=>by cases h
 | f+1=>λ st r h hn=>by
  rw [termTw]at h;split at h
  ·cases h;cases hn
  split at h
  ·cases h;cases hn
  split at h
  ·cases h;cases hn
  split at h
  ·cases h;cases hn
  split at h
  ·split at h
   ·cases h
   rename_i s a hx;cases h
   exact(dE ts).shut (As ((dE ts).termTw n f) (D3 n f) n _ _ hx hn) (by decide)
  cases h;exact qb st
theorem At(n f:Nat):NT (sumTw ts n f):=As ((dE ts).termTw n f) (D3 n f) n
theorem Bg{sm:RS->Option (RS×Option bh)}(hk:bS fY sm)(h0:NT sm):NT (eN ts sm):=λ st r h hn=>by
 unfold eN at h;split at h
 ·cases h
 rename_i s a hx;split at h
 ·split at h
  ·cases h
  rename_i s2 b hy;cases h
  rcases vG hn with e|e
  ·exact hk _ _ (mR (h0 _ _ hx e)) hy
  exact h0 _ _ hy e
 split at h
 ·cases h
 rename_i s2 b hy;cases h
 rcases vG hn with e|e
 ·exact hk _ _ ((dE ts).take (h0 _ _ hx e) (by decide)) hy
 exact h0 _ _ hy e
theorem yE{q:Int}{m:aQ->aQ->aQ}{rd:RS->Option (RS×Option aQ)}(hk:bS fY rd)(h0:NT rd):∀(n:Nat) (st:RS) (a:Option aQ) (r:RS×Option aQ),(a=none->fY st)->binLp ts q m rd n st a=some r->r.2=none->fY r.1
 | 0,_,_,_,_,h,_=>by cases h
 | n+1,st,a,r,ha,h,hn=>by
  rw [binLp]at h;split at h
  ·split at h
   ·cases h
   rename_i s b hx;refine yE hk h0 n s _ r (λ e=>?_) h hn;rcases Ei e with e|e
   ·exact hk _ _ (mR (ha e)) hx
   exact h0 _ _ hx e
  cases h;exact ha hn
theorem yD{q:Int}{m:aQ->aQ->aQ}{rd:RS->Option (RS×Option aQ)}(hk:bS fY rd)(h0:NT rd)(n:Nat):NT (binBy ts q m rd n):=λ st r h hn=>by
 unfold binBy at h;split at h
 ·cases h
 rename_i s a hx;exact yE hk h0 n s a r (λ e=>h0 _ _ hx e) h hn
theorem Dt{nt:RS->Option (RS×Option aQ)}(hk:bS fY nt)(h0:NT nt)(n:Nat):NT (ig ts nt n):=yD ((dE ts).binBy (by decide) hk n) (yD hk h0 n) n
theorem Gl{st:RS}(h:(de ts st).2=none):fY (de ts st).1:=by
 unfold de at h ⊢;dsimp only at h ⊢;split at h
 ·cases h
 exact inr (inl (ck _ _))
theorem Gm{st:RS}(h:(dg ts st).2=none):fY (dg ts st).1:=by
 unfold dg at h ⊢;dsimp only at h ⊢;split at h
 ·cases h
 exact inr (inl (ck _ _))
theorem Iw{sm:RS->Option (RS×Option bh)}(hk:bS fY sm)(h0:NT sm)(n:Nat):∀ f,NT (notTw ts n sm f)
 | 0=>λ _ _ h _=>by cases h
 | f+1=>λ st r h hn=>by
  have IH:=Iw hk h0 n f;rw [notTw]at h;split at h
  ·split at h
   ·cases h
   rename_i s c hx;cases h
   exact(dE ts).dec (IH _ _ hx (Option.map_eq_none_iff.1 hn))
  split at h
  ·cases h;exact Gl (Option.map_eq_none_iff.1 hn)
  split at h
  ·cases h;exact Gm (Option.map_eq_none_iff.1 hn)
  split at h
  ·cases h;cases hn
  split at h
  ·split at h
   ·cases h
   rename_i s c hx;cases h
   exact(dE ts).shut (Dt ((dE ts).notTw hk n f) IH n _ _ hx hn) (by decide)
  exact Bg hk h0 _ _ h hn
def Nm(rd:RS->Option (RS×Option (Option aM))):Prop:=∀ st r,rd st=some r->r.2=some none->fY r.1
theorem xE{rd:RS->Option (RS×Option (Option aM))}(hk:bS fY rd)(h0:Nm rd):∀(n:Nat) (st:RS) (l:List (Option aM)) (r:RS×List (Option aM)),(none∈l->fY st)->bO rd n st l=some r->none∈r.2->fY r.1
 | 0,_,_,_,_,h,_=>by cases h
 | n+1,st,l,r,ha,h,hn=>by
  rw [bO]at h;split at h
  ·cases h
  ·rename_i s hx;cases h
   exact hk _ _ (ha hn) hx
  rename_i s x hx;refine xE hk h0 n s _ r (λ e=>?_) h hn;rcases List.mem_append.1 e with e|e
  ·exact hk _ _ (ha e) hx
  exact h0 _ _ hx (by rw [<-List.mem_singleton.1 e])
theorem pV:∀{l:List (Option aM)},iz l=none->none∈l
 | [],h=>by cases h
 | none::_,_=>List.mem_cons_self
 | some x::l,h=>List.mem_cons_of_mem _ (pV (Option.map_eq_none_iff.1 h))
theorem oI{c:Option aQ}{yes no:List (Option aM)}(h:iO c yes no=none):c=none\/none∈yes\/none∈no:=by
 unfold iO at h;split at h
 ·exact inl rfl
 split at h
 ·rename_i e;exact inr (inl (pV e))
 split at h
 ·rename_i e;exact inr (inr (pV e))
 cases h
theorem yH{rd:RS->Option (RS×Option (Option aM))}(hk:bS fY rd)(h0:Nm rd)(n:Nat){st:RS}{r:RS×List (Option aM)}(h:fU ts rd n st=some r)(hn:none∈r.2):fY r.1:=by
 unfold fU at h;split at h
 ·cases h
 rename_i s l hx;cases h
 exact(dE ts).line _ ((dE ts).shut (xE hk h0 n _ _ _ (λ e=>by cases e) hx hn) (by decide))
theorem DZ(n:Nat)(ok:Int->Bool){sm:RS->Option (RS×Option bh)}(ks:bS fY sm)(hs:NT sm){cd:RS->Option (RS×Option aQ)}(kc:bS fY cd)(hc:NT cd):∀ f,Nm (stmtTw ts n ok sm cd f)
 | 0=>λ _ _ h _=>by cases h
 | f+1=>λ st r h hn=>by
  have IH:=DZ n ok ks hs kc hc f;have IK:=(dE ts).stmtTw n ok ks kc f;rw [stmtTw]at h;split at h
  ·cases h
  split at h
  ·split at h
   ·cases h
   rename_i s1 c hx;split at h
   ·cases h
   rename_i s2 yes hy
   have k2:c=none\/none∈yes->fY s2:=λ e=>by
    rcases e with e|e
    ·exact(dE ts).block IK n _ _ ((dE ts).take (hc _ _ hx e) (by decide)) hy
    exact yH IK IH n hy e
   split at h
   ·split at h
    ·cases h
    rename_i s3 no hz;cases h
    rcases oI (fZ hn)with e|e|e
    ·exact(dE ts).block IK n _ _ (mR (k2 (inl e))) hz
    ·exact(dE ts).block IK n _ _ (mR (k2 (inr e))) hz
    exact yH IK IH n hz e
   cases h
   rcases oI (fZ hn)with e|e|e
   ·exact k2 (inl e)
   ·exact k2 (inr e)
   cases e
  split at h
  ·cases h;cases hn
  split at h
  ·cases h;cases hn
  split at h
  ·split at h
   ·cases h
   rename_i s1 a hx;cases h
   exact(dE ts).end_ (hs _ _ hx (Option.map_eq_none_iff.1 (fZ hn)))
  split at h
  ·split at h
   ·cases h
   rename_i s1 a hx;cases h
   exact(dE ts).end_ (hs _ _ hx (Option.map_eq_none_iff.1 (fZ hn)))
  split at h
  ·cases h;cases hn
  split at h
  ·cases h;cases hn
  split at h
  ·cases h;cases hn
  cases h;cases hn
theorem Fq(n f:Nat){stmt:RS->Option (RS×Option (Option aM))}(hk:bS fY stmt)(h0:Nm stmt){st:RS}{r:RS×List (Option aM)}(h:policyW ts n f stmt st=some r)(hn:none∈r.2):fY r.1:=by
 unfold policyW at h;split at h
 ·cases h
 rename_i s hx;unfold i6 at h;split at h
 ·cases h
 rename_i s1 l hy;cases h
 have h2:=xE hk h0 n _ _ _ (λ e=>by cases e) hy hn;dsimp only at h2 ⊢
 have h3:fY (if l.length=0 then cC ts s1 else s1):=by
  split
  ·exact qb _
  exact h2
 generalize (if l.length=0 then cC ts s1 else s1)=s2 at *;split
 ·exact h3
 exact qb _
theorem Cd{n f:Nat}{stmt:RS->Option (RS×Option (Option aM))}{st:RS}{r:RS×List (Option aM)}(h:policyW ts n f stmt st=some r)(h1:r.1.syn=none):am ts r.1=1/\r.2≠[]:=by
 unfold policyW at h;split at h
 ·cases h
 rename_i s hx;unfold i6 at h;split at h
 ·cases h
 rename_i s1 l hy;cases h
 dsimp only at h1 ⊢
 have hno:∀ q:RS,(cC ts q).syn≠none:=λ q e=>by
  have h2:(cC ts q).syn.isSome=true:=ck _ _;rw [e]at h2;cases h2
 by_cases e0:l.length=0
 ·rw [aC e0]at h1;exfalso;split at h1
  ·exact hno _ h1
  exact hno _ h1
 rw [au e0]at h1 ⊢;by_cases e:am ts s1=1
 ·rw [aC e];exact⟨e,λ e1=>e0 (by rw [e1];rfl)⟩
 rw [au e]at h1;exact absurd h1 (hno _)
theorem Ai:∀{l:List (Option aM)},none ∉ l->∃ ms:List aM,l=ms.map some
 | [],_=>⟨[],rfl⟩
 | none::_,h=>absurd List.mem_cons_self h
 | some x::l,h=>by
  obtain⟨ms,e⟩:=Ai (l:=l) (λ hm=>h (List.mem_cons_of_mem _ hm));exact⟨x::ms,by rw [e];rfl⟩
end
theorem Az(ts:List aw):Cl ts (λ st=>∀ t∈ts.take st.next,2<=t.kind):=by
 refine⟨λ st k h e hk=>?_,λ st h=>h,λ st h=>h,λ st st' h h1 _ _ _ _ _=>by rw [h1];exact h⟩;have hat:=CN e hk;intro t ht;have htk:ts.take (st.next+1)=ts.take st.next++[bL ts st]:=by rw [List.take_add_one,hat];rfl
 have ht':t∈ts.take (st.next+1):=ht;rw [htk]at ht';rcases List.mem_append.1 ht' with h1|h1
 ·exact h t h1
 rw [List.mem_singleton.1 h1];obtain⟨h2,_⟩:=mS e hk;rw [h2];exact hk
abbrev Ju(ts:List aw):RS->Option (RS×Option bh):=sumTw ts 700 700
noncomputable abbrev Nu(ts:List aw):RS->Option (RS×Option aQ):=ig ts (notTw ts 700 (Ju ts) 700) 700
noncomputable abbrev Am(ts:List aw):RS->Option (RS×Option (Option aM)):=stmtTw ts 700 DI (Ju ts) (Nu ts) 700
noncomputable abbrev tU(ts:List aw):Option (RS×List (Option aM)):=policyW ts 700 700 (Am ts) lJ
theorem lK(ts:List aw)(I:RS->Prop)(C:Cl ts I):bS I (Am ts) :=
 C.stmtTw 700 DI (C.sumTw 700 700) (C.cond (C.notTw (C.sumTw 700 700) 700 700) 700) 700
theorem IQ{ts:List aw}(h:ts.length<700):∃ r,tU ts=some r:=by
 have hl:fE ts lJ<700:=by
  show(if(none:Option Int).isSome then 0 else ts.length-0)<700;simp;omega
 have hs:qK ts 700 (Ju ts):=Ga (aD _);have hn:qK ts 700 (notTw ts 700 (Ju ts) 700):=DG 700 (aD _) hs;exact Ce (aD _) (Ar (λ _=>rfl) 700 (aD _) hs (yU hn (aD _))) lJ hl hl
theorem Fo{ts:List aw}{r:RS×List (Option aM)}(h:tU ts=some r)(hn:¬fY r.1):∃ ms:List aM,r.2=ms.map some:=by
 refine Ai (λ hm=>hn (Fq 700 700 (lK ts _ (dE ts)) ?_ h hm));have k1:=(dE ts).sumTw 700 700;exact DZ 700 DI k1 (At 700 700) ((dE ts).cond ((dE ts).notTw k1 700 700) 700) (Dt ((dE ts).notTw k1 700 700) (Iw k1 (At 700 700) 700 700) 700) 700
def pw(st:RS):ByteArray:=gA (st.page++st.gap.data.toList)
