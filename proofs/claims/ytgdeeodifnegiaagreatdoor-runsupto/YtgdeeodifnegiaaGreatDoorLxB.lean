/- part -/
import Derived.Test.YtgdeeodifnegiaaGreatDoorRwE
import Derived.ProofKit
import Derived.OpenShut
import Derived.Deep.Slices
import Derived.SizedLaws
import Derived.Lib.LaidTab
import Derived.Deep.Matrix
import Derived.Deep.DeepHandedRow
import Derived.Deep.DeepLaidRun
set_option maxRecDepth 100000
set_option maxHeartbeats 12800000
namespace Go.Proofs.YtgdeeodifnegiaaGreatDoor
open Go.Proofs.Tryz
open Or
open Go.RowKit
open Go.ChangeShapes Go.WideShapes Go.ChangeAt Go.RowKit Go.Deep
def jq(w:World)(v:Value)(S:List (List Value))(G:List Value->Int->Prop):Prop :=
 ∃ p c,v=.slice p S.length c/\S.length<=c/\S.length<=999999999990/\(∀ cs∈S,∃ k,G cs k)/\(S=[]\/∃ b f,p=some ⟨b,f,none⟩/\b<w.heap.size/\∀ j,(h:j<S.length)->w.rangeAt b (f+j*18) S[j])
structure MQ(W:World)(G:List Value->Int->Prop)(I:Nat->World->Prop)(q1 q2:Int)(M:Nat):Prop where
 op:∀ cs k,G cs k->cs.length=18/\cs[0]?=some (.int .i64 k)
 be:∀ m wr,I m wr->Below W.heap.size W wr
 stay:∀ m wr wr',I m wr->Below wr.heap.size wr wr'->I m wr'
 zero:I 0 (W.alloc (.cells (Dd (.slice none 0 0)) 47))
 step:∀ m wr cs k,I m wr->m<=M->G cs k->(k=q1\/k=q2)->Calls prog 8 #[ay W.heap.size 0,.agg cs.toArray] wr λ e w'=>e=.returned (.bool true)/\I (m+1) w'
 look:∀ m wr,I m wr->m<=M->Calls prog 9 #[.pointer (some ⟨W.heap.size,2,none⟩)] wr λ e w'=>e=.returned (.bool true)/\I m w'
def Mg(q1 q2 kd:Int)(j:Nat):Bool:=if j=0 then false else if j=1 then kd==q1 else(kd==q1||kd==q2)
theorem Mt(W:World)(G:List Value->Int->Prop)(I:Nat->World->Prop)(q1 q2:Int)(M:Nat)(hP:MQ W G I q1 q2 M)(L0 S:List (List Value))(vs:Value)(ga kb:Nat)
  (hL:L0.length=2) (lga:ga<W.heap.size) (hga:∀ j,(h:j<L0.length)->W.rangeAt ga (j*18) L0[j]) (hG0:∀ cs∈L0,∃ k,G cs k/\(k=q1\/k=q2))
  (hS:jq W vs S G) (hM:S.length+10<=M) (hkb:W.heap[kb]?=some (.cells #[.int .i64 q1,.int .i64 q2] 3 (0,0))) :
  Calls prog 6 #[.slice (some ⟨ga,0,none⟩) 2 2,vs,.slice (some ⟨kb,0,none⟩) 2 2] W λ e W'=>e=.returned (.bool true)/\Below W.heap.size W W':=by
 have HP:=ae hP;have EA:=ae hga;have DA:=ae hG0;have IA:=ae hkb;have lkb:kb<W.heap.size:=ai hkb;obtain⟨ps,cp,rfl,hcap,hS1,hSO,hSc⟩:=hS;have KA:=ae hSO;have JA:=ae hSc;obtain⟨N,hN⟩:∃ N,S.length=N:=⟨_,rfl⟩
 have HN:=ae hN;rw [hN]at hcap hS1 hM ⊢;have HL:=ae hL;clear hP hga hkb hSO hSc hN hG0 hL;have B0:=ae (ab HP).zero;go_enter func6,ntmps6;go_wp2_with fail;go_loopw [8] (λ i wr=>∃(k n:Nat),k<=2/\i=.int .i64 k/\I n wr/\n<=k) (λ i _=>2-(intOf i).toNat)
 case atStart=>exact⟨0,0,by omega,rfl,ab B0,by omega⟩
 case round =>
  rename World=>WR
  obtain⟨k,n,hk,rfl,hpl,hcn⟩:=hrel;have BK:=ae hpl;have hbe:=(ab HP).be _ _ hpl;have sWR:=hbe.size;by_cases hlt:k<2
  ·have hkl:k<L0.length:=by rw [ab HL];exact hlt
   obtain⟨o,ho⟩:∃ o,L0[k]=o:=⟨_,rfl⟩
   obtain⟨kd,hkd,hq⟩:=ab DA L0[k] (nN _);have hr:=ab EA k hkl;rw [ho]at hkd hr;have q:=ae (show WR.rangeAt ga (k*18) o from λ j v hv=>by rw [hbe.cell (p:=⟨ga,k*18+j,none⟩) lga];exact hr j v hv);have HO:=ae ((ab HP).op _ _ hkd).1;have AA:=ae ((ab HP).step _ _ _ _ hpl (by omega) hkd hq);clear hpl hbe hr hkd hq ho hkl;go_wp2_with (refine gG rfl _ rfl ga (k*18) rfl o (ab HO) (ab q) ?_)
   refine(ab AA).mono ?_;rintro e w1 ⟨rfl,h2⟩;have BA:=ae h2;clear h2 AA;go_wp2_with fail;exact⟨⟨k+1,n+1,by omega,by simp,ab BA,by omega⟩,by simp [intOf];omega⟩
  have hk1:k=2:=by omega
  subst hk1;clear hpl hbe hlt hk sWR EA DA HL;rw [show((2:Nat):Int)=2 from rfl];go_wp2_with fail;go_loopw [10] (λ i wr=>∃(k n:Nat),k<=N/\i=.int .i64 k/\I n wr/\n<=k+2) (λ i _=>N-(intOf i).toNat)
  case atStart=>exact⟨0,n,by omega,rfl,ab BK,by omega⟩
  case round =>
   clear hcn BK
   rename World=>WS
   obtain⟨k,n,hk,rfl,hpl,hcn⟩:=hrel;have BK:=ae hpl;have hbe:=(ab HP).be _ _ hpl;have BE:=ae hbe;have sWS:=hbe.size;have qk:=ae ((hbe.block kb lkb).trans (ab IA));clear hpl;by_cases hlt:k<N
   ·have hltS:k<S.length:=by rw [ab HN];exact hlt
    rcases ab JA with h|⟨sb,sf,rfl,lsb,hc⟩
    ·rw [h]at hltS;simp at hltS
    obtain⟨kd,hO⟩:=ab KA S[k] (nN _);have hck:=hc k hltS;obtain⟨o,ho⟩:∃ o,S[k]=o:=⟨_,rfl⟩
    rw [ho]at hO hck;have HO:=ae hO;have FA:=ae ((ab HP).op _ _ hO);have HA:=ae hck;have c0:WS.cell? ⟨sb,sf+k*18,none⟩=some (.int .i64 kd):=by rw [hbe.cell (p:=⟨sb,sf+k*18,none⟩) lsb];exact hck 0 _ (ab FA).2
    have C0:=ae c0;have lsb':sb<WS.heap.size:=by omega
    have lkb':kb<WS.heap.size:=by omega
    clear hck hbe c0 hc ho hO;go_wp2_with fail;go_loopw [12,11] (λ i x wr=>∃ j:Nat,j<=2/\i=.int .i64 j/\x=.bool (Mg q1 q2 kd j)/\Below WS.heap.size WS wr) (λ i _ _=>2-(intOf i).toNat)
    case atStart=>exact⟨0,by omega,rfl,rfl,aX _ _⟩
    case round =>
     rename World=>WT
     obtain⟨j,hj,rfl,rfl,hbj⟩:=hrel;have BJ:=ae hbj;have e0:=(hbj.cell (p:=⟨sb,sf+k*18,none⟩) lsb').trans (ab C0);have qj:=(hbj.block kb lkb').trans (ab qk);have k0:WT.cell? ⟨kb,0,none⟩=some (.int .i64 q1):=af qj;have k1:WT.cell? ⟨kb,1,none⟩=some (.int .i64 q2):=af qj;clear hbj qj;rcases(show j=0\/j=1\/j=2 by omega)with rfl|rfl|rfl
     ·rw [show Mg q1 q2 kd 0=false from rfl];cases he:(kd==q1)
      all_goals
       go_wp2_with fail;go_quiet ((fail))
       go_wp2_with fail;exact⟨⟨1,by omega,by simp,by simp [Mg,he],below_drewN (ab BJ) _⟩,by simp [intOf]⟩
     ·rw [show Mg q1 q2 kd 1=(kd==q1)from rfl];cases he:(kd==q1)
      all_goals
       cases he2:(kd==q2)
       all_goals
        go_wp2_with fail;go_quiet ((fail))
        go_wp2_with fail;exact⟨⟨2,by omega,by simp,by simp [Mg,he,he2],below_drewN (ab BJ) _⟩,by simp [intOf]⟩
     clear e0 k0 k1;have BT:=ae ((ab BE).trans ((ab BJ).mono sWS));have CA:=ae ((ab HP).stay _ _ _ (ab BK) (ab BJ));cases hin:Mg q1 q2 kd 2 with
     | false =>
      go_wp2_with fail;exact⟨⟨k+1,n,by omega,by simp,ab CA,by omega⟩,by simp [intOf];omega⟩
     | true =>
      have hkd:kd=q1\/kd=q2:=by simpa [Mg]using hin
      have RT:=ae (show WT.rangeAt sb (sf+k*18) o from λ j v hv=>by rw [(ab BT).cell (p:=⟨sb,sf+k*18+j,none⟩) lsb];exact ab HA j v hv);have AA:=ae ((ab HP).step _ _ _ _ (ab CA) (by omega) (ab HO) hkd);clear hkd;go_wp2_with (refine gG rfl _ rfl sb (sf+k*18) rfl o (ab FA).1 (ab RT) ?_)
      refine(ab AA).mono ?_;rintro e w1 ⟨rfl,h2⟩;have BA:=ae h2;clear h2 AA;go_wp2_with fail;refine((ab HP).look _ _ (ab BA) (by omega)).mono ?_;rintro e w2 ⟨rfl,h3⟩;have GA:=ae h3;clear h3;go_wp2_with fail
      go_roundw
      case rel=>exact⟨k+1,n+1,by omega,by simp,ab GA,by omega⟩
      case measure=>simp [intOf];omega
   go_wp2
   go_ret;exact⟨rfl,ab BE⟩
def yt(W:World)(cs:List Value)(k:Int):Prop:=∃ a S R pv mv,MP cs k S/\LX W cs R pv mv/\cs[1]?=some (.int .i64 a) /\ -9223372036854775808<=a/\a<=9223372036854775807
def IR(W:World)(m:Nat)(wr:World):Prop:=∃ n b xs,uM wr W.heap.size n b xs/\Fr rf.nF W (XO W.heap.size b) wr/\jZ wr (XO W.heap.size b) xs/\n<=m/\b.cnt<=2*m
def Nn:Bk:=⟨.slice none 0 0,.slice none 0 0,.slice none 0 0,[],[],[],.slice none 0 0⟩
theorem Nj(W:World):uM (W.alloc (.cells (Dd (.slice none 0 0)) 47)) W.heap.size 0 Nn []/\Fr rf.nF W (XO W.heap.size Nn) (W.alloc (.cells (Dd (.slice none 0 0)) 47)):=by
 have none':∀ k,(Value.slice none 0 0).ownBlock≠some k:=λ k e=>by simp [Value.ownBlock]at e
 refine⟨⟨⟨cN _ _,jX _ _ _ _,jX _ _ _ _,jX _ _ _ _,λ r hr=>(by cases hr),λ r hr=>(by cases hr),λ r hr=>(by cases hr),λ k hk=>?_,λ k h=>absurd h (none' k),λ k h=>absurd h (none' k),λ k h=>absurd h (none' k)⟩,jX _ _ _ _,λ k h=>absurd h (none' k)⟩,((bE rf.nF W).alloc _).reown (λ k hk=>?_)⟩
 ·rcases hk with⟨r,hr,_⟩|⟨r,hr,_⟩|⟨r,hr,_⟩<;>cases hr
 rcases hk with(rfl|h|h|h)|h
 ·exact inr (aD _)
 all_goals exact absurd h (none' k)
theorem JS.fr{wb n:Nat}{b b':Bk}{W W':World}{xs:List Value}(hs:JS wb b b' W W')(h:uM W wb n b xs)(hb:eI W' wb b'):uM W' wb n b' xs/\Fr (XO wb b) W (XO wb b') W':=by
 have hv:=hs.ps;have lt:∀ k,b.vp.ownBlock=some k->k<W.heap.size:=λ k hk=>(h.own.lt k hk).2
 refine⟨⟨hb,?_,λ k hk=>?_⟩,⟨hs.os,hs.tape,hs.output,hs.size,λ k hk hO=>hs.block k hk (λ e=>hO (inl e)),λ k hk=>?_⟩⟩
 ·rw [hv];exact ap h.own (λ k hk=>hs.block k (lt k hk) (h.free k hk).1)
 ·rw [hv]at hk;exact⟨λ e=>(hs.own k e).elim (h.free k hk).1 (λ e=>by have:=lt k hk;omega),λ e=>(hs.recs k e).elim (h.free k hk).2 (λ e=>by have:=lt k hk;omega)⟩
 rcases hk with hk|hk
 ·exact(hs.own k hk).imp inl id
 rw [hv]at hk;exact inl (inr hk)
theorem Fl(W:World)(ht:bB W):MQ W (yt W) (IR W) 1 3 8000000 where
 op:=λ cs k ⟨_,_,_,_,_,h,_⟩=>⟨h.len,h.kind⟩
 be:=λ m wr ⟨n,b,xs,_,hf,_⟩=>rf.Fr.nF_below hf
 stay:=λ m wr wr' ⟨n,b,xs,h,hf,hp,hn,hc⟩ hb=>⟨n,b,xs,h.below hb,hf.below hb,hp.fr (Fr.of_below hb),hn,hc⟩
 zero:=⟨0,Nn,[],(Nj W).1,(Nj W).2,λ i a b h=>by simp at h,aD _,by simp [Bk.cnt,Nn]⟩
 step:=λ m wr cs k ⟨n,b,xs,h,hf,hp,hn,hc⟩ hm ho hk=>by
  have hbe:=rf.Fr.nF_below hf;obtain⟨a,S,R,pv,mv,hol,hor,h1,h2,h3⟩:=ho;rcases hk with rfl|rfl
  ·refine(MG h (by omega) hol (ht.below hbe)).mono ?_;rintro e w1 ⟨rfl,n',b',xs',g1,g2,gc,g3,g4⟩;refine⟨rfl,n',b',xs',g2,hf.trans g3,?_,by omega,by omega⟩;rcases g4 with rfl|⟨a,c,rfl,g4⟩
   ·exact hp.fr g3
   exact(hp.fr g3).snoc h.own.1 g4
  refine(MH h hp (by omega) (by omega) hol (hor.below hbe) h1 h2 h3).mono ?_;rintro e w1 ⟨rfl,b',g1,g2⟩;obtain⟨g3,g4⟩:=g2.fr h g1;have gc:=g2.cnt;exact⟨rfl,n,b',xs,g3,hf.trans g4,hp.fr g4,by omega,by omega⟩
 look:=λ m wr ⟨n,b,xs,h,hf,hp,hn,hc⟩ hm=>by
  refine(E4 b W.heap.size wr h.book (by omega)).mono ?_;rintro e w1 ⟨rfl,hb⟩;exact⟨rfl,n,b,xs,h.below hb,hf.below hb,hp.fr (Fr.of_below hb),hn,hc⟩
def uv:ByteArray:=⟨#[105,102,32,112,114,101,102,32,60,32,49,48,48,32,116,104,101,110,32,123,32,114,101,106,101,99,116,59,32,125,32,112,114,101,112,101,110,100,32,55,59,32,97,99,99,101,112,116,59]⟩
def uu:List Value:=[.int .i64 1,.int .i64 0,.int .i64 0,.string uv,.int .i64 0,.int .i64 0,.slice none 0 0,.slice none 0 0,.int .i64 0,.int .i64 0,.slice none 0 0,.slice none 0 0,.slice none 0 0,.slice none 0 0,.int .i64 0,.int .i64 0,.slice none 0 0,.slice none 0 0]
theorem Gd:MP uu 1 uv:=⟨rfl,rfl,rfl⟩
theorem Jz(W:World):Calls prog 7 #[] W λ e W'=>e=.returned (.agg uu.toArray)/\Below W.heap.size W W':=by
 go_enter func7,ntmps7;go_wp2_with fail;refine eO (results_cell_row results7 _ _ W.heap.size _ _ _ _ rfl (cN W (.cells uu.toArray 33)) underlying33 rfl (by kernel_rfl)) rfl ?_;exact⟨rfl,(aX W.heap.size W).alloc (aD _) _⟩
theorem nS(W:World)(a b:Obj):Below W.heap.size W ((W.alloc a).alloc b) :=
 ((aX W.heap.size W).alloc (aD _) a).alloc (by simp) b
theorem qd(W:World)(a b:Obj):((W.alloc a).alloc b).heap[W.heap.size]?=some a/\((W.alloc a).alloc b).heap[W.heap.size+1]?=some b:=by
 have sz:(W.alloc a).heap.size=W.heap.size+1:=by simp
 refine⟨?_,?_⟩
 ·show((W.alloc a).heap.push b)[W.heap.size]?=some a;rw [Array.getElem?_push,au (by omega)];exact cN W a
 rw [<-sz];exact cN (W.alloc a) b
namespace cps
theorem own:ownKnob prog.godebug=none:=by kernel_rfl
theorem DF:laidOutB prog=true:=by kernel_rfl
theorem J6:prog.cellsOf 5=1:=by kernel_rfl
theorem jH:prog.cellsOf 3=1:=by kernel_rfl
theorem yN:prog.cellsOf 9=1:=by kernel_rfl
theorem Do:prog.cellsOf 33=18:=by kernel_rfl
theorem vF:prog.cellsOf 214=1:=by kernel_rfl
theorem En:prog.cellsOf 383=2:=by kernel_rfl
theorem Em:prog.cellsOf 347=2:=by kernel_rfl
theorem Ht:prog.globalNamed (Rows.compilesRow.named.getD 0 Rows.compilesRow.func)=some 2:=by kernel_rfl
theorem BG:(prog.globals[2]?).map (·.type)=some 384:=by kernel_rfl
theorem Hs:prog.globalNamed (Rows.compilesRow.named.getD 4 Rows.compilesRow.func)=some 0:=by kernel_rfl
theorem Bz:(prog.globals[0]?).map (·.type)=some 348:=by kernel_rfl
theorem Fj{H:Type}{enc:TypeId×Value->H}{W:World}{base:Nat}{sp:Nat->Bool}{held:Bool}{m i:Nat}{cs:List Value}{x:DataW H×List MemPlace}{a:List UInt8}{b:Int}
  (h:DataW.trod enc prog W base sp held m 383 ((cs.drop (i*prog.cellsOf 383)).take (prog.cellsOf 383))=some x)
  (hd:x.1=.agg [.lit (.string a),.lit (.int .i64 b)]):cs[i*2]?=some (.string ⟨a.toArray⟩)/\cs[i*2+1]?=some (.int .i64 b):=by
 obtain⟨y0,y1,n,rfl,_,h0,h1⟩:=trod_struct2 underlying383 h;obtain⟨z0,hc0,rfl,_⟩:=DataW.trod_string underlying9 h0;obtain⟨z1,hc1,rfl,_⟩:=DataW.trod_int underlying214 h1;simp only [DataW.agg.injEq,List.cons.injEq,DataW.lit.injEq,Lit.int.injEq,Lit.string.injEq,true_and,and_true]at hd;obtain⟨rfl,rfl⟩:=hd;have e0:=pP (·[0]?) hc0;have e1:=pP (·[0]?) hc1;simp only [En,yN,vF,List.getElem?_take,List.getElem?_drop]at e0 e1
 constructor
 ·simpa using e0
 simpa using e1
theorem Fi{H:Type}{enc:TypeId×Value->H}{W:World}{base:Nat}{sp:Nat->Bool}{held:Bool}{m i:Nat}{cs:List Value}{x:DataW H×List MemPlace}{a b:Int}
  (h:DataW.trod enc prog W base sp held m 347 ((cs.drop (i*prog.cellsOf 347)).take (prog.cellsOf 347))=some x)
  (hd:x.1=.agg [.lit (.int .u8 a),.lit (.int .i64 b)]):cs[i*2]?=some (.int .u8 a)/\cs[i*2+1]?=some (.int .i64 b):=by
 obtain⟨y0,y1,n,rfl,_,h0,h1⟩:=trod_struct2 underlying347 h;obtain⟨z0,hc0,rfl,_⟩:=DataW.trod_int underlying5 h0;obtain⟨z1,hc1,rfl,_⟩:=DataW.trod_int underlying214 h1;simp only [DataW.agg.injEq,List.cons.injEq,DataW.lit.injEq,Lit.int.injEq,true_and,and_true]at hd;obtain⟨rfl,rfl⟩:=hd;have e0:=pP (·[0]?) hc0;have e1:=pP (·[0]?) hc1;simp only [Em,J6,vF,List.getElem?_take,List.getElem?_drop]at e0 e1
 constructor
 ·simpa using e0
 simpa using e1
theorem rp{α:Type}{f g:α->Value}:∀{L:List α} {cs:List Value},(∀ i p,L[i]?=some p->cs[i*2]?=some (f p)/\cs[i*2+1]?=some (g p))->∀(j:Nat) v,(L.flatMap λ p=>[f p,g p])[j]?=some v->cs[j]?=some v
 | [],_,_,_,_,h=>by simp at h
 | x::L,cs,hh,j,v,h=>by
  match j with
  | 0 =>
   have:=(hh 0 x rfl).1;simp at h;rw [<-h];simpa using this
  | 1 =>
   have:=(hh 0 x rfl).2;simp at h;rw [<-h];simpa using this
  | j+2 =>
   have h2:=rp (L:=L) (cs:=cs.drop 2) (f:=f) (g:=g) (λ i p hp=>by
    have:=hh (i+1) p (by simpa using hp);rw [List.getElem?_drop,List.getElem?_drop];have e1:2+i*2=(i+1)*2:=by omega
    have e2:2+(i*2+1)=(i+1)*2+1:=by omega
    rw [e1,e2];exact this) j v (by simpa using h)
   rw [List.getElem?_drop]at h2;rw [Nat.add_comm];exact h2
theorem LM{α:Type}{f g:α->Value}{H:Type}{xs:List (DataW H×List MemPlace)}{dd:α->DataW H}{L:List α}{cs:List Value}{n:Nat}
  (hx:xs.map (·.1)=L.map dd) (hn:L.length=n) (hel:∀ i x,i<n->xs[i]?=some x->∀ p,x.1=dd p->cs[i*2]?=some (f p)/\cs[i*2+1]?=some (g p)) :
  ∀(j:Nat) v,(L.flatMap λ p=>[f p,g p])[j]?=some v->cs[j]?=some v:=by
 refine rp λ i p hp=>?_
 have hi:i<n:=by rw [<-hn];exact(List.getElem?_eq_some_iff.mp hp).1
 have h2:=pP (·[i]?) hx;simp only [List.getElem?_map,hp,Option.map_some]at h2;obtain⟨x,hxx,hxe⟩:=Option.map_eq_some_iff.mp h2;exact hel i x hi hxx p hxe
theorem dD{w:World}{a:Addr}{v:Value}(h:w.cell? a=some v):a.block<w.heap.size:=by
 rcases Nat.lt_or_ge a.block w.heap.size with h'|h'
 ·exact h'
 simp [World.cell?,Array.getElem?_eq_none h']at h
def LR:List (List UInt8×Int):=(List.range 21).map λ k=>((wd k).data.toList,5+(k:Int))
def LL:List (Int×Int):=(List.range 16).map λ k=>(sg k,26+(k:Int))
theorem Db:(Rows.laid_byway_token_words:DataW Unit)=.agg (LR.map λ p=>.agg [.lit (.string p.1),.lit (.int .i64 p.2)]):=by kernel_rfl
theorem Cu:(Rows.laid_byway_token_signs:DataW Unit)=.agg (LL.map λ p=>.agg [.lit (.int .u8 p.1),.lit (.int .i64 p.2)]):=by kernel_rfl
theorem AR:g8=LR.flatMap λ p=>[.string ⟨p.1.toArray⟩,.int .i64 p.2]:=by kernel_rfl
theorem Ad:gZ=LL.flatMap λ p=>[.int .u8 p.1,.int .i64 p.2]:=by kernel_rfl
theorem tabs{W:World}(h:laidMetH prog Rows.compilesRow.laid W)(hsh:W.ShapedOpen prog):bB W:=by
 have h':laidMet prog Rows.compilesRow.laid W:=h;obtain⟨ps,⟨_,_,_,_,_,_,_,_,_,_,⟨_,_,_,_,_,_,_,_,_,_,⟨g4,t4,c4,f4,p4,q4,hg4,ht4,hv4,hd4,⟨g5,t5,c5,f5,p5,q5,hg5,ht5,hv5,hd5,_,_⟩,_⟩,_⟩,_⟩,_⟩:=h';obtain rfl:=fZ (Ht.symm.trans hg4);obtain rfl:=fZ (BG.symm.trans ht4);obtain rfl:=fZ (Hs.symm.trans hg5);obtain rfl:=fZ (Bz.symm.trans ht5);obtain⟨xs,m,_,hx,_,hxl,hel⟩:=DataW.trod_array underlying384 hd4;obtain⟨ys,m',_,hy,_,hyl,hel'⟩:=DataW.trod_array underlying348 hd5;have hx1:(Rows.laid_byway_token_words:DataW Unit)=.agg (xs.map (·.1)):=pP Prod.fst hx;have hy1:(Rows.laid_byway_token_signs:DataW Unit)=.agg (ys.map (·.1)):=pP Prod.fst hy;rw [Db]at hx1;rw [Cu]at hy1;have hW:=LM (cs:=c4.toList) (n:=21) (f:=λ p=>.string ⟨p.1.toArray⟩) (g:=λ p=>.int .i64 p.2) (DataW.agg.inj hx1).symm (by decide) (λ i x hi hxi p hp=>Fj ((hel i hi).trans hxi) hp);have hS:=LM (cs:=c5.toList) (n:=16) (f:=λ p=>.int .u8 p.1) (g:=λ p=>.int .i64 p.2) (DataW.agg.inj hy1).symm (by decide) (λ i x hi hxi p hp=>Fi ((hel' i hi).trans hxi) hp);rw [<-AR]at hW;rw [<-Ad]at hS
 have cw:∀ i v,g8[i]?=some v->W.cell? ⟨2,0+i,none⟩=some v:=λ i v hv=>by
  rw [Nat.zero_add,World.var?_cell Ht hv4 i];simpa using hW i v hv
 have cs:∀ i v,gZ[i]?=some v->W.cell? ⟨0,0+i,none⟩=some v:=λ i v hv=>by
  rw [Nat.zero_add,World.var?_cell Hs hv5 i];simpa using hS i v hv
 obtain⟨m,hm⟩:=Tryz.shCut.s1_3 W hsh;exact⟨dD (cw 0 _ rfl),dD (cs 0 _ rfl),cw,cs,dD hm,m,hm⟩
theorem Kt{p:Nat->List Value->Prop}(n:Nat)(h:∀ i,i<n->∃ o,p i o):∃ S:List (List Value),S.length=n/\∀ j,(hj:j<S.length)->p j S[j]:=by
 induction n with
 | zero=>exact⟨[],rfl,λ j hj=>by simp at hj⟩
 | succ n ih =>
  obtain⟨S,hl,hS⟩:=ih (λ i hi=>h i (by omega));obtain⟨o,ho⟩:=h n (by omega);refine⟨S++[o],by simp [hl],λ j hj=>?_⟩;by_cases hlt:j<S.length
  ·rw [List.getElem_append_left hlt];exact hS j hlt
  have:j=n:=by simp at hj;omega
  subst this;rw [List.getElem_append_right (by omega)];simpa [hl]using ho
def LE:DataW Unit->List Value
 | .lit (.int k n)=>[.int k n]
 | .lit (.string b)=>[.string ⟨b.toArray⟩]
 | _=>[]
def LF:DataW Unit->List Value
 | .agg l=>l.flatMap LE
 | d=>LE d
def Nv:DataW Unit->List Value
 | .agg l=>l.flatMap LF
 | d=>LF d
def M5(w:World)(g:Nat)(d:DataW Unit):World :=
 { w with heap:=w.heap.modify g fun
   | .cells _ t frozen=>.cells (Nv d).toArray t frozen
   | o=>o }
def xC(w:World):World :=
 M5 (M5 (M5 (M5 (M5 w 5 Rows.laid_unicode_utf8_acceptRanges) 1 Rows.laid_byway_messages_flagsTable) 2 Rows.laid_byway_token_words) 0 Rows.laid_byway_token_signs) 4 Rows.laid_unicode_utf8_first
end cps
