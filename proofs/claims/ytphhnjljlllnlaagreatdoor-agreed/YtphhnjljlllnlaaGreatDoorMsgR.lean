/- part -/
import Derived.Test.YtphhnjljlllnlaaGreatDoorMsgN
set_option maxRecDepth 100000
set_option maxHeartbeats 3200000
namespace Go.Proofs.YtphhnjljlllnlaaGreatDoor
open Go.Proofs.Tryz
open Or
open Go.RowKit
def od(A:List (Int×Int×Value))(n:Int):Bool:=A.any (λ a=>a.2.1==n)
theorem EJ(A:List (Int×Int×Value))(n:Int)(x:Value)(w:World)(hx:zE w x A)(hlen:A.length<=65535)(hv:∀ a∈A,∃ q k c,a.2.2=.slice q k c) :
  Calls prog 113 #[x,.int .u8 n] w λ e w'=>e=.returned (.bool (od A n))/\Below w.heap.size w w':=by
 obtain⟨p,c,rfl,hcap,hr⟩:=hx;have HR:=af hr;have HV:=af hv;clear hr hv;go_enter func113,ntmps113;go_wp2
 go_loopw [9] (λ i wr=>∃ k:Nat,k<=A.length/\i=.int .i64 k/\od (A.take k) n=false/\Below w.heap.size w wr) (λ i _=>A.length-(intOf i).toNat)
 case atStart=>exact⟨0,dG _,rfl,rfl,aY _ _⟩
 case round =>
  rename World=>WR
  obtain⟨k,hk,rfl,hno,hbe⟩:=hrel;have AA:=af hno;have BE:=af hbe;have hsz:=hbe.size;clear hno hbe;by_cases hlt:k<A.length
  ·rcases ae HR with h|⟨b,o,rfl,hb,hc⟩
   ·rw [h]at hlt;simp at hlt
   have hck:WR.cell? ⟨b,o+k*3,none⟩=some (.int .u8 A[k].1)/\WR.cell? ⟨b,o+k*3+1,none⟩=some (.int .u8 A[k].2.1)/\WR.cell? ⟨b,o+k*3+2,none⟩=some A[k].2.2:=by
    rw [(ae BE).cell (p:=⟨b,o+k*3,none⟩) hb,(ae BE).cell (p:=⟨b,o+k*3+1,none⟩) hb,(ae BE).cell (p:=⟨b,o+k*3+2,none⟩) hb];exact hc k hlt
   obtain⟨q,kk,cc,hq⟩:=ae HV A[k] (ej _);rw [hq]at hck;obtain⟨c0,c1,c2⟩:=hck
   have HT:=af (show od (A.take (k+1)) n=(od (A.take k) n||(A[k].2.1==n))from by
    unfold od;rw [List.take_succ_eq_append_getElem hlt,List.any_append];simp)
   have HY:Hid (A[k].2.1=n->od A n=true):=λ h=>by
    unfold od;rw [List.any_eq_true];exact⟨A[k],ej _,by simpa using h⟩
   clear hc hq;obtain⟨X,hX⟩:∃ X,A[k].2.1=X:=⟨_,rfl⟩
   obtain⟨Y,hY⟩:∃ Y,A[k].1=Y:=⟨_,rfl⟩
   rw [hX]at c1 HT HY;rw [hY]at c0;clear hX hY;by_cases he:X=n
   ·have d:(X==n)=true:=by simpa using he
    have HE:=af (ae HY he);clear he;go_wp2
    go_ret;exact⟨aO (ae HE).symm,(ae BE).alloc hsz _⟩
   have d:(X==n)=false:=by simpa using he
   have HE:=af (show od (A.take (k+1)) n=false from by rw [ae HT,ae AA,d];rfl);clear he;go_wp2_with fail;exact⟨⟨k+1,by omega,by go_num,ae HE,(ae BE).alloc hsz _⟩,by simp [intOf];omega⟩
  have HE:=af (show od A n=false from by have:=ae AA;rwa [List.take_of_length_le (by omega)]at this);go_wp2
  go_ret;exact⟨aO (ae HE).symm,ae BE⟩
def mU(n:Nat)(A:List (Int×Int×Value)):Bool:=if n=0 then A.length==0 else od A 2&&od A 5
theorem yj(A:List (Int×Int×Value))(q1 q2:Option Addr)(n1 n2 c1 c2:Nat)(x:Value)(w:World)(hx:zE w x A)(hlen:A.length<=65535)(hv:∀ a∈A,∃ q k c,a.2.2=.slice q k c)(_hn:n2<=65535) :
  Calls prog 75 #[.agg #[.slice q1 n1 c1,.slice q2 n2 c2,x]] w λ e w'=>e=.returned (.bool (mU n2 A))/\Below w.heap.size w w':=by
 have HX:=af hx;have HV:=af hv;clear hv;obtain⟨p,c,rfl,-⟩:=hx;have b0:=af ((aY w.heap.size w).alloc (aL _) (.cells #[.slice q1 n1 c1,.slice q2 n2 c2,.slice p A.length c] 155));by_cases h0:n2=0
 ·have HE:=af (show mU n2 A=((A.length:Int)==0)from by unfold mU;rw [aS h0,Bool.eq_iff_iff];simp);have d:((n2:Int)==0)=true:=by simp [h0]
  clear h0;go_enter func75,ntmps75;go_wp2
  go_ret;exact⟨aO (ae HE).symm,ae b0⟩
 have HE:=af (show mU n2 A=(od A 2&&od A 5)from by unfold mU;rw [aG h0]);have d:((n2:Int)==0)=false:=beq_eq_false_iff_ne.2 (by omega);clear h0;go_enter func75,ntmps75;go_wp2_with fail;refine(EJ A 2 _ _ ((ae HX).below (ae b0)) hlen (ae HV)).mono ?_;rintro e w1 ⟨rfl,hb1⟩;have B1:=af ((ae b0).trans (hb1.mono (ae b0).size));have q1:=(hb1.block w.heap.size (by simp)).trans (cM w _);have e2:w1.cell? ⟨w.heap.size,2,none⟩=some (.slice p A.length c):=ag q1;clear hb1 q1;cases h2:od A 2 with
 | false =>
  have H2:=af h2;clear h2;go_wp2
  go_ret;exact⟨aO (by rw [ae HE,ae H2];rfl),ae B1⟩
 | true =>
  have H2:=af h2;clear h2;go_wp2_with fail;refine(EJ A 5 _ _ ((ae HX).below (ae B1)) hlen (ae HV)).mono ?_;rintro e w2 ⟨rfl,hb2⟩;have B2:=af ((ae B1).trans (hb2.mono (ae B1).size));clear hb2;go_wp2
  go_ret;exact⟨aO (by rw [ae HE,ae H2];rfl),ae B2⟩
theorem FD:∀{D:List (Int×Int×List Int)} {s s':AS},cV s D=.ok s'->s'.two=(s.two||D.any (λ d=>d.2.1==2))/\s'.five=(s.five||D.any (λ d=>d.2.1==5)):=by
 intro D
 induction D with
 | nil=>intro s s' h;simp only [cV,Except.ok.injEq]at h;subst h;simp
 | cons d D ih =>
  intro s s' h;obtain⟨f,n,v⟩:=d;simp only [cV]at h;split at h
  ·cases h
  split at h
  ·cases h
  have:=ih h;rw [this.1,this.2];simp only [List.any_cons,Bool.or_assoc]
  constructor<;>congr 2
theorem db.any{w:World}:∀{A:List (Int×Int×Value)} {D:List (Int×Int×List Int)},db w A D->∀ n:Int,od A n=D.any (λ d=>d.2.1==n):=by
 intro A
 induction A with
 | nil=>intro D h n;cases D with|nil=>rfl|cons _ _=>cases h
 | cons a A ih =>
  intro D h n;cases D with
  | nil=>cases h
  | cons d D =>
   have:=ih h.2 n;unfold od at this ⊢;rw [List.any_cons,List.any_cons,this,h.1.2.1]
theorem db.slices{w:World}:∀{A:List (Int×Int×Value)} {D:List (Int×Int×List Int)},db w A D->∀ a∈A,∃ q k c,a.2.2=.slice q k c:=by
 intro A
 induction A with
 | nil=>intro D _ a ha;simp at ha
 | cons a A ih =>
  intro D h b hb;cases D with
  | nil=>cases h
  | cons d D =>
   simp only [List.mem_cons]at hb;rcases hb with rfl|hb
   ·obtain⟨p,c,hv,_⟩:=h.1.2.2;exact⟨_,_,_,hv⟩
   exact ih h.2 b hb
theorem AQ:∀(f:Nat) {b:List Int} {L:List (Int×Int)},aK b->jp f b=some L->∀ x∈L,eN x.1/\eN x.2:=by
 intro f
 induction f with
 | zero =>
  intro b L hb h x hx;cases b with
  | nil=>simp only [jp,Option.some.injEq]at h;subst h;simp at hx
  | cons _ _=>simp [jp]at h
 | succ f ih =>
  intro b L hb h x hx;cases b with
  | nil=>simp only [jp,Option.some.injEq]at h;subst h;simp at hx
  | cons n t =>
   rw [bj]at hb;simp only [jp]at h;split at h
   ·cases h
   obtain⟨L',hL',rfl⟩:=Option.map_eq_some_iff.1 h;simp only [List.mem_cons]at hx;rcases hx with rfl|hx
   ·have h4:=BU hb.1.1;have:=Hy (l:=t.take (cE n)) (bU hb.2 _) (by rw [List.length_take];omega);unfold eN;simp only;omega
   exact ih (cB hb.2 _) hL' x hx
theorem Fy{D:List (Int×Int×List Int)}(h:aK (cG D)):∀ d∈D,(0<=d.1/\d.1<=255)/\(0<=d.2.1/\d.2.1<=255)/\d.2.2.length<=255:=by
 intro d hd;have hsub:∀ x∈lJ d,0<=x/\x<=255:=λ x hx=>h x (by unfold cG;exact List.mem_flatMap.2 ⟨d,hd,hx⟩)
 unfold lJ at hsub;refine⟨hsub d.1 (by simp),hsub d.2.1 (by simp),?_⟩;have:=hsub d.2.2.length (by simp);omega
theorem Hk{b:List Int}{G T:List (Int×Int)}{D:List (Int×Int×List Int)}(hb:aK b)(h:iP b=some (G,D,T)) :
  (∀ x∈G,eN x.1/\eN x.2)/\(∀ x∈T,eN x.1/\eN x.2)/\(∀ d∈D,(0<=d.1/\d.1<=255)/\(0<=d.2.1/\d.2.1<=255)/\d.2.2.length<=255/\aK d.2.2)/\D.length<=65535:=by
 unfold iP at h;rw [uH]at h;cases h1:jI b with
 | none=>rw [h1]at h;cases h
 | some x =>
  obtain⟨g,r⟩:=x;rw [h1]at h;simp only [Option.bind_some]at h
  have hg:aK g/\aK r:=by
   unfold jI at h1;split at h1
   ·cases h1
   split at h1
   ·cases h1
   simp only [Option.some.injEq,Prod.mk.injEq]at h1;rw [<-h1.1,<-h1.2];exact⟨bU (cB hb 2) _,cB (cB hb 2) _⟩
  cases h2:jI r with
  | none=>rw [h2]at h;cases h
  | some y =>
   obtain⟨a,n⟩:=y;rw [h2]at h;have hl:=Ad h2 hg.2
   have ha:aK a/\aK n:=by
    unfold jI at h2;split at h2
    ·cases h2
    split at h2
    ·cases h2
    simp only [Option.some.injEq,Prod.mk.injEq]at h2;rw [<-h2.1,<-h2.2];exact⟨bU (cB hg.2 2) _,cB (cB hg.2 2) _⟩
   simp only [Option.map_some,Option.bind_some]at h;split at h
   ·rename_i a1 a2 a3;simp only [Option.some.injEq,Prod.mk.injEq]at h;obtain⟨rfl,rfl,rfl⟩:=h;have hB:=En _ ha.1 a2;have hm:=Fy (by rw [hB.1];exact ha.1);refine⟨AQ _ hg.1 a1,AQ _ ha.2 a3,λ d hd=>⟨(hm d hd).1,(hm d hd).2.1,(hm d hd).2.2,hB.2 d hd⟩,?_⟩
    have h3:∀(E:List (Int×Int×List Int)),E.length<=(cG E).length:=by
     intro E
     induction E with
     | nil=>simp
     | cons e E ih =>
      have e2:cG (e::E)=lJ e++cG E:=by simp [cG]
      rw [e2,List.length_append,tB,List.length_cons];omega
    have h4:=h3 ‹_›;rw [hB.1]at h4;omega
   cases h
theorem yF(G T:List (Int×Int)):eH (G.take 21++T.take 21)=eH (G++T):=by
 by_cases h:G.length<=21/\T.length<=21
 ·rw [List.take_of_length_le h.1,List.take_of_length_le h.2]
 rw [l6 (by rw [List.length_append,List.length_take,List.length_take];omega),l6 (by rw [List.length_append];omega)]
structure jT(w0 W:World)(ub:Nat)(vg vn:Value)(U:fI):Prop where
 blk:∃ vp vm,W.heap[ub]?=some (.cells #[vg,vn,vp,vm,.int .i64 U.pref,.int .i64 U.med] 87 (0,0))/\ia W w0.heap.size vp U.path/\ia W w0.heap.size vm U.marks/\hZ vp vm
 fr:Fr (· = ub) w0 (· = ub) W
theorem ia.nextW{w w':World}{base:Nat}{v:Value}{l:List Int}(h:ia w base v l)(hb:Below w.heap.size w w'):ia w' base v l:=ay h (λ k hk=>hb.block k (h.lt k hk).2)
theorem ia.base{w:World}{base b2:Nat}{v:Value}{l:List Int}(h:ia w base v l)(hb:b2<=base):ia w b2 v l:=aZ h hb
theorem ia.set{w:World}{base:Nat}{v:Value}{l:List Int}(h:ia w base v l){b o:Nat}(hb:b<base)(x:Value):ia (w.setCell ⟨b,o,none⟩ x) base v l :=
 ay h (λ k hk=>ai (by have:=(h.lt k hk).1;simp only;omega))
theorem jT.next{w0 W W':World}{ub:Nat}{vg vn:Value}{U:fI}(h:jT w0 W ub vg vn U)(hb:Below W.heap.size W W'):jT w0 W' ub vg vn U:=by
 obtain⟨⟨vp,vm,h1,h2,h3,h4⟩,hf⟩:=h;exact⟨⟨vp,vm,(hb.block _ (ah h1)).trans h1,h2.nextW hb,h3.nextW hb,h4⟩,hf.below hb⟩
theorem jT.path{w0 W W':World}{ub:Nat}{vg vn v:Value}{U:fI}{L:List Int}(h:jT w0 W ub vg vn U)(hu:ub<w0.heap.size)(hb:Below W.heap.size W W')(ho:ia W' W.heap.size v L) :
  jT w0 (W'.setCell ⟨ub,2,none⟩ v) ub vg vn { U with path:=L }:=by
 have h':=h.next hb;have hw0:=h.fr.size;obtain⟨⟨vp0,vm0,a1,a2,a3,a4⟩,-⟩:=h;obtain⟨⟨vp,vm,h1,h2,h3,h4⟩,hf⟩:=h';have e:=a1.symm.trans ((hb.block _ (ah a1)).symm.trans h1);simp only [Option.some.injEq,Obj.cells.injEq,Array.mk.injEq,List.cons.injEq,and_true,true_and]at e;obtain⟨rfl,rfl⟩:=e;exact⟨⟨v,vm0,aV h1,(ho.base hw0).set hu v,h3.set hu v,λ k hk hk2=>by have:=(ho.lt k hk).1;have:=(a3.lt k hk2).2;omega⟩,hf.setCell (inl rfl) _⟩
theorem jT.marks{w0 W W':World}{ub:Nat}{vg vn v:Value}{U:fI}{L:List Int}(h:jT w0 W ub vg vn U)(hu:ub<w0.heap.size)(hb:Below W.heap.size W W')(ho:ia W' W.heap.size v L) :
  jT w0 (W'.setCell ⟨ub,3,none⟩ v) ub vg vn { U with marks:=L }:=by
 have h':=h.next hb;have hw0:=h.fr.size;obtain⟨⟨vp0,vm0,a1,a2,a3,a4⟩,-⟩:=h;obtain⟨⟨vp,vm,h1,h2,h3,h4⟩,hf⟩:=h';have e:=a1.symm.trans ((hb.block _ (ah a1)).symm.trans h1);simp only [Option.some.injEq,Obj.cells.injEq,Array.mk.injEq,List.cons.injEq,and_true,true_and]at e;obtain⟨rfl,rfl⟩:=e;exact⟨⟨vp0,v,aV h1,h2.set hu v,(ho.base hw0).set hu v,λ k hk hk2=>by have:=(ho.lt k hk2).1;have:=(a2.lt k hk).2;omega⟩,hf.setCell (inl rfl) _⟩
theorem jT.pref{w0 W:World}{ub:Nat}{vg vn:Value}{U:fI}{x:Int}(h:jT w0 W ub vg vn U)(hu:ub<w0.heap.size):jT w0 (W.setCell ⟨ub,4,none⟩ (.int .i64 x)) ub vg vn { U with pref:=x }:=by
 obtain⟨⟨vp,vm,h1,h2,h3,h4⟩,hf⟩:=h;exact⟨⟨vp,vm,aV h1,h2.set hu _,h3.set hu _,h4⟩,hf.setCell (inl rfl) _⟩
theorem jT.med{w0 W:World}{ub:Nat}{vg vn:Value}{U:fI}{x:Int}(h:jT w0 W ub vg vn U)(hu:ub<w0.heap.size):jT w0 (W.setCell ⟨ub,5,none⟩ (.int .i64 x)) ub vg vn { U with med:=x }:=by
 obtain⟨⟨vp,vm,h1,h2,h3,h4⟩,hf⟩:=h;exact⟨⟨vp,vm,aV h1,h2.set hu _,h3.set hu _,h4⟩,hf.setCell (inl rfl) _⟩
def zD(w0 W:World)(ub:Nat)(vg vn:Value)(r:Option fI)(e:Ending)(W':World):Prop :=
 ∃ ok:Bool,e=.returned (.bool ok)/\Fr (· = ub) W (· = ub) W'/\match r with|none=>ok=false|some U=>ok=true/\jT w0 W' ub vg vn U
theorem zD.of{w0 W W':World}{ub:Nat}{vg vn:Value}{r:Option fI}{U:fI}{ok:Bool}(h:r=if ok=true then some U else none)(hf:Fr (· = ub) W (· = ub) W')(hb:jT w0 W' ub vg vn U):zD w0 W ub vg vn r (.returned (.bool ok)) W':=by
 cases ok with
 | true=>exact⟨true,rfl,hf,by rw [h];exact⟨rfl,hb⟩⟩
 | false=>exact⟨false,rfl,hf,by rw [h];rfl⟩
theorem Ny(U:fI)(l:List Int):jK U 4 l=if(MY l&&decide (0<lD l))=true then some { U with med:=lD l }else none:=by
 unfold jK;rw [aG (by omega),aG (by omega),aS rfl];by_cases h:l.length=4
 ·obtain⟨h1,h2⟩:=Ff h;rw [h1,h2];by_cases hp:0<bZ l
  ·rw [aS ⟨h,hp⟩];simp [hp]
  rw [aG (λ h=>hp h.2)];simp [hp]
 obtain⟨h1,h2⟩:=zq h;rw [aG (λ h2=>h h2.1),h2];rfl
theorem Nz(U:fI)(l:List Int):jK U 5 l=if MY l=true then some { U with pref:=lD l }else none:=by
 unfold jK;rw [aG (by omega),aG (by omega),aG (by omega)];by_cases h:l.length=4
 ·obtain⟨h1,h2⟩:=Ff h;rw [h1,h2,aS h];rfl
 obtain⟨h1,h2⟩:=zq h;rw [aG h,h2];rfl
theorem JJ(f n:Int)(v:Value)(l:List Int)(w0 W:World)(ub:Nat)(qg qn:Option Addr)(ng nn cg cn:Nat)(U:fI)(hn:n=2\/n=4\/n=5\/n=8)(hu:ub<w0.heap.size)(hB:jT w0 W ub (.slice qg ng cg) (.slice qn nn cn) U)(hv:aX W v l)(hl:l.length<=255) :
  Calls prog 112 #[.agg #[.int .u8 f,.int .u8 n,v],.pointer (some ⟨ub,0,none⟩)] W (zD w0 W ub (.slice qg ng cg) (.slice qn nn cn) (jK U n l)):=by
 have HB:=af hB;have HV:=af hv;obtain⟨p,c,rfl,-⟩:=hv;obtain⟨⟨vp,vm,hb1,-⟩,-⟩:=hB;have hlu:ub<W.heap.size:=ah hb1;obtain⟨WA,hWA⟩:∃ WA,W.alloc (.cells #[.int .u8 f,.int .u8 n,.slice p l.length c] 187)=WA:=⟨_,rfl⟩
 have bA:=(aY W.heap.size W).alloc (aL _) (.cells #[.int .u8 f,.int .u8 n,.slice p l.length c] 187);rw [hWA]at bA;have BA:=af bA;have EA:=af hWA;have CA:=af ((ae HB).next bA);have DA:=af ((ae HV).below bA);have sA:=bA.size;have hb2:=(bA.block _ hlu).trans hb1;clear hWA bA hb1;rcases hn with rfl|rfl|rfl|rfl
 ·go_enter func112,ntmps112;go_wp2_with fail;rw [ae EA];refine(yY l _ _ (ae DA) hl).mono ?_;rintro e w1 ⟨v1,L,ok,rfl,ho,hr,hb⟩;have hb3:=(hb.block _ (by omega)).trans hb2;have c2:w1.cell? ⟨ub,2,none⟩=some vp:=ag hb3;have fz:∀ o,w1.frozen? ⟨ub,o,none⟩=false:=λ o=>aj hb3
  obtain⟨q1,k1,rfl⟩:=aI ho;have HN:=af ((ae CA).path hu hb ho);have AA:=af (((Fr.of_below (O:=(· = ub)) (ae BA)).below hb).setCell (p:=⟨ub,2,none⟩) (inl rfl) (.slice q1 L.length k1));have HR:=af (show jK U 2 l=if ok=true then some { U with path:=L }else none from by unfold jK;rw [aS rfl,hr];cases ok<;>rfl);clear ho hr hb hb3 hb2;go_wp2
  go_ret;exact zD.of (ae HR) (ae AA) (ae HN)
 ·go_enter func112,ntmps112;go_wp2_with fail;rw [ae EA];refine(qe l _ _ (ae DA)).mono ?_;rintro e w1 ⟨rfl,hw1⟩;subst hw1;have c5:w1.cell? ⟨ub,5,none⟩=some (.int .i64 U.med):=ag hb2;have fz:∀ o,w1.frozen? ⟨ub,o,none⟩=false:=λ o=>aj hb2
  have HN:=af ((ae CA).med hu (x:=lD l));have AA:=af ((Fr.of_below (O:=(· = ub)) (ae BA)).setCell (p:=⟨ub,5,none⟩) (inl rfl) (.int .i64 (lD l)));have HR:=af (Ny U l);clear hb2;cases h4:MY l with
  | false =>
   have H4:=af h4;clear h4;go_wp2
   go_ret;exact zD.of (ok:=false) (by rw [ae HR,ae H4];rfl) (ae AA) (ae HN)
  | true =>
   have H4:=af h4;clear h4;go_wp2
   go_ret;exact zD.of (ok:=decide (0<lD l)) (by rw [ae HR,ae H4];rfl) (ae AA) (ae HN)
 ·go_enter func112,ntmps112;go_wp2_with fail;rw [ae EA];refine(qe l _ _ (ae DA)).mono ?_;rintro e w1 ⟨rfl,hw1⟩;subst hw1;have c4:w1.cell? ⟨ub,4,none⟩=some (.int .i64 U.pref):=ag hb2;have fz:∀ o,w1.frozen? ⟨ub,o,none⟩=false:=λ o=>aj hb2
  have HN:=af ((ae CA).pref hu (x:=lD l));have AA:=af ((Fr.of_below (O:=(· = ub)) (ae BA)).setCell (p:=⟨ub,4,none⟩) (inl rfl) (.int .i64 (lD l)));have HR:=af (Nz U l);clear hb2;go_wp2
  go_ret;exact zD.of (ae HR) (ae AA) (ae HN)
 go_enter func112,ntmps112;go_wp2_with fail;rw [ae EA];refine(vW l _ _ (ae DA) hl).mono ?_;rintro e w1 ⟨v1,L,ok,rfl,ho,hr,hb⟩;have hb3:=(hb.block _ (by omega)).trans hb2;have c3:w1.cell? ⟨ub,3,none⟩=some vm:=ag hb3;have fz:∀ o,w1.frozen? ⟨ub,o,none⟩=false:=λ o=>aj hb3
 obtain⟨q1,k1,rfl⟩:=aI ho;have HN:=af ((ae CA).marks hu hb ho);have AA:=af (((Fr.of_below (O:=(· = ub)) (ae BA)).below hb).setCell (p:=⟨ub,3,none⟩) (inl rfl) (.slice q1 L.length k1));have HR:=af (show jK U 8 l=if ok=true then some { U with marks:=L }else none from by unfold jK;rw [aG (by omega),aS rfl,hr];cases ok<;>rfl);clear ho hr hb hb3 hb2;go_wp2
 go_ret;exact zD.of (ae HR) (ae AA) (ae HN)
theorem Fr.toBelow{w w0 W:World}{ub:Nat}{O:Nat->Prop}(h:Fr (· = ub) w0 O W)(hb:Below w.heap.size w w0)(hu:w.heap.size<=ub):Below w.heap.size w W :=
 hb.trans ⟨h.os,h.tape,h.output,h.size,λ k hk=>h.block k (gY hk hb.size) (by omega)⟩
theorem rA{s:AS}{f n:Int}{v:List Int}{D:List (Int×Int×List Int)}(h:n<=s.last\/(KN n&&(EG n==f))=false)(hf:0<=f):cV s ((f,n,v)::D)=.error 7:=by
 simp only [cV];rw [aS];rcases h with h|h
 ·exact inr h
 left;intro e;subst e
 revert h hf
 unfold KN EG il;by_cases h2:n=2
 ·subst h2;simp
 by_cases h5:n=5
 ·subst h5;simp
 by_cases h4:n=4
 ·subst h4;simp
 by_cases h8:n=8
 ·subst h8;simp
 simp [h2,h5,h4,h8]
theorem Jr{f n:Int}(h:(KN n&&(EG n==f))=true):f=il n/\(n=2\/n=4\/n=5\/n=8):=by
 simp only [Bool.and_eq_true,beq_iff_eq]at h;obtain⟨h1,h2⟩:=h;unfold KN at h1;simp only [Bool.or_eq_true,decide_eq_true_eq]at h1;rcases h1 with rfl|rfl|rfl|rfl
 ·exact⟨by rw [<-h2];rfl,by simp⟩
 ·exact⟨by rw [<-h2];rfl,by simp⟩
 ·exact⟨by rw [<-h2];rfl,by simp⟩
 exact⟨by rw [<-h2];rfl,by simp⟩
theorem Cv{s:AS}{f n:Int}{v:List Int}{D:List (Int×Int×List Int)}(h1:¬n<=s.last)(h2:f=il n):cV s ((f,n,v)::D)=match jK s.u n v with|none=>.error 8|some u=>cV ⟨u,n,s.two||n=2,s.five||n=5⟩ D:=by
 simp only [cV];rw [aG (λ h=>h.elim (λ h=>h h2) h1)];cases jK s.u n v<;>rfl
def pw(w0:World)(ub:Nat)(vg vn:Value)(D:List (Int×Int×List Int))(e:Ending)(W':World):Prop :=
 ∃ k:Int,e=.returned (.int .i64 k)/\Fr (· = ub) w0 (· = ub) W'/\match cV ⟨fN,0,false,false⟩ D with|.error c=>k=c|.ok s=>k=0/\jT w0 W' ub vg vn s.u
theorem pw.err{w0 W':World}{ub:Nat}{vg vn:Value}{D:List (Int×Int×List Int)}{c:Int}(h:cV ⟨fN,0,false,false⟩ D=.error c)(hf:Fr (· = ub) w0 (· = ub) W'):pw w0 ub vg vn D (.returned (.int .i64 c)) W' :=
 ⟨c,rfl,hf,by rw [h]⟩
theorem pw.ok{w0 W':World}{ub:Nat}{vg vn:Value}{D:List (Int×Int×List Int)}{s:AS}(h:cV ⟨fN,0,false,false⟩ D=.ok s)(hf:jT w0 W' ub vg vn s.u):pw w0 ub vg vn D (.returned (.int .i64 0)) W' :=
 ⟨0,rfl,hf.fr,by rw [h];exact⟨rfl,hf⟩⟩
theorem DL(A:List (Int×Int×Value))(D:List (Int×Int×List Int))(x:Value)(w w0:World)(ub:Nat)(qg qn:Option Addr)(ng nn cg cn:Nat)(ht:ja w)(hw:Below w.heap.size w w0)(hwu:w.heap.size<=ub)(hu:ub<w0.heap.size)
  (hB:jT w0 w0 ub (.slice qg ng cg) (.slice qn nn cn) fN) (hx:zE w0 x A) (hxu:∀ k,x.ownBlock=some k->k≠ub) (hA:db w A D) (hlen:A.length<=65535)
  (hD:∀ d∈D,(0<=d.1/\d.1<=255)/\(0<=d.2.1/\d.2.1<=255)/\d.2.2.length<=255/\aK d.2.2) :
  Calls prog 74 #[.pointer (some ⟨ub,0,none⟩),x] w0 (pw w0 ub (.slice qg ng cg) (.slice qn nn cn) D):=by
 obtain⟨p,c,rfl,hcap,hr⟩:=hx;have HR:=af hr;have HT:=af ht;have HA:=af hA;have PA:=af hD;have HW:=af hw;have HB:=af hB;have HL:=af hA.len;clear hr ht hA hD hw hB;go_enter func74,ntmps74;go_wp2_with fail;go_loopw [5,10] (λ va i wr=>∃(k:Nat) (s:AS),k<=A.length/\i=.int .i64 k/\va=.int .u8 s.last/\cV ⟨fN,0,false,false⟩ D=cV s (D.drop k)/\jT w0 wr ub (.slice qg ng cg) (.slice qn nn cn) s.u) (λ _ i _=>A.length-(intOf i).toNat)
 case atStart=>exact⟨0,⟨fN,0,false,false⟩,dG _,rfl,rfl,rfl,ae HB⟩
 case round =>
  rename World=>WR
  obtain⟨k,s,hk,rfl,rfl,hs,hbx⟩:=hrel;have HS:=af hs;have BX:=af hbx;have FR:=af hbx.fr;clear hs hbx;by_cases hlt:k<A.length
  ·rcases ae HR with h|⟨b,o,rfl,hb,hc⟩
   ·rw [h]at hlt;simp at hlt
   have hbu:b≠ub:=hxu b rfl;have hltD:k<D.length:=by have:=ae HL;omega
   have hck:WR.cell? ⟨b,o+k*3,none⟩=some (.int .u8 A[k].1)/\WR.cell? ⟨b,o+k*3+1,none⟩=some (.int .u8 A[k].2.1)/\WR.cell? ⟨b,o+k*3+2,none⟩=some A[k].2.2:=by
    have e:=(ae FR).block b hb hbu;rw [World.cell?_of_block (w:=w0) (a:=⟨b,o+k*3,none⟩) e,World.cell?_of_block (w:=w0) (a:=⟨b,o+k*3+1,none⟩) e,World.cell?_of_block (w:=w0) (a:=⟨b,o+k*3+2,none⟩) e];exact hc k hlt
   have FA:=af ((ae FR).toBelow (ae HW) hwu);obtain⟨e1,e2,hby⟩:=(ae HA).get k hlt hltD;rw [e1,e2]at hck;obtain⟨⟨f0,f1⟩,⟨n0,n1⟩,hvl,hvo⟩:=ae PA D[k] (ej _);have DA:=af (List.drop_eq_getElem_cons hltD)
   obtain⟨q2,k2,hv2⟩:∃ q2 k2,A[k].2.2=.slice q2 D[k].2.2.length k2:=by
    obtain⟨p,c,hv,_⟩:=hby;exact⟨p,c,hv⟩
   rw [hv2]at hck hby;obtain⟨c0,c1,c2⟩:=hck;clear hc hv2 e1 e2;obtain⟨X,hX⟩:∃ X,D[k]=X:=⟨_,rfl⟩
   rw [hX]at f0 f1 n0 n1 hvl hvo c0 c1 c2 hby DA;clear hX;obtain⟨f,n,Y⟩:=X;simp only at f0 f1 n0 n1 hvl hvo c0 c1 c2 hby DA;have OA:=af hby;have EA:=af (show cV ⟨fN,0,false,false⟩ D=cV s ((f,n,Y)::D.drop (k+1))from by rw [ae HS,ae DA]);clear hby hvo;have QA:=cM WR (.cells #[.int .u8 f,.int .u8 n,.slice q2 Y.length k2] 187);have bA:=(aY WR.heap.size WR).alloc (aL _) (.cells #[.int .u8 f,.int .u8 n,.slice q2 Y.length k2] 187);obtain⟨WA,hWA⟩:∃ WA,WR.alloc (.cells #[.int .u8 f,.int .u8 n,.slice q2 Y.length k2] 187)=WA:=⟨_,rfl⟩
   rw [hWA]at QA bA;have RA:=af QA;have BA:=af bA;have JA:=af hWA;have hlA:WR.heap.size<WA.heap.size:=ah QA;have a0:WA.cell? ⟨WR.heap.size,0,none⟩=some (.int .u8 f):=ag QA;have a1:WA.cell? ⟨WR.heap.size,1,none⟩=some (.int .u8 n):=ag QA;have a2:WA.cell? ⟨WR.heap.size,2,none⟩=some (.slice q2 Y.length k2):=ag QA;have GA:=af ((ae FR).below bA);clear QA bA hWA;by_cases hle:n<=s.last
   ·have HF:=af (show cV ⟨fN,0,false,false⟩ D=.error 7 from by rw [ae EA];exact rA (inl hle) f0);go_wp2
    go_ret;exact pw.err (ae HF) (by rw [ae JA];exact ae GA)
   go_upto_region 5 with fail
   rw [ae JA];go_wp2_with fail;refine(Dm f n q2 _ k2 _ ((ae HT).below ((ae FA).trans ((ae BA).mono (ae FA).size)))).mono ?_;rintro e w1 ⟨rfl,hb1⟩;have CA:=af ((ae GA).below hb1);have LA:=af (((ae BX).next (ae BA)).next hb1);have AA:=af ((hb1.block _ hlA).trans (ae RA));have KA:=af ((ae CA).toBelow (ae HW) hwu);clear hb1 a0 a1 a2;cases hkn:(KN n&&(EG n==f))with
   | false =>
    have HF:=af (show cV ⟨fN,0,false,false⟩ D=.error 7 from by rw [ae EA];exact rA (inr hkn) f0);clear hkn;go_wp2
    go_ret;exact pw.err (ae HF) (ae CA)
   | true =>
    obtain⟨hfl,hn4⟩:=Jr hkn;have IA:=af (show cV ⟨fN,0,false,false⟩ D=match jK s.u n Y with|none=>.error 8|some u=>cV ⟨u,n,s.two||n=2,s.five||n=5⟩ (D.drop (k+1))from by rw [ae EA];exact Cv (by omega) hfl);clear hkn hfl;have a0:w1.cell? ⟨WR.heap.size,0,none⟩=some (.int .u8 f):=ag (ae AA);have a1:w1.cell? ⟨WR.heap.size,1,none⟩=some (.int .u8 n):=ag (ae AA);have a2:w1.cell? ⟨WR.heap.size,2,none⟩=some (.slice q2 Y.length k2):=ag (ae AA);have hl1:WR.heap.size<w1.heap.size:=ah (ae AA);have hWu:ub<WR.heap.size:=gY hu (ae FR).size;go_wp2_with fail;refine(JJ f n _ Y w0 w1 ub qg qn ng nn cg cn s.u hn4 hu (ae LA) ((ae OA).below (ae KA)) hvl).mono ?_;rintro e w2 ⟨ok,rfl,hf2,hm⟩;have NA:=af ((ae CA).trans hf2);have QA2:=(hf2.block WR.heap.size hl1 (by omega)).trans (ae AA);have a3:w2.cell? ⟨WR.heap.size,1,none⟩=some (.int .u8 n):=ag QA2;clear hf2 a0 a1 a2 hn4;cases hi:jK s.u n Y with
    | none =>
     rw [hi]at hm;have HF:=af (show cV ⟨fN,0,false,false⟩ D=.error 8 from by rw [ae IA,hi]);simp only at hm;subst hm;clear hi;go_wp2
     go_ret;exact pw.err (ae HF) (ae NA)
    | some U =>
     rw [hi]at hm;have HF:=af (show cV ⟨fN,0,false,false⟩ D=cV ⟨U,n,s.two||n=2,s.five||n=5⟩ (D.drop (k+1))from by rw [ae IA,hi]);simp only at hm;obtain⟨rfl,hb2⟩:=hm;have MA:=af hb2;clear hi hb2;go_wp2_with fail;exact⟨⟨k+1,⟨U,n,s.two||n=2,s.five||n=5⟩,by omega,by go_num,rfl,ae HF,ae MA⟩,by simp [intOf];omega⟩
  have HF:=af (show cV ⟨fN,0,false,false⟩ D=.ok s from by
   have:=ae HL;rw [ae HS,List.drop_eq_nil_of_le (by omega)];rfl)
  go_wp2
  go_ret;exact pw.ok (ae HF) (ae BX)
