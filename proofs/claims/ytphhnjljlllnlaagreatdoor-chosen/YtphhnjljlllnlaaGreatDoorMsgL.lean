/- part -/
import Derived.Test.YtphhnjljlllnlaaGreatDoorMsgG
set_option maxRecDepth 100000
set_option maxHeartbeats 1600000
namespace Go.Proofs.YtphhnjljlllnlaaGreatDoor
open Go.Proofs.Tryz
open Or
open Go.RowKit
theorem Mg{r X:Int}(r0:0<=r)(r1:r<16777216)(x0:0<=X)(x1:X<=255):bits .or .i64 (r*256) X=256*r+X:=by
 rw [bits_join .i64 62 (by decide) mB 8 (r*256) X (by omega) (by omega) (by omega) x0 (by omega) (by omega)];omega
theorem eG(l:List Int)(x:Value)(w:World)(h:aX w x l)(hlen:l.length<=4) :
  Calls prog 161 #[x] w λ e w'=>e=.returned (.int .i64 (bZ l))/\w'=w:=by
 obtain⟨p,c,rfl,hcap,hl,hin,hr⟩:=h;have HR:=af hr;have BA:=af hin;clear hr hin;go_enter func161,ntmps161;go_wp2
 go_loop [3,8] (λ n i=>∃(k:Nat) (r:Int),k<=l.length/\i=.int .i64 k/\n=.int .i64 r/\r=bZ (l.take k)) (λ _ i=>l.length-(intOf i).toNat)
 case atStart=>exact⟨0,0,dG _,rfl,rfl,rfl⟩
 case round =>
  obtain⟨k,r,hk,rfl,rfl,hrv⟩:=hrel;have AA:=af hrv;clear hrv;by_cases hlt:k<l.length
  ·rcases ae HR with h|⟨b,o,rfl,hb,hc⟩
   ·rw [h.1]at hlt;simp at hlt
   have hck:=hc k hlt;have hx:=ae BA l[k] (ej _);obtain⟨hx1,hx2⟩:=hx;clear hc;obtain⟨X,hX⟩:∃ X,l[k]=X:=⟨_,rfl⟩
   rw [hX]at hck hx1 hx2;have CA:=af (show bZ (l.take (k+1))=256*bZ (l.take k)+X from by rw [List.take_succ_eq_append_getElem hlt,xO,hX]);clear hX;have hbd:=sQ k (l:=l.take k) (bU (ae BA) k) (by simp;omega);rw [<-ae AA]at hbd CA
   have hp:(256:Int) ^ k<=256 ^ 3:=by
    have h1:(256:Nat) ^ k<=256 ^ 3:=Nat.pow_le_pow_right (by omega) (by omega)
    exact_mod_cast h1
   have r0:0<=r:=hbd.1;have r1:r<16777216:=by have:=hbd.2;omega
   clear hbd hp AA;have hor:=Mg r0 r1 hx1 hx2;go_wp2
   go_round
   case rel=>exact⟨k+1,256*r+X,by omega,by go_num,by rfl,(ae CA).symm⟩
   case measure=>simp [intOf];omega
  have HE:=af (show l.take k=l from List.take_of_length_le (by omega));go_wp2
  go_ret;exact⟨jA (by rw [ae AA,ae HE]),rfl⟩
theorem MG:bZ (iB [])=0:=by decide
theorem MH(a:Int):bZ (iB [a])=bZ [a]*16777216:=by simp [bZ,iB,List.replicate];omega
theorem MI(a b:Int):bZ (iB [a,b])=bZ [a,b]*65536:=by simp [bZ,iB,List.replicate];omega
theorem MJ(a b c:Int):bZ (iB [a,b,c])=bZ [a,b,c]*256:=by simp [bZ,iB];omega
theorem MK(a b c d:Int):bZ (iB [a,b,c,d])=bZ [a,b,c,d]:=by simp [iB]
theorem zJ(l:List Int)(x:Value)(w:World)(h:aX w x l)(hlen:l.length<=4) :
  Calls prog 162 #[x] w λ e w'=>e=.returned (.int .i64 (bZ (iB l)))/\w'=w:=by
 have HX:=af h;obtain⟨p,c,rfl,hcap,hl,hin,hr⟩:=h;have hbd:=sQ l.length hin rfl;clear hr hl hcap
 match l,hlen,hin,HX,hbd with
 | [],_,_,HX,_ =>
  go_enter func162,ntmps162;go_wp2_with fail;refine(eG [] _ _ (ae HX) (by simp)).mono ?_;rintro e w0 ⟨rfl,rfl⟩;have e0:bZ []=0:=rfl;rw [e0];clear e0;go_wp2
  go_ret;exact⟨jA MG.symm,rfl⟩
 | [a],_,_,HX,hbd =>
  go_enter func162,ntmps162;go_wp2_with fail;refine(eG [a] _ _ (ae HX) (by simp)).mono ?_;rintro e w0 ⟨rfl,rfl⟩;have HE:=af (MH a)
  revert hbd HE
  generalize bZ [a]=V;intro hbd HE;have v0:0<=V:=hbd.1;have v1:V<256:=by simpa using hbd.2
  clear hbd;simp only;go_wp2
  go_ret;exact⟨jA (ae HE).symm,rfl⟩
 | [a,b],_,_,HX,hbd =>
  go_enter func162,ntmps162;go_wp2_with fail;refine(eG [a,b] _ _ (ae HX) (by simp)).mono ?_;rintro e w0 ⟨rfl,rfl⟩;have HE:=af (MI a b)
  revert hbd HE
  generalize bZ [a,b]=V;intro hbd HE;have v0:0<=V:=hbd.1;have v1:V<65536:=by simpa using hbd.2
  clear hbd;simp only;go_wp2
  go_ret;exact⟨jA (ae HE).symm,rfl⟩
 | [a,b,c],_,_,HX,hbd =>
  go_enter func162,ntmps162;go_wp2_with fail;refine(eG [a,b,c] _ _ (ae HX) (by simp)).mono ?_;rintro e w0 ⟨rfl,rfl⟩;have HE:=af (MJ a b c)
  revert hbd HE
  generalize bZ [a,b,c]=V;intro hbd HE;have v0:0<=V:=hbd.1;have v1:V<16777216:=by simpa using hbd.2
  clear hbd;simp only;go_wp2
  go_ret;exact⟨jA (ae HE).symm,rfl⟩
 | [a,b,c,d],_,_,HX,hbd =>
  go_enter func162,ntmps162;go_wp2_with fail;refine(eG [a,b,c,d] _ _ (ae HX) (by simp)).mono ?_;rintro e w0 ⟨rfl,rfl⟩;have HE:=af (MK a b c d)
  revert hbd HE
  generalize bZ [a,b,c,d]=V;intro hbd HE;have v0:0<=V:=hbd.1;have v1:V<4294967296:=by simpa using hbd.2
  clear hbd;simp only;go_wp2
  go_ret;exact⟨jA (ae HE).symm,rfl⟩
 | _::_::_::_::_::_,h,_,_,_=>simp at h
def lD(l:List Int):Int:=if l.length=4 then bZ l else 0
def MY(l:List Int):Bool:=decide (l.length=4)
theorem Ff{l:List Int}(h:l.length=4):lD l=bZ l/\MY l=true:=⟨by unfold lD;rw [aS h],by unfold MY;simpa using h⟩
theorem zq{l:List Int}(h:l.length≠4):lD l=0/\MY l=false:=⟨by unfold lD;rw [aG h],by unfold MY;simpa using h⟩
theorem qe(l:List Int)(x:Value)(w:World)(h:aX w x l) :
  Calls prog 164 #[x] w λ e w'=>e=.returned (.tuple #[.int .i64 (lD l),.bool (MY l)])/\w'=w:=by
 have HX:=af h;obtain⟨p,c,rfl,-,hl,-⟩:=h;by_cases h4:l.length=4
 ·have HE:=af h4;have d:((l.length:Int) != 4)=false:=by simp [h4]
  clear h4;go_enter func164,ntmps164;go_wp2_with fail;refine(eG l _ _ (ae HX) (by have:=ae HE;omega)).mono ?_;rintro e w0 ⟨rfl,rfl⟩;go_wp2
  go_ret2
  exact⟨by rw [(Ff (ae HE)).1,(Ff (ae HE)).2];rfl,rfl⟩
 have HE:=af h4;have d:((l.length:Int) != 4)=true:=by simp;omega
 clear h4;go_enter func164,ntmps164;go_wp2
 go_ret2
 exact⟨by rw [(zq (ae HE)).1,(zq (ae HE)).2];rfl,rfl⟩
theorem xQ(x y:Int)(t:List Int):words (x::y::t)=(256*x+y)::words t:=rfl
theorem Ce{l:List Int}(h:l.length<2):words l=[]:=by
 match l,h with
 | [],_=>rfl
 | [_],_=>rfl
 | _::_::_,h=>exfalso;simp at h;omega
theorem El{l:List Int}(h:2<=l.length):words l=bZ (l.take 2)::words (l.drop 2):=by
 match l,h with
 | [],h=>simp at h
 | [_],h=>simp at h
 | x::y::t,_=>rw [xQ];simp [nE]
theorem aX.cut{w:World}{b o n c:Nat}{l:List Int}(h:aX w (.slice (some ⟨b,o,none⟩) n c) l){i:Nat}(hi:i<=n)(hic:i<c):aX w (.slice (some ⟨b,o+i,none⟩) (n-i) (c-i)) (l.drop i):=by
 obtain⟨p',c',hv,hcap,hl,hin,hr⟩:=h;cases hv
 refine⟨_,_,by rw [List.length_drop],by simp;omega,by simp;omega,cB hin i,?_⟩;rcases hr with⟨rfl,h⟩|⟨b',o',hp,hb,hc⟩
 ·exact inl ⟨by simp,λ h=>by cases h⟩
 cases hp
 refine inr ⟨b,o+i,rfl,hb,λ j hj=>?_⟩;rw [List.length_drop]at hj;rw [List.getElem_drop,Nat.add_assoc];exact hc (i+j) (by omega)
theorem aX.cutEnd{w:World}{b o n c:Nat}{l:List Int}(h:aX w (.slice (some ⟨b,o,none⟩) n c) l){i:Nat}(hic:c<=i):aX w (.slice (some ⟨b,o,none⟩) 0 0) (l.drop i):=by
 obtain⟨p',c',hv,hcap,hl,hin,hr⟩:=h;cases hv
 rw [List.drop_eq_nil_of_le (by omega)];exact aX.empty _ _ _
theorem aX.head{w:World}{p:Option Addr}{n c:Nat}{l:List Int}(h:aX w (.slice p n c) l){i:Nat}(hi:i<=n):aX w (.slice p i c) (l.take i):=by
 obtain⟨p',c',hv,hcap,hl,hin,hr⟩:=h;cases hv
 have e:(l.take i).length=i:=by rw [List.length_take];omega
 refine⟨p,c,by rw [e],by omega,by omega,bU hin i,?_⟩;rcases hr with⟨rfl,h⟩|⟨b,o,rfl,hb,hc⟩
 ·exact inl ⟨by simp,h⟩
 refine inr ⟨b,o,rfl,hb,λ j hj=>?_⟩;rw [List.getElem_take];exact hc j (by omega)
theorem ia.push{w:World}{base:Nat}{v:Value}{l:List Int}{x:Int}(h:w.ownsRow base 3 1 v (l.length+1) (l.map (Value.int .i64)++[.int .i64 x])):ia w base v (l++[x]):=by
 unfold ia;rw [List.map_append,List.length_append];exact h
theorem oM(l:List Int)(x:Value)(w:World)(h:aX w x l)(hlen:l.length<=65535) :
  Calls prog 202 #[x] w λ e w'=>∃ v,e=.returned (.tuple #[v,.bool (decide (l.length % 2=0))])/\ia w' w.heap.size v (words l)/\Below w.heap.size w w':=by
 obtain⟨i0,hi0,hz0,hz1,hz2⟩:=info_parts Tryz.infoInt;have HX:=af h;clear h;go_enter func202,ntmps202;go_wp2_with fail;go_loopw [0,4] (λ vb vo wr=>∃ R D:List Int,aX w vb R/\ia wr w.heap.size vo D/\D.length+R.length<=65535/\words l=D++words R/\R.length % 2=l.length % 2/\Below w.heap.size w wr) (λ vb _ _=>ze vb)
 case atStart=>exact⟨l,[],ae HX,i7 _ _ _ _,by simpa using hlen,rfl,rfl,aY _ _⟩
 case round =>
  rename World=>WR
  obtain⟨R,D,hR,hD,hDR,hw,hmod,hbe⟩:=hrel;have OD:=af hD;have HR:=af hR;have HW:=af hw;have AA:=af hmod;have BE:=af hbe;have hsz:=hbe.size;clear hD hw hmod hbe;obtain⟨p,c,rfl,hcap,hl,hin,hr⟩:=hR;obtain⟨N,hN⟩:∃ N,R.length=N:=⟨_,rfl⟩
  rw [hN]at HR hcap hl hDR;have HN:=af hN;by_cases h2:2<=N
  ·rcases hr with h|⟨b,o,rfl,hb,hc⟩
   ·exfalso;rw [h.1]at hN;simp at hN;omega
   have hbd:=zo (bU hin 2) (by simp;omega);have FA:=af (El (l:=R) (by omega));have T2:=af ((ae HR).head (i:=2) h2);clear hc hin hN;rw [ae HN];obtain⟨V,hV⟩:∃ V,bZ (R.take 2)=V:=⟨_,rfl⟩
   rw [hV]at hbd FA;have HV:=af hV;clear hV;obtain⟨q0,k0,hq0⟩:=aI (ae OD);subst hq0;have EA:=af (show words l=(D++[V])++words (R.drop 2)from by rw [ae HW,ae FA];simp);have DA:=af (show(R.drop 2).length % 2=l.length % 2 from by rw [<-ae AA,List.length_drop,ae HN];omega);have CA:=af (show(R.drop 2).length=N-2 from by rw [List.length_drop,ae HN]);go_wp2_with fail;refine(eG (R.take 2) _ _ ((ae T2).below (ae BE)) (by simp;omega)).mono ?_;rintro e w0 ⟨rfl,rfl⟩;rw [ae HV];by_cases hcc:2<c
   ·have BA:=af ((ae HR).cut (i:=2) h2 hcc);go_wp2_with (at_builtin;refine wpList_append_lies _ rfl _ _ _ rfl w.heap.size 3 i0 _ 1 8 underlying22 hi0 hz0 hz1 hz2 rfl (by omega) (.slice q0 D.length k0) D.length (D.map (Value.int .i64)) rfl (World.ownsRow.alloc (ae OD) _) ⟨w0.heap.size,0,none⟩ 1 1 [.int .i64 V] rfl rfl (World.news_of_block (cs:=#[.int .i64 V]) (t:=3) (fr:=(0,0)) (cM _ _)) (by simp [Value.oneCell']) (by omega) (by simp only [maxLen];omega) (by omega) (by simp;omega) (w0.heap.size+1) (by simp) ?_;intro gg cap w6 hown hgrow hat hltg)
    exact⟨⟨R.drop 2,D++[V],ae BA,ia.push hown,by rw [ae CA];simp;omega,ae EA,ae DA,((ae BE).alloc hsz _).grown hgrow (by simp;omega) (λ j hj=>((ae OD).lt j hj).1)⟩,by simp only [ze];omega⟩
   have BA:=af ((ae HR).cutEnd (i:=2) (by omega));obtain rfl:c=2:=by omega
   obtain rfl:N=2:=by omega
   go_wp2_with (at_builtin;refine wpList_append_lies _ rfl _ _ _ rfl w.heap.size 3 i0 _ 1 8 underlying22 hi0 hz0 hz1 hz2 rfl (by omega) (.slice q0 D.length k0) D.length (D.map (Value.int .i64)) rfl (World.ownsRow.alloc (ae OD) _) ⟨w0.heap.size,0,none⟩ 1 1 [.int .i64 V] rfl rfl (World.news_of_block (cs:=#[.int .i64 V]) (t:=3) (fr:=(0,0)) (cM _ _)) (by simp [Value.oneCell']) (by omega) (by simp only [maxLen];omega) (by omega) (by simp;omega) (w0.heap.size+1) (by simp) ?_;intro gg cap w6 hown hgrow hat hltg)
   exact⟨⟨R.drop 2,D++[V],ae BA,ia.push hown,by rw [ae CA];simp;omega,ae EA,ae DA,((ae BE).alloc hsz _).grown hgrow (by simp;omega) (λ j hj=>((ae OD).lt j hj).1)⟩,by simp [ze]⟩
  have HE:=af (show words l=D from by rw [ae HW,Ce (by omega),List.append_nil]);have HP:=af (show((N:Int)==0)=decide (l.length % 2=0)from by rw [Bool.eq_iff_iff,<-ae AA,ae HN];simp only [beq_iff_eq,decide_eq_true_eq];omega);clear hr hin hN;rw [ae HN];go_wp2
  go_ret2
  exact⟨_,by rw [<-ae HP];rfl,by rw [ae HE];exact ae OD,ae BE⟩
theorem rl{l:List Int}(hb:aK l)(h:l.length % 2=0):(words l).length=l.length / 2/\∀ x∈words l,0<=x/\x<=65535:=by
 have:=xS (l.length / 2) (l:=l) (by omega) hb;exact⟨this.2.1,this.2.2⟩
theorem Cd:∀(n:Nat) {l:List Int},l.length<=n->aK l->2*(words l).length<=l.length/\∀ x∈words l,0<=x/\x<=65535:=by
 intro n
 induction n using Nat.strongRecOn with
 | _ n ih =>
  intro l hl hb
  match l,hl,hb with
  | [],_,_=>simp [words]
  | [_],_,_=>simp [words]
  | x::y::t,hl,hb =>
   have h1:=ih t.length (by simp at hl;omega) (aL _) (λ z hz=>hb z (by simp [hz]));have hx:=hb x (by simp);have hy:=hb y (by simp);rw [xQ];refine⟨by simp;omega,λ z hz=>?_⟩;simp only [List.mem_cons]at hz;rcases hz with rfl|hz
   ·omega
   exact h1.2 z hz
theorem AF{l:List Int}(hb:aK l):lU l=if(decide (l.length % 2=0)&&(decide (0<(words l).length)&&fM (words l)))=true then some (words l)else none:=by
 unfold lU;by_cases he:l.length % 2=0
 ·have hw:=(rl hb he).1
  have e:(l≠[]/\l.length % 2=0/\l.length<=16/\gx 0 (words l))↔((decide (l.length % 2=0)&&(decide (0<(words l).length)&&fM (words l)))=true):=by
   simp only [Bool.and_eq_true,decide_eq_true_eq,yC]
   constructor
   ·rintro⟨h1,h2,h3,h4⟩;have:=List.length_pos_iff.2 h1;exact⟨h2,by omega,by omega,h4⟩
   rintro⟨h1,h2,h3,h4⟩;exact⟨λ e=>by have h5:l.length=0:=(by rw [e];rfl);omega,h1,by omega,h4⟩
  by_cases hc:l≠[]/\l.length % 2=0/\l.length<=16/\gx 0 (words l)
  ·rw [aS hc,aS (e.1 hc)]
  rw [aG hc,aG (λ h=>hc (e.2 h))]
 rw [aG (λ h=>he h.2.1),aG (by simp [he])]
def MM(r:Option (List Int))(w:World)(e:Ending)(w':World):Prop :=
 ∃(v:Value) (L:List Int) (ok:Bool),e=.returned (.tuple #[v,.bool ok])/\ia w' w.heap.size v L/\r=(if ok=true then some L else none)/\Below w.heap.size w w'
theorem vW(l:List Int)(x:Value)(w:World)(h:aX w x l)(hlen:l.length<=255) :
  Calls prog 165 #[x] w (MM (lU l) w):=by
 have HX:=af h;have hb:aK l:=by obtain⟨_,_,_,_,_,hh,_⟩:=h;exact hh
 have HR:=af (AF hb);have hwl:=(Cd l.length (aL _) hb)
 have hwl1:=hwl.1;have AA:=af hwl.2;clear h hb hwl;go_enter func165,ntmps165;go_wp2_with fail;refine(oM l _ _ (ae HX) (by omega)).mono ?_;rintro e w1 ⟨v,rfl,ho,hb1⟩;obtain⟨q,c,rfl⟩:=aI ho;have O1:=af ho;have B1:=af hb1;have I1:=af (aA.own ho (λ x hx=>by have:=ae AA x hx;unfold eN;omega) (by omega));clear ho hb1;cases he:decide (l.length % 2=0)with
 | false =>
  have HE:=af he;clear he;go_wp2
  go_ret2
  exact⟨_,_,false,rfl,ae O1,by rw [ae HR,ae HE];rfl,ae B1⟩
 | true =>
  have HE:=af he;clear he;by_cases h0:0<(words l).length
  ·go_wp2_with fail;refine(mN (words l) _ _ (ae I1)).mono ?_;rintro e w0 ⟨rfl,rfl⟩;go_wp2
   go_ret2
   exact⟨_,_,fM (words l),rfl,ae O1,by rw [ae HR,ae HE,Fh h0];simp,ae B1⟩
  go_wp2
  go_ret2
  exact⟨_,_,false,rfl,ae O1,by rw [ae HR,ae HE,Cf h0];rfl,ae B1⟩
theorem GR{x n:Int}{t:List Int}(hb:aK t)(hx:x=2)(hn:1<=n):iq (x::n::t)=if(decide (t.length % 2=0)&&(decide (((words t).length:Int)=n)&&fX (words t)))=true then some (words t)else none:=by
 have e:(x=2/\1<=n/\n<=12/\(t.length:Int)=2*n/\(∀ s∈words t,s≠0))↔((decide (t.length % 2=0)&&(decide (((words t).length:Int)=n)&&fX (words t)))=true):=by
  simp only [Bool.and_eq_true,decide_eq_true_eq,A4]
  constructor
  ·rintro⟨_,h2,h3,h4,h5⟩;have he:t.length % 2=0:=by omega
   have hw:=rl hb he;exact⟨he,by omega,⟨by omega,λ s hs=>by have h6:=hw.2 s hs;have h7:=h5 s hs;omega⟩⟩
  rintro⟨he,h2,h3,h4⟩;have hw:=rl hb he;exact⟨hx,hn,by omega,by omega,λ s hs=>by have:=h4 s hs;omega⟩
 by_cases hc:x=2/\1<=n/\n<=12/\(t.length:Int)=2*n/\(∀ s∈words t,s≠0)
 ·rw [aS (e.1 hc)];simp only [iq];rw [aS hc]
 rw [aG (λ h=>hc (e.2 h))];simp only [iq];rw [aG hc]
theorem NU{l:List Int}(h:¬l.length<2):∃ y n t,l=y::n::t:=by
 match l,h with
 | [],h=>simp at h
 | [_],h=>simp at h
 | y::n::t,_=>exact⟨y,n,t,rfl⟩
theorem GQ{l:List Int}(h:l.length=1):iq l=none:=by
 match l,h with
 | [_],_=>rfl
theorem GP{x n:Int}{t:List Int}(h:x≠2\/n=0):iq (x::n::t)=none:=by
 simp only [iq];rw [aG];rintro⟨h1,h2,_⟩;rcases h with h|h
 ·exact h h1
 omega
theorem yY(l:List Int)(x:Value)(w:World)(h:aX w x l)(hlen:l.length<=255) :
  Calls prog 163 #[x] w (MM (iq l) w):=by
 have HX:=af h;obtain⟨p,c,rfl,hcap,hl,hin,hr⟩:=h;by_cases h0:l.length=0
 ·have HE:=af (show iq l=some []from by rw [List.length_eq_zero_iff.1 h0];rfl);have d0:((l.length:Int)==0)=true:=by simp [h0]
  clear h0 hr hin;go_enter func163,ntmps163;go_wp2
  go_ret2
  exact⟨_,[],true,rfl,i7 _ _ _ _,by rw [ae HE];rfl,aY _ _⟩
 have d0:((l.length:Int)==0)=false:=beq_eq_false_iff_ne.2 (by omega);rcases hr with h|⟨b,o,rfl,hb,hc⟩
 ·exact absurd (by rw [h.1];rfl) h0
 by_cases h1:l.length<2
 ·have HE:=af (GQ (l:=l) (by omega));clear h0 hin hc;go_enter func163,ntmps163;go_wp2
  go_ret2
  exact⟨_,[],false,rfl,i7 _ _ _ _,by rw [ae HE];rfl,aY _ _⟩
 obtain⟨y,n,t,hl2⟩:=NU h1;subst hl2;have c0:w.cell? ⟨b,o,none⟩=some (.int .u8 y):=hc 0 (by simp);have c1:w.cell? ⟨b,o+1,none⟩=some (.int .u8 n):=hc 1 (by simp);have hy:=hin y (by simp);have hn:=hin n (by simp);have htb:aK t:=λ z hz=>hin z (by simp [hz])
 have EA:=af htb;have AA:Hid ((y≠2\/n=0)->iq (y::n::t)=none):=GP;have BA:Hid (y=2->1<=n->iq (y::n::t)=if(decide (t.length % 2=0)&&(decide (((words t).length:Int)=n)&&fX (words t)))=true then some (words t)else none):=GR htb;have HA:Hid (t=(y::n::t).drop 2):=rfl;obtain⟨N,hN⟩:∃ N,(y::n::t).length=N:=⟨_,rfl⟩
 rw [hN]at HX hcap hl hlen h1 d0 ⊢;have hNt:N=t.length+2:=by rw [<-hN];rfl
 have CA:=af hNt;clear h0 hin hc htb hN hNt;obtain⟨PR,hPR⟩:∃ PR,iq (y::n::t)=PR:=⟨_,rfl⟩
 rw [hPR]at AA BA ⊢;clear hPR;by_cases hy2:y=2
 ·subst hy2;by_cases hn0:n=0
  ·have HE:=af (ae AA (inr hn0));subst hn0;go_enter func163,ntmps163;go_wp2
   go_ret2
   exact⟨_,[],false,rfl,i7 _ _ _ _,by rw [ae HE];rfl,aY _ _⟩
  have dn:(n==0)=false:=beq_eq_false_iff_ne.2 hn0;have HE:=af (ae BA rfl (by omega));clear hn0 AA BA
  have NX:∃ p2 n2 k2,Hid (aX w (.slice p2 n2 k2) t)/\((2<c/\p2=some ⟨b,o+2,none⟩/\n2=N-2/\k2=c-2)\/(c=2/\N=2/\p2=some ⟨b,o,none⟩/\n2=0/\k2=0)):=by
   by_cases hcc:2<c
   ·exact⟨_,_,_,af ((ae HX).cut (i:=2) (by omega) hcc),inl ⟨hcc,rfl,rfl,rfl⟩⟩
   exact⟨_,_,_,af ((ae HX).cutEnd (i:=2) (by omega)),inr ⟨by omega,by omega,rfl,rfl,rfl⟩⟩
  have hwl:=(Cd t.length (aL _) (ae EA))
  have hwl1:(words t).length<=255:=by have:=hwl.1;have:=ae CA;omega
  have GA:=af hwl.2;have FA:=af (show t.length<=255 from by have:=ae CA;omega);clear hwl hy;obtain⟨p2,n2,k2,HNX,hor⟩:=NX;have DA:=af (show ∀ W,Below w.heap.size w W->W.cell? ⟨b,o+1,none⟩=some (.int .u8 n)from λ W hW=>(hW.cell (p:=⟨b,o+1,none⟩) hb).trans c1);rcases hor with⟨hcc,rfl,rfl,rfl⟩|⟨rfl,rfl,rfl,rfl,rfl⟩
  all_goals
   go_enter func163,ntmps163;go_wp2_with fail;refine(oM t _ _ (ae HNX) (by have:=ae FA;omega)).mono ?_;rintro e w1 ⟨v,rfl,ho,hb1⟩;obtain⟨q,cq,rfl⟩:=aI ho;have O1:=af ho;have B1:=af hb1;have I1:=af (aA.own ho (λ x hx=>by have:=ae GA x hx;unfold eN;omega) (by omega));have f1:=ae DA w1 hb1;clear ho hb1 c0 c1;cases he:decide (t.length % 2=0)with
   | false =>
    have HT:=af he;clear he;go_wp2
    go_ret2
    exact⟨_,_,false,rfl,ae O1,by rw [ae HE,ae HT];rfl,ae B1⟩
   | true =>
    have HT:=af he;clear he;by_cases h0:((words t).length:Int)=n
    ·have HQ:=af h0;have dq:(((words t).length:Int)==n)=true:=beq_iff_eq.2 h0;clear h0;go_wp2_with fail;refine(ot (words t) _ _ (ae I1)).mono ?_;rintro e w0 ⟨rfl,rfl⟩;go_wp2
     go_ret2
     exact⟨_,_,fX (words t),rfl,ae O1,by rw [ae HE,ae HT,Fh (ae HQ)];simp,ae B1⟩
    have HQ:=af h0;have dq:(((words t).length:Int)==n)=false:=beq_eq_false_iff_ne.2 h0;clear h0;go_wp2
    go_ret2
    exact⟨_,_,false,rfl,ae O1,by rw [ae HE,ae HT,Cf (ae HQ)];rfl,ae B1⟩
 have dy:(y != 2)=true:=by simpa using hy2
 have HE:=af (ae AA (inl hy2));clear hy2;go_enter func163,ntmps163;go_wp2
 go_ret2
 exact⟨_,[],false,rfl,i7 _ _ _ _,by rw [ae HE];rfl,aY _ _⟩
