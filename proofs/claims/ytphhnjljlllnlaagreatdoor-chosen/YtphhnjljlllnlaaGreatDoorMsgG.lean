/- part -/
import Derived.Test.YtphhnjljlllnlaaGreatDoorMsgD
import Derived.Lib.AppendZeros
import Derived.Test.YtphhnjljlllnlaaGreatDoorSqH
import Derived.Test.YtphhnjljlllnlaaGreatDoorSqE
set_option maxRecDepth 100000
set_option maxHeartbeats 3200000
namespace Go.Proofs.YtphhnjljlllnlaaGreatDoor
open Go.Proofs.Tryz
open Or
open Go.RowKit
open Go Go.RowKit Go.Sort Go.Shelf
theorem cQ.zeros{w:World}{n cap:Nat}{z:Array Value}(hz:z.size=2)(h1:n<=cap)(h2:cap<=maxLen) :
  cQ (w.alloc (.cells (Builtin.zeroCells z n++Builtin.zeroCells z (cap-n)) 63)).drew w.heap.size (.slice (some ⟨w.heap.size,0,none⟩) 0 cap) []:=by
 refine⟨by simp [bu],inr ⟨w.heap.size,cap,_,rfl,aL _,cM w _,dG _,h2,?_,by simp [bu]⟩⟩;simp only [Array.size_append,size_zeroCells,hz,<-Nat.add_mul]
 congr 1
 omega
theorem Ih(n:Nat)(w:World)(hn:n<=20) :
  Calls prog 166 #[.slice none 0 0,.int .i64 n] w λ e w'=>∃ v,e=.returned v/\cQ w' w.heap.size v []/\Below w.heap.size w w':=by
 obtain⟨i0,hi0,hz0,hz1,hz2⟩:=info_parts Tryz.infoNetW;rcases Ic n with h0|h0
 ·subst h0;go_enter func166,ntmps166;go_wp2
  go_ret;exact⟨_,rfl,i7 _ _ _ _,aY _ _⟩
 have hr:=Lib.run_append_nil_zeros (P:=prog) w 85 3 85 63 i0 _ .i64 .i64 underlying85 underlying3 hi0 hz0 n h0 (by omega) (by omega) (by rw [hz2];omega);have HR:=af hr;have hge:=grownCap_ge w n 0 63;have hcm:grownCap w n 0 63<=maxLen:=grownCap_le_maxLen w n 0 63 (by simp only [maxLen];omega);have BA:=af hge;have AA:=af hcm;clear hr hge hcm;go_enter func166,ntmps166;go_wp2_with (at_builtin;refine Lib.wpList_append_run _ rfl _ _ _ _ rfl _ _ rfl rfl _ _ (ae HR) ?_)
 go_ret;exact⟨_,rfl,cQ.zeros rfl (ae BA) (ae AA),((aY _ _).alloc (aL _) _).drew⟩
theorem Fk(l:List (Int×Int))(y:Int×Int)(x:Value)(w:World)(hx:cd w x l) :
  Calls prog 167 #[x,.agg #[.int .i64 y.1,.int .i64 y.2]] w λ e w'=>∃ r:Int,e=.returned (.int .i64 r)/\(0<=r↔y∈l)/\Below w.heap.size w w':=by
 obtain⟨p,c,rfl,hcap,hl,hin,hr⟩:=hx;have HR:=af hr;clear hr hin;obtain⟨w0,hw0⟩:∃ w0,w.alloc (.cells #[.int .i64 y.1,.int .i64 y.2] 63)=w0:=⟨_,rfl⟩
 have Q0:=af (cM w (.cells #[.int .i64 y.1,.int .i64 y.2] 63));have B0:=af ((aY w.heap.size w).alloc (aL _) (.cells #[.int .i64 y.1,.int .i64 y.2] 63));rw [hw0]at Q0 B0;have EA:=af hw0;clear hw0;go_enter func167,ntmps167;go_wp2
 rw [ae EA];go_loopw [8] (λ i wr=>∃ k:Nat,k<=l.length/\i=.int .i64 k/\y ∉ l.take k/\Below w0.heap.size w0 wr) (λ i _=>l.length-(intOf i).toNat)
 case atStart=>exact⟨0,dG _,rfl,by simp,aY _ _⟩
 case round =>
  rename World=>WR
  obtain⟨k,hk,rfl,hnm,hbe⟩:=hrel;have BA:=af hnm;have BE:=af hbe;have bw:=af ((ae B0).trans (hbe.mono (ae B0).size));have q0:=(hbe.block _ (ah (ae Q0))).trans (ae Q0);have y0:WR.cell? ⟨w.heap.size,0,none⟩=some (.int .i64 y.1):=ag q0;have y1:WR.cell? ⟨w.heap.size,1,none⟩=some (.int .i64 y.2):=ag q0;clear hnm hbe q0;by_cases hlt:k<l.length
  ·rcases ae HR with h|⟨b,o,rfl,hb,hc⟩
   ·rw [h.1]at hlt;simp at hlt
   have c01:WR.cell? ⟨b,o+k*2,none⟩=some (.int .i64 l[k].1)/\WR.cell? ⟨b,o+k*2+1,none⟩=some (.int .i64 l[k].2):=by
    rw [(ae bw).cell (p:=⟨b,o+k*2,none⟩) hb,(ae bw).cell (p:=⟨b,o+k*2+1,none⟩) hb];exact hc k hlt
   obtain⟨c0,c1⟩:=c01;have CA:=af (List.take_succ_eq_append_getElem hlt);have DA:=af (ej hlt);clear hc;obtain⟨X,hX⟩:∃ X,l[k]=X:=⟨_,rfl⟩
   rw [hX]at c0 c1 CA DA;clear hX;obtain⟨a,d⟩:=y;obtain⟨a2,d2⟩:=X;simp only at c0 c1 y0 y1;by_cases e1:a=a2
   ·subst e1;by_cases e2:d=d2
    ·subst e2;go_wp2_with fail;go_quiet (fail)
     go_wp2
     go_ret;exact⟨k,rfl,⟨λ _=>ae DA,λ _=>by omega⟩,by exact below_drewN (ae bw) _⟩
    have g2:(d==d2)=false:=beq_eq_false_iff_ne.2 e2;have AA:=af (show(a,d)≠(a,d2)from λ e=>e2 (by simpa using e));clear e2;go_wp2_with fail;go_quiet (fail)
    go_wp2_with fail;exact⟨⟨k+1,by omega,by go_num,by rw [ae CA];simp only [List.mem_append,List.mem_singleton,not_or];exact⟨ae BA,ae AA⟩,by exact below_drewN (ae BE) _⟩,by simp [intOf];omega⟩
   have g1:(a==a2)=false:=beq_eq_false_iff_ne.2 e1;have AA:=af (show(a,d)≠(a2,d2)from λ e=>e1 (by simp at e;exact e.1));clear e1;go_wp2_with fail;go_quiet (fail)
   go_wp2_with fail;exact⟨⟨k+1,by omega,by go_num,by rw [ae CA];simp only [List.mem_append,List.mem_singleton,not_or];exact⟨ae BA,ae AA⟩,by exact below_drewN (ae BE) _⟩,by simp [intOf];omega⟩
  have HE:=af (show y ∉ l from by have:=ae BA;rwa [List.take_of_length_le (by omega)]at this);go_wp2
  go_ret;exact⟨-1,rfl,⟨λ h=>absurd h (by omega),λ h=>absurd h (ae HE)⟩,ae bw⟩
theorem xT(l:List (Int×Int))(y:Int×Int)(x:Value)(w:World)(hx:cd w x l) :
  Calls prog 115 #[x,.agg #[.int .i64 y.1,.int .i64 y.2]] w λ e w'=>e=.returned (.bool (decide (y∈l)))/\Below w.heap.size w w':=by
 have HX:=af hx;obtain⟨p,c,rfl,-⟩:=hx;go_enter func115,ntmps115;go_wp2_with fail;have b0:=(aY w.heap.size w).alloc (aL _) (.cells #[.int .i64 y.1,.int .i64 y.2] 63);refine(Fk l y _ _ ((ae HX).below b0)).mono ?_;rintro e w1 ⟨r,rfl,hr,hb1⟩;have B1:=af (b0.trans (hb1.mono b0.size));have HE:=af (show decide (0<=r)=decide (y∈l)from decide_eq_decide.2 hr);clear hr hb1 b0;go_wp2
 go_ret;exact⟨aO (ae HE),ae B1⟩
def qC(g t:List (Int×Int))(k:Nat):List (Int×Int):=if k=0 then []else if k=1 then g else g++t
theorem Ch(g t:List (Int×Int))(B:Nat)(vg vt:Value)(w:World)(hg:cd w vg g)(ht:cd w vt t)(hB:w.heap[B]?=some (.cells #[vg,vt] 85 (0,0)))(hlen:g.length+t.length<=20) :
  Calls prog 114 #[.slice (some ⟨B,0,none⟩) 2 2] w λ e w'=>∃ v,e=.returned v/\cQ w' w.heap.size v (g++t)/\Below w.heap.size w w':=by
 obtain⟨i0,hi0,hz0,hz1,hz2⟩:=info_parts Tryz.infoNetW;have HG:=af hg;have HT:=af ht;have HB:=af hB;obtain⟨pg,cg,rfl,-⟩:=hg;obtain⟨pt,ct,rfl,-⟩:=ht;have e0:w.cell? ⟨B,0,none⟩=some (.slice pg g.length cg):=ag hB;have e1:w.cell? ⟨B,1,none⟩=some (.slice pt t.length ct):=ag hB;have hlB:B<w.heap.size:=ah hB;clear hB;go_enter func114,ntmps114;go_wp2
 go_loop [3,11] (λ s i=>∃ k:Nat,k<=2/\i=.int .i64 k/\s=.int .i64 (qC g t k).length) (λ _ i=>2-(intOf i).toNat)
 case atStart=>exact⟨0,by omega,rfl,rfl⟩
 case round =>
  obtain⟨k,hk,rfl,rfl⟩:=hrel;rcases(by omega:k=0\/k=1\/k=2)with rfl|rfl|rfl
  ·simp only [qC,if_true,List.length_nil];go_wp2
   go_round
   case rel=>exact⟨1,by omega,rfl,by simp⟩
   case measure=>simp [intOf]
  ·simp only [qC,if_true,aG (show ¬(1:Nat)=0 by omega)];go_wp2
   go_round
   case rel=>exact⟨2,by omega,rfl,by simp⟩
   case measure=>simp [intOf]
  have es:(qC g t 2).length=g.length+t.length:=by simp [qC]
  rw [es];clear es;go_wp2_with fail;have hgr:=Ih (g.length+t.length) w hlen;rw [Int.natCast_add]at hgr;refine hgr.mono ?_;clear hgr;rintro e w1 ⟨v1,rfl,ho1,hb1⟩;have O1:=af ho1;have B1:=af hb1;clear ho1 hb1;go_wp2_with fail;go_loopw [6,27] (λ v6 i wr=>∃ k:Nat,k<=2/\i=.int .i64 k/\cQ wr w.heap.size v6 (qC g t k)/\Below w.heap.size w wr) (λ _ i _=>2-(intOf i).toNat)
  case atStart=>exact⟨0,by omega,rfl,ae O1,ae B1⟩
  case round =>
   rename World=>WR
   obtain⟨k,hk,rfl,ho,hbe⟩:=hrel;have OR:=af ho;have BE:=af hbe;have hsz:=hbe.size;have f0:WR.cell? ⟨B,0,none⟩=some (.slice pg g.length cg):=(hbe.cell (p:=⟨B,0,none⟩) hlB).trans e0;have f1:WR.cell? ⟨B,1,none⟩=some (.slice pt t.length ct):=(hbe.cell (p:=⟨B,1,none⟩) hlB).trans e1;have RG:=af ((ae HG).below hbe).reads;have RT:=af ((ae HT).below hbe).reads;clear ho hbe;rcases(by omega:k=0\/k=1\/k=2)with rfl|rfl|rfl
   ·have e:qC g t 0=[]:=rfl;rw [e]at OR;clear e;go_wp2_with (at_builtin;refine bC rfl _ _ _ rfl w.heap.size 63 i0 _ 2 16 underlying85 hi0 hz0 hz1 hz2 rfl (by omega) u6 0 [] rfl (ae OR) (.slice pg g.length cg) g.length (bu g) rfl (ae RG) (lV g) (EZ g) (by simp [maxLen];omega) (by omega) hsz ?_;intro v' w' hown hgrow hat)
    exact⟨⟨1,by omega,rfl,by rw [Nat.zero_add,List.nil_append]at hown;exact hown,(ae BE).grown hgrow hsz (λ j hj=>((ae OR).lt j hj).1)⟩,by simp [intOf]⟩
   ·have e:qC g t 1=g:=rfl;rw [e]at OR;clear e;go_wp2_with (at_builtin;refine bC rfl _ _ _ rfl w.heap.size 63 i0 _ 2 16 underlying85 hi0 hz0 hz1 hz2 rfl (by omega) u6 g.length (bu g) rfl (ae OR) (.slice pt t.length ct) t.length (bu t) rfl (ae RT) (lV t) (EZ t) (by simp [maxLen];omega) (by omega) hsz ?_;intro v' w' hown hgrow hat)
    exact⟨⟨2,by omega,rfl,by rw [<-ss,<-List.length_append]at hown;exact hown,(ae BE).grown hgrow hsz (λ j hj=>((ae OR).lt j hj).1)⟩,by simp [intOf]⟩
   have e:qC g t 2=g++t:=rfl;rw [e]at OR;clear e;go_wp2
   go_ret;exact⟨_,rfl,ae OR,ae BE⟩
theorem cd.take{w:World}{p:Option Addr}{n c:Nat}{l:List (Int×Int)}(h:cd w (.slice p n c) l){k:Nat}(hk:k<=n):cd w (.slice p k c) (l.take k):=by
 obtain⟨p',c',hv,hcap,hl,hin,hr⟩:=h;cases hv
 have e:(l.take k).length=k:=by rw [List.length_take];omega
 refine⟨p,c,by rw [e],by omega,by omega,λ x hx=>hin x (List.mem_of_mem_take hx),?_⟩;rcases hr with⟨rfl,h⟩|⟨b,o,rfl,hb,hc⟩
 ·exact inl ⟨by simp,h⟩
 refine inr ⟨b,o,rfl,hb,λ j hj=>?_⟩;rw [List.getElem_take];exact hc j (by omega)
theorem AO{l:List (Int×Int)}{k:Nat}(hk:k<l.length)(h:l[k]∈l.take k):eH l=false:=by
 obtain⟨j,hj,e⟩:=List.mem_iff_getElem.1 h;rw [List.getElem_take]at e;rw [List.length_take]at hj;exact vT hk (j:=j) (by omega) e.symm
theorem oQ(g t:List (Int×Int))(x y:Value)(w:World)(hx:cd w x g)(hy:cd w y t) :
  Calls prog 76 #[x,y] w λ e w'=>e=.returned (.bool (eH (g++t)))/\Below w.heap.size w w':=by
 have HX:=af hx;have HY:=af hy
 have EA:Hid (∀ z∈g++t,eN z.1/\eN z.2):=by
  obtain⟨_,_,_,_,_,h1,_⟩:=hx;obtain⟨_,_,_,_,_,h2,_⟩:=hy;intro z hz;rcases List.mem_append.1 hz with h|h
  ·exact h1 z h
  exact h2 z h
 obtain⟨px,cx,rfl,-,hlx,-⟩:=hx;obtain⟨py,cy,rfl,-,hly,-⟩:=hy;go_enter func76,ntmps76;by_cases h20:20<g.length+t.length
 ·have HF:=af (l6 (l:=g++t) (by rw [List.length_append];exact h20));go_wp2
  go_ret;exact⟨aO (ae HF).symm,aY _ _⟩
 go_wp2_with fail;have b0:=(aY w.heap.size w).alloc (aL _) (.cells #[.slice px g.length cx,.slice py t.length cy] 85);refine(Ch g t w.heap.size _ _ _ ((ae HX).below b0) ((ae HY).below b0) (cM w _) (by omega)).mono ?_;rintro e w2 ⟨v2,rfl,ho2,hb2⟩;have B2:=af (b0.trans (hb2.mono b0.size));have hlen:(g++t).length<=20:=by rw [List.length_append];omega
 revert ho2 hlen EA
 obtain⟨L,hL⟩:∃ L,g++t=L:=⟨_,rfl⟩
 have HL:=af hL;rw [hL];intro EA ho2 hlen;clear hL hb2 b0 HX HY;obtain⟨q5,c5,rfl⟩:=aI ho2;have O2:=af ho2;have N2:=af (ho2.at_ (ae EA) (by omega));clear ho2;go_wp2_with fail;go_loopw [20] (λ i wr=>∃ k:Nat,k<=L.length/\i=.int .i64 k/\(∀ z∈L.take k,dX z)/\(L.take k).Nodup/\Below w2.heap.size w2 wr) (λ i _=>L.length-(intOf i).toNat)
 case atStart=>exact⟨0,dG _,rfl,by simp,by simp,aY _ _⟩
 case round =>
  rename World=>WR
  obtain⟨k,hk,rfl,hok,hnd,hbe⟩:=hrel;have BE:=af hbe;have NR:=af ((ae N2).below hbe);have bw:=af ((ae B2).trans (hbe.mono (ae B2).size));have IA:=af hok;have HA:=af hnd;have OR:=af ((ae O2).nextW hbe);clear hbe hok hnd;by_cases hlt:k<L.length
  ·obtain⟨gg,rfl,hg1,hg2,hcell⟩:=(ae OR).cellW hlt;obtain⟨c0,c1⟩:=hcell k hlt;have hI:=ae EA L[k] (ej _)
   have hkc:(k:Int)<=c5:=by
    rcases(ae OR).2 with⟨h1,_⟩|⟨_,_,_,h1,_,_,h2,_⟩
    ·cases h1
    cases h1;omega
   have JA:=af (List.take_succ_eq_append_getElem hlt);have AA:Hid (fA L[k]=false->eH L=false):=λ h=>AM hlt h
   have KA:Hid (L[k]∈L.take k->eH L=false):=λ h=>AO hlt h
   have DA:Hid (L[k] ∉ L.take k->(L.take (k+1)).Nodup):=λ h=>sw hlt (ae HA) h
   clear hcell;obtain⟨X,hX⟩:∃ X,L[k]=X:=⟨_,rfl⟩
   rw [hX]at c0 c1 hI JA AA KA DA;clear hX;obtain⟨hI1,hI2⟩:=hI;go_upto_region 7 with fail
   have q0:=cM WR (.cells #[.int .i64 X.1,.int .i64 X.2] 63);have bA:=(aY WR.heap.size WR).alloc (aL _) (.cells #[.int .i64 X.1,.int .i64 X.2] 63);obtain⟨WA,hWA⟩:∃ WA,WR.alloc (.cells #[.int .i64 X.1,.int .i64 X.2] 63)=WA:=⟨_,rfl⟩
   rw [hWA]at q0 bA ⊢;have x0:WA.cell? ⟨WR.heap.size,0,none⟩=some (.int .i64 X.1):=ag q0;have x1:WA.cell? ⟨WR.heap.size,1,none⟩=some (.int .i64 X.2):=ag q0;have hlA:WR.heap.size<WA.heap.size:=ah q0;have NA:=af ((ae NR).below bA);have BA:=af bA;clear hWA q0 bA c0 c1;go_cut [34] (λ v34 wc=>v34=.bool (!fA X||decide (X∈L.take k))/\Below WR.heap.size WR wc)
   case first =>
    cases hbn:fA X with
    | false =>
     have CA:=af hbn;clear hbn
     first
      | (go_region_with (go_at_call 57;refine(nG X _ hI1 hI2).mono ?_;rintro e w3 ⟨rfl,hb3⟩;rw [ae CA]))
      | fail
     all_goals
      have B3:Hid (Below WA.heap.size WA w3):=by
       refine Below.trans ?_ hb3
       repeat (first|exact aY _ _|refine Below.drew ?_)
      clear hb3;go_wp2_with fail
      go_meet
      case rel=>exact⟨by simp [ae CA],(ae BA).trans ((ae B3).mono (ae BA).size)⟩
    | true =>
     have CA:=af hbn;clear hbn;go_region_with (first|(go_at_call 57;refine(nG X _ hI1 hI2).mono ?_;rintro e w3 ⟨rfl,hb3⟩;rw [ae CA];have B3:Hid (Below WA.heap.size WA w3):=(by refine Below.trans ?_ hb3;repeat (first|exact aY _ _|refine Below.drew ?_));have f0:w3.cell? ⟨WR.heap.size,0,none⟩=some (.int .i64 X.1):=((ae B3).cell (p:=⟨WR.heap.size,0,none⟩) hlA).trans x0;have f1:w3.cell? ⟨WR.heap.size,1,none⟩=some (.int .i64 X.2):=((ae B3).cell (p:=⟨WR.heap.size,1,none⟩) hlA).trans x1;clear hb3)|(go_at_call 115;refine(xT (L.take k) X _ _ (cd.take ((ae NA).below (ae B3)) (by omega))).mono ?_;rintro e w4 ⟨rfl,hb4⟩))
     all_goals
      have B4:=af ((ae BA).trans (((ae B3).trans (hb4.mono (ae B3).size)).mono (ae BA).size));clear hb4;go_wp2_with fail
      go_meet
      case rel=>exact⟨by simp [ae CA],ae B4⟩
   case rest =>
    rename World=>W4
    obtain⟨rfl,hb4⟩:=hcut;have B4:=af hb4;clear hb4 x0 x1 NA BA hlA;cases hbn:fA X with
    | false =>
     have HF:=af (ae AA hbn);clear hbn;simp only [Bool.not_false,Bool.true_or];go_wp2
     go_ret;exact⟨aO (by rw [ae HL];exact(ae HF).symm),(ae bw).trans ((ae B4).mono (ae bw).size)⟩
    | true =>
     have MA:=af (show dX X from by exact of_decide_eq_true hbn);clear hbn;simp only [Bool.not_true,Bool.false_or];cases hmm:decide (X∈L.take k)with
     | true =>
      have HF:=af (ae KA (by simpa using hmm));clear hmm;go_wp2
      go_ret;exact⟨aO (by rw [ae HL];exact(ae HF).symm),(ae bw).trans ((ae B4).mono (ae bw).size)⟩
     | false =>
      have FA:=af (ae DA (by simpa using hmm))
      have GA:=af (show ∀ z∈L.take (k+1),dX z from by
       rw [ae JA];intro z hz;simp only [List.mem_append,List.mem_singleton]at hz;rcases hz with hz|rfl
       ·exact ae IA z hz
       ·exact ae MA)
      have LA:=af ((ae BE).trans ((ae B4).mono (ae BE).size));clear hmm;go_wp2_with fail;exact⟨⟨k+1,by omega,by go_num,ae GA,ae FA,ae LA⟩,by simp [intOf];omega⟩
  have HT:=af (AL hlen (by omega) (ae IA) (ae HA));go_wp2
  go_ret;exact⟨aO (by rw [ae HL];exact(ae HT).symm),ae bw⟩
theorem cd.lt{w:World}{v:Value}{l:List (Int×Int)}(h:cd w v l):l=[]\/∀ k,v.ownBlock=some k->k<w.heap.size:=by
 obtain⟨p,c,rfl,hcap,hl,hin,hr⟩:=h;rcases hr with⟨rfl,hp⟩|⟨b,o,rfl,hb,hc⟩
 ·exact inl rfl
 refine inr λ k hk=>?_
 have e:b=k:=by simpa [Value.ownBlock]using hk
 omega
theorem aA.lt{w:World}{v:Value}{l:List Int}(h:aA w v l):l=[]\/∀ k,v.ownBlock=some k->k<w.heap.size:=by
 obtain⟨p,c,rfl,hcap,hl,hin,hr⟩:=h;rcases hr with⟨rfl,hp⟩|⟨b,o,rfl,hb,hc⟩
 ·exact inl rfl
 refine inr λ k hk=>?_
 have e:b=k:=by simpa [Value.ownBlock]using hk
 omega
theorem Hz(u:fI)(vg vn vp vm:Value)(w:World)(hg:cd w vg u.gone)(hn:cd w vn u.nets)(hp:aA w vp u.path)(hm:aA w vm u.marks) :
  Calls prog 66 #[.agg #[vg,vn,vp,vm,.int .i64 u.pref,.int .i64 u.med]] w λ e w'=>e=.returned (.bool (jx u))/\Below w.heap.size w w':=by
 have HG:=af hg;have HN:=af hn;have HP:=af hp;have HM:=af hm;obtain⟨pg,cg,rfl,-⟩:=hg;obtain⟨pn,cn,rfl,-,hln,-⟩:=hn;obtain⟨pp,cp,rfl,-,hlp,-⟩:=hp;obtain⟨pm,cm,rfl,-,hlm,-⟩:=hm;have b0:=af ((aY w.heap.size w).alloc (aL _) (.cells #[.slice pg u.gone.length cg,.slice pn u.nets.length cn,.slice pp u.path.length cp,.slice pm u.marks.length cm,.int .i64 u.pref,.int .i64 u.med] 87));go_enter func66,ntmps66;go_wp2_with fail;refine(oQ u.gone u.nets _ _ _ ((ae HG).below (ae b0)) ((ae HN).below (ae b0))).mono ?_;rintro e w1 ⟨rfl,hb1⟩;have q1:=(hb1.block w.heap.size (by simp)).trans (cM w _);obtain⟨c0,c1,c2,c3,c4,c5⟩:=dF q1;have b1:=af ((ae b0).trans (hb1.mono (ae b0).size));clear hb1 q1 b0;cases hnb:eH (u.gone++u.nets)with
 | false =>
  have HF:=af (Gu (u:=u) (λ h=>by unfold eH at hnb;simp only [decide_eq_false_iff_not]at hnb;exact hnb h.1));clear hnb;go_wp2
  go_ret;exact⟨aO (ae HF).symm,ae b1⟩
 | true =>
  have AA:=af (show kI (u.gone++u.nets)from of_decide_eq_true hnb);clear hnb;by_cases y0:u.nets.length=0
  ·have hz:u.nets=[]:=List.length_eq_zero_iff.1 y0
   have HQ:=af (show jx u=(((decide (u.path.length=0)&&decide (u.marks.length=0))&&decide (u.pref=0))&&decide (u.med=0))from by
    unfold jx;rw [Bool.eq_iff_iff];simp only [Bool.and_eq_true,decide_eq_true_eq]
    constructor
    ·intro h;rcases h.2.2.2.2.2 with h1|⟨h1,h2,h3,h4⟩
     ·exact absurd hz h1
     ·exact⟨⟨⟨by rw [h1];rfl,by rw [h2];rfl⟩,h3⟩,h4⟩
    ·rintro⟨⟨⟨h1,h2⟩,h3⟩,h4⟩;have e1:=List.length_eq_zero_iff.1 h1;have e2:=List.length_eq_zero_iff.1 h2;refine⟨ae AA,?_,?_,?_,?_,inr ⟨e1,e2,h3,h4⟩⟩
     ·rw [e1];exact⟨by simp,by simp⟩
     ·rw [e2];exact⟨by simp,iO _⟩
     ·rw [h3];exact⟨by omega,by omega⟩
     ·rw [h4];exact⟨by omega,by omega⟩)
   have d0:((u.nets.length:Int)==0)=true:=by simp [y0]
   clear y0 hz;by_cases y1:u.path.length=0
   ·have d1:((u.path.length:Int)==0)=true:=by simp [y1]
    by_cases y2:u.marks.length=0
    ·have d2:((u.marks.length:Int)==0)=true:=by simp [y2]
     by_cases y3:u.pref=0
     ·have d3:(u.pref==0)=true:=by simp [y3]
      have HE:=af (show(u.med==0)=jx u from by rw [ae HQ];simp [y1,y2,y3];rfl);clear y1 y2 y3;go_wp2
      go_ret;exact⟨aO (ae HE),ae b1⟩
     have d3:(u.pref==0)=false:=beq_eq_false_iff_ne.2 y3;have HE:=af (show false=jx u from by rw [ae HQ];simp [y3]);clear y1 y2 y3;go_wp2
     go_ret;exact⟨aO (ae HE),ae b1⟩
    have d2:((u.marks.length:Int)==0)=false:=beq_eq_false_iff_ne.2 (by omega);have HE:=af (show false=jx u from by rw [ae HQ];simp [y2]);clear y1 y2;go_wp2
    go_ret;exact⟨aO (ae HE),ae b1⟩
   have d1:((u.path.length:Int)==0)=false:=beq_eq_false_iff_ne.2 (by omega);have HE:=af (show false=jx u from by rw [ae HQ];simp [y1]);clear y1;go_wp2
   go_ret;exact⟨aO (ae HE),ae b1⟩
  have HQ:=af (show ix (0,0) u.path u.marks u.pref u.med=jx u from by
   have hz:u.nets≠[]:=λ e=>y0 (by rw [e];rfl)
   unfold ix jx;refine decide_eq_decide.2 ⟨λ h=>⟨ae AA,h.2.1,h.2.2.1,h.2.2.2.1,h.2.2.2.2,inl hz⟩,λ h=>⟨Og,h.2.1,h.2.2.1,h.2.2.2.1,h.2.2.2.2.1⟩⟩)
  have d0:((u.nets.length:Int)==0)=false:=beq_eq_false_iff_ne.2 (by omega);clear y0;go_wp2_with fail;refine(td (0,0) u.path u.marks u.pref u.med _ _ _ (by simp [eN]) (by simp [eN]) ((ae HP).below (ae b1)) ((ae HM).below (ae b1))).mono ?_;rintro e w2 ⟨rfl,hb2⟩;have b2:=af ((ae b1).trans (hb2.mono (ae b1).size));clear hb2;go_wp2
  go_ret;exact⟨aO (ae HQ),ae b2⟩
theorem tC{u:fI}(h:eW u):(∀ d∈cT u,MR d)/\(cT u).length<=4:=by
 have hp:=qZ h.2.1;have hm:(cI u.marks).length<=16:=by rw [ed];have:=h.2.2.1.1;omega
 by_cases hn:u.nets=[]
 ·unfold cT;rw [aS hn];exact⟨by simp,by simp⟩
 rw [ws hn];unfold AH oZ
 constructor
 ·intro d hd;simp only [List.mem_append,List.mem_singleton]at hd;rcases hd with((rfl|hd)|rfl)|hd
  ·exact⟨⟨by simp,by simp⟩,⟨by simp,by simp⟩,by simp only;omega⟩
  ·split at hd
   ·simp only [List.mem_singleton]at hd;subst hd;exact⟨⟨by simp,by simp⟩,⟨by simp,by simp⟩,by simp [cK]⟩
   simp at hd
  ·exact⟨⟨by simp,by simp⟩,⟨by simp,by simp⟩,by simp [cK]⟩
  split at hd
  ·simp at hd
  simp only [List.mem_singleton]at hd;subst hd;exact⟨⟨by simp,by simp⟩,⟨by simp,by simp⟩,by simp only;omega⟩
 split<;>split<;>simp
theorem tR(u:fI)(vg vn vp vm:Value)(w:World)(ht:ja w)(hg:cd w vg u.gone)(hn:cd w vn u.nets)(hp:aA w vp u.path)(hm:aA w vm u.marks) :
  Calls prog 48 #[.agg #[vg,vn,vp,vm,.int .i64 u.pref,.int .i64 u.med]] w λ e w'=>Below w.heap.size w w' /\
   ∃(v:Value) (l:List Int) (k:Int),e=.returned (.tuple #[v,.int .i64 k])/\dK w' w.heap.size v l/\((eW u/\l=jv u/\k=0)\/(¬eW u/\l=[]/\k=5)):=by
 have HG:=af hg;have HN:=af hn;have HP:=af hp;have HM:=af hm;have HT:=af ht;obtain⟨pg,cg,rfl,-⟩:=hg;obtain⟨pn,cn,rfl,-⟩:=hn;obtain⟨pp,cp,rfl,-⟩:=hp;obtain⟨pm,cm,rfl,-⟩:=hm;clear ht;have b0:=af ((aY w.heap.size w).alloc (aL _) (.cells #[.slice pg u.gone.length cg,.slice pn u.nets.length cn,.slice pp u.path.length cp,.slice pm u.marks.length cm,.int .i64 u.pref,.int .i64 u.med] 87));go_enter func48,ntmps48;go_wp2_with fail;refine(Hz u _ _ _ _ _ ((ae HG).below (ae b0)) ((ae HN).below (ae b0)) ((ae HP).below (ae b0)) ((ae HM).below (ae b0))).mono ?_;rintro e w1 ⟨rfl,hb1⟩;have q1:=(hb1.block w.heap.size (by simp)).trans (cM w _);have Q1:=af q1;obtain⟨c0,c1,c2,c3,c4,c5⟩:=dF q1;have b1:=af ((ae b0).trans (hb1.mono (ae b0).size));clear hb1 q1 b0;cases hok:jx u with
 | false =>
  have HF:=af (show ¬eW u from of_decide_eq_false hok);clear hok;go_wp2
  go_ret2
  exact⟨ae b1,.slice none 0 0,[],5,rfl,i7 _ _ _ _,inr ⟨ae HF,rfl,rfl⟩⟩
 | true =>
  have HK:=af (show eW u from of_decide_eq_true hok);clear hok;have hl20:u.gone.length+u.nets.length<=20:=by have:=(ae HK).1.1;simp only [List.length_append]at this;omega
  have lg:(cJ u.gone).length<=100:=by
   have h1:=k7 (l:=u.gone) (λ x hx=>(ae HK).1.2.1 x (by simp [hx]));omega
  have la:=qL (ae HK);go_wp2_with fail;refine(rW w1.heap.size [] u.gone (.slice none 0 0) _ w1 (i7 _ _ _ _) (aL _) ((ae HG).below (ae b1)) (((ae HG).below (ae b1)).lt.imp id (λ h k hk=>⟨h k hk,λ e=>by simp [Value.ownBlock]at e⟩)) (λ y hy=>(ae HK).1.2.1 y (by simp [hy])) (by omega) (by simp)).mono ?_;rintro e w2 ⟨v2,rfl,g2⟩;have O2:=af g2.own;have B2:=af g2.be;rw [List.nil_append]at O2;have b2:=af ((ae b1).trans (g2.be.mono (ae b1).size));have Q2:=af ((g2.be.block _ (ah (ae Q1))).trans (ae Q1));clear g2 c0 c1 c2 c3 c4 c5;go_wp2_with fail;refine(nr w2.heap.size [] (cJ u.gone) (.slice none 0 0) _ w2 (i7 _ _ _ _) (aL _) (eP.own (ae O2)) (λ k hk=>⟨((ae O2).lt k hk).2,λ e=>by simp [Value.ownBlock]at e⟩) (by simp) (by omega)).mono ?_;rintro e w3 ⟨v3,rfl,g3⟩;have O3:=af g3.own;rw [List.nil_append]at O3;have b3:=af ((ae b2).trans (g3.be.mono (ae b2).size));have Q3:=af ((g3.be.block _ (ah (ae Q2))).trans (ae Q2));have s23:=g3.be.size;have hl2:w.heap.size<w2.heap.size:=ah (ae Q2);clear g3 Q1 Q2 B2 O2;obtain⟨c0,c1,c2,c3,c4,c5⟩:=dF (ae Q3);go_wp2_with fail;refine(qK u _ _ _ _ w3 ((ae HT).below (ae b3)) ((ae HN).below (ae b3)) ⟨_,_,_,rfl⟩ ((ae HP).below (ae b3)) ((ae HM).below (ae b3)) ((ae HP).below (ae b3)).lt ((ae HM).below (ae b3)).lt (ae HK)).mono ?_;rintro e w4 ⟨v4,A,rfl,ar⟩;have AR:=af ar;have hAL:A.length<=4:=by have:=ar.at_.len;have h2:=(tC (ae HK)).2;omega
  have b4:=af ((ae b3).trans (ar.be.mono (ae b3).size));have s34:=ar.be.size;clear ar c0 c1 c2 c3 c4 c5;go_wp2_with fail;refine(p9 A (cT u) _ w4 (ae AR).own.row (ae AR).at_ (by omega) (tC (ae HK)).1).mono ?_;rintro e w5 ⟨v5,rfl,ho5,hb5⟩;have O5:=af ho5;have BA:=af ((ae AR).be.trans (hb5.mono (ae AR).be.size));have EA:=af ((ae O3).next (ae BA));have b5:=af ((ae b4).trans (hb5.mono (ae b4).size));have s45:=hb5.size;have Q5:=af (((ae BA).block _ (ah (ae Q3))).trans (ae Q3));have DA:=af (show ∀ k,v5.ownBlock=some k->k<w5.heap.size/\some k≠v3.ownBlock from λ k hk=>⟨(ho5.lt k hk).2,λ e=>by have h1:=(ho5.lt k hk).1;have h2:=((ae O3).lt k e.symm).2;omega⟩);clear ho5 hb5 AR;go_wp2_with fail;refine(nr w2.heap.size (en (cJ u.gone).length++cJ u.gone) (cG (cT u)) _ _ w5 (ae EA) (by omega) (eP.own (ae O5)) (ae DA) (by simp [en];omega) (by omega)).mono ?_;rintro e w6 ⟨v6,rfl,g6⟩;have G6:=af g6;have b6:=af ((ae b5).trans (g6.be.mono (ae b2).size));have s56:=g6.be.size;obtain⟨c0,c1,c2,c3,c4,c5⟩:=dF ((g6.be.block _ hl2).trans (ae Q5));have CA:Hid (u.nets=[]\/∀ k,(Value.slice pn u.nets.length cn).ownBlock=some k->k<w6.heap.size/\some k≠v6.ownBlock):=(ae HN).lt.imp id (λ h k hk=>⟨by have:=h k hk;omega,λ e=>by have h1:=h k hk;have h2:=(g6.own.lt k e.symm).1;omega⟩);clear g6 Q5;have hl6:(en (cJ u.gone).length++cJ u.gone++(en (cG (cT u)).length++cG (cT u))).length<=1000:=by simp [en];omega
  have AA:=af (show jv u=(en (cJ u.gone).length++cJ u.gone++(en (cG (cT u)).length++cG (cT u)))++cJ u.nets from by unfold jv;simp only [List.append_assoc])
  revert G6 hl6 AA
  generalize en (cJ u.gone).length++cJ u.gone++(en (cG (cT u)).length++cG (cT u))=M;intro G6 hl6 AA;go_wp2_with fail;refine(rW w2.heap.size M u.nets _ _ w6 (ae G6).own (by omega) ((ae HN).below (ae b6)) (ae CA) (λ y hy=>(ae HK).1.2.1 y (by simp [hy])) (by omega) hl6).mono ?_;rintro e w7 ⟨v7,rfl,g7⟩;have G7:=af g7;have b7:=af ((ae b6).trans (g7.be.mono (ae b2).size));clear g7 c0 c1 c2 c3 c4 c5;go_wp2
  go_ret2
  exact⟨ae b7,v7,_,0,rfl,dK.base (ae G7).own (ae b2).size,inl ⟨ae HK,(ae AA).symm,rfl⟩⟩
theorem rp(w0:World)(ht:ja w0):fU w0 32:=by
 intro w vg vn vp vm u hb hg hn hp hm _ _;have HG:=af hg;have HN:=af hn;have HP:=af hp;have HM:=af hm;have HT:=af (ht.below hb);obtain⟨pg,cg,rfl,-⟩:=hg;obtain⟨pn,cn,rfl,-⟩:=hn;obtain⟨pp,cp,rfl,-⟩:=hp;obtain⟨pm,cm,rfl,-⟩:=hm;clear ht hb;have b0:=af ((aY w.heap.size w).alloc (aL _) (.cells #[.slice pg u.gone.length cg,.slice pn u.nets.length cn,.slice pp u.path.length cp,.slice pm u.marks.length cm,.int .i64 u.pref,.int .i64 u.med] 87));go_enter func32,ntmps32;go_wp2_with fail;refine(tR u _ _ _ _ _ ((ae HT).below (ae b0)) ((ae HG).below (ae b0)) ((ae HN).below (ae b0)) ((ae HP).below (ae b0)) ((ae HM).below (ae b0))).mono ?_;rintro e w1 ⟨hb1,v,l,k,rfl,ho,hor⟩;have B1:=af ((ae b0).trans (hb1.mono (ae b0).size));have O1:=af (dK.base ho (ae b0).size);have AA:=af hor;clear hb1 ho hor;go_wp2
 go_ret2
 exact⟨ae B1,v,l,k,rfl,ae O1,ae AA⟩
attribute [local go_sem] Oper.semAt_some
theorem rQ(w0:World)(ht:ja w0):fU w0 48:=λ w vg vn vp vm u hb hg hn hp hm _ _=>tR u vg vn vp vm w (ht.below hb) hg hn hp hm
theorem yh(v u:Value)(w:World)(hv:∃ q n c,v=.slice q n c)(hu:∃ q n c,u=.slice q n c) :
  Calls prog 72 #[v,u] w λ e w'=>e=.returned (.func (.func 103) #[] #[au w.heap.size 0,au (w.heap.size+1) 0])/\w'=(w.alloc (aE v 105)).alloc (aE u 105):=by
 obtain⟨q,n,c,rfl⟩:=hv;obtain⟨q',n',c',rfl⟩:=hu;have hmf:∀(fn:Fn) (first cap:Array Value) (w:World),(Instr.makeFunc fn first cap).run prog w=.ok (.func fn first cap) w:=λ _ _ _ _=>rfl
 go_enter func72,ntmps72;go_wp2_with fail;go_ret;exact⟨rfl,rfl⟩
theorem zW(n:Nat)(hn:1<=n)(w:World)(Bv Bm:Nat)(a b:List Rv)(hne:Bv≠Bm)(hc:pf w Bv Bm a b)(hl:a.length+b.length<=1000) :
  MO n prog 103 #[au Bv 0,au Bm 0] (λ x:MV=>#[x.val]) (λ k=>k=Bv\/k=Bm) (λ x X=>Fl X x) zA (λ xs=>xs.map (·.m)=pH (a.length+b.length) (a.map (·.r)) (b.map (·.r))) 1000 w :=
 λ L J W hW hJ hY h0=>zV n hn L Bv Bm a b hne J W hJ hY h0 (hc.below hW) hl
def fG(best:List Kp)(i:Nat)(p:aW):List (Int×fI):=if p.up then(pH (p.view.length+(cA p.mo i best).length) (p.view.map (·.r)) (cA p.mo i best)).map λ m=>((i:Int),m)else []
def fh(best:List Kp):Nat->List aW->List (Int×fI)
 | _,[]=>[]
 | i,p::ps=>fG best i p++fh best (i+1) ps
theorem vw(best:List Kp):∀(ps:List aW) (i:Nat) (p:aW),fh best i (ps++[p])=fh best i ps++fG best (i+ps.length) p
 | [],i,p=>by simp [fh]
 | q::ps,i,p=>by
  show fG best i q++fh best (i+1) (ps++[p])=_;rw [vw best ps (i+1) p,<-List.append_assoc,show i+1+ps.length=i+(q::ps).length by simp only [List.length_cons];omega]
  rfl
theorem vy{best:List Kp}{ps:List aW}{k:Nat}(h:k<ps.length):fh best 0 (ps.take (k+1))=fh best 0 (ps.take k)++fG best k ps[k]:=by
 rw [List.take_succ_eq_append_getElem h,vw,List.length_take,show 0+min k ps.length=k by omega]
theorem cd.of{w w':World}{v:Value}{l:List (Int×Int)}(h:cd w v l)(hs:w.heap.size<=w'.heap.size)(hc:∀ p x,w.cell? p=some x->w'.cell? p=some x):cd w' v l:=by
 obtain⟨p,c,hv,hcap,hl,hin,hr⟩:=h;refine⟨p,c,hv,hcap,hl,hin,?_⟩;rcases hr with h|⟨b,o,hp,hlt,hcc⟩
 ·exact inl h
 exact inr ⟨b,o,hp,gY hlt hs,λ j hj=>⟨hc _ _ (hcc j hj).1,hc _ _ (hcc j hj).2⟩⟩
theorem aA.of{w w':World}{v:Value}{l:List Int}(h:aA w v l)(hs:w.heap.size<=w'.heap.size)(hc:∀ p x,w.cell? p=some x->w'.cell? p=some x):aA w' v l:=by
 obtain⟨p,c,hv,hcap,hl,hin,hr⟩:=h;refine⟨p,c,hv,hcap,hl,hin,?_⟩;rcases hr with h|⟨b,o,hp,hlt,hcc⟩
 ·exact inl h
 exact inr ⟨b,o,hp,gY hlt hs,λ j hj=>hc _ _ (hcc j hj)⟩
theorem GX{Z:World}{U o o':Obj}{L:Nat}(hL:Z.heap[L]?=some o)(hc:o.isCells=false):∀ p x,Z.cell? p=some x->((Z.alloc U).putObj L o').cell? p=some x:=λ p x hx=>by
 obtain⟨ob,ho,hk⟩:=cells_of_cell hx;have hne:p.block≠L:=λ e=>by rw [e,hL]at ho;cases ho;rw [hc]at hk;cases hk
 rw [World.cell?_of_block (w:=Z) (by rw [World.putObj_heap_other hne];exact mC _ _ _ (ah ho))];exact hx
theorem B7{best:List Kp}{i:Nat}{p:aW}{n m:Nat}(h1:p.view.length<=n)(h2:best.length<=m):(fG best i p).length<=n+m:=by
 unfold fG;split
 ·rw [List.length_map];have h3:=nJ (p.view.length+(cA p.mo i best).length) (p.view.map (·.r)) (cA p.mo i best);have h4:(cA p.mo i best).length<=best.length:=List.length_filterMap_le _ _;rw [List.length_map]at h3;omega
 exact dG _
theorem rk{best:List Kp}{n m:Nat}(h2:best.length<=m):∀{ps:List aW} {i:Nat},(∀ p∈ps,p.view.length<=n)->(fh best i ps).length<=ps.length*(n+m)
 | [],_,_=>dG _
 | p::ps,i,h=>by
  have a:=B7 (best:=best) (i:=i) (h p (by simp)) h2;have b:=rk h2 (ps:=ps) (i:=i+1) λ x hx=>h x (by simp [hx])
  show(fG best i p++fh best (i+1) ps).length<=(ps.length+1)*(n+m);rw [List.length_append,Nat.add_mul];omega
def tf(best:List Kp)(i:Nat)(p p':aW):Prop:=∃ l:List Rv,p'={ p with view:=l }/\if p.up then l.map (·.r)=cA p.mo i best else l=p.view
theorem bG.putObj{n0:Nat}{w0 w:World}{sb pb cap:Nat}{cs:Array Value}{ps:List aW}(h:bG n0 w0 w sb pb cap cs ps){l:Nat}{o o':Obj}(hl:w.heap[l]?=some o)(hc:o.isCells=false)(hn:n0<=l):bG n0 w0 (w.putObj l o') sb pb cap cs ps :=
 h.keep ⟨h.bel.os,h.bel.tape,h.bel.output,by simpa using h.bel.size,λ k hk=>(World.putObj_heap_other (by omega)).trans (h.bel.block k hk)⟩ λ k ob ho hw=>(World.putObj_heap_other λ e=>by
  subst e;rw [hl]at ho;cases ho;rcases hw with e|e|⟨cur,e⟩
  ·have:=h.spk;rw [<-e,hl]at this;cases this;cases hc
  ·obtain⟨_,c,T,h2,_⟩:=h.own_typed e;rw [hl]at h2;cases h2;cases hc
  ·rw [e]at hc;cases hc).trans ho
theorem eC.putObj{w:World}{base:Nat}{v:Value}{T:List TV}(h:eC w base v T){l:Nat}{o o':Obj}(hl:w.heap[l]?=some o)(hc:o.isCells=false):eC (w.putObj l o') base v T :=
 h.fr (λ k e=>World.putObj_heap_other λ e2=>by obtain⟨cur,h2⟩:=own_typed h.row e;rw [e2,hl]at h2;cases h2;cases hc) λ x hx k e=>World.putObj_heap_other λ e2=>by obtain⟨cur,h2⟩:=own_typed (h.bytes x hx).1 e;rw [e2,hl]at h2;cases h2;cases hc
theorem Fr.putObj{O O':Nat->Prop}{w w':World}{l:Nat}{o':Obj}(h:Fr O w O' w')(hl:w.heap.size<=l):Fr O w O' (w'.putObj l o') :=
 ⟨h.os,h.tape,h.output,by simpa using h.size,λ k hk hno=>(World.putObj_heap_other (by omega)).trans (h.block k hk hno),h.own⟩
abbrev M1(D:Nat):Deferred:={ target:=.collected D,args:=#[] }
theorem ul{F:Fence}{n:Nat}{P:Program}{fn:Func}{tmps:Array Value}{R:Ending->World->Prop}(G:World->Prop):∀(Ds:List Nat) (W:World),Ds.Nodup->(∀ D∈Ds,W.heap[D]?=some (.deferred (some [])))->(∀ X D,D∈Ds->X.heap[D]?=some (.deferred (some []))->G X->G (X.putObj D (.deferred none)))->G W->(∀ X,G X->LeavesInM F n P fn tmps R [] .returning X)->LeavesInM F n P fn tmps R (Ds.map M1) .returning W
 | [],W,_,_,_,hG,h=>h W hG
 | D::Ds,W,hn,hD,hp,hG,h=>by
  obtain⟨h1,h2⟩:=List.nodup_cons.1 hn;refine⟨by simp,.inl ⟨D,_,rfl,run_takeDeferred (hD D (by simp)),?_⟩⟩;exact ul G Ds _ h2 (λ D' h'=>(World.putObj_heap_other (λ e:D'=D=>h1 (by rw [<-e];exact h'))).trans (hD D' (by simp [h']))) (λ X D' h'=>hp X D' (by simp [h'])) (hp W D (by simp) (hD D (by simp)) hG) h
