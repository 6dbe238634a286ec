/- part -/
import Derived.Test.YtphhnjljlllnlaaGreatDoorMsgL
set_option maxRecDepth 100000
set_option maxHeartbeats 3200000
namespace Go.Proofs.YtphhnjljlllnlaaGreatDoor
open Go.Proofs.Tryz
open Or
open Go.RowKit
def jI(l:List Int):Option (List Int×List Int) :=
 if l.length<2 then none else if(l.drop 2).length<(bZ (l.take 2)).toNat then none else some ((l.drop 2).take (bZ (l.take 2)).toNat,(l.drop 2).drop (bZ (l.take 2)).toNat)
theorem uH(b:List Int):j4 b=(jI b).bind (λ x=>(jI x.2).map (λ y=>(x.1,y.1,y.2))):=by
 unfold j4 jI;by_cases h1:b.length<2
 ·rw [aS h1,aS h1];rfl
 rw [aG h1,aG h1];generalize (bZ (b.take 2)).toNat=n;generalize b.drop 2=r;by_cases h2:r.length<n
 ·rw [aS (by omega),aS h2];rfl
 rw [aG h2];simp only [Option.bind_some];have hd:(r.drop n).drop 2=r.drop (n+2):=by rw [List.drop_drop]
 by_cases h3:r.length<n+2
 ·rw [aS h3,aS (show(r.drop n).length<2 by rw [List.length_drop];omega)];rfl
 rw [aG h3,aG (show ¬(r.drop n).length<2 by rw [List.length_drop];omega),hd];by_cases h4:(r.drop (n+2)).length<(bZ ((r.drop n).take 2)).toNat
 ·rw [aS h4,aS h4];rfl
 rw [aG h4,aG h4];rfl
def sV(l:List Int)(wB w:World)(e:Ending)(w':World):Prop :=
 Below w.heap.size w w'/\match jI l with
  | none=>e=.returned (.tuple #[.slice none 0 0,.slice none 0 0,.bool false])
  | some (p,q)=>∃ vp vq,e=.returned (.tuple #[vp,vq,.bool true])/\aX wB vp p/\aX wB vq q
theorem sV.no{wB w w':World}{l:List Int}(hb:Below w.heap.size w w')(h:jI l=none):sV l wB w (.returned (.tuple #[.slice none 0 0,.slice none 0 0,.bool false])) w':=by
 refine⟨hb,?_⟩;rw [h]
theorem sV.yes{wB w w':World}{l p q:List Int}{vp vq:Value}(hb:Below w.heap.size w w')(h:jI l=some (p,q))(h1:aX wB vp p)(h2:aX wB vq q):sV l wB w (.returned (.tuple #[vp,vq,.bool true])) w':=by
 refine⟨hb,?_⟩;rw [h];exact⟨_,_,rfl,h1,h2⟩
theorem mV(l:List Int)(x:Value)(wB w:World)(hB:Below wB.heap.size wB w)(h:aX wB x l) :
  Calls prog 108 #[x] w (sV l wB w):=by
 have DA:=af hB;clear hB;have HX:=af h;obtain⟨p,c,rfl,hcap,hl,hin,hr⟩:=h;by_cases h2:l.length<2
 ·have HF:=af (show jI l=none from by unfold jI;rw [aS h2]);clear hr hin;go_enter func108,ntmps108;go_wp2
  go_ret3
  exact sV.no (aY _ _) (ae HF)
 rcases hr with h|⟨b,o,rfl,hb,hc⟩
 ·exfalso;rw [h.1]at h2;simp at h2
 have hv1:=zo (bU hin 2) (by simp;omega);obtain⟨n,hn⟩:∃ n:Nat,bZ (l.take 2)=(n:Int):=⟨(bZ (l.take 2)).toNat,by omega⟩
 have HN:=af hn;rw [hn]at hv1;have T2:=af (((ae HX).head (i:=2) (by omega)).below (ae DA));have CA:=af (show jI l=if(l.drop 2).length<n then none else some ((l.drop 2).take n,(l.drop 2).drop n)from by unfold jI;rw [aG h2,hn,Int.toNat_natCast]);have AA:=af (show(l.drop 2).length=l.length-2 from by rw [List.length_drop])
 have NX:∃ b2 o2 n2 k2,Hid (aX wB (.slice (some ⟨b2,o2,none⟩) n2 k2) (l.drop 2))/\n2<=k2/\n2=l.length-2/\((2<c/\b2=b/\o2=o+2/\k2=c-2)\/(c=2/\l.length=2/\b2=b/\o2=o/\k2=0)):=by
  by_cases hcc:2<c
  ·exact⟨_,_,_,_,af ((ae HX).cut (i:=2) (by omega) hcc),by omega,rfl,inl ⟨hcc,rfl,rfl,rfl⟩⟩
  exact⟨_,_,_,_,af ((ae HX).cutEnd (i:=2) (by omega)),by omega,by omega,inr ⟨by omega,by omega,rfl,rfl,rfl⟩⟩
 clear hn hin hc;obtain⟨b2,o2,n2,k2,HNX,hnk,hn2,hor⟩:=NX;obtain⟨R,hR⟩:∃ R,l.drop 2=R:=⟨_,rfl⟩
 rw [hR]at HNX CA AA;clear hR;obtain⟨N,hNN⟩:∃ N,l.length=N:=⟨_,rfl⟩
 rw [hNN]at HX hcap hl h2 AA hn2 hor ⊢;clear hNN;rcases hor with⟨hcc,rfl,rfl,rfl⟩|⟨rfl,rfl,rfl,rfl,rfl⟩
 ·go_enter func108,ntmps108;go_wp2_with fail;go_quiet ((go_at_call 161;exact Calls.quiet_of_same (eG (l.take 2) _ _ (ae T2) (by simp;omega))))
  rw [ae HN];have BA:=af (show Below w.heap.size w (w.drewN nq)from below_drewN (aY _ _) _);subst hn2;by_cases h3:N-2<n
  ·have HF:=af (show jI l=none from by rw [ae CA,aS (by rw [ae AA];exact h3)]);go_wp2
   go_ret3
   exact sV.no (ae BA) (ae HF)
  have HF:=af (show jI l=some (R.take n,R.drop n)from by rw [ae CA,aG (by rw [ae AA];exact h3)]);have HP:=af ((ae HNX).head (i:=n) (by omega));by_cases hk:n<c-2
  ·have HQ:=af ((ae HNX).cut (i:=n) (by omega) hk);go_wp2_with fail;go_quiet (fail)
   go_wp2
   go_ret3
   exact sV.yes (by exact below_drewN (ae BA) _) (ae HF) (ae HP) (ae HQ)
  have HQ:=af ((ae HNX).cutEnd (i:=n) (by omega));have e1:c-2-n=0:=by omega
  have e2:N-2-n=0:=by omega
  go_wp2_with fail;go_quiet (fail)
  go_wp2
  go_ret3
  exact sV.yes (by exact below_drewN (ae BA) _) (ae HF) (ae HP) (ae HQ)
 clear hl hcap h2 HX hnk;obtain rfl:n2=0:=by omega
 clear hn2;go_enter func108,ntmps108;go_wp2_with fail;go_quiet ((go_at_call 161;exact Calls.quiet_of_same (eG (l.take 2) _ _ (ae T2) (by simp;omega))))
 rw [ae HN];have BA:=af (show Below w.heap.size w (w.drewN nq)from below_drewN (aY _ _) _);by_cases h3:0<n
 ·have HF:=af (show jI l=none from by rw [ae CA,aS (by rw [ae AA];exact h3)]);go_wp2
  go_ret3
  exact sV.no (ae BA) (ae HF)
 have HF:=af (show jI l=some (R.take n,R.drop n)from by rw [ae CA,aG (by rw [ae AA];exact h3)]);have HP:=af ((ae HNX).head (i:=n) (by omega));have HQ:=af ((ae HNX).cutEnd (i:=n) (by omega));obtain rfl:n=0:=by omega
 simp only [Int.ofNat_zero];go_wp2_with fail;go_quiet (fail)
 go_wp2
 go_ret3
 exact sV.yes (by exact below_drewN (ae BA) _) (ae HF) (ae HP) (ae HQ)
def pu(l:List Int)(w:World)(e:Ending)(w':World):Prop :=
 Below w.heap.size w w'/\match c8 l with
  | none=>e=.returned (.tuple #[.slice none 0 0,.bool false])
  | some L=>∃ v,e=.returned (.tuple #[v,.bool true])/\cQ w' w.heap.size v (L.take 21)
theorem pu.no{w w':World}{l:List Int}(hb:Below w.heap.size w w')(h:c8 l=none):pu l w (.returned (.tuple #[.slice none 0 0,.bool false])) w':=by
 refine⟨hb,?_⟩;rw [h]
theorem pu.yes{w w':World}{l:List Int}{L:List (Int×Int)}{v:Value}(hb:Below w.heap.size w w')(h:c8 l=some L)(h1:cQ w' w.heap.size v (L.take 21)):pu l w (.returned (.tuple #[v,.bool true])) w':=by
 refine⟨hb,?_⟩;rw [h];exact⟨_,rfl,h1⟩
theorem oO(l:List Int)(x:Value)(w:World)(h:aX w x l) :
  Calls prog 109 #[x] w (pu l w):=by
 obtain⟨i0,hi0,hz0,hz1,hz2⟩:=info_parts Tryz.infoNetW;have HX:=af h;clear h;go_enter func109,ntmps109;go_wp2_with fail;go_loopw [0,4] (λ vb vo wr=>∃(R:List Int) (D:List (Int×Int)),aX w vb R/\cQ wr w.heap.size vo (D.take 21)/\c8 l=(c8 R).map (λ L=>D++L)/\Below w.heap.size w wr) (λ vb _ _=>ze vb)
 case atStart=>exact⟨l,[],ae HX,i7 _ _ _ _,by cases c8 l<;>simp,aY _ _⟩
 case round =>
  rename World=>WR
  obtain⟨R,D,hR,hD,hn,hbe⟩:=hrel;have OD:=af hD;have HR:=af hR;have HN:=af hn;have BE:=af hbe;have hsz:=hbe.size;clear hD hn hbe;obtain⟨p,c,rfl,hcap,hl,hin,hr⟩:=hR;by_cases h1:0<R.length
  ·rcases hr with h|⟨b,o,rfl,hb,hc⟩
   ·exfalso;rw [h.1]at h1;simp at h1
   obtain⟨n,t,rfl⟩:∃ n t,R=n::t:=by
    cases R with
    | nil=>simp at h1
    | cons n t=>exact⟨n,t,rfl⟩
   have c0:WR.cell? ⟨b,o,none⟩=some (.int .u8 n):=((ae BE).cell (p:=⟨b,o,none⟩) hb).trans (hc 0 (by simp));have hn8:=hin n (by simp);obtain⟨hn0,hn1⟩:=hn8;have htb:aK t:=λ z hz=>hin z (by simp [hz])
   obtain⟨N,hN⟩:∃ N,(n::t).length=N:=⟨_,rfl⟩
   have FA:=af (show t.length=N-1 from by rw [<-hN];simp);rw [hN]at HR hcap hl h1 ⊢;clear hc hin hN;have AA:Hid (¬t.length<cE n->c8 l=(c8 (t.drop (cE n))).map (λ L=>(D++[(bZ (iB (t.take (cE n))),n)])++L)):=λ h=>Du (ae HN) (by omega)
   have BA:Hid (t.length<cE n->c8 l=none):=λ h=>Dv (ae HN) h
   have htk:=BU hn0;obtain⟨k,hk⟩:∃ k,cE n=k:=⟨_,rfl⟩
   have HK:=af hk;rw [hk]at AA BA htk;clear hk;go_upto_region 3 with fail
   go_cut [5,6] (λ v5 v6 wc=>v5=.int .i64 n/\(∃ b2 o2 k2,v6=.slice (some ⟨b2,o2,none⟩) (N-1) k2/\aX w v6 t/\N-1<=k2)/\Below WR.heap.size WR wc)
   case first =>
    by_cases hcc:1<c
    ·have NX:=af ((ae HR).cut (i:=1) (by omega) hcc);go_quiet (fail)
     go_wp2_with fail
     go_meet
     case rel=>exact⟨by rfl,⟨b,o+1,c-1,by rfl,by exact ae NX,by omega⟩,below_drewN (aY _ _) _⟩
    have NX:=af ((ae HR).cutEnd (i:=1) (by omega));obtain rfl:c=1:=by omega
    obtain rfl:N=1:=by omega
    clear hl hcap h1;go_quiet (fail)
    go_wp2_with fail
    go_meet
    case rel=>exact⟨by rfl,⟨b,o,0,by rfl,by exact ae NX,by omega⟩,below_drewN (aY _ _) _⟩
   case rest =>
    rename World=>W3
    obtain⟨rfl,⟨b2,o2,k2,rfl,hB,hnk⟩,hb3⟩:=hcut;have HB:=af hB;have B3:=af ((ae BE).trans (hb3.mono hsz));have DA:=af ((ae OD).nextW hb3);have hs3:=(ae B3).size;clear hB hb3 c0 OD BE;go_wp2_with fail;refine(zF n _ hn0 hn1).mono ?_;rintro e w0 ⟨rfl,rfl⟩;rw [ae HK];by_cases hlt:N-1<k
    ·have HF:=af (ae BA (by rw [ae FA];exact hlt));go_wp2
     go_ret2
     exact pu.no (ae B3) (ae HF)
    have HM:=af (ae AA (by rw [ae FA];exact hlt));have HA:=af ((ae HB).head (i:=k) (by omega));have GA:=af (show(t.take k).length<=4 from by rw [List.length_take];omega);obtain⟨V,hV⟩:∃ V,bZ (iB (t.take k))=V:=⟨_,rfl⟩
    have HV:=af hV;rw [hV]at HM;clear hV
    have CA:Hid ((D.take 21).length<=20->(D++[(V,n)]).take 21=D.take 21++[(V,n)]):=λ h=>by
     rw [List.length_take]at h;rw [List.take_of_length_le (by simp;omega),List.take_of_length_le (l:=D) (by omega)]
    have EA:Hid (¬(D.take 21).length<=20->(D++[(V,n)]).take 21=D.take 21):=λ h=>by
     rw [List.length_take]at h;rw [List.take_append_of_le_length (by omega)]
    have hM21:(D.take 21).length<=21:=by rw [List.length_take];omega
    obtain⟨M,hM⟩:∃ M,D.take 21=M:=⟨_,rfl⟩
    rw [hM]at CA EA hM21 DA;clear hM;obtain⟨q0,k0,hq0⟩:=aI (ae DA);subst hq0
    go_upto_if 25 with fail
    go_cut [4] (λ v4 wc=>cQ wc w.heap.size v4 ((D++[(V,n)]).take 21)/\Below w.heap.size w wc)
    case first =>
     by_cases h20:M.length<=20
     ·have HY:=af (ae CA h20);go_wp2_with (first|(go_at_call 162;refine(zJ (t.take k) _ _ ((ae HA).below (ae B3)) (ae GA)).mono ?_;rintro e w4 ⟨rfl,rfl⟩;rw [ae HV])|(at_builtin;refine wpList_append_lies _ rfl _ _ _ rfl w.heap.size 63 i0 _ 2 16 underlying85 hi0 hz0 hz1 hz2 rfl (by omega) (.slice q0 M.length k0) M.length (bu M) rfl (World.ownsRow.alloc (ae DA) _) ⟨w4.heap.size,0,none⟩ 1 1 [.int .i64 V,.int .i64 n] rfl rfl (World.news_of_block (cs:=#[.int .i64 V,.int .i64 n]) (t:=63) (fr:=(0,0)) (cM _ _)) (by simp [Value.oneCell']) (by omega) (by simp only [maxLen];omega) (by omega) (by simp;omega) (w4.heap.size+1) (by simp) ?_;intro gg cap w6 hown hgrow hat hltg))
      go_meet
      case rel=>rw [ae HY];exact⟨cQ.push1 hown,((ae B3).alloc hs3 _).grown hgrow (by simp;omega) (λ j hj=>((ae DA).lt j hj).1)⟩
     have HY:=af (ae EA h20);go_wp2_with fail
     go_meet
     case rel=>rw [ae HY];exact⟨ae DA,ae B3⟩
    case rest =>
     rename World=>W4
     obtain⟨ho4,hb4⟩:=hcut;have O4:=af ho4;have B4:=af hb4;clear ho4 hb4 DA CA EA;have IA:=af (show(t.drop k).length=N-1-k from by rw [List.length_drop,ae FA]);by_cases hkk:k<k2
     ·have NX:=af ((ae HB).cut (i:=k) (by omega) hkk);go_wp2_with fail;exact⟨⟨t.drop k,D++[(V,n)],ae NX,ae O4,ae HM,ae B4⟩,by simp only [ze];omega⟩
     have NX:=af ((ae HB).cutEnd (i:=k) (by omega));have e1:k2-k=0:=by omega
     have e2:N-1-k=0:=by omega
     go_wp2_with fail;exact⟨⟨t.drop k,D++[(V,n)],ae NX,ae O4,ae HM,ae B4⟩,by simp only [ze];omega⟩
  have HF:=af (show c8 l=some D from by
   have hz:R=[]:=List.length_eq_zero_iff.1 (by omega);rw [ae HN,hz,Gz];simp)
  clear hr hin;go_wp2
  go_ret2
  exact pu.yes (ae BE) (ae HF) (ae OD)
def oq(l:List Int)(wB w:World)(e:Ending)(w':World):Prop :=
 Below w.heap.size w w'/\match eU l with
  | none=>e=.returned (.tuple #[.slice none 0 0,.bool false])
  | some D=>∃ v A,e=.returned (.tuple #[v,.bool true])/\kf w' w.heap.size v A/\db wB A D
theorem oq.no{wB w w':World}{l:List Int}(hb:Below w.heap.size w w')(h:eU l=none):oq l wB w (.returned (.tuple #[.slice none 0 0,.bool false])) w':=by
 refine⟨hb,?_⟩;rw [h]
theorem oq.yes{wB w w':World}{l:List Int}{A:List (Int×Int×Value)}{D:List (Int×Int×List Int)}{v:Value}(hb:Below w.heap.size w w')(h:eU l=some D)(h1:kf w' w.heap.size v A)(h2:db wB A D):oq l wB w (.returned (.tuple #[v,.bool true])) w':=by
 refine⟨hb,?_⟩;rw [h];exact⟨_,_,rfl,h1,h2⟩
theorem kf.push{w:World}{base g cap:Nat}{l:List (Int×Int×Value)}{x y:Int}{v:Value}(h:w.ownsRow base 187 3 (.slice (some ⟨g,0,none⟩) (l.length+1) cap) (l.length+1) (mQ l++[.int .u8 x,.int .u8 y,v])):kf w base (.slice (some ⟨g,0,none⟩) (l.length+1) cap) (l++[(x,y,v)]):=by
 unfold kf;rw [wm,List.length_append];exact h
theorem kf.next{w w':World}{base:Nat}{v:Value}{l:List (Int×Int×Value)}(h:kf w base v l)(hb:Below w.heap.size w w'):kf w' base v l:=ay h (λ k hk=>hb.block k (h.lt k hk).2)
theorem ol(l:List Int)(x:Value)(wB w:World)(hB:Below wB.heap.size wB w)(h:aX wB x l)(hlen:l.length<=65535) :
  Calls prog 110 #[x] w (oq l wB w):=by
 have AA:=af hB;clear hB;obtain⟨i0,hi0,hz0,hz1,hz2⟩:=info_parts Tryz.infoAttU;have HX:=af h;clear h;go_enter func110,ntmps110;go_wp2_with fail;go_loopw [0,4] (λ vb vo wr=>∃(R:List Int) (A:List (Int×Int×Value)) (D:List (Int×Int×List Int)),aX wB vb R/\kf wr w.heap.size vo A/\db wB A D/\A.length+R.length<=65535/\eU l=(eU R).map (λ L=>D++L)/\Below w.heap.size w wr) (λ vb _ _=>ze vb)
 case atStart=>exact⟨l,[],[],ae HX,i7 _ _ _ _,trivial,by simpa using hlen,by cases eU l<;>simp,aY _ _⟩
 case round =>
  rename World=>WR
  obtain⟨R,A,D,hR,hO,hA,hDR,hN,hbe⟩:=hrel;have OD:=af hO;have HA:=af hA;have HR:=af hR;have BE:=af hbe;have HN:=af hN;have hsz:=hbe.size;have BW:=af ((ae AA).trans (hbe.mono (ae AA).size));obtain⟨p,c,rfl,hcap,hlR,hin,hr⟩:=hR;clear hO hbe hN HX hA;obtain⟨N,hNl⟩:∃ N,R.length=N:=⟨_,rfl⟩
  have BA:=af hNl;rw [hNl]at hcap hlR hDR HR ⊢;clear hNl;by_cases h0:0<N
  ·rcases hr with h|⟨b,o,rfl,hb,hc⟩
   ·have:=ae BA;rw [h.1]at this;simp at this;omega
   have HC:=af (show Nd wB b o R from⟨hb,hc⟩);have IA:=af hin;clear hc hin;by_cases h3:N<3
   ·have HF:=af (show eU l=none from by
     rw [ae HN,zO (λ e=>by have:=ae BA;rw [e]at this;simp at this;omega) (by rw [ae BA];exact h3)];rfl)
    go_wp2
    go_ret2
    exact oq.no (ae BE) (ae HF)
   obtain⟨x,y,z,t,hRe⟩:=KE (R:=R) (by rw [ae BA];omega);subst hRe;have hby:=ae IA;simp only [bj]at hby;obtain⟨⟨hx0,hx1⟩,⟨hy0,hy1⟩,⟨hz0',hz1'⟩,htb⟩:=hby;have c0:wB.cell? ⟨b,o,none⟩=some (.int .u8 x):=(ae HC).2 0 (by simp);have c1:wB.cell? ⟨b,o+1,none⟩=some (.int .u8 y):=(ae HC).2 1 (by simp);have c2:WR.cell? ⟨b,o+2,none⟩=some (.int .u8 z):=((ae BW).cell (p:=⟨b,o+2,none⟩) hb).trans (show wB.cell? ⟨b,o+2,none⟩=some (.int .u8 z)from(ae HC).2 2 (by simp));have KA:=af (show ∀ W,Below w.heap.size w W->W.cell? ⟨b,o,none⟩=some (.int .u8 x)/\W.cell? ⟨b,o+1,none⟩=some (.int .u8 y)from λ W hW=>⟨(((ae AA).trans (hW.mono (ae AA).size)).cell (p:=⟨b,o,none⟩) hb).trans c0,(((ae AA).trans (hW.mono (ae AA).size)).cell (p:=⟨b,o+1,none⟩) hb).trans c1⟩);obtain⟨k,rfl⟩:=Int.eq_ofNat_of_zero_le hz0';have EA:=af (show t.length=N-3 from by have:=ae BA;simp only [List.length_cons]at this;omega)
   have CA:Hid (¬N-3<k->eU l=(eU (t.drop k)).map (λ L=>(D++[(x,y,t.take k)])++L)):=λ h=>by
    rw [ae HN,oW,aG (by rw [Int.toNat_natCast,ae EA];exact h),Option.map_map,Int.toNat_natCast]
    congr 1
    funext L
    simp
   have DA:Hid (N-3<k->eU l=none):=λ h=>by rw [ae HN,oW,aS (by rw [Int.toNat_natCast,ae EA];exact h)];rfl
   have hdr:(x::y::(k:Int)::t).drop 3=t:=rfl;clear c0 c1 HC IA htb;go_upto_region 5 with fail
   go_cut [5,6] (λ v5 v6 wc=>v5=.int .i64 k/\(∃ b2 o2 k2,v6=.slice (some ⟨b2,o2,none⟩) (N-3) k2/\aX wB v6 t/\N-3<=k2)/\Below WR.heap.size WR wc)
   case first =>
    by_cases hcc:3<c
    ·have NX:=af ((ae HR).cut (i:=3) (by omega) hcc);rw [hdr]at NX;clear hdr;go_quiet (fail)
     go_wp2_with fail
     go_meet
     case rel=>exact⟨by rfl,⟨b,o+3,c-3,by rfl,by exact ae NX,by omega⟩,below_drewN (aY _ _) _⟩
    have NX:=af ((ae HR).cutEnd (i:=3) (by omega));rw [hdr]at NX;obtain rfl:c=3:=by omega
    obtain rfl:N=3:=by omega
    clear hlR hcap h0 h3 hdr hDR;go_quiet (fail)
    go_wp2_with fail
    go_meet
    case rel=>exact⟨by rfl,⟨b,o,0,by rfl,by exact ae NX,by omega⟩,below_drewN (aY _ _) _⟩
   case rest =>
    rename World=>W3
    obtain⟨rfl,⟨b2,o2,k2,rfl,hB,hnk⟩,hb3⟩:=hcut;have HB:=af hB;have B3:=af ((ae BE).trans (hb3.mono hsz));have FA:=af ((ae OD).next hb3);have hs3:=(ae B3).size;clear hB hb3 c2 OD BE hdr;by_cases hlt:N-3<k
    ·have HF:=af (ae DA hlt);go_wp2
     go_ret2
     exact oq.no (ae B3) (ae HF)
    have HM:=af (ae CA hlt);have JA:=af ((ae HB).head (i:=k) (by omega));obtain⟨c0,c1⟩:=ae KA W3 (ae B3);obtain⟨q0,k0,hq0⟩:=aI (ae FA);subst hq0;have g1:1<N:=by omega
    have g2:(1:Int)<(N:Int):=by omega
    have g3:(k:Int)<=(k2:Int):=by omega
    have g5:k<=k2:=by omega
    have g8:¬N=0:=by omega
    go_upto_region 8 with fail
    go_cut [4] (λ v4 wc=>kf wc w.heap.size v4 (A++[(x,y,.slice (some ⟨b2,o2,none⟩) k k2)])/\Below w.heap.size w wc)
    case first =>
     go_region_law ((refine step_append_lies _ (by rfl) _ _ _ (by rfl) w.heap.size 187 i0 _ 3 32 underlying148 hi0 hz0 hz1 hz2 rfl (by omega) (.slice q0 A.length k0) A.length (mQ A) (by rfl) (by repeat (first|exact ae FA|refine World.ownsRow.drew ?_|refine World.ownsRow.alloc ?_ _)) ⟨W3.heap.size,0,none⟩ 1 1 [.int .u8 x,.int .u8 y,.slice (some ⟨b2,o2,none⟩) k k2] (by rfl) (by rfl) (World.news_of_block (cs:=#[.int .u8 x,.int .u8 y,.slice (some ⟨b2,o2,none⟩) k k2]) (t:=187) (fr:=(0,0)) (cM _ _)) (sL _ _ _ _ _) (by omega) (by simp only [maxLen];omega) (by omega) (by simp;omega) (W3.heap.size+1) (by simp) ?_;intro gg cap w6 hown hgrow hat hltg))
     all_goals
      go_wp2_with fail
      go_meet
      case rel =>
       refine⟨kf.push hown,Below.grown ?_ hgrow (by simp;omega) (λ j hj=>((ae FA).lt j hj).1)⟩
       repeat (first|exact ae B3|refine Below.drew ?_|refine Below.alloc ?_ hs3 _)
    case rest =>
     rename World=>W4
     obtain⟨ho4,hb4⟩:=hcut;have O4:=af ho4;have B4:=af hb4;clear ho4 hb4 FA c0 c1;have hA1:(A++[(x,y,Value.slice (some ⟨b2,o2,none⟩) k k2)]).length=A.length+1:=by simp
     have GA:=af hA1;clear hA1;by_cases hkk:k<k2
     ·have NX:=af ((ae HB).cut (i:=k) (by omega) hkk);go_wp2_with fail;exact⟨⟨t.drop k,_,D++[(x,y,t.take k)],ae NX,ae O4,(ae HA).snoc (ae JA),by rw [ae GA,List.length_drop,ae EA];omega,ae HM,ae B4⟩,by simp only [ze];omega⟩
     have NX:=af ((ae HB).cutEnd (i:=k) (by omega));have e1:k2-k=0:=by omega
     have e2:N-3-k=0:=by omega
     go_wp2_with fail;exact⟨⟨t.drop k,_,D++[(x,y,t.take k)],ae NX,ae O4,(ae HA).snoc (ae JA),by rw [ae GA,List.length_drop,ae EA];omega,ae HM,ae B4⟩,by simp only [ze];omega⟩
  have HF:=af (show eU l=some D from by
   have hz:R=[]:=List.length_eq_zero_iff.1 (by rw [ae BA];omega);rw [ae HN,hz,FF];simp)
  clear hr hin;go_wp2
  go_ret2
  exact oq.yes (ae BE) (ae HF) (ae OD) (ae HA)
def iP(b:List Int):Option (List (Int×Int)×List (Int×Int×List Int)×List (Int×Int)) :=
 (j4 b).bind λ x=>match c8 x.1,eU x.2.1,c8 x.2.2 with|some G,some D,some T=>some (G,D,T)|_,_,_=>none
theorem so{b:List Int}(h:iP b=none):jt b=.error 6:=by
 unfold iP at h;cases hp:j4 b with
 | none=>exact CP hp
 | some x =>
  obtain⟨g,a,n⟩:=x;rw [tN hp];rw [hp]at h;simp only [Option.bind_some]at h;split at h
  ·cases h
  rename_i hh;split
  ·rename_i a1 a2 a3;exact(hh _ _ _ a1 a2 a3).elim
  rfl
theorem CQ{b:List Int}{G T:List (Int×Int)}{D:List (Int×Int×List Int)}(h:iP b=some (G,D,T)):jt b =
  match cV ⟨fN,0,false,false⟩ D with
  | .error e=>.error e
  | .ok s =>
   if(T≠[]/\¬(s.two=true/\s.five=true))\/(T=[]/\D≠[])then .error 9
   else if kI (G++T)then .ok { s.u with gone:=G,nets:=T }else .error 10:=by
 unfold iP at h;cases hp:j4 b with
 | none=>rw [hp]at h;cases h
 | some x =>
  obtain⟨g,a,n⟩:=x;rw [tN hp];rw [hp]at h;simp only [Option.bind_some]at h;split at h
  ·rename_i a1 a2 a3;simp only [Option.some.injEq,Prod.mk.injEq]at h;obtain⟨rfl,rfl,rfl⟩:=h;simp only [a1,a2,a3]
   rfl
  cases h
structure In(l:List Int)(w:World)(e:Ending)(w':World):Prop where
 be:Below w.heap.size w w'
 ex:∃(q1 q2 q3:Option Addr) (n1 n2 n3 c1 c2 c3:Nat) (ok:Bool),e=.returned (.tuple #[.agg #[.slice q1 n1 c1,.slice q2 n2 c2,.slice q3 n3 c3],.bool ok]) /\
  match iP l with
  | none=>ok=false
  | some (G,D,T)=>ok=true/\cQ w' w.heap.size (.slice q1 n1 c1) (G.take 21)/\cQ w' w.heap.size (.slice q2 n2 c2) (T.take 21)/\hZ (.slice q1 n1 c1) (.slice q2 n2 c2)/\∃ A,kf w' w.heap.size (.slice q3 n3 c3) A/\db w A D
theorem Ad{l p q:List Int}(h:jI l=some (p,q))(hb:aK l):p.length<=65535:=by
 unfold jI at h;split at h
 ·cases h
 rename_i h1;split at h
 ·cases h
 simp only [Option.some.injEq,Prod.mk.injEq]at h;have:=zo (bU hb 2) (by simp;omega);rw [<-h.1,List.length_take];omega
theorem pu.form{l:List Int}{w w':World}{e:Ending}(h:pu l w e w'):Below w.heap.size w w'/\∃(q:Option Addr) (n c:Nat) (ok:Bool),e=.returned (.tuple #[.slice q n c,.bool ok]) /\
  (match c8 l with|none=>ok=false|some L=>ok=true/\cQ w' w.heap.size (.slice q n c) (L.take 21)):=by
 obtain⟨hb,hm⟩:=h;refine⟨hb,?_⟩;cases hn:c8 l with
 | none=>rw [hn]at hm;exact⟨_,_,_,false,hm,rfl⟩
 | some L =>
  rw [hn]at hm;obtain⟨v,rfl,ho⟩:=hm;obtain⟨q,c,rfl⟩:=aI ho;exact⟨_,_,_,true,rfl,rfl,ho⟩
theorem oq.form{l:List Int}{wB w w':World}{e:Ending}(h:oq l wB w e w'):Below w.heap.size w w'/\∃(q:Option Addr) (n c:Nat) (ok:Bool),e=.returned (.tuple #[.slice q n c,.bool ok]) /\
  (match eU l with|none=>ok=false|some D=>ok=true/\∃ A,kf w' w.heap.size (.slice q n c) A/\db wB A D):=by
 obtain⟨hb,hm⟩:=h;refine⟨hb,?_⟩;cases hn:eU l with
 | none=>rw [hn]at hm;exact⟨_,_,_,false,hm,rfl⟩
 | some D =>
  rw [hn]at hm;obtain⟨v,A,rfl,ho,ha⟩:=hm;obtain⟨q,c,rfl⟩:=aI ho;exact⟨_,_,_,true,rfl,rfl,A,ho,ha⟩
theorem kf.base{w:World}{base b2:Nat}{v:Value}{l:List (Int×Int×Value)}(h:kf w base v l)(hb:b2<=base):kf w b2 v l:=aZ h hb
theorem cQ.base{w:World}{base b2:Nat}{v:Value}{l:List (Int×Int)}(h:cQ w base v l)(hb:b2<=base):cQ w b2 v l:=aZ h hb
theorem qY{w:World}{base:Nat}{e:TypeId}{size:Nat}{v:Value}{n:Nat}{xs:List Value}(h:w.ownsRow base e size v n xs){b:Nat}(hb:b<base)(x0 x1 x2:Value) :
  (((w.setCell ⟨b,0,none⟩ x0).setCell ⟨b,1,none⟩ x1).setCell ⟨b,2,none⟩ x2).ownsRow base e size v n xs :=
 ay h (λ k hk=>by
  have hne:k≠b:=by have:=(h.lt k hk).1;omega
  rw [ai hne,ai hne,ai hne])
theorem Hl(l:List Int)(x:Value)(w:World)(h:aX w x l) :
  Calls prog 73 #[x] w (In l w):=by
 have HX:=af h;have WA:=af (show aK l from by obtain⟨_,_,_,_,_,hh,_⟩:=h;exact hh);clear h
 have EA:=af (show iP l=(jI l).bind (λ x=>((jI x.2).map (λ y=>(x.1,y.1,y.2))).bind λ x=>match c8 x.1,eU x.2.1,c8 x.2.2 with|some G,some D,some T=>some (G,D,T)|_,_,_=>none)from by
  unfold iP;rw [uH,Option.bind_assoc])
 obtain⟨w0,hw0⟩:∃ w0,w.alloc (.cells #[.slice none 0 0,.slice none 0 0,.slice none 0 0] 155)=w0:=⟨_,rfl⟩
 have Q0:=af (cM w (.cells #[.slice none 0 0,.slice none 0 0,.slice none 0 0] 155));have B0:=af ((aY w.heap.size w).alloc (aL _) (.cells #[.slice none 0 0,.slice none 0 0,.slice none 0 0] 155));rw [hw0]at Q0 B0;have hl0:w.heap.size<w0.heap.size:=ah (ae Q0);have UA:=af hw0;clear hw0;go_enter func73,ntmps73;go_wp2_with fail;rw [ae UA];refine(mV l _ w _ (ae B0) (ae HX)).mono ?_;rintro e w1 ⟨hb1,hm⟩;have B1:=af ((ae B0).trans (hb1.mono (ae B0).size));have q1:=(hb1.block _ hl0).trans (ae Q0);have Q1:=af q1;have IA:=af hb1;clear hb1;cases hc:jI l with
 | none =>
  rw [hc]at hm;have HE:=af (show iP l=none from by rw [ae EA,hc];rfl);subst hm;clear hc;have c0:w1.cell? ⟨w.heap.size,0,none⟩=some (.slice none 0 0):=ag q1;have c1:w1.cell? ⟨w.heap.size,1,none⟩=some (.slice none 0 0):=ag q1;have c2:w1.cell? ⟨w.heap.size,2,none⟩=some (.slice none 0 0):=ag q1;have hf:∀ o,w1.frozen? ⟨w.heap.size,o,none⟩=false:=λ o=>aj q1
  clear q1;go_wp2
  refine gH (v:=.tuple #[.agg #[.slice none 0 0,.slice none 0 0,.slice none 0 0],.bool false]) (by simp [results,results73,go_sem,c0,c1,c2]) rfl ⟨?_,?_⟩
  ·exact(((ae B1).setCell (aL _) _).setCell (aL _) _).setCell (aL _) _
  refine⟨_,_,_,_,_,_,_,_,_,false,rfl,?_⟩;rw [ae HE]
 | some pq =>
  obtain⟨g,r⟩:=pq;rw [hc]at hm;obtain⟨vg,vr,rfl,hgb,hrb⟩:=hm;have HC:=af hc;have OA:=af hgb;have KA:=af hrb;clear hc hgb hrb q1;have hrok:aK r:=by obtain⟨_,_,_,_,_,hh,_⟩:=ae KA;exact hh
  have HA:=af hrok;clear hrok;go_wp2_with fail;refine(mV r _ w _ (ae B1) (ae KA)).mono ?_;rintro e w2 ⟨hb2,hm⟩;have VA:=af hb2;have AA:=af ((ae IA).trans (hb2.mono (ae IA).size));have B2:=af ((ae B0).trans ((ae AA).mono (ae B0).size));clear hb2;cases hc:jI r with
  | none =>
   rw [hc]at hm;have HE:=af (show iP l=none from by rw [ae EA,ae HC];simp only [Option.bind_some];rw [hc];rfl);subst hm;have q2:=((ae AA).block _ hl0).trans (ae Q0);have c0:w2.cell? ⟨w.heap.size,0,none⟩=some (.slice none 0 0):=ag q2;have c1:w2.cell? ⟨w.heap.size,1,none⟩=some (.slice none 0 0):=ag q2;have c2:w2.cell? ⟨w.heap.size,2,none⟩=some (.slice none 0 0):=ag q2;have hf:∀ o,w2.frozen? ⟨w.heap.size,o,none⟩=false:=λ o=>aj q2
   clear hc q2;go_wp2
   refine gH (v:=.tuple #[.agg #[.slice none 0 0,.slice none 0 0,.slice none 0 0],.bool false]) (by simp [results,results73,go_sem,c0,c1,c2]) rfl ⟨?_,?_⟩
   ·exact(((ae B2).setCell (aL _) _).setCell (aL _) _).setCell (aL _) _
   refine⟨_,_,_,_,_,_,_,_,_,false,rfl,?_⟩;rw [ae HE]
  | some pq =>
   obtain⟨a,n⟩:=pq;rw [hc]at hm;obtain⟨va,vn,rfl,hab,hnb⟩:=hm;have NA:=af (Ad hc (ae HA))
   have TA:=af (show iP l=match c8 g,eU a,c8 n with|some G,some D,some T=>some (G,D,T)|_,_,_=>none from by
    rw [ae EA,ae HC];simp only [Option.bind_some];rw [hc];rfl)
   have MA:=af hab;have SA:=af hnb;clear hc hab hnb HC EA;go_wp2_with fail;refine(oO g _ _ ((ae OA).below (ae B2))).mono ?_;rintro e w3 hN3;obtain⟨hb3,qg,ng,cg,okg,rfl,hmg⟩:=hN3.form;have BA:=af hb3;have QA:=af hmg;clear hN3 hb3 hmg;go_wp2_with fail;refine(ol a _ w _ ((ae B2).trans ((ae BA).mono (ae B2).size)) (ae MA) (ae NA)).mono ?_;rintro e w4 hN4;obtain⟨hb4,qa,na,ca,oka,rfl,hma⟩:=hN4.form;have CA:=af hb4;have PA:=af hma;clear hN4 hb4 hma;have FA:=af ((ae BA).trans ((ae CA).mono (ae BA).size));go_wp2_with fail;refine(oO n _ _ ((ae SA).below ((ae B2).trans ((ae FA).mono (ae B2).size)))).mono ?_;rintro e w5 hN5;obtain⟨hb5,qn,nn,cn,okn,rfl,hmn⟩:=hN5.form;have DA:=af hb5;have RA:=af hmn;clear hN5 hb5 hmn;have LA:=af ((ae FA).trans ((ae DA).mono (ae FA).size));have JA:=af ((ae AA).trans ((ae LA).mono (ae AA).size));have B5:=af ((ae B0).trans ((ae JA).mono (ae B0).size));have q5:=((ae JA).block _ hl0).trans (ae Q0);have c0:w5.cell? ⟨w.heap.size,0,none⟩=some (.slice none 0 0):=ag q5;have c1:w5.cell? ⟨w.heap.size,1,none⟩=some (.slice none 0 0):=ag q5;have c2:w5.cell? ⟨w.heap.size,2,none⟩=some (.slice none 0 0):=ag q5;have hf:∀ o,w5.frozen? ⟨w.heap.size,o,none⟩=false:=λ o=>aj q5
   clear q5
   have GA:Hid (∀ ok,ok=(okg&&(oka&&okn))->In l w (.returned (.tuple #[.agg #[.slice qg ng cg,.slice qn nn cn,.slice qa na ca],.bool ok])) (((w5.setCell ⟨w.heap.size,0,none⟩ (.slice qg ng cg)).setCell ⟨w.heap.size,1,none⟩ (.slice qn nn cn)).setCell ⟨w.heap.size,2,none⟩ (.slice qa na ca))):=by
    intro ok hok;refine⟨(((ae B5).setCell (aL _) _).setCell (aL _) _).setCell (aL _) _,_,_,_,_,_,_,_,_,_,ok,rfl,?_⟩;have h1:=ae QA;have h2:=ae PA;have h3:=ae RA;rw [ae TA];cases e1:c8 g with
    | none=>rw [e1]at h1;simp only at h1;subst h1;simpa using hok
    | some G =>
     rw [e1]at h1;cases e2:eU a with
     | none=>rw [e2]at h2;simp only at h2;subst h2;simpa using hok
     | some D =>
      rw [e2]at h2;cases e3:c8 n with
      | none=>rw [e3]at h3;simp only at h3;subst h3;simpa using hok
      | some T =>
       rw [e3]at h3;simp only at h1 h2 h3 ⊢;obtain⟨rfl,o1⟩:=h1;obtain⟨rfl,A,o2,a2⟩:=h2;obtain⟨rfl,o3⟩:=h3;have s2:=(ae B2).size;have s02:=(ae AA).size;have s23:=(ae BA).size;have s34:=(ae CA).size;have s45:=(ae DA).size;have o1':=o1.nextW ((ae CA).trans ((ae DA).mono (ae CA).size));have o2':=o2.next (ae DA);refine⟨by simpa using hok,(cQ.base (qY o1' (b:=w.heap.size) (by omega) _ _ _) (by omega)),(cQ.base (qY o3 (b:=w.heap.size) (by omega) _ _ _) (by omega)),λ k h5 h6=>?_,A,(kf.base (qY o2' (b:=w.heap.size) (by omega) _ _ _) (by omega)),?_⟩
       ·have:=(o1.lt k h5).2;have:=(o3.lt k h6).1;omega
       exact a2
   cases hg:okg with
   | false =>
    subst hg;go_wp2
    refine gH (v:=.tuple #[.agg #[.slice qg ng cg,.slice qn nn cn,.slice qa na ca],.bool false]) (by simp [results,results73,go_sem,c0,c1,c2]) rfl (ae GA false rfl)
   | true =>
    subst hg;cases ha:oka with
    | false =>
     subst ha;go_wp2
     refine gH (v:=.tuple #[.agg #[.slice qg ng cg,.slice qn nn cn,.slice qa na ca],.bool false]) (by simp [results,results73,go_sem,c0,c1,c2]) rfl (ae GA false rfl)
    | true =>
     subst ha;go_wp2
     refine gH (v:=.tuple #[.agg #[.slice qg ng cg,.slice qn nn cn,.slice qa na ca],.bool okn]) (by simp [results,results73,go_sem,c0,c1,c2]) rfl (ae GA okn (by simp))
