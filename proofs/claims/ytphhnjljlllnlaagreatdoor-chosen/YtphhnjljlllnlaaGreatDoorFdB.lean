/- part -/
import Derived.Test.YtphhnjljlllnlaaGreatDoorFdA
set_option maxRecDepth 100000
set_option maxHeartbeats 51200000
namespace Go.Proofs.YtphhnjljlllnlaaGreatDoor
open Go.Proofs.Tryz
open Or
open Go Go.RowKit Go.Sort Go.Shelf
theorem F0{n0:Nat}{w0 w:World}{hb sb ip op pb cap p:Nat}{ch cs:Array Value}{st:List HP}{ps:List aW}{mi mo:List aJ}(kind peer:Int)(gone nets r:List Int)(xg xn xr:Value)(hN:n0=w0.heap.size)(hE:fU w0 32)(hEm:fU w0 48)(hDm:iS w0 51)(hD:iS w0 35)(hPi:sS n0 w0 ip mi)(hgi:gh mi)(hgo:gh mo)
  (hB:bJ n0 w0 w hb sb ip op pb cap ch st cs ps) (hI:Cj mi mo st ps) (hps:p<ps.length) (hup:ps[p].up=true) (hg:aA w xg gone) (hn:aA w xn nets) (hr:aA w xr r) :
  Calls prog 15 #[.pointer (some ⟨hb,0,none⟩),.int .i64 p,.agg #[.int .i64 kind,.int .i64 peer,xg,xn,xr]] w λ e w'=>e=.returned (.bool true)/\∃ ch' st' cs' ps',bJ n0 w0 w' hb sb ip op pb cap ch' st' cs' ps'/\Cj mi mo st' ps':=by
 have HE:=af hE;have LB:=af hN;have JC:=af hEm;have IC:=af hDm;have YB:=af hD;have OC:=af hPi;have LC:=af hgi;have AC:=af hgo;have EA:=af hB;have AA:=af hI;have UB:=af hup;clear hE hEm hDm hD hPi hgi hgo hB hI hN hup;have HG:=af hg;have HN:=af hn;have HR:=af hr;obtain⟨pg,cg,rfl,hcg,hlg,hig,hrg⟩:=hg;obtain⟨pn,cn,rfl,hcn,hln,hin,hrn⟩:=hn;obtain⟨pr,cr,rfl,hcr,hlr,hir,hrr⟩:=hr;clear hrg hrn hrr;have hne:=cM w (.cells #[.int .i64 kind,.int .i64 peer,.slice pg gone.length cg,.slice pn nets.length cn,.slice pr r.length cr] 29);have hbe0:Below w.heap.size w (w.alloc (.cells #[.int .i64 kind,.int .i64 peer,.slice pg gone.length cg,.slice pn nets.length cn,.slice pr r.length cr] 29)):=(aY _ _).alloc (aL _) _;go_enter func15,ntmps15
 go_upto_block 0 with(go_at_call 30;refine(G8 r _ _ ((ae HR).below hbe0)).mono ?_;rintro e w1 ⟨vp,vm,rfl,hvp,hvm,hb1⟩;obtain⟨qp,kp,rfl⟩:=aI hvp;obtain⟨qm,km,rfl⟩:=aI hvm;have NB:=af hvp;have MB:=af hvm;have JA:=af (hbe0.trans (hb1.mono hbe0.size));have hne1:=(hb1.block _ (ah hne)).trans hne;clear hvp hvm hb1 hbe0 hne)
 obtain⟨eb,heb⟩:∃ eb,eb=w.heap.size:=⟨_,rfl⟩
 rw [<-heb]at hne1 ⊢;have hnr:=cM w1 (.cells #[.int .i64 (fO (cF r 0)).1,.int .i64 (fO (cF r 0)).2,.slice qp (fE (r.drop 3) (aw (cF r 1) 6).toNat).length kp,.slice qm (cU (r.drop 6) (aw (cF r 2) 5).toNat).length km,.int .i64 (aw (cF r 3) 4),.int .i64 (aw (cF r 4) 5)] 65);have hbr0:Below w1.heap.size w1 (w1.alloc (.cells #[.int .i64 (fO (cF r 0)).1,.int .i64 (fO (cF r 0)).2,.slice qp (fE (r.drop 3) (aw (cF r 1) 6).toNat).length kp,.slice qm (cU (r.drop 6) (aw (cF r 2) 5).toNat).length km,.int .i64 (aw (cF r 3) 4),.int .i64 (aw (cF r 4) 5)] 65)):=(aY _ _).alloc (aL _) _;have hsz:(w1.alloc (.cells #[.int .i64 (fO (cF r 0)).1,.int .i64 (fO (cF r 0)).2,.slice qp (fE (r.drop 3) (aw (cF r 1) 6).toNat).length kp,.slice qm (cU (r.drop 6) (aw (cF r 2) 5).toNat).length km,.int .i64 (aw (cF r 3) 4),.int .i64 (aw (cF r 4) 5)] 65)).heap.size=w1.heap.size+1:=by simp
 generalize w1.alloc (.cells #[.int .i64 (fO (cF r 0)).1,.int .i64 (fO (cF r 0)).2,.slice qp (fE (r.drop 3) (aw (cF r 1) 6).toNat).length kp,.slice qm (cU (r.drop 6) (aw (cF r 2) 5).toNat).length km,.int .i64 (aw (cF r 3) 4),.int .i64 (aw (cF r 4) 5)] 65)=W2 at hnr hbr0 hsz ⊢;rw [<-hsz];have TC:=af heb;have UC:=af hsz;have hne2:=(hbr0.block _ (ah hne1)).trans hne1;have leb:eb<W2.heap.size:=ah hne2;have E2:W2.cell? ⟨eb,2,none⟩=some (.slice pg gone.length cg):=ag hne2;have E3:W2.cell? ⟨eb,3,none⟩=some (.slice pn nets.length cn):=ag hne2;have hbw2:Below w.heap.size w W2:=(ae JA).trans (hbr0.mono (ae JA).size);have QA:=af hbw2;have EC:=af hnr;have IA:=af (hbr0);replace HG:=af ((ae HG).below hbw2);replace HN:=af ((ae HN).below hbw2);clear hnr hbr0 hne1 hne2 hbw2 heb hsz;obtain⟨X2,hX2⟩:∃ X,X=Value.slice qp (fE (r.drop 3) (aw (cF r 1) 6).toNat).length kp:=⟨_,rfl⟩
 obtain⟨X3,hX3⟩:∃ X,X=Value.slice qm (cU (r.drop 6) (aw (cF r 2) 5).toNat).length km:=⟨_,rfl⟩
 obtain⟨X4,hX4⟩:∃ X,X=Value.int .i64 (aw (cF r 3) 4):=⟨_,rfl⟩
 obtain⟨X5,hX5⟩:∃ X,X=Value.int .i64 (aw (cF r 4) 5):=⟨_,rfl⟩
 rw [<-hX2,<-hX3,<-hX4,<-hX5];have SC:=af (And.intro hX2 (And.intro hX3 (And.intro hX4 hX5)));clear hX2 hX3 hX4 hX5;go_cut [] (λ wc=>∃ vg vn,kH X2 X3 X4 X5 W2 wc (gS gone nets (min (gone.length+nets.length) 6)) vg vn)
 case first=>as_aux_lemma =>
  go_wp2_with fail;go_loopw [9] (λ i wr=>∃ k vg vn,k<=min (gone.length+nets.length) 6/\i=.int .i64 (k:Nat)/\kH X2 X3 X4 X5 W2 wr (gS gone nets k) vg vn) (λ i _=>20-(intOf i).toNat)
  case atStart=>exact⟨0,_,_,dG _,rfl,kH.start _ _ _ _ W2⟩
  case round =>
   obtain⟨k,vg,vn,hk,rfl,hput⟩:=hrel;have CA:=af hput;have e2:wr.cell? ⟨eb,2,none⟩=some (.slice pg gone.length cg):=(hput.be.cell (p:=⟨eb,2,none⟩) leb).trans E2;have e3:wr.cell? ⟨eb,3,none⟩=some (.slice pn nets.length cn):=(hput.be.cell (p:=⟨eb,3,none⟩) leb).trans E3;obtain⟨qg,kg,rfl⟩:=aI hput.og;obtain⟨qn,kn,rfl⟩:=aI hput.on;clear hput;have hall:=Bd gone nets k;obtain⟨L,hL⟩:∃ L,gS gone nets k=L:=⟨_,rfl⟩
   rw [hL]at CA hall;have HL:=af hL;clear hL;by_cases hlt:k<gone.length+nets.length
   ·by_cases h6:k<6
    ·have hag:=lI hig k;go_wp2_with fail;refine(mP gone k _ _ (by omega) ((ae HG).below (ae CA).be)).mono ?_;rintro e w0 ⟨rfl,rfl⟩;go_wp2_with fail;refine(yE _ _ hag.1 hag.2).mono ?_;rintro e w1 ⟨rfl,hb1⟩;have DA:=af ((ae CA).next hb1);have f2:w1.cell? ⟨eb,2,none⟩=some (.slice pg gone.length cg):=((ae DA).be.cell (p:=⟨eb,2,none⟩) leb).trans E2;have f3:w1.cell? ⟨eb,3,none⟩=some (.slice pn nets.length cn):=((ae DA).be.cell (p:=⟨eb,3,none⟩) leb).trans E3;have lew:eb<w1.heap.size:=World.block_lt_of_cell? _ _ f2;clear hb1;have hX:∃ X:Int×Int,Hid (uB gone nets k=X):=⟨_,rfl⟩
     obtain⟨X,HX⟩:=hX
     go_upto_if 61 with fail
     go_cut [] (λ wc=>kH X2 X3 X4 X5 W2 wc L (.slice qg L.1.length kg) (.slice qn L.2.length kn)/\wc.heap[w1.heap.size]?=some (.cells #[.int .i64 X.1,.int .i64 X.2] 63 (0,0)))
     case first =>
      by_cases hgk:k<gone.length
      ·have WA:=af (show fO (cF gone k)=X from by rw [<-ae HX];unfold uB;rw [aS hgk]);go_wp2_with fail
       go_meet
       case rel =>
        rw [ae WA];exact⟨(ae DA).next ((aY _ _).alloc (aL _) _),cM _ _⟩
      have WA:=af (show fO (cF nets (k-gone.length))=X from by rw [<-ae HX];unfold uB;rw [aG hgk]);have hkn:k-gone.length<nets.length:=by omega
      have hnn:=lI hin (k-gone.length);have MC:=af ((ae HN).below ((ae DA).next ((aY _ _).alloc (aL _) (.cells #[.int .i64 (fO (cF gone k)).1,.int .i64 (fO (cF gone k)).2] 63))).be);obtain⟨p',c',hv,hcap',hl',hin',hr'⟩:=ae MC;cases hv
      rcases hr' with h|⟨b,o,rfl,hbb,hc⟩
      ·rw [h.1]at hkn;simp at hkn
      have hck:=hc (k-gone.length) hkn;have HA:=af (show cF nets (k-gone.length)=nets[k-gone.length]from by unfold cF;rw [gW hkn];rfl);have hsub:(k:Int)-(gone.length:Int)=((k-gone.length:Nat):Int):=by omega
      rw [ae HA]at WA hnn;clear hc hin' hcap' hl';obtain⟨y,hy⟩:∃ y,nets[k-gone.length]=y:=⟨_,rfl⟩
      rw [hy]at hck WA hnn;clear hy HA;go_wp2_with fail;refine(yE _ _ hnn.1 hnn.2).mono ?_;rintro e w2 ⟨rfl,hb2⟩;rw [ae WA];have qz:w2.heap[w1.heap.size]?=some (.cells #[.int .i64 (fO (cF gone k)).1,.int .i64 (fO (cF gone k)).2] 63 (0,0)):=(hb2.block _ (by simp)).trans (cM _ _);have z0:w2.cell? ⟨w1.heap.size,0,none⟩=some (.int .i64 (fO (cF gone k)).1):=ag qz;have z1:w2.cell? ⟨w1.heap.size,1,none⟩=some (.int .i64 (fO (cF gone k)).2):=ag qz;have zf:∀ o,w2.frozen? ⟨w1.heap.size,o,none⟩=false:=λ o=>aj qz
      have QZ:=af qz;have B2:=af (((aY _ _).alloc (aL _) _).trans (hb2.mono (by simp)));clear qz hb2;go_wp2_with fail
      go_meet
      case rel =>
       refine⟨(ae DA).next (((ae B2).setCell (aL _) _).setCell (aL _) _),?_⟩;exact aV (aV (ae QZ))
     case rest =>
      rename World=>wx
      obtain⟨px,qx⟩:=hcut;have PX:=af px;have QX:=af qx;clear px qx hlt;obtain⟨bx,hbx⟩:∃ b,w1.heap.size=b:=⟨_,rfl⟩
      rw [hbx]at QX ⊢;clear hbx CA DA;go_wp2_with fail;go_loopw [11,12] (λ th j wr2=>∃ q:Nat,q<=L.1.length/\j=.int .i64 q/\th=.bool (decide (X∈L.1.take q))/\Below wx.heap.size wx wr2) (λ _ j _=>L.1.length-(intOf j).toNat)
      case atStart=>exact⟨0,dG _,rfl,by simp,aY _ _⟩
      case round =>
       rename World=>WR
       obtain⟨q,hq,rfl,rfl,hbe⟩:=hrel;have P2:=(ae PX).next hbe;have c0:WR.cell? ⟨W2.heap.size,0,none⟩=some (.slice qg L.1.length kg):=ag P2.blk;have c1:WR.cell? ⟨W2.heap.size,1,none⟩=some (.slice qn L.2.length kn):=ag P2.blk;have qx2:WR.heap[bx]?=some (.cells #[.int .i64 X.1,.int .i64 X.2] 63 (0,0)):=(hbe.block bx (ah (ae QX))).trans (ae QX);have x0:WR.cell? ⟨bx,0,none⟩=some (.int .i64 X.1):=ag qx2;have x1:WR.cell? ⟨bx,1,none⟩=some (.int .i64 X.2):=ag qx2;have BE:=af hbe;by_cases hqt:q<L.1.length
       ·obtain⟨g,rfl,hg1,hg2,y0,y1⟩:=P2.og.cell hqt;have KB:=af (oF (x:=X) hqt);clear hbe qx2 P2;obtain⟨th,hth⟩:∃ b,decide (X∈L.1.take q)=b:=⟨_,rfl⟩
        rw [hth]at KB ⊢;clear hth;go_wp2_with fail;go_region_with (go_at_call 21;refine(jr L.1[q] X _).mono ?_;rintro e w3 ⟨rfl,hb3⟩)
        all_goals
         have OB:Hid (Below wx.heap.size wx w3):=by
          refine Below.trans ?_ (hb3.mono (ae BE).size)
          repeat (first|exact ae BE|refine Below.drew ?_)
         clear hb3;cases th
        all_goals
         go_wp2_with fail;exact⟨⟨q+1,by omega,by go_num,by rw [ae KB];simp,ae OB⟩,by simp [intOf];omega⟩
       have PB:=af (pU (x:=X) (l:=L.1) (q:=q) (by omega));rw [ae PB];have PY:=af P2;have QY:=af qx2;clear hbe qx2 P2 BE PX QX x0 x1;go_wp2_with fail;go_loopw [11,14] (λ th j wr3=>∃ q:Nat,q<=L.2.length/\j=.int .i64 q/\th=.bool (decide (X∈L.1)||decide (X∈L.2.take q))/\Below WR.heap.size WR wr3) (λ _ j _=>L.2.length-(intOf j).toNat)
       case atStart=>exact⟨0,dG _,rfl,by simp,aY _ _⟩
       case round =>
        rename World=>WS
        obtain⟨q2,hq2,rfl,rfl,hbe⟩:=hrel;have P3:=(ae PY).next hbe;have c0':WS.cell? ⟨W2.heap.size,0,none⟩=some (.slice qg L.1.length kg):=ag P3.blk;have c1':WS.cell? ⟨W2.heap.size,1,none⟩=some (.slice qn L.2.length kn):=ag P3.blk;have fz:∀ o,WS.frozen? ⟨W2.heap.size,o,none⟩=false:=λ o=>aj P3.blk
        have qx3:WS.heap[bx]?=some (.cells #[.int .i64 X.1,.int .i64 X.2] 63 (0,0)):=(hbe.block bx (ah (ae QY))).trans (ae QY);have x0:WS.cell? ⟨bx,0,none⟩=some (.int .i64 X.1):=ag qx3;have x1:WS.cell? ⟨bx,1,none⟩=some (.int .i64 X.2):=ag qx3;have s2:WS.cell? ⟨eb,2,none⟩=some (.slice pg gone.length cg):=(P3.be.cell (p:=⟨eb,2,none⟩) leb).trans E2;have BE:=af hbe;by_cases hqt2:q2<L.2.length
        ·obtain⟨g,rfl,hg1,hg2,y0,y1⟩:=P3.on.cell hqt2;have KB:=af (oF (x:=X) hqt2);clear hbe qx3 P3;obtain⟨th,hth⟩:∃ b,(decide (X∈L.1)||decide (X∈L.2.take q2))=b:=⟨_,rfl⟩
         have PC:=af (show(decide (X∈L.1)||decide (X∈L.2.take (q2+1)))=(th||decide (L.2[q2]=X))from by rw [ae KB,<-hth,Bool.or_assoc]);rw [hth];clear hth;go_wp2_with fail;go_region_with (go_at_call 21;refine(jr L.2[q2] X _).mono ?_;rintro e w3 ⟨rfl,hb3⟩)
         all_goals
          have OB:Hid (Below WR.heap.size WR w3):=by
           refine Below.trans ?_ (hb3.mono (ae BE).size)
           repeat (first|exact ae BE|refine Below.drew ?_)
          clear hb3;cases th
         all_goals
          go_wp2_with fail;exact⟨⟨q2+1,by omega,by go_num,by rw [ae PC];simp,ae OB⟩,by simp [intOf];omega⟩
        have SA:=af (pU (x:=X) (l:=L.2) (q:=q2) (by omega));rw [ae SA];have PZ:=af P3;clear hbe qx3 P3 BE PY QY;have OA:=af (show gS gone nets (k+1)=GU gone nets k L from by rw [<-ae HL];rfl);by_cases hm:X∈L.1\/X∈L.2
        ·have hb:(decide (X∈L.1)||decide (X∈L.2))=true:=by simpa using hm
         have XA:=af (show gS gone nets (k+1)=L from by rw [ae OA];unfold GU;rw [ae HX,aS hm]);rw [hb];clear hb hm;go_wp2_with fail;exact⟨⟨k+1,_,_,by omega,by go_num,by rw [ae XA];exact ae PZ⟩,by simp [intOf];omega⟩
        have hb:(decide (X∈L.1)||decide (X∈L.2))=false:=by simpa using hm
        rw [hb];clear hb;obtain⟨i0,hi0,hz0,hz1,hz2⟩:=info_parts Tryz.infoNet;have hlen:=hall.2.1;have hws:=(ae PZ).be.size;by_cases hgk:k<gone.length
        ·have XA:=af (show gS gone nets (k+1)=(L.1++[X],L.2)from by rw [ae OA];unfold GU;rw [ae HX,aG hm,aS hgk]);clear hm;go_wp2_with (at_builtin;refine wpList_append_lies _ rfl _ _ _ rfl (W2.heap.size+1) 63 i0 _ 2 16 underlying85 hi0 hz0 hz1 hz2 rfl (by omega) (.slice qg L.1.length kg) L.1.length (bu L.1) rfl (World.ownsRow.alloc (ae PZ).og _) ⟨WS.heap.size,0,none⟩ 1 1 [.int .i64 X.1,.int .i64 X.2] rfl rfl (World.news_of_block (cs:=#[.int .i64 X.1,.int .i64 X.2]) (t:=63) (fr:=(0,0)) (cM _ _)) (by simp [Value.oneCell']) (by omega) (by simp [maxLen];omega) (by omega) (by have:=ah (ae PZ).blk;simp;omega) (WS.heap.size+1) (by simp) ?_;intro gg cap wn hown hgrow hat hltg;have d0:wn.cell? ⟨W2.heap.size,0,none⟩=some (.slice qg L.1.length kg):=ag ((ae PZ).blkN (inl rfl) hgrow);have df:∀ o,wn.frozen? ⟨W2.heap.size,o,none⟩=false:=λ o=>aj ((ae PZ).blkN (inl rfl) hgrow))
         exact⟨⟨k+1,_,_,by omega,by go_num,by rw [ae XA];exact(ae PZ).pushG hown hgrow hat⟩,by simp [intOf];omega⟩
        have XA:=af (show gS gone nets (k+1)=(L.1,L.2++[X])from by rw [ae OA];unfold GU;rw [ae HX,aG hm,aG hgk]);clear hm;go_wp2_with (at_builtin;refine wpList_append_lies _ rfl _ _ _ rfl (W2.heap.size+1) 63 i0 _ 2 16 underlying85 hi0 hz0 hz1 hz2 rfl (by omega) (.slice qn L.2.length kn) L.2.length (bu L.2) rfl (World.ownsRow.alloc (ae PZ).on _) ⟨WS.heap.size,0,none⟩ 1 1 [.int .i64 X.1,.int .i64 X.2] rfl rfl (World.news_of_block (cs:=#[.int .i64 X.1,.int .i64 X.2]) (t:=63) (fr:=(0,0)) (cM _ _)) (by simp [Value.oneCell']) (by omega) (by simp [maxLen];omega) (by omega) (by have:=ah (ae PZ).blk;simp;omega) (WS.heap.size+1) (by simp) ?_;intro gg cap wn hown hgrow hat hltg;have d0:wn.cell? ⟨W2.heap.size,1,none⟩=some (.slice qn L.2.length kn):=ag ((ae PZ).blkN (inr rfl) hgrow);have df:∀ o,wn.frozen? ⟨W2.heap.size,o,none⟩=false:=λ o=>aj ((ae PZ).blkN (inr rfl) hgrow))
        exact⟨⟨k+1,_,_,by omega,by go_num,by rw [ae XA];exact(ae PZ).pushN hown hgrow hat⟩,by simp [intOf];omega⟩
    have HM:=af (show min (gone.length+nets.length) 6=k by omega);go_wp2_with fail
    go_meet
    case rel=>exact⟨_,_,by rw [ae HM,ae HL];exact ae CA⟩
   have HM:=af (show min (gone.length+nets.length) 6=k by omega);go_wp2_with fail
   go_meet
   case rel=>exact⟨_,_,by rw [ae HM,ae HL];exact ae CA⟩
 case rest =>
  obtain⟨vg,vn,hput⟩:=hcut;obtain⟨pa,hpa⟩:∃ x,fE (r.drop 3) (aw (cF r 1) 6).toNat=x:=⟨_,rfl⟩
  obtain⟨ma,hma⟩:∃ x,cU (r.drop 6) (aw (cF r 2) 5).toNat=x:=⟨_,rfl⟩
  obtain⟨x2,x3,x4,x5⟩:=ae SC;rw [hpa]at x2;rw [hma]at x3;rw [hpa]at NB;rw [hma]at MB;subst x2 x3 x4 x5;obtain⟨L,hL⟩:∃ L,gS gone nets (min (gone.length+nets.length) 6)=L:=⟨_,rfl⟩
  rw [hL]at hput;have HL:=af hL;have DC:=af hpa;have CC:=af hma;obtain⟨qg,kg,rfl⟩:=aI hput.og;obtain⟨qn,kn,rfl⟩:=aI hput.on;have c0:wc.cell? ⟨W2.heap.size,0,none⟩=some (.slice qg L.1.length kg):=ag hput.blk;have c1:wc.cell? ⟨W2.heap.size,1,none⟩=some (.slice qn L.2.length kn):=ag hput.blk;have c2:wc.cell? ⟨W2.heap.size,2,none⟩=some (.slice qp pa.length kp):=ag hput.blk;have c3:wc.cell? ⟨W2.heap.size,3,none⟩=some (.slice qm ma.length km):=ag hput.blk;have c4:wc.cell? ⟨W2.heap.size,4,none⟩=some (.int .i64 (aw (cF r 3) 4)):=ag hput.blk;have c5:wc.cell? ⟨W2.heap.size,5,none⟩=some (.int .i64 (aw (cF r 4) 5)):=ag hput.blk;have fz:∀ o,wc.frozen? ⟨W2.heap.size,o,none⟩=false:=λ o=>aj hput.blk
  have CA:=af hput;have lu:W2.heap.size<wc.heap.size:=ah hput.blk
  have PA:Hid (wc.ownsRow w.heap.size 3 1 (.slice qp pa.length kp) pa.length (aB pa)/\wc.ownsRow w.heap.size 3 1 (.slice qm ma.length km) ma.length (aB ma)):=af (by
   have hbb:=(ae IA).trans (hput.be.mono (ae IA).size);exact⟨aZ (ay (ae NB) λ k e=>hbb.block k ((ae NB).lt k e).2) (by simp),aZ (ay (ae MB) λ k e=>hbb.block k ((ae MB).lt k e).2) (by simp)⟩)
  clear hput hL hpa hma
  go_upto_if 129 with fail
  go_cut [] (λ wd=>∃ vg vn vp vm,sW w.heap.size W2.heap.size wd vg vn vp vm (KM L pa ma (aw (cF r 3) 4) (aw (cF r 4) 5))/\Below W2.heap.size W2 wd)
  case first =>
   by_cases hz:L.2.length=0
   ·have hzb:((L.2.length:Int)==0)=true:=by simp [hz]
    have HZ:=af (show KM L pa ma (aw (cF r 3) 4) (aw (cF r 4) 5)=⟨L.1,[],[],[],0,0⟩from by unfold KM;rw [aS hz]);clear hz;go_wp2_with fail
    go_meet
    case rel =>
     rw [ae HZ];have hp:=ae CA;refine⟨.slice qg L.1.length kg,.slice none 0 0,.slice none 0 0,.slice none 0 0,⟨(ae QA).size,gT hp.blk,?_,i7 _ _ _ _,i7 _ _ _ _,i7 _ _ _ _⟩,fm hp.be (aL _)⟩;exact ay hp.og λ k e=>bg (by have:=(hp.og.lt k e).1;omega)
   have hzb:((L.2.length:Int)==0)=false:=beq_eq_false_iff_ne.2 (by omega);have HZ:=af (show KM L pa ma (aw (cF r 3) 4) (aw (cF r 4) 5)=⟨L.1,L.2,pa,ma,aw (cF r 3) 4,aw (cF r 4) 5⟩from by unfold KM;rw [aG hz]);clear hz;go_wp2_with fail
   go_meet
   case rel =>
    rw [ae HZ];have hp:=ae CA;exact⟨_,_,_,_,⟨(ae QA).size,hp.blk,hp.og,hp.on,(ae PA).1,(ae PA).2⟩,hp.be⟩
  case rest =>
   rename World=>wd
   obtain⟨vg,vn,vp,vm,hev,hbv⟩:=hcut;clear c0 c1 c2 c3 c4 c5 fz lu CA PA;have hmo:eW (KM L pa ma (aw (cF r 3) 4) (aw (cF r 4) 5)):=by rw [<-ae HL,<-ae DC,<-ae CC];exact Nq _ _ _ _ (by omega)
   obtain⟨m,hm⟩:∃ m,KM L pa ma (aw (cF r 3) 4) (aw (cF r 4) 5)=m:=⟨_,rfl⟩
   rw [hm]at hev hmo;have HM:=af hm;have MA:=af hmo;obtain⟨qg,kg,rfl⟩:=aI hev.og;obtain⟨qn,kn,rfl⟩:=aI hev.on;obtain⟨qp2,kp2,rfl⟩:=al hev.op;obtain⟨qm2,km2,rfl⟩:=al hev.om;have d0:wd.cell? ⟨W2.heap.size,0,none⟩=some (.slice qg m.gone.length kg):=ag hev.blk;have d1:wd.cell? ⟨W2.heap.size,1,none⟩=some (.slice qn m.nets.length kn):=ag hev.blk;have d2:wd.cell? ⟨W2.heap.size,2,none⟩=some (.slice qp2 m.path.length kp2):=ag hev.blk;have d3:wd.cell? ⟨W2.heap.size,3,none⟩=some (.slice qm2 m.marks.length km2):=ag hev.blk;have d4:wd.cell? ⟨W2.heap.size,4,none⟩=some (.int .i64 m.pref):=ag hev.blk;have d5:wd.cell? ⟨W2.heap.size,5,none⟩=some (.int .i64 m.med):=ag hev.blk;have hbd:Below w.heap.size w wd:=(ae QA).trans (hbv.mono (ae QA).size);have hbo:=(ae EA).below hbd;have hrd:=hev.reads hmo;have hb0:Below w0.heap.size w0 wd:=by have:=hbo.sp.bel;rw [ae LB]at this;exact this
   have XB:=af (ae HE wd _ _ _ _ m hb0 hrd.1 hrd.2.1 hrd.2.2.1 hrd.2.2.2.1 hrd.2.2.2.2.1 hrd.2.2.2.2.2);have HC:=af hbo;have KC:=af hev;have HB:=af hbv;clear hev hm hmo hrd hb0 hbo hbd hbv;go_upto_region 27 with(go_at_call 32;refine(ae XB).mono ?_;clear XB;rintro e wE ⟨hbE,v,l,kk,rfl,ob,hk⟩;obtain⟨bq,bc,rfl⟩:=aI ob;rcases hk with⟨_,rfl,rfl⟩|⟨hno,_⟩;rotate_left;exact absurd (ae MA) hno;have GB:=af hbE;have NC:=af ob;clear hbE ob)
   have hboE:=(ae HC).below (ae GB);have h0:wE.cell? ⟨hb,0,none⟩=some (.pointer (some ⟨sb,0,none⟩)):=(ag hboE.hs.blk).trans hboE.hs.c0;have hdm:cl (jv m)=m:=by unfold cl;rw [sH (ae MA)]
   have hde:lP (jv m)=0:=by unfold lP;rw [sH (ae MA)]
   have RA:=af (wv (ae LB) (ae JC) (ae IC) hboE.sp hps (ae UB) (jv m) _ (dK.at_ (ae NC) (EF (ae MA)) (by have:=Ak (ae MA);omega)));have QB:=af hboE;have ZB:=af (And.intro hdm hde);clear hboE hdm hde d0 d1 d2 d3 d4 d5;go_upto_region 30 with(go_at_call 18;refine(ae RA).mono ?_;clear RA;rintro e wF ⟨l',ec,v,hfed,rfl,htell⟩;obtain⟨vq,vl,vc,rfl⟩:=htell.slice;have RB:=af hfed;have AB:=af htell;clear hfed htell)
   obtain⟨l1,htk,hend⟩:∃ l1,jb ps[p].mi (gc ps[p].rts m.gone) (m.nets.map λ n=>⟨n.1,n.2,m.path,m.marks,m.pref,m.med⟩) l1/\((16<l1.length/\l'=[]/\ec=10)\/(l1.length<=16/\l'=l1/\ec=0)):=by
    have hf:=ae RB;unfold wi at hf;rw [(ae ZB).1,(ae ZB).2]at hf;rcases hf with⟨h1,_⟩|⟨_,h2⟩
    ·exact absurd rfl h1
    exact h2
   obtain⟨T,cs',ps',hT,hsp',hfr',hTm,hpl',htold⟩:=ae AB;have hboF:=(ae QB).spoke (ps':=ps') (by rw [hpl',List.length_set]) (by rw [List.length_set]at hfr';exact hfr') hsp';have hkF:∀ k,w.heap.size<=k->k<wE.heap.size->wF.heap[k]?=wE.heap[k]?:=(ae EA).spared (wE:=wE) (wF:=wF) (by rw [List.length_set]at hfr';exact hfr');have hevF:=((ae KC).keep (W':=wE) λ k _ h2=>(ae GB).block k h2).keep hkF;have UA:=af hevF;have hrbE:=((((ae HB).trans ((ae GB).mono (ae HB).size)).block _ (ah (ae EC))).trans (ae EC))
   have hrbF:=(hkF _ (ae JA).size (ah hrbE)).trans hrbE;rw [ae DC,ae CC]at hrbF;have hWE:Below W2.heap.size W2 wE:=(ae HB).trans ((ae GB).mono (ae HB).size);have hrow:∀{B:Nat} {v:Value} {n:Nat} {xs:List Value},w.heap.size<=B->w1.ownsRow B 3 1 v n xs->wF.ownsRow 0 3 1 v n xs:=λ hB h=>aZ (ay h λ k e=>(hkF k (gG hB (h.lt k e).1) (gY (h.lt k e).2 (gG (ae IA).size hWE.size))).trans ((hWE.block k (gY (h.lt k e).2 (ae IA).size)).trans ((ae IA).block k (h.lt k e).2))) (dG _)
   have ZA:Hid (bK wF ⟨⟨0,0,pa,ma,0,0⟩,qp,kp,qm,km⟩):=af ⟨hrow (by simp) (ae NB),hrow (by simp) (ae MB)⟩
   have NA:Hid (Fj n0 wF hb pb w1.heap.size ch cs' ps'.length):=af (by
    have g1:=(ae JA).size;have g2:=ah (ae EA).hs.blk;have g3:=(ae EA).hs.lo;refine⟨by omega,ah hrbF,λ e=>?_,λ e=>?_,⟨_,hboF.hs.blk⟩,⟨_,hrbF⟩⟩
    ·obtain⟨cur,hc⟩:=(ae EA).hs.typed e;have:=ah hc;omega
    ·rw [hpl',List.length_set]at e;rw [List.length_set]at hfr';rcases hfr'.own _ e with e|e
     ·obtain⟨_,c,T,hc,_⟩:=(ae EA).sp.own_typed e;have:=ah hc;omega
     ·have:=ah hrbE;omega)
   have EB:Hid (vG n0 w0 wF wF hb sb ip op pb cap w1.heap.size ch ch st cs' ps' (.slice qp pa.length kp) (.slice qm ma.length km) (aw (cF r 3) 4) (aw (cF r 4) 5) (fO (cF r 0)).1 (fO (cF r 0)).2):=af ⟨hboF,dw _ _,λ k hk=>inl hk,hrbF⟩;clear hkF hevF hrbE hrbF hWE hrow;have QC:=af htk;have TA:=af hend;have CB:=af (And.intro hT (And.intro hTm (And.intro hpl' htold)));clear hboF htk hend hT hsp' hfr' hTm htold hpl' h0;have hst:p<st.length:=by have:=(ae AA).n;have:=(ae AA).ns;omega
   have iz0:(0:Int)<=(p:Int):=by omega
   have iz3:(p:Int)<3:=by have:=(ae AA).ns;omega
   have hbw:hb<w.heap.size:=ah (ae EA).hs.blk
   have hrl:st[p].rts.length<=16:=by
    have h1:=((ae AA).rts p hst hps).length_eq;have h2:=((ae EA).sp.ok _ (ej hps)).few;rw [List.length_map,List.length_map]at h1;omega
   go_wp2_with fail;go_loopw [20] (λ kk wr=>∃(i:Nat) (chk:Array Value) (l:List Rv),i<=m.gone.length/\kk=.int .i64 i/\vG n0 w0 wF wr hb sb ip op pb cap w1.heap.size ch chk (st.set p { st[p]with rts:=l }) cs' ps' (.slice qp pa.length kp) (.slice qm ma.length km) (aw (cF r 3) 4) (aw (cF r 4) 5) (fO (cF r 0)).1 (fO (cF r 0)).2/\l.map (·.r)=(m.gone.take i).foldl wO (st[p].rts.map (·.r))/\l.length<=16) (λ kk _=>m.gone.length-(intOf kk).toNat)
   case atStart=>exact⟨0,ch,st[p].rts,dG _,rfl,by rw [show st.set p { st[p]with rts:=st[p].rts }=st from List.set_getElem_self hst];exact ae EB,rfl,hrl⟩
   case round =>
    rename World=>wr
    obtain⟨i,chk,l,hi,rfl,hst5,hl,hll⟩:=hrel;have hev:=hst5.ev (ae NA) (ae UA) hbw;have d0:wr.cell? ⟨W2.heap.size,0,none⟩=some (.slice qg m.gone.length kg):=ag hev.blk;have d1:wr.cell? ⟨W2.heap.size,1,none⟩=some (.slice qn m.nets.length kn):=ag hev.blk;have hgl:m.gone.length<=20:=by have:=(ae MA).1.1;rw [List.length_append]at this;omega
    by_cases hil:i<m.gone.length
    ·obtain⟨rv,er,tr⟩:=hst5.both.hs.rts p (by rw [List.length_set];exact hst);rw [List.getElem_set_self]at tr;dsimp only at tr;obtain⟨rq,rc,rfl⟩:=al tr;have c6:wr.cell? ⟨hb,6+p,none⟩=some (.slice rq l.length rc):=(ag hst5.both.hs.blk).trans er;have lhx:hb<wr.heap.size:=ah hst5.both.hs.blk;have lux:W2.heap.size<wr.heap.size:=ah hev.blk;obtain⟨g,rfl,hg1,hg2,y0,y1⟩:=hev.og.cell hil;obtain⟨X,hX⟩:∃ X,m.gone[i]=X:=⟨_,rfl⟩
     rw [hX]at y0 y1;have hgh:g≠hb:=by have:=(ae QA).size;omega
     have huh:W2.heap.size≠hb:=by have:=(ae QA).size;omega
     have CA:=af (uk wr.drew n0 (.slice rq l.length rc) l ⟨⟨X.1,X.2,[],[],0,0⟩,none,0,none,0⟩ true (tr.below (aY _ _).drew) (by omega));have hmx:prog.follows .mixedOrders=true:=by kernel_rfl
     have ST:=af hst5;have LA:=af (And.intro hl hll);have DB:=af hX;clear hst5 hl hev tr er hX;go_upto_region 33 with fail
     have HT:Hid (Below wr.heap.size wr wr.drew):=af (aY _ _).drew
     go_region_with (first
      | (go_at_call 33;refine(ae CA).mono ?_;clear CA;rintro e w7 ⟨vn,rfl,htn,hb7⟩;obtain⟨qn7,cn7,rfl⟩:=al htn;have BB:=af htn;replace HT:=af ((ae HT).trans hb7);have c9n:=(hb7.cell (p:=⟨hb,6+p,none⟩) lhx).trans c6;have fzn:w7.frozen? ⟨hb,6+p,none⟩=false:=aj ((hb7.block _ lhx).trans (ae ST).both.hs.blk);clear htn hb7))
     all_goals
      have WB:Hid (∃ chk2 l2,vG n0 w0 wF (w7.setCell ⟨hb,6+p,none⟩ (.slice qn7 (oe l ⟨⟨X.1,X.2,[],[],0,0⟩,none,0,none,0⟩ true).length cn7)) hb sb ip op pb cap w1.heap.size ch chk2 (st.set p { st[p]with rts:=l2 }) cs' ps' (.slice qp pa.length kp) (.slice qm ma.length km) (aw (cF r 3) 4) (aw (cF r 4) 5) (fO (cF r 0)).1 (fO (cF r 0)).2/\l2.map (·.r)=(m.gone.take (i+1)).foldl wO (st[p].rts.map (·.r))/\l2.length<=16):=af (by
       refine⟨_,_,(ae ST).put hst (ae HT) (ae BB) (aL _) (λ y hy=>?_) ?_,?_,?_⟩
       ·rcases Bb hy with hy|⟨e,_⟩
        ·have:=(ae ST).both.hs.rows _ (List.mem_set hst _) y (inl hy);exact⟨this.1.below (ae HT),this.2⟩
        ·cases e
       ·have:=uL l ⟨⟨X.1,X.2,[],[],0,0⟩,none,0,none,0⟩ true;have:=(ae LA).2;simp only [if_true]at *;omega
       ·rw [DM,List.take_succ_eq_append_getElem hil,List.foldl_append,<-(ae LA).1,ae DB];rfl
       ·have:=uL l ⟨⟨X.1,X.2,[],[],0,0⟩,none,0,none,0⟩ true;have:=(ae LA).2;simp only [if_true]at *;omega)
      clear ST HT BB LA DB c9n fzn;go_wp2_with fail;obtain⟨chk2,l2,e1,e2,e3⟩:=ae WB;exact⟨⟨i+1,chk2,l2,hil,by go_num,e1,e2,e3⟩,by simp [intOf];omega⟩
    have hie:i=m.gone.length:=by omega
    subst hie;rw [List.take_length]at hl;have GC:=af hst5;have SB:=af (And.intro hl hll);clear hst5 hl hev hll;go_wp2_with fail;clear d0 d1;go_loopw [21] (λ kk wr=>∃(i:Nat) (chk:Array Value) (l:List Rv) (x0 x1:Int),i<=m.nets.length/\kk=.int .i64 i/\vG n0 w0 wF wr hb sb ip op pb cap w1.heap.size ch chk (st.set p { st[p]with rts:=l }) cs' ps' (.slice qp pa.length kp) (.slice qm ma.length km) (aw (cF r 3) 4) (aw (cF r 4) 5) x0 x1/\l.map (·.r)=((m.nets.take i).map λ n=>(⟨n.1,n.2,m.path,m.marks,m.pref,m.med⟩:Rt)).foldl (xI mi) (m.gone.foldl wO (st[p].rts.map (·.r)))/\l.length<=16+i) (λ kk _=>m.nets.length-(intOf kk).toNat)
    case atStart=>exact⟨0,chk,l,_,_,dG _,rfl,ae GC,(ae SB).1,(ae SB).2⟩
    case round =>
     rename World=>wq
     clear GC SB;obtain⟨i,chk5,l5,z0,z1,hi5,rfl,hst5,hl5,hll5⟩:=hrel;have hev:=hst5.ev (ae NA) (ae UA) hbw;have d1:wq.cell? ⟨W2.heap.size,1,none⟩=some (.slice qn m.nets.length kn):=ag hev.blk;have hnl:m.nets.length<=20:=by have:=(ae MA).1.1;rw [List.length_append]at this;omega
     by_cases hil:i<m.nets.length
     ·obtain⟨g,rfl,hg1,hg2,y0,y1⟩:=hev.on.cell hil;obtain⟨X,hX⟩:∃ X,m.nets[i]=X:=⟨_,rfl⟩
      rw [hX]at y0 y1;have b0:wq.cell? ⟨w1.heap.size,0,none⟩=some (.int .i64 z0):=ag hst5.blk;have b1:wq.cell? ⟨w1.heap.size,1,none⟩=some (.int .i64 z1):=ag hst5.blk;have bz:∀ o,wq.frozen? ⟨w1.heap.size,o,none⟩=false:=λ o=>aj hst5.blk
      have hm5:m.path=pa/\m.marks=ma/\m.pref=aw (cF r 3) 4/\m.med=aw (cF r 4) 5:=by
       have hmm:=ae HM;unfold KM at hmm;split at hmm
       ·rw [<-hmm]at hil;exact absurd hil (by simp)
       rw [<-hmm];exact⟨rfl,rfl,rfl,rfl⟩
      have hrok:=Dp (ae MA) X (by rw [<-hX];exact ej hil);rw [hm5.1,hm5.2.1,hm5.2.2.1,hm5.2.2.2]at hrok;have BC:=af hm5;have BA:=af hrok;have DB:=af hX;have hSn:=hst5.net (ae NA) X;have LA:=af (And.intro hl5 hll5);clear hst5 hl5 hev hm5 hrok hX;go_upto_region 38 with fail
      obtain⟨Wa,hWa⟩:∃ W,(wq.setCell ⟨w1.heap.size,0,none⟩ (.int .i64 X.1)).setCell ⟨w1.heap.size,1,none⟩ (.int .i64 X.2)=W:=⟨_,rfl⟩
      rw [hWa]at hSn ⊢;clear hWa d1 b0 b1 bz y0 y1;have lhb:hb<Wa.heap.size:=ah hSn.both.hs.blk;have lrb:w1.heap.size<Wa.heap.size:=ah hSn.blk;have co:Wa.cell? ⟨hb,1,none⟩=some (.pointer (some ⟨ip,0,none⟩)):=(ag hSn.both.hs.blk).trans hSn.both.hs.c1;have x0:Wa.cell? ⟨w1.heap.size,0,none⟩=some (.int .i64 X.1):=ag hSn.blk;have x1:Wa.cell? ⟨w1.heap.size,1,none⟩=some (.int .i64 X.2):=ag hSn.blk;have x2:Wa.cell? ⟨w1.heap.size,2,none⟩=some (.slice qp pa.length kp):=ag hSn.blk;have x3:Wa.cell? ⟨w1.heap.size,3,none⟩=some (.slice qm ma.length km):=ag hSn.blk;have x4:Wa.cell? ⟨w1.heap.size,4,none⟩=some (.int .i64 (aw (cF r 3) 4)):=ag hSn.blk;have x5:Wa.cell? ⟨w1.heap.size,5,none⟩=some (.int .i64 (aw (cF r 4) 5)):=ag hSn.blk;have hrx:bK Wa ⟨⟨X.1,X.2,pa,ma,aw (cF r 3) 4,aw (cF r 4) 5⟩,qp,kp,qm,km⟩:=⟨(hSn.rv (ae NA) (ae ZA)).path,(hSn.rv (ae NA) (ae ZA)).marks⟩
      have hn0:n0<=Wa.heap.size:=by have:=hSn.both.hs.lo;omega
      have KA:=af (λ(V:World) (hV:Below Wa.heap.size Wa V)=>ae OC V (hSn.both.sp.bel.trans (hV.mono hn0)) ⟨X.1,X.2,pa,ma,aw (cF r 3) 4,aw (cF r 4) 5⟩ _ _ ((hrx.below hV).ints (ae BA)).1 ((hrx.below hV).ints (ae BA)).2);have FC:=af hrx;have ST:=af hSn;obtain⟨rr,hrr⟩:∃ rr,dl mi ⟨X.1,X.2,pa,ma,aw (cF r 3) 4,aw (cF r 4) 5⟩=rr:=⟨_,rfl⟩
      obtain⟨R,vd⟩:=rr;rw [hrr]at KA;have TB:=af hrr;clear hrr hSn hrx;dsimp only at KA;go_cut [22,23,24] (λ v4 v5 v6 wx=>∃(B:Nat) (q1:Option Addr) (k1:Nat) (q2:Option Addr) (k2:Nat),v4=.pointer (some ⟨B,0,none⟩)/\v5=.int .i64 vd/\v6=.int .i64 0/\Below Wa.heap.size Wa wx/\Wa.heap.size<=B/\wx.heap[B]?=some (.cells #[.int .i64 R.addr,.int .i64 R.len,.slice q1 R.path.length k1,.slice q2 R.marks.length k2,.int .i64 R.pref,.int .i64 R.med] 65 (0,0))/\bK wx ⟨R,q1,k1,q2,k2⟩)
      case first =>
       generalize pa.length=n1 at x2 KA ⊢;generalize ma.length=n3 at x3 KA ⊢;generalize aw (cF r 3) 4=pA at x4 KA BA ⊢;generalize aw (cF r 4) 5=pB at x5 KA BA ⊢
       go_region_with (first
        | (go_at_call 24;refine(ae KA (Wa.alloc (.cells #[.int .i64 0,.int .i64 0,.slice none 0 0,.slice none 0 0,.int .i64 0,.int .i64 0] 65)).drew ((aY _ _).alloc (aL _) _).drew (ae BA)).mono ?_;rintro e w' ⟨pv',mv',rfl,hv,hb⟩;obtain⟨q1,k1,rfl⟩:=al hv.1;obtain⟨q2,k2,rfl⟩:=al hv.2.1;have hk:w'.heap[Wa.heap.size]?=some (.cells #[.int .i64 0,.int .i64 0,.slice none 0 0,.slice none 0 0,.int .i64 0,.int .i64 0] 65 (0,0)):=(hb.block _ (by simp)).trans (cM Wa _);have HK:=af hk;have y0:=ag hk (o:=0);have y1:=ag hk (o:=1);have y2:=ag hk (o:=2);have y3:=ag hk (o:=3);have y4:=ag hk (o:=4);have y5:=ag hk (o:=5);have fz:∀ j,w'.frozen? ⟨Wa.heap.size,j,none⟩=false:=(λ j=>by simp [World.frozen?,hk]);have VB:=af hv;have JA:=af hb;clear hv hb hk)
        | (go_at_call 24;refine(ae KA Wa.drew (aY _ _).drew (ae BA)).mono ?_;rintro e w' ⟨pv',mv',rfl,hv,hb⟩;obtain⟨q1,k1,rfl⟩:=al hv.1;obtain⟨q2,k2,rfl⟩:=al hv.2.1;have VB:=af hv;have JA:=af hb;clear hv hb))
       all_goals
        go_wp2_with fail
        go_meet
        case rel =>
         first
          | (have h:=ME (ae JA) (ae HK) (ae VB);exact⟨Wa.heap.size,q1,k1,q2,k2,rfl,rfl,rfl,h.1,aL _,h.2.1,h.2.2⟩)
          | (have h:=MF (ae JA) (ae VB);exact⟨w'.heap.size,q1,k1,q2,k2,rfl,rfl,rfl,h.1,(ae JA).size,h.2.1,h.2.2⟩)
      case rest =>
       obtain⟨B,q1,k1,q2,k2,rfl,rfl,rfl,hbx,hBl,hB,hrv⟩:=hcut
       rename World=>wx
       clear x0 x1 x2 x3 x4 x5 co KA;have IB:=af hbx;have FB:=af hB;have YA:=af hrv;have lB:B<wx.heap.size:=ah hB;have wblk:=(hbx.block _ lrb).trans (ae ST).blk;have lrx:w1.heap.size<wx.heap.size:=ah wblk;have t0:wx.cell? ⟨w1.heap.size,0,none⟩=some (.int .i64 X.1):=ag wblk;have t1:wx.cell? ⟨w1.heap.size,1,none⟩=some (.int .i64 X.2):=ag wblk;have t2:wx.cell? ⟨w1.heap.size,2,none⟩=some (.slice qp pa.length kp):=ag wblk;have t3:wx.cell? ⟨w1.heap.size,3,none⟩=some (.slice qm ma.length km):=ag wblk;have t4:wx.cell? ⟨w1.heap.size,4,none⟩=some (.int .i64 (aw (cF r 3) 4)):=ag wblk;have t5:wx.cell? ⟨w1.heap.size,5,none⟩=some (.int .i64 (aw (cF r 4) 5)):=ag wblk;have s0:=ag hB (o:=0);have s1:=ag hB (o:=1);have s2:=ag hB (o:=2);have s3:=ag hB (o:=3);have s4:=ag hB (o:=4);have s5:=ag hB (o:=5);have sz:∀ o,wx.frozen? ⟨B,o,none⟩=false:=λ o=>aj hB
       clear hbx hB hrv wblk
       go_upto_if 201 with fail
       go_cut [] (λ wy=>∃ Y:Rv,wy.heap[B]?=some (.cells #[.int .i64 Y.r.addr,.int .i64 Y.r.len,.slice Y.pq Y.r.path.length Y.pc,.slice Y.mq Y.r.marks.length Y.mc,.int .i64 Y.r.pref,.int .i64 Y.r.med] 65 (0,0))/\bK wy Y/\Below Wa.heap.size Wa wy/\((vd=1/\Y.r=R)\/(vd≠1/\Y.r=⟨X.1,X.2,pa,ma,aw (cF r 3) 4,aw (cF r 4) 5⟩)))
       case first =>
        by_cases hvd:vd=1
        ·subst hvd;go_wp2_with fail
         go_meet
         case rel=>exact⟨⟨R,q1,k1,q2,k2⟩,ae FB,ae YA,ae IB,inl ⟨(by first|rfl|trivial),rfl⟩⟩
        have hvb:(vd != 1)=true:=by simpa using hvd
        have RC:=af hvd;clear hvd;go_wp2_with fail
        go_meet
        case rel =>
         refine⟨⟨⟨X.1,X.2,pa,ma,aw (cF r 3) 4,aw (cF r 4) 5⟩,qp,kp,qm,km⟩,gT (ae FB),?_,fm (ae IB) hBl,inr ⟨ae RC,rfl⟩⟩;refine((ae FC).below (ae IB)).fr λ k _ ⟨cur,hc⟩=>bg λ e=>?_
         rw [e,ae FB]at hc;cases hc
       case rest =>
        rename World=>wy
        obtain⟨Y,hB,hrv,hby,hcase⟩:=hcut;clear t0 t1 t2 t3 t4 t5 s0 s1 s2 s3 s4 s5 sz lB lrx FB YA IB;obtain⟨⟨u0,u1,up,um,u4,u5⟩,uq,uc,uq2,uc2⟩:=Y;dsimp only at hB hcase;have lB:B<wy.heap.size:=ah hB;have hS:=(ae ST).both.hs.below hby;obtain⟨rv,er,tr⟩:=hS.rts p (by rw [List.length_set];exact hst);rw [List.getElem_set_self]at tr;dsimp only at tr;obtain⟨rq,rc,rfl⟩:=al tr;have c6:wy.cell? ⟨hb,6+p,none⟩=some (.slice rq l5.length rc):=(ag hS.blk).trans er;have lhx:hb<wy.heap.size:=ah hS.blk;have hBh:B≠hb:=by omega
        obtain⟨gn,hgn⟩:∃ b,(vd != 1)=b:=⟨_,rfl⟩
        have VA:=af hgn;have s0:=ag hB (o:=0);have s1:=ag hB (o:=1);have s2:=ag hB (o:=2);have s3:=ag hB (o:=3);have s4:=ag hB (o:=4);have s5:=ag hB (o:=5);have CA:=af (uk wy.drew n0 (.slice rq l5.length rc) l5 ⟨⟨u0,u1,up,um,u4,u5⟩,uq,uc,uq2,uc2⟩ gn (tr.below (aY _ _).drew) (by omega));have hmx:prog.follows .mixedOrders=true:=by kernel_rfl
        have HS:=af hS;have JB:=af hby;have YA:=af hrv;have FA:=af hcase;clear hS hby hrv hcase tr er hB;go_upto_region 43 with fail
        have HT:Hid (Below wy.heap.size wy wy.drew):=af (aY _ _).drew
        go_region_with (first
         | (go_at_call 33;refine(ae CA).mono ?_;clear CA;rintro e w7 ⟨vn,rfl,htn,hb7⟩;obtain⟨qn7,cn7,rfl⟩:=al htn;have BB:=af htn;replace HT:=af ((ae HT).trans hb7);have c9n:=(hb7.cell (p:=⟨hb,6+p,none⟩) lhx).trans c6;have fzn:w7.frozen? ⟨hb,6+p,none⟩=false:=aj ((hb7.block _ lhx).trans (ae HS).blk);clear htn hb7))
        all_goals
         have WB:Hid (∃ chk2 l2,vG n0 w0 wF (w7.setCell ⟨hb,6+p,none⟩ (.slice qn7 (oe l5 ⟨⟨u0,u1,up,um,u4,u5⟩,uq,uc,uq2,uc2⟩ gn).length cn7)) hb sb ip op pb cap w1.heap.size ch chk2 (st.set p { st[p]with rts:=l2 }) cs' ps' (.slice qp pa.length kp) (.slice qm ma.length km) (aw (cF r 3) 4) (aw (cF r 4) 5) X.1 X.2/\l2.map (·.r)=((m.nets.take (i+1)).map λ n=>(⟨n.1,n.2,m.path,m.marks,m.pref,m.med⟩:Rt)).foldl (xI mi) (m.gone.foldl wO (st[p].rts.map (·.r)))/\l2.length<=16+(i+1)):=af (by
          have hlen:=uL l5 ⟨⟨u0,u1,up,um,u4,u5⟩,uq,uc,uq2,uc2⟩ gn;have hle:(if gn=true then 0 else 1)<=1:=by split<;>omega
          have hll:=(ae LA).2;have hbA:Below Wa.heap.size Wa w7:=(ae JB).trans ((ae HT).mono (ae JB).size);refine⟨_,_,(ae ST).put hst hbA (ae BB) (ae JB).size (λ y hy=>?_) (by omega),?_,by omega⟩
          ·rcases Bb hy with hy|⟨e,rfl⟩
           ·have:=(ae ST).both.hs.rows _ (List.mem_set hst _) y (inl hy);exact⟨this.1.below hbA,this.2⟩
           ·refine⟨(ae YA).below (ae HT),?_⟩;rcases ae FA with⟨e1,e2⟩|⟨e1,_⟩
            ·have:=ae LC ⟨X.1,X.2,pa,ma,aw (cF r 3) 4,aw (cF r 4) 5⟩ (ae BA);rw [ae TB]at this;show dh ⟨u0,u1,up,um,u4,u5⟩=true;rw [e2];exact(this e1).1
            ·rw [e,bne_eq_false_iff_eq]at VA;exact absurd (ae VA) e1
          ·obtain⟨m1,m2,m3,m4⟩:=ae BC;rw [DM,List.take_succ_eq_append_getElem hil,List.map_append,List.foldl_append,<-(ae LA).1,List.map_singleton,List.foldl_cons,List.foldl_nil,ae DB,m1,m2,m3,m4];unfold xI;rw [ae TB];rcases ae FA with⟨e1,e2⟩|⟨e1,e2⟩
           ·rw [aS e1,show gn=false from by rw [<-ae VA,e1];rfl,e2]
           ·rw [aG e1,show gn=true from by rw [<-ae VA];simpa using e1,e2])
         clear ST HT BB LA DB c9n fzn HS JB YA FA TB BA BC FC VA;go_wp2_with fail;obtain⟨chk2,l2,e1,e2,e3⟩:=ae WB;exact⟨⟨i+1,chk2,l2,_,_,hil,by go_num,e1,e2,e3⟩,by simp [intOf];omega⟩
     have hie:i=m.nets.length:=by omega
     subst hie;rw [List.take_length]at hl5;have hmi:=((ae AA).pol ps[p] (ej hps)).1;have hrise:=((ae EA).sp.ok _ (ej hps)).rise
     have hperm:(l5.map (·.r)).Perm (l1.map (·.r)):=by
      rw [hl5,<-hmi];exact Ea (ae QC) (j8 _ hrise) (ua _ hrise ((ae AA).rts p hst hps))
     have hlen:l5.length=l1.length:=by have:=hperm.length_eq;rwa [List.length_map,List.length_map]at this
     obtain⟨rv,er,tr⟩:=hst5.both.hs.rts p (by rw [List.length_set];exact hst);rw [List.getElem_set_self]at tr;dsimp only at tr;obtain⟨rq,rc,rfl⟩:=al tr;have c6:wq.cell? ⟨hb,6+p,none⟩=some (.slice rq l5.length rc):=(ag hst5.both.hs.blk).trans er;have fz:∀ o,wq.frozen? ⟨hb,o,none⟩=false:=λ o=>aj hst5.both.hs.blk
     have hseen:∀(l:List Rv),∀ q∈ps.set p { ps[p]with rts:=l },q.view.length<=64:=λ l q hq=>by
      rcases List.mem_or_eq_of_mem_set hq with hq|rfl
      ·exact((ae EA).sp.ok q hq).seen
      exact((ae EA).sp.ok _ (ej hps)).seen
     obtain⟨hT,hTm,hpl',htold⟩:=ae CB;by_cases h16:16<l5.length
     ·obtain⟨e1,e2⟩:l'=[]/\ec=10:=by
       rcases ae TA with⟨_,a,b⟩|⟨a,_⟩
       ·exact⟨a,b⟩
       omega
      subst e1 e2;have h2:=hst5.put (v':=.slice none 0 0) (l2:=[]) hst (aY _ _) (i7 _ _ _ _) (aL _) (λ y hy=>by cases hy) (by simp);have hmid:=(ae AA).toMid.takes hst hps (ae UB) (l:=[]) (l':=[]) (List.Perm.refl _);have GA:=af (jZ (ae LB) (ae YB) (ae AC) h2.both hmid (hseen []) (h2.told (ae NA) hT) hTm hpl' htold);clear hst5 hl5 hev hperm hmi hrise h2 hmid hT hTm hpl' htold tr er;go_wp2_with (go_at_call 17;refine(ae GA).mono ?_;rintro e w9 ⟨rfl,ch9,st9,hb9,hi9⟩;have H9:=af (And.intro hb9 hi9);clear hb9 hi9)
      go_ret;exact⟨rfl,ch9,st9,cs',ps',(ae H9).1,(ae H9).2⟩
     obtain⟨e1,e2⟩:l'=l1/\ec=0:=by
      rcases ae TA with⟨a,_⟩|⟨_,a,b⟩
      ·omega
      exact⟨a,b⟩
     subst e1 e2;have hmid:=(ae AA).toMid.takes hst hps (ae UB) hperm;have GA:=af (jZ (ae LB) (ae YB) (ae AC) hst5.both hmid (hseen _) (hst5.told (ae NA) hT) hTm hpl' htold);clear hst5 hl5 hev hperm hmi hrise hmid hT hTm hpl' htold tr er;go_wp2_with (go_at_call 17;refine(ae GA).mono ?_;rintro e w9 ⟨rfl,ch9,st9,hb9,hi9⟩;have H9:=af (And.intro hb9 hi9);clear hb9 hi9)
     go_ret;exact⟨rfl,ch9,st9,cs',ps',(ae H9).1,(ae H9).2⟩
