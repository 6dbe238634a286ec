/- part -/
import Derived.Test.YtgdeeodifnegiaaGreatDoorRefK
set_option maxRecDepth 100000
set_option maxHeartbeats 8000000
namespace Go.Proofs.YtgdeeodifnegiaaGreatDoor
open Go.Proofs.Tryz
open Or
open Go.RowKit
namespace rf
theorem La(pb:Nat)(s:ByteArray)(f:Nat)(hf0:f<=1000000)(IH:∀ g,g<=f->LW pb s g):LY pb s (f+1):=by
 intro w st O r h hk hr;rw [jn]at hr;obtain⟨i0,hi0,hz0,hz1,hz2⟩:=info_parts Tryz.infoTree;have lp:pb<w.heap.size:=h.lt h.own;have N0:=ae (show ¬O w.heap.size from λ hk=>by have:=h.lt hk;omega);have N1:=ae (show ¬O (w.heap.size+1)from λ hk=>by have:=h.lt hk;omega);have HA:=ae ((h.alloc (.cells bj 115)).alloc (.cells (aj pK ⟨#[]⟩ 0 0 (.slice none 0 0)) 115));have GA:=ae (((bE O w).alloc (.cells bj 115)).alloc (.cells (aj pK ⟨#[]⟩ 0 0 (.slice none 0 0)) 115));have K:=ae hk;have HL:=ae hr;have JA:=ae IH;clear h hk hr IH;go_enter func173,ntmps173;go_wp2_with fail;go_loopg [4] f (λ k b4 wr=>∃(su:PS) (kids:List Tr) (kv:Value) (xs:List Value) (O1:Nat->Prop),kids.length+k<=f/\PA wr pb s su O1/\Ok s su/\Fr O w O1 wr/\wr.heap[w.heap.size]?=some (.cells bj 115 (0,0))/\wr.heap[w.heap.size+1]?=some (.cells (aj pK ⟨#[]⟩ 0 0 kv) 115 (0,0))/\¬O1 w.heap.size/\¬O1 (w.heap.size+1)/\cH wr (λ k=>O1 k\/k<=w.heap.size\/k=w.heap.size+1) kids kv xs/\((b4=.bool true/\gV s k su kids=some r)\/(b4=.bool false/\r=(su,.mk pK ⟨#[]⟩ 0 0 kids))))
 case atStart=>exact⟨st,[],_,[],O,by simp,ab HA,ab K,ab GA,(bM w _ _ _ _).1,(bM w _ _ _ _).2,ab N0,ab N1,cH.nil _ _,inl ⟨rfl,ab HL⟩⟩
 case round =>
  clear HA GA K HL N0 N1
  rename World=>WR
  obtain⟨su,kids,kv,xs,O1,hkl,hp,hk,hf,q0,q1,n0,n1,htu,hst⟩:=hrel;rcases hst with⟨rfl,hl⟩|⟨rfl,hre⟩
  ·obtain⟨g,rfl⟩:=FI hl;obtain⟨s1,x1,s2,x2,hone,hsuf,hnx⟩:=Cn hl;have HP:=ae hp;have HK:=ae hk;have HF:=ae hf;have Q0:=ae q0;have Q1:=ae q1;have NA:=ae n0;have NB:=ae n1;have TU:=ae htu;have FA:=ae hone;have EA:=ae hsuf;have KA:=ae hnx;have hzB':w.heap.size+1<WR.heap.size:=ai q1;clear hp hk hf q0 q1 n0 n1 htu hl hone hsuf hnx;go_wp2_with fail;refine(ab JA g (by omega) _ _ _ _ (ab HP) (ab HK) (ab FA)).mono ?_;rintro e w2 ⟨v,O2,rfl,hp2,hf2,ht2,hk2⟩;obtain⟨zop,ztext,zn,za,zo,zc,zl,rfl⟩:=ht2.form;have hX:WR.heap.size<=w2.heap.size:=hf2.size
   have CA:=ae (show PA (w2.alloc (.cells (aj zop ztext zn za (.slice zo zc zl)) 115)) pb s s1 O2/\Ok s s1/\Fr O1 WR O2 (w2.alloc (.cells (aj zop ztext zn za (.slice zo zc zl)) 115))/\(w2.alloc (.cells (aj zop ztext zn za (.slice zo zc zl)) 115)).heap[w2.heap.size]?=some (.cells (aj zop ztext zn za (.slice zo zc zl)) 115 (0,0))/\¬O2 w2.heap.size/\aP (w2.alloc (.cells (aj zop ztext zn za (.slice zo zc zl)) 115)) (λ k=>O2 k\/k<WR.heap.size\/k=w2.heap.size) x1 (bx zop ztext zn za (.slice zo zc zl))from
    ⟨hp2.alloc _,hk2,hf2.alloc _,cN _ _,λ h=>by(have:=hp2.lt h;omega),aP.step ((bE O2 w2).alloc _) (λ k hk=>inl hk) (λ k hk=>by
     rcases hk with h|h|h
     ·exact inl (inl h)
     ·exact inl (inr h)
     ·exact inr (by omega)) _ _ ht2⟩)
   clear hp2 hf2 ht2 hk2;go_wp2_with fail;go_loopg [6] g (λ k2 b6 wx=>∃(sx:PS) (x:Tr) (Ox:Nat->Prop) (xop xtext:ByteArray) (xn xa:Int) (xo:Option Addr) (xc xl:Nat),PA wx pb s sx Ox/\Ok s sx/\Fr O1 WR Ox wx/\wx.heap[w2.heap.size]?=some (.cells (aj xop xtext xn xa (.slice xo xc xl)) 115 (0,0))/\¬Ox w2.heap.size/\aP wx (λ k=>Ox k\/k<WR.heap.size\/k=w2.heap.size) x (bx xop xtext xn xa (.slice xo xc xl))/\((b6=.bool true/\gi s k2 sx x=some (s2,x2))\/(b6=.bool false/\sx=s2/\x=x2)))
   case atStart =>
    obtain⟨a1,a2,a3,a4,a5,a6⟩:=ab CA;exact⟨s1,x1,O2,zop,ztext,zn,za,zo,zc,zl,a1,a2,a3,a4,a5,a6,inl ⟨rfl,ab EA⟩⟩
   case round =>
    clear CA EA
    rename World=>wx
    obtain⟨sx,x,Ox,xop,xtext,xn,xa,xo,xc,xl,b1,b2,b3,b4',b5,b6,hsq⟩:=hrel;rcases hsq with⟨rfl,hsl⟩|⟨rfl,rfl,rfl⟩
    ·obtain⟨g2,rfl⟩:=F9 hsl;have LA:=ae (Cy hsl);have HY:=ae b1;have KY:=ae b2;have FY:=ae b3;have QY:=ae b4';have NY:=ae b5;have TY:=ae b6;clear b1 b2 b3 b4' b5 b6 hsl;go_wp2_with fail;go_loopg [6,7] 3 (λ k3 b6 i7 wz=>∃(i:Nat) (sy:PS) (y:Tr) (ag:Bool) (Oy:Nat->Prop) (yop ytext:ByteArray) (yn ya:Int) (yo:Option Addr) (yc yl:Nat),i+k3=3/\i7=.int .i64 i/\pG s sx x i=(sy,y,ag)/\b6=.bool ag/\PA wz pb s sy Oy/\Ok s sy/\Fr O1 WR Oy wz/\wz.heap[w2.heap.size]?=some (.cells (aj yop ytext yn ya (.slice yo yc yl)) 115 (0,0))/\¬Oy w2.heap.size/\aP wz (λ k=>Oy k\/k<WR.heap.size\/k=w2.heap.size) y (bx yop ytext yn ya (.slice yo yc yl)))
     case atStart=>exact⟨0,sx,x,false,Ox,xop,xtext,xn,xa,xo,xc,xl,by omega,rfl,rfl,rfl,ab HY,ab KY,ab FY,ab QY,ab NY,ab TY⟩
     case round =>
      clear HY KY FY QY NY TY
      rename World=>wy
      obtain⟨i,sy,y,ag,Oy,yop,ytext,yn,ya,yo,yc,yl,hik,rfl,hE,rfl,d1,d2,d3,d4,d5,d6⟩:=hrel;have HY:=ae d1;have KY:=ae d2;have FY:=ae d3;have QY:=ae d4;have NY:=ae d5;have TY:=ae d6;have HE:=ae hE;clear d1 d2 d3 d4 d5 d6 hE;rcases i with _|_|_|i
      ·
       cases hw:aT sy fK with
       | true =>
        have A1:=ae (show Calls prog 67 #[fX pb,.string fK] (wy.alloc (.cells #[.string ⟨#[42]⟩,.string ⟨#[43]⟩,.string ⟨#[63]⟩] 9)) (λ e w'=>e=.returned (.bool true)/\w'=(wy.alloc (.cells #[.string ⟨#[42]⟩,.string ⟨#[43]⟩,.string ⟨#[63]⟩] 9)))from by rw [<-hw];exact((ab HY).alloc _).is _);have BA:=ae (show pG s sx x 1=(ax s sy,.mk fK ⟨#[]⟩ 0 0 [y],true)by rw [iI s sx x (by omega:0<3)];rw [ab HE];unfold bF lM;exact aC hw);clear hw;go_wp2_with fail;refine(ab A1).mono ?_;rintro e w0 ⟨rfl,rfl⟩;go_wp2_with fail;refine(aN ((ab HY).alloc _) (ab KY)).mono ?_;rintro e w3 ⟨rfl,O3,hp3,hf3⟩;have F3:=ae (((bE Oy wy).alloc (.cells #[.string ⟨#[42]⟩,.string ⟨#[43]⟩,.string ⟨#[63]⟩] 9)).trans hf3);have H3:=ae hp3;have qX:=((ab F3).block w2.heap.size (ai (ab QY)) (ab NY)).trans (ab QY);obtain⟨t0,t1,t2,t3,t4⟩:=cX qX;have zX:∀ ob,w3.frozen? ⟨w2.heap.size,ob,none⟩=false:=λ ob=>ak qX
        have hzX:w2.heap.size<w3.heap.size:=ai qX;have AA:=ae (qy (op:=fK) (ab FY) (ab F3) hp3 (ab QY) (ab NY) hX (ab TY));clear hp3 hf3 qX;go_wp2_with fail;obtain⟨W,hW⟩:∃ W,rL w3 w2.heap.size yop ytext yn ya (.slice yo yc yl) fK=W:=⟨_,rfl⟩
        rw [hW]at AA;unfold rL fK at hW;rw [hW];go_roundg 2
        case measure=>omega
        case rel =>
         obtain⟨f1,f2,f3,f4,f5⟩:=ab AA;exact⟨1,_,_,true,O3,_,_,_,_,_,_,_,by omega,rfl,ab BA,rfl,f1,(ab KY).take,f2,f3,f4,f5⟩
       | false =>
        have A1:=ae (show Calls prog 67 #[fX pb,.string fK] (wy.alloc (.cells #[.string ⟨#[42]⟩,.string ⟨#[43]⟩,.string ⟨#[63]⟩] 9)) (λ e w'=>e=.returned (.bool false)/\w'=(wy.alloc (.cells #[.string ⟨#[42]⟩,.string ⟨#[43]⟩,.string ⟨#[63]⟩] 9)))from by rw [<-hw];exact((ab HY).alloc _).is _);have BA:=ae (show pG s sx x 1=(sy,y,ag)by rw [iI s sx x (by omega:0<3)];rw [ab HE];unfold bF lM;exact au (λ h=>absurd (hw.symm.trans h) (by simp)));clear hw;go_wp2_with fail;refine(ab A1).mono ?_;rintro e w0 ⟨rfl,rfl⟩;go_wp2_with fail;go_roundg 2
        case measure=>omega
        case rel=>exact⟨1,sy,y,ag,Oy,yop,ytext,yn,ya,yo,yc,yl,by omega,rfl,ab BA,rfl,(ab HY).alloc _,ab KY,(ab FY).alloc _,by rw [eW _ _ _ (ai (ab QY))];exact ab QY,ab NY,aP.step ((bE Oy wy).alloc _) (λ k hk=>inl hk) (λ k hk=>inl hk) _ _ (ab TY)⟩
      ·
       cases hw:aT sy dI with
       | true =>
        have A1:=ae (show Calls prog 67 #[fX pb,.string dI] (wy.alloc (.cells #[.string ⟨#[42]⟩,.string ⟨#[43]⟩,.string ⟨#[63]⟩] 9)) (λ e w'=>e=.returned (.bool true)/\w'=(wy.alloc (.cells #[.string ⟨#[42]⟩,.string ⟨#[43]⟩,.string ⟨#[63]⟩] 9)))from by rw [<-hw];exact((ab HY).alloc _).is _);have BA:=ae (show pG s sx x 2=(ax s sy,.mk dI ⟨#[]⟩ 0 0 [y],true)by rw [iI s sx x (by omega:1<3)];rw [ab HE];unfold bF lM;exact aC hw);clear hw;go_wp2_with fail;refine(ab A1).mono ?_;rintro e w0 ⟨rfl,rfl⟩;go_wp2_with fail;refine(aN ((ab HY).alloc _) (ab KY)).mono ?_;rintro e w3 ⟨rfl,O3,hp3,hf3⟩;have F3:=ae (((bE Oy wy).alloc (.cells #[.string ⟨#[42]⟩,.string ⟨#[43]⟩,.string ⟨#[63]⟩] 9)).trans hf3);have H3:=ae hp3;have qX:=((ab F3).block w2.heap.size (ai (ab QY)) (ab NY)).trans (ab QY);obtain⟨t0,t1,t2,t3,t4⟩:=cX qX;have zX:∀ ob,w3.frozen? ⟨w2.heap.size,ob,none⟩=false:=λ ob=>ak qX
        have hzX:w2.heap.size<w3.heap.size:=ai qX;have AA:=ae (qy (op:=dI) (ab FY) (ab F3) hp3 (ab QY) (ab NY) hX (ab TY));clear hp3 hf3 qX;go_wp2_with fail;obtain⟨W,hW⟩:∃ W,rL w3 w2.heap.size yop ytext yn ya (.slice yo yc yl) dI=W:=⟨_,rfl⟩
        rw [hW]at AA;unfold rL dI at hW;rw [hW];go_roundg 1
        case measure=>omega
        case rel =>
         obtain⟨f1,f2,f3,f4,f5⟩:=ab AA;exact⟨2,_,_,true,O3,_,_,_,_,_,_,_,by omega,rfl,ab BA,rfl,f1,(ab KY).take,f2,f3,f4,f5⟩
       | false =>
        have A1:=ae (show Calls prog 67 #[fX pb,.string dI] (wy.alloc (.cells #[.string ⟨#[42]⟩,.string ⟨#[43]⟩,.string ⟨#[63]⟩] 9)) (λ e w'=>e=.returned (.bool false)/\w'=(wy.alloc (.cells #[.string ⟨#[42]⟩,.string ⟨#[43]⟩,.string ⟨#[63]⟩] 9)))from by rw [<-hw];exact((ab HY).alloc _).is _);have BA:=ae (show pG s sx x 2=(sy,y,ag)by rw [iI s sx x (by omega:1<3)];rw [ab HE];unfold bF lM;exact au (λ h=>absurd (hw.symm.trans h) (by simp)));clear hw;go_wp2_with fail;refine(ab A1).mono ?_;rintro e w0 ⟨rfl,rfl⟩;go_wp2_with fail;go_roundg 1
        case measure=>omega
        case rel=>exact⟨2,sy,y,ag,Oy,yop,ytext,yn,ya,yo,yc,yl,by omega,rfl,ab BA,rfl,(ab HY).alloc _,ab KY,(ab FY).alloc _,by rw [eW _ _ _ (ai (ab QY))];exact ab QY,ab NY,aP.step ((bE Oy wy).alloc _) (λ k hk=>inl hk) (λ k hk=>inl hk) _ _ (ab TY)⟩
      ·
       cases hw:aT sy eZ with
       | true =>
        have A1:=ae (show Calls prog 67 #[fX pb,.string eZ] (wy.alloc (.cells #[.string ⟨#[42]⟩,.string ⟨#[43]⟩,.string ⟨#[63]⟩] 9)) (λ e w'=>e=.returned (.bool true)/\w'=(wy.alloc (.cells #[.string ⟨#[42]⟩,.string ⟨#[43]⟩,.string ⟨#[63]⟩] 9)))from by rw [<-hw];exact((ab HY).alloc _).is _);have BA:=ae (show pG s sx x 3=(ax s sy,.mk eZ ⟨#[]⟩ 0 0 [y],true)by rw [iI s sx x (by omega:2<3)];rw [ab HE];unfold bF lM;exact aC hw);clear hw;go_wp2_with fail;refine(ab A1).mono ?_;rintro e w0 ⟨rfl,rfl⟩;go_wp2_with fail;refine(aN ((ab HY).alloc _) (ab KY)).mono ?_;rintro e w3 ⟨rfl,O3,hp3,hf3⟩;have F3:=ae (((bE Oy wy).alloc (.cells #[.string ⟨#[42]⟩,.string ⟨#[43]⟩,.string ⟨#[63]⟩] 9)).trans hf3);have H3:=ae hp3;have qX:=((ab F3).block w2.heap.size (ai (ab QY)) (ab NY)).trans (ab QY);obtain⟨t0,t1,t2,t3,t4⟩:=cX qX;have zX:∀ ob,w3.frozen? ⟨w2.heap.size,ob,none⟩=false:=λ ob=>ak qX
        have hzX:w2.heap.size<w3.heap.size:=ai qX;have AA:=ae (qy (op:=eZ) (ab FY) (ab F3) hp3 (ab QY) (ab NY) hX (ab TY));clear hp3 hf3 qX;go_wp2_with fail;obtain⟨W,hW⟩:∃ W,rL w3 w2.heap.size yop ytext yn ya (.slice yo yc yl) eZ=W:=⟨_,rfl⟩
        rw [hW]at AA;unfold rL eZ at hW;rw [hW];go_roundg 0
        case measure=>omega
        case rel =>
         obtain⟨f1,f2,f3,f4,f5⟩:=ab AA;exact⟨3,_,_,true,O3,_,_,_,_,_,_,_,by omega,rfl,ab BA,rfl,f1,(ab KY).take,f2,f3,f4,f5⟩
       | false =>
        have A1:=ae (show Calls prog 67 #[fX pb,.string eZ] (wy.alloc (.cells #[.string ⟨#[42]⟩,.string ⟨#[43]⟩,.string ⟨#[63]⟩] 9)) (λ e w'=>e=.returned (.bool false)/\w'=(wy.alloc (.cells #[.string ⟨#[42]⟩,.string ⟨#[43]⟩,.string ⟨#[63]⟩] 9)))from by rw [<-hw];exact((ab HY).alloc _).is _);have BA:=ae (show pG s sx x 3=(sy,y,ag)by rw [iI s sx x (by omega:2<3)];rw [ab HE];unfold bF lM;exact au (λ h=>absurd (hw.symm.trans h) (by simp)));clear hw;go_wp2_with fail;refine(ab A1).mono ?_;rintro e w0 ⟨rfl,rfl⟩;go_wp2_with fail;go_roundg 0
        case measure=>omega
        case rel=>exact⟨3,sy,y,ag,Oy,yop,ytext,yn,ya,yo,yc,yl,by omega,rfl,ab BA,rfl,(ab HY).alloc _,ab KY,(ab FY).alloc _,by rw [eW _ _ _ (ai (ab QY))];exact ab QY,ab NY,aP.step ((bE Oy wy).alloc _) (λ k hk=>inl hk) (λ k hk=>inl hk) _ _ (ab TY)⟩
      ·
       obtain rfl:i=0:=by omega
       have IA:=ae (show jU s sx x=(sy,y,ag)from ab HE);clear HE;go_wp2_with fail;go_roundg g2
       case measure=>omega
       case rel =>
        have h3:=ab IA;have hsl:=ab LA;rw [h3]at hsl;refine⟨sy,y,Oy,yop,ytext,yn,ya,yo,yc,yl,ab HY,ab KY,ab FY,ab QY,ab NY,ab TY,?_⟩;rcases hsl with⟨h1,h2⟩|⟨h1,h2⟩
        ·left;exact⟨by rw [show ag=true from h1],h2⟩
        right;have h4:(s2,x2)=(sy,y):=h2;cases h4
        exact⟨by rw [show ag=false from h1],rfl,rfl⟩
    have hzX:w2.heap.size<wx.heap.size:=ai b4';have qB:=(b3.block (w.heap.size+1) hzB' (ab NB)).trans (ab Q1);have s4:wx.cell? ⟨w.heap.size+1,4,none⟩=some kv:=af qB;have hzB:w.heap.size+1<wx.heap.size:=ai qB;obtain⟨t0,t1,t2,t3,t4⟩:=cX b4';have OW:=ae (show wx.ownsRow 0 115 5 kv kids.length xs from ap (ab TU).1 (λ k hk=>b3.block k ((ab TU).1.lt k hk).2 (λ h=>(ab TU).2.1 k hk (inl h))));have T2:=ae (show aP wx (λ k=>Ox k\/k<WR.heap.size) x (bx xop xtext xn xa (.slice xo xc xl))from aP.keep (λ _ _ _=>rfl) (λ k _ h=>by rcases h with h|h;exact inl h;exact inr (inl h)) _ _ b6);have H2:=ae b1;have F2:=ae b3;have K2:=ae b2;have QB:=ae qB;have MA:=ae (show some (w.heap.size+1)≠kv.ownBlock from λ e=>(ab TU).2.1 _ e.symm (inr (inr rfl)));clear b1 b2 b3 b4' b5 b6 qB;go_wp2_with (at_builtin;refine wpList_append_lies _ rfl _ _ _ rfl 0 115 i0 _ 5 72 underlying113 hi0 hz0 hz1 hz2 rfl (by omega) kv kids.length xs rfl ((ab OW).alloc _) ⟨wx.heap.size,0,none⟩ 1 1 [.string xop,.string xtext,.int .i64 xn,.int .i64 xa,.slice xo xc xl] rfl rfl (World.news_of_block (cs:=#[.string xop,.string xtext,.int .i64 xn,.int .i64 xa,.slice xo xc xl]) (t:=115) (fr:=(0,0)) (cN wx _)) (by simp [Value.oneCell']) (by omega) (by simp [maxLen];omega) (by omega) (by omega) (wx.heap.size+1) (by simp) ?_;intro gg cap w' hown hgrow hat hlt;have qB':w'.heap[w.heap.size+1]?=some (.cells (aj pK ⟨#[]⟩ 0 0 kv) 115 (0,0)):=((hgrow.block (w.heap.size+1) (by simp;omega) (ab MA)).trans ((eW _ _ _ (by omega)).trans (ab QB)));have c4:w'.cell? ⟨w.heap.size+1,4,none⟩=some kv:=(af qB');have z4:w'.frozen? ⟨w.heap.size+1,4,none⟩=false:=(ak qB');clear qB')
    have AA:=ae (BO (ab HF) (ab F2) (ab H2) (ab Q0) (ab Q1) (ab NA) (ab NB) (by omega) (ab TU) (ab T2) hgrow hown hat);generalize hW:w'.setCell ⟨w.heap.size+1,4,none⟩ (.slice (some ⟨gg,0,none⟩) (kids.length+1) cap)=W at *;clear hW hown hgrow hat hlt c4 z4 s4 t0 t1 t2 t3 t4;obtain⟨f1,f2,f3,f4,f5,f6,f7⟩:=ab AA;have G1:=ae f1;have c1:=f1.cell.1;have c7:=f1.cell.2.1;clear AA f1;have G2:=ae f2;have G3:=ae f3;have G4:=ae f4;have G5:=ae f5;have G6:=ae f6;have G7:=ae f7;clear f2 f3 f4 f5 f6 f7;have HM:Hid (lV sx=(decide (sx.bad<0)&&(sx.next.kind==48)||aT sx jV||aT sx fu)):=rfl;have A1:=ae ((ab G1).is jV);have A2:=ae ((ab G1).is fu);generalize aT sx jV=bd at *;generalize aT sx fu=bo at *;refine(ab A1).mono ?_;rintro e w0 ⟨rfl,rfl⟩;go_wp2_with fail;refine(ab A2).mono ?_;rintro e w0 ⟨rfl,rfl⟩
    have DA:=ae (show ∀ b,lV sx=b->∃(su:PS) (kids':List Tr) (kv':Value) (xs':List Value) (O1':Nat->Prop),kids'.length+g<=f/\PA w0 pb s su O1'/\Ok s su/\Fr O w O1' w0/\w0.heap[w.heap.size]?=some (.cells bj 115 (0,0))/\w0.heap[w.heap.size+1]?=some (.cells (aj pK ⟨#[]⟩ 0 0 kv') 115 (0,0))/\¬O1' w.heap.size/\¬O1' (w.heap.size+1)/\cH w0 (λ k=>O1' k\/k<=w.heap.size\/k=w.heap.size+1) kids' kv' xs'/\((Value.bool b=.bool true/\gV s g su kids'=some r)\/(Value.bool b=.bool false/\r=(su,.mk pK ⟨#[]⟩ 0 0 kids')))from by
     intro b hb;refine⟨sx,kids++[x],_,_,Ox,by simp;omega,ab G1,ab K2,ab G2,ab G3,ab G4,ab G5,ab G6,ab G7,?_⟩;rcases ab KA with⟨h1,h2⟩|⟨h1,h2⟩
     ·left;exact⟨by rw [<-hb,h1],h2⟩
     ·right;exact⟨by rw [<-hb,h1],h2⟩)
    clear G1 G2 G3 G4 G5 G6 G7 A1 A2;by_cases hb:sx.bad<0
    ·cases hk:(sx.next.kind==48)<;>cases bd<;>cases bo <;>
      (go_wp2_with fail;go_roundg g;(case measure=>omega);(case rel=>exact ab DA _ (by rw [ab HM,jj hb,hk];rfl)))
    cases bd<;>cases bo <;>
     (go_wp2_with fail;go_roundg g;(case measure=>omega);(case rel=>exact ab DA _ (by rw [ab HM,gn (by omega)];rfl)))
  subst hre;obtain⟨r0,r1,r2,r3,r4⟩:=cX q0;have zr:∀ ob,WR.frozen? ⟨w.heap.size,ob,none⟩=false:=λ ob=>ak q0
  obtain⟨s0,s1,s2',s3,s4⟩:=cX q1;obtain⟨oo,cc,hkv⟩:=htu.form;have TU:=ae (htu.at pK ⟨#[]⟩ 0 0);clear htu;subst hkv;have HP:=ae hp;have HK:=ae hk;have HF:=ae hf;have HN:=ae n0;clear hp hk hf q0 q1 n0 n1;go_wp2_with fail;refine eO (v:=bx pK ⟨#[]⟩ 0 0 (.slice oo kids.length cc)) (by simp [results,results173,go_sem,r0,r1,r2,r3,r4]) rfl ⟨_,O1,rfl,?_,?_,?_,ab HK⟩
  ·repeat with_reducible first|refine PA.other ?_ (ab HN) _ _|refine PA.alloc ?_ _|refine PA.drew ?_|refine PA.drewN ?_ _|exact ab HP
  ·repeat with_reducible first|refine Fr.setCell ?_ (inr (aD _)) _|refine Fr.setCell ?_ (inl (ab HO)) _|refine Fr.alloc ?_ _|refine Fr.drew ?_|refine Fr.drewN ?_ _|exact ab HF|exact bE _ _
  have f0:Fr (λ k=>O1 k\/k=w.heap.size) WR (λ k=>O1 k\/k=w.heap.size) WR:=(bE O1 WR).join (λ k=>k=w.heap.size);refine aP.step (O:=λ k=>O1 k\/k=w.heap.size) (O':=λ k=>O1 k\/k=w.heap.size) (w:=WR) ?_ ?_ ?_ _ _ (ab TU)
  ·repeat with_reducible first|refine Fr.setCell ?_ (inl (inr rfl)) _|exact f0
  ·intro k hk;rcases hk with h|h
   ·exact inl h
   exact inr (inl (by omega))
  intro k hk;rcases hk with h|h
  ·exact inl (inl h)
  exact inl (inr (inl (by omega)))
theorem Nx(pb:Nat)(s:ByteArray)(f:Nat)(hf0:f<=1000000):(∀ g,g<=f->oA pb s g)/\(∀ g,g<=f->LY pb s g)/\(∀ g,g<=f->LW pb s g):=by
 induction f with
 | zero =>
  refine⟨λ g hg=>?_,λ g hg=>?_,λ g hg=>?_⟩
  ·obtain rfl:g=0:=by omega
   intro w st O r _ _ hr;rw [dq]at hr;cases hr
  ·obtain rfl:g=0:=by omega
   intro w st O r _ _ hr;rw [jn]at hr;cases hr
  obtain rfl:g=0:=by omega
  intro w st O r _ _ hr;rw [gT]at hr;cases hr
 | succ f ih =>
  have ih:=ih (by omega);refine⟨λ g hg=>?_,λ g hg=>?_,λ g hg=>?_⟩
  ·by_cases e:g=f+1
   ·subst e;exact Bt pb s f (by omega) ih.2.1
   exact ih.1 g (by omega)
  ·by_cases e:g=f+1
   ·subst e;exact La pb s f (by omega) ih.2.2
   exact ih.2.1 g (by omega)
  by_cases e:g=f+1
  ·subst e;exact KK pb s f (ih.1 f (aD _))
  exact ih.2.2 g (by omega)
def qI(pb:Nat)(s:ByteArray)(f:Nat):Prop:=∀(lv:Nat) (w:World) (st:PS) (O:Nat->Prop) (r:PS×Tr),lv<=2->PA w pb s st O->Ok s st->cQ s f lv st=some r->Calls prog 125 #[fX pb,.int .i64 lv] w (eP pb s w O r)
theorem Hb(pb:Nat)(s:ByteArray)(w:World)(st:PS)(O:Nat->Prop)(h:PA w pb s st O)(hk:Ok s st)(h0:aT st l8=false)(h1:aT st jP=false)(h2:aT st vh=true) :
  Calls prog 125 #[fX pb,.int .i64 2] w (eP pb s w O (aA s (aJ s (ax s st) AN) 110,.mk AN (aJ s (ax s st) AN).next.text 0 (aJ s (ax s st) AN).next.at_ [])):=by
 have lp:pb<w.heap.size:=h.lt h.own;have hR:PA (w.alloc (.cells bj 115)) pb s st O:=h.alloc _;have N0:=ae (show ¬O w.heap.size from λ hk=>by have:=h.lt hk;omega);have HR:=ae hR;have K:=ae hk;go_enter func125,ntmps125;go_wp2_with fail;refine((ab HR).is _).mono ?_;rintro e w0 ⟨rfl,rfl⟩;rw [show aT st { data:=#[110,111,116] }=false from h0];go_wp2_with fail;refine((ab HR).is _).mono ?_;rintro e w0 ⟨rfl,rfl⟩;rw [show aT st { data:=#[91] }=false from h1];go_wp2_with fail;refine((ab HR).is _).mono ?_;rintro e w0 ⟨rfl,rfl⟩;rw [show aT st { data:=#[110,101,116] }=true from h2];go_wp2_with fail;refine((ab HR).is _).mono ?_;rintro e w0 ⟨rfl,rfl⟩;go_wp2_with fail;refine((ab HR).is _).mono ?_;rintro e w0 ⟨rfl,rfl⟩;go_wp2_with fail;refine(dY (ab HR)).mono ?_;rintro e w0 ⟨rfl,rfl⟩;go_wp2_with fail;refine(aN (ab HR) (ab K)).mono ?_;rintro e w1 ⟨rfl,O1,hp1,hf1⟩;have H1:=ae hp1;have F1:=ae hf1;clear hp1 hf1;go_wp2_with fail;refine(dr (ab H1) (ab K).take _).mono ?_;rintro e w2 ⟨rfl,O2,hp2,hf2⟩;have H2:=ae hp2;have F2:=ae ((ab F1).trans hf2);clear hp2 hf2;go_wp2_with fail;refine(iW (ab H2) ((ab K).take.need _) _).mono ?_;rintro e w' ⟨rfl,O',hp,hf3⟩;have hf:=(ab F2).trans hf3;obtain⟨hn0,hz,r0,r1,r2,r3,r4,zr,hfw⟩:=jN hf (ab N0);have HN:=ae hn0;have HP:=ae hp;have HF:=ae hfw;clear hn0 hfw hp hf;go_wp2_with fail;refine eO (v:=bx AN (aJ s (ax s st) AN).next.text 0 (aJ s (ax s st) AN).next.at_ (.slice none 0 0)) (by simp [results,results125,go_sem,r0,r1,r2,r3,r4,hz,AN]) rfl ⟨_,O',rfl,?_,?_,aP.leaf _ _ _ _ _ _,((ab K).take.need _).kind 110⟩
 ·refine(show PA _ pb s (aA s (aJ s (ax s st) { data:=#[105,110] }) 110) O' from ?_)
  repeat with_reducible first|refine PA.other ?_ (ab HN) _ _|refine PA.alloc ?_ _|refine PA.drew ?_|refine PA.drewN ?_ _|exact ab HP
 repeat with_reducible first|refine Fr.setCell ?_ (inr (aD _)) _|refine Fr.setCell ?_ (inl (ab HO)) _|refine Fr.alloc ?_ _|refine Fr.drew ?_|refine Fr.drewN ?_ _|exact ab HF|exact bE _ _
theorem Er(pb:Nat)(s:ByteArray)(w:World)(st:PS)(O:Nat->Prop)(h:PA w pb s st O)(hk:Ok s st)(h0:aT st l8=false)(h1:aT st jP=false)(h2:aT st vh=false)(h3:aT st pJ=true) :
  Calls prog 125 #[fX pb,.int .i64 2] w (eP pb s w O (aA s (aJ s (ax s st) jd) 110,.mk jd (aJ s (ax s st) jd).next.text 0 (aJ s (ax s st) jd).next.at_ [])):=by
 have lp:pb<w.heap.size:=h.lt h.own;have hR:PA (w.alloc (.cells bj 115)) pb s st O:=h.alloc _;have N0:=ae (show ¬O w.heap.size from λ hk=>by have:=h.lt hk;omega);have HR:=ae hR;have K:=ae hk;go_enter func125,ntmps125;go_wp2_with fail;refine((ab HR).is _).mono ?_;rintro e w0 ⟨rfl,rfl⟩;rw [show aT st { data:=#[110,111,116] }=false from h0];go_wp2_with fail;refine((ab HR).is _).mono ?_;rintro e w0 ⟨rfl,rfl⟩;rw [show aT st { data:=#[91] }=false from h1];go_wp2_with fail;refine((ab HR).is _).mono ?_;rintro e w0 ⟨rfl,rfl⟩;rw [show aT st { data:=#[110,101,116] }=false from h2];go_wp2_with fail;refine((ab HR).is _).mono ?_;rintro e w0 ⟨rfl,rfl⟩;rw [show aT st { data:=#[112,97,116,104] }=true from h3];go_wp2_with fail;refine((ab HR).is _).mono ?_;rintro e w0 ⟨rfl,rfl⟩;go_wp2_with fail;refine(dY (ab HR)).mono ?_;rintro e w0 ⟨rfl,rfl⟩;go_wp2_with fail;refine(aN (ab HR) (ab K)).mono ?_;rintro e w1 ⟨rfl,O1,hp1,hf1⟩;have H1:=ae hp1;have F1:=ae hf1;clear hp1 hf1;go_wp2_with fail;refine(dr (ab H1) (ab K).take _).mono ?_;rintro e w2 ⟨rfl,O2,hp2,hf2⟩;have H2:=ae hp2;have F2:=ae ((ab F1).trans hf2);clear hp2 hf2;go_wp2_with fail;refine(iW (ab H2) ((ab K).take.need _) _).mono ?_;rintro e w' ⟨rfl,O',hp,hf3⟩;have hf:=(ab F2).trans hf3;obtain⟨hn0,hz,r0,r1,r2,r3,r4,zr,hfw⟩:=jN hf (ab N0);have HN:=ae hn0;have HP:=ae hp;have HF:=ae hfw;clear hn0 hfw hp hf;go_wp2_with fail;refine eO (v:=bx jd (aJ s (ax s st) jd).next.text 0 (aJ s (ax s st) jd).next.at_ (.slice none 0 0)) (by simp [results,results125,go_sem,r0,r1,r2,r3,r4,hz,jd]) rfl ⟨_,O',rfl,?_,?_,aP.leaf _ _ _ _ _ _,((ab K).take.need _).kind 110⟩
 ·refine(show PA _ pb s (aA s (aJ s (ax s st) { data:=#[108,105,107,101] }) 110) O' from ?_)
  repeat with_reducible first|refine PA.other ?_ (ab HN) _ _|refine PA.alloc ?_ _|refine PA.drew ?_|refine PA.drewN ?_ _|exact ab HP
 repeat with_reducible first|refine Fr.setCell ?_ (inr (aD _)) _|refine Fr.setCell ?_ (inl (ab HO)) _|refine Fr.alloc ?_ _|refine Fr.drew ?_|refine Fr.drewN ?_ _|exact ab HF|exact bE _ _
theorem yT(pb:Nat)(s:ByteArray)(w:World)(st:PS)(O:Nat->Prop)(h:PA w pb s st O)(hk:Ok s st)(h0:aT st l8=false)(h1:aT st jP=false)(h2:aT st vh=false)(h3:aT st pJ=false)(h4:aT st eo=true) :
  Calls prog 125 #[fX pb,.int .i64 2] w (eP pb s w O (aA s (ax s st) 48,.mk eo ⟨#[]⟩ (bf (ax s st).next.text 4294967295) (ax s st).next.at_ [])):=by
 have lp:pb<w.heap.size:=h.lt h.own;have hR:PA (w.alloc (.cells bj 115)) pb s st O:=h.alloc _;have N0:=ae (show ¬O w.heap.size from λ hk=>by have:=h.lt hk;omega);have HR:=ae hR;have K:=ae hk;go_enter func125,ntmps125;go_wp2_with fail;refine((ab HR).is _).mono ?_;rintro e w0 ⟨rfl,rfl⟩;rw [show aT st { data:=#[110,111,116] }=false from h0];go_wp2_with fail;refine((ab HR).is _).mono ?_;rintro e w0 ⟨rfl,rfl⟩;rw [show aT st { data:=#[91] }=false from h1];go_wp2_with fail;refine((ab HR).is _).mono ?_;rintro e w0 ⟨rfl,rfl⟩;rw [show aT st { data:=#[110,101,116] }=false from h2];go_wp2_with fail;refine((ab HR).is _).mono ?_;rintro e w0 ⟨rfl,rfl⟩;rw [show aT st { data:=#[112,97,116,104] }=false from h3];go_wp2_with fail;refine((ab HR).is _).mono ?_;rintro e w0 ⟨rfl,rfl⟩;rw [show aT st { data:=#[109,97,114,107,101,100] }=true from h4];go_wp2_with fail;refine(dY (ab HR)).mono ?_;rintro e w0 ⟨rfl,rfl⟩;go_wp2_with fail;refine(aN (ab HR) (ab K)).mono ?_;rintro e w1 ⟨rfl,O1,hp1,hf1⟩;have H1:=ae hp1;have F1:=ae hf1;clear hp1 hf1;go_wp2_with fail;refine(lu (ab H1) (ab K).take _).mono ?_;rintro e w' ⟨rfl,O',hp,hf3⟩;have hf:=(ab F1).trans hf3;obtain⟨hn0,hz,r0,r1,r2,r3,r4,zr,hfw⟩:=jN hf (ab N0);have HN:=ae hn0;have HP:=ae hp;have HF:=ae hfw;clear hn0 hfw hp hf;go_wp2_with fail;refine eO (v:=bx eo ⟨#[]⟩ (bf (ax s st).next.text 4294967295) (ax s st).next.at_ (.slice none 0 0)) (by simp [results,results125,go_sem,r0,r1,r2,r3,r4,eo]) rfl ⟨_,O',rfl,?_,?_,aP.leaf _ _ _ _ _ _,(ab K).take.kind 48⟩
 ·repeat with_reducible first|refine PA.other ?_ (ab HN) _ _|refine PA.alloc ?_ _|refine PA.drew ?_|refine PA.drewN ?_ _|exact ab HP
 repeat with_reducible first|refine Fr.setCell ?_ (inr (aD _)) _|refine Fr.setCell ?_ (inl (ab HO)) _|refine Fr.alloc ?_ _|refine Fr.drew ?_|refine Fr.drewN ?_ _|exact ab HF|exact bE _ _
theorem Eq(pb:Nat)(s:ByteArray)(w:World)(st:PS)(O:Nat->Prop)(h:PA w pb s st O)(hk:Ok s st)(h0:aT st l8=false)(h1:aT st jP=false)(h2:aT st vh=false)(h3:aT st pJ=false)(h4:aT st eo=false)(hst:fh st=false) :
  Calls prog 125 #[fX pb,.int .i64 2] w (eP pb s w O (aY st,.mk ⟨#[]⟩ ⟨#[]⟩ 0 0 [])):=by
 have lp:pb<w.heap.size:=h.lt h.own;have hR:PA (w.alloc (.cells bj 115)) pb s st O:=h.alloc _;have N0:=ae (show ¬O w.heap.size from λ hk=>by have:=h.lt hk;omega);have HR:=ae hR;have K:=ae hk;go_enter func125,ntmps125;go_wp2_with fail;refine((ab HR).is _).mono ?_;rintro e w0 ⟨rfl,rfl⟩;rw [show aT st { data:=#[110,111,116] }=false from h0];go_wp2_with fail;refine((ab HR).is _).mono ?_;rintro e w0 ⟨rfl,rfl⟩;rw [show aT st { data:=#[91] }=false from h1];go_wp2_with fail;refine((ab HR).is _).mono ?_;rintro e w0 ⟨rfl,rfl⟩;rw [show aT st { data:=#[110,101,116] }=false from h2];go_wp2_with fail;refine((ab HR).is _).mono ?_;rintro e w0 ⟨rfl,rfl⟩;rw [show aT st { data:=#[112,97,116,104] }=false from h3];go_wp2_with fail;refine((ab HR).is _).mono ?_;rintro e w0 ⟨rfl,rfl⟩;rw [show aT st { data:=#[109,97,114,107,101,100] }=false from h4];go_wp2_with fail;refine(dY (ab HR)).mono ?_;rintro e w0 ⟨rfl,rfl⟩;rw [hst];go_wp2_with fail;refine((ab HR).fail).mono ?_;rintro e w' ⟨rfl,hp,hf⟩;obtain⟨O',hO⟩:∃ O',O=O':=⟨_,rfl⟩
 rw [hO]at hp;have hf:Fr O (w.alloc (.cells bj 115)) O' w':=by rw [<-hO];exact hf
 obtain⟨hn0,hz,r0,r1,r2,r3,r4,zr,hfw⟩:=jN hf (ab N0);have HN:=ae hn0;have HP:=ae hp;have HF:=ae hfw;clear hn0 hfw hp hf;go_wp2_with fail;refine eO (v:=bx ⟨#[]⟩ ⟨#[]⟩ 0 0 (.slice none 0 0)) (by simp [results,results125,go_sem,r0,r1,r2,r3,r4]) rfl ⟨_,O',rfl,?_,?_,aP.leaf _ _ _ _ _ _,(ab K).fail⟩
 ·repeat with_reducible first|refine PA.other ?_ (ab HN) _ _|refine PA.alloc ?_ _|refine PA.drew ?_|refine PA.drewN ?_ _|exact ab HP
 repeat with_reducible first|refine Fr.setCell ?_ (inr (aD _)) _|refine Fr.setCell ?_ (inl (ab HO)) _|refine Fr.alloc ?_ _|refine Fr.drew ?_|refine Fr.drewN ?_ _|exact ab HF|exact bE _ _
theorem tt{X:World}{A B:Obj}{k:Nat}(h:X.heap.size+1=k):((X.alloc A).alloc B).heap[k]?=some B:=by
 subst h;rw [show X.heap.size+1=(X.alloc A).heap.size by simp];exact cN _ _
theorem xh(pb:Nat)(s:ByteArray)(f:Nat)(IH:qI pb s f)(w:World)(st:PS)(O:Nat->Prop)(h:PA w pb s st O)(hk:Ok s st)(h0:aT st l8=false)(h1:aT st jP=true)(st1:PS)(t:Tr)(hsum:cQ s f 0 (ax s (cx st))=some (st1,t)) :
  Calls prog 125 #[fX pb,.int .i64 2] w (eP pb s w O (p8 (aJ s st1 m7),t)):=by
 have lp:pb<w.heap.size:=h.lt h.own;have hR:PA (w.alloc (.cells bj 115)) pb s st O:=h.alloc _;have N0:=ae (show ¬O w.heap.size from λ hk=>by have:=h.lt hk;omega);have HR:=ae hR;have K:=ae hk;have AA:=ae hsum;have BA:=ae IH;clear hR h hk hsum IH;go_enter func125,ntmps125;go_wp2_with fail;refine((ab HR).is _).mono ?_;rintro e w0 ⟨rfl,rfl⟩;rw [show aT st { data:=#[110,111,116] }=false from h0];go_wp2_with fail;refine((ab HR).is _).mono ?_;rintro e w0 ⟨rfl,rfl⟩;rw [show aT st { data:=#[91] }=true from h1];go_wp2_with fail;refine((ab HR).is _).mono ?_;rintro e w0 ⟨rfl,rfl⟩;go_wp2_with fail;refine((ab HR).is _).mono ?_;rintro e w0 ⟨rfl,rfl⟩;go_wp2_with fail;refine((ab HR).is _).mono ?_;rintro e w0 ⟨rfl,rfl⟩;go_wp2_with fail;refine(dY (ab HR)).mono ?_;rintro e w0 ⟨rfl,rfl⟩;go_wp2_with fail;refine((ab HR).opens).mono ?_;rintro e w2 ⟨rfl,hp2,hf2⟩;go_wp2_with fail;refine(aN hp2 (ab K).opens).mono ?_;rintro e w3 ⟨rfl,O3,hp3,hf3⟩;have H3:=ae hp3;have F3:=ae (hf2.trans hf3);clear hp2 hf2 hp3 hf3;go_wp2_with fail;refine(ab BA 0 _ _ _ _ (by omega) (ab H3) (ab K).opens.take (ab AA)).mono ?_;rintro e w4 ⟨v,O4,rfl,hp4,hf4,ht4,hk4⟩;obtain⟨op,text,n,a,o,c,l,rfl⟩:=ht4.form;have H4:=ae hp4;have F4:=ae ((ab F3).trans hf4);have T4:=ae ht4;have K4:=ae hk4;have Z3:=ae (show w.heap.size<w3.heap.size by have:=(ab F3).size;simp at this;omega);have N4:=ae (show ¬O4 w4.heap.size from λ hk=>by have:=hp4.lt hk;omega);clear hp4 hf4 ht4 hk4;go_wp2_with fail;refine(dr ((ab H4).alloc _) (ab K4) _).mono ?_;rintro e w' ⟨rfl,O',hp,hf5⟩;have b0:w'.heap[w4.heap.size]?=some (.cells (aj op text n a (.slice o c l)) 115 (0,0)):=(hf5.block w4.heap.size (by simp) (ab N4)).trans (cN w4 _);have F5:=ae (((bE O4 w4).alloc (.cells (aj op text n a (.slice o c l)) 115)).trans hf5);have hf:=(ab F4).trans (ab F5);obtain⟨s0,s1,s2,s3,s4⟩:=cX b0;have hzb:w4.heap.size<w'.heap.size:=ai b0
 have hzc:w.heap.size<w4.heap.size:=by have:=(ab F4).size;simp at this;omega
 obtain⟨_,_,c8,zp⟩:=hp.cell;have HO:=ae hp.own;have hp:=hp.setOpn (wrap64 ((aJ s st1 ⟨#[93]⟩).opn-1));clear b0 hf5;obtain⟨hn0,hz,r0,r1,r2,r3,r4,zr,hfw⟩:=jN hf (ab N0);have HN:=ae hn0;have HP:=ae hp;have HF:=ae hfw;clear hn0 hfw hp hf;go_wp2_with fail;refine eO (v:=bx op text n a (.slice o c l)) (by simp [results,results125,go_sem,r0,r1,r2,r3,r4]) rfl ⟨_,O',rfl,?_,?_,?_,?_⟩
 ·refine(show PA _ pb s { aJ s st1 ⟨#[93]⟩with opn:=wrap64 ((aJ s st1 ⟨#[93]⟩).opn-1) } O' from ?_)
  repeat with_reducible first|refine PA.other ?_ (ab HN) _ _|refine PA.alloc ?_ _|refine PA.drew ?_|refine PA.drewN ?_ _|exact ab HP
 ·repeat with_reducible first|refine Fr.setCell ?_ (inr (aD _)) _|refine Fr.setCell ?_ (inl (ab HO)) _|refine Fr.alloc ?_ _|refine Fr.drew ?_|refine Fr.drewN ?_ _|exact ab HF|exact bE _ _
 ·refine aP.step (O:=λ k=>O4 k\/k=w.heap.size) (O':=λ k=>O' k\/k=w.heap.size) (w:=w4) ?_ ?_ ?_ t _ (ab T4)
  ·repeat with_reducible first|refine Fr.setCell ?_ (inl (inr rfl)) _|refine Fr.setCell ?_ (inl (inl (ab HO))) _|refine Fr.alloc ?_ _|refine Fr.drew ?_|refine Fr.drewN ?_ _|exact(ab F5).join _
  ·intro k hk;rcases hk with h|h
   ·exact inl h
   exact inr (by have:=ab Z3;omega)
  intro k hk;rcases hk with h|h
  ·rcases(ab F5).own k h with h1|h1
   ·exact inl (inl h1)
   exact inr h1
  exact inl (inr (by have:=ab Z3;omega))
 exact((ab K4).need _).opn _
theorem Hc(pb:Nat)(s:ByteArray)(f:Nat)(IH:qI pb s f)(w:World)(st:PS)(O:Nat->Prop)(h:PA w pb s st O)(hk:Ok s st)(h0:aT st l8=true)(st1:PS)(t:Tr)(hsum:cQ s f 2 (ax s (cx st))=some (st1,t)) :
  Calls prog 125 #[fX pb,.int .i64 2] w (eP pb s w O (p8 st1,.mk l8 ⟨#[]⟩ 0 0 [t])):=by
 have lp:pb<w.heap.size:=h.lt h.own;have hR:PA (w.alloc (.cells bj 115)) pb s st O:=h.alloc _;have N0:=ae (show ¬O w.heap.size from λ hk=>by have:=h.lt hk;omega);have HR:=ae hR;have K:=ae hk;have AA:=ae hsum;have BA:=ae IH;clear hR h hk hsum IH;go_enter func125,ntmps125;go_wp2_with fail;refine((ab HR).is _).mono ?_;rintro e w0 ⟨rfl,rfl⟩;rw [show aT st { data:=#[110,111,116] }=true from h0];go_wp2_with fail;refine((ab HR).is _).mono ?_;rintro e w0 ⟨rfl,rfl⟩;go_wp2_with fail;refine((ab HR).is _).mono ?_;rintro e w0 ⟨rfl,rfl⟩;go_wp2_with fail;refine((ab HR).is _).mono ?_;rintro e w0 ⟨rfl,rfl⟩;go_wp2_with fail;refine((ab HR).is _).mono ?_;rintro e w0 ⟨rfl,rfl⟩;go_wp2_with fail;refine(dY (ab HR)).mono ?_;rintro e w0 ⟨rfl,rfl⟩;go_wp2_with fail;refine((ab HR).opens).mono ?_;rintro e w2 ⟨rfl,hp2,hf2⟩;go_wp2_with fail;refine(aN hp2 (ab K).opens).mono ?_;rintro e w3 ⟨rfl,O3,hp3,hf3⟩;have H3:=ae hp3;have F3:=ae (hf2.trans hf3);clear hp2 hf2 hp3 hf3;go_wp2_with fail;refine(ab BA 2 _ _ _ _ (by omega) (ab H3) (ab K).opens.take (ab AA)).mono ?_;rintro e w4 ⟨v,O4,rfl,hp4,hf4,ht4,hk4⟩;obtain⟨op,text,n,a,o,c,l,rfl⟩:=ht4.form;have H4:=ae hp4;have F4:=ae ((ab F3).trans hf4);have T4:=ae ht4;have K4:=ae hk4;have Z3:=ae (show w.heap.size<w3.heap.size by have:=(ab F3).size;simp at this;omega);have N4:=ae (show ¬O4 w4.heap.size from λ hk=>by have:=hp4.lt hk;omega);clear hp4 hf4 ht4 hk4;have hp:=ab H4;have hf:=ab F4;obtain⟨w',hw'⟩:∃ w',w'=w4:=⟨_,rfl⟩
 obtain⟨O',hO'⟩:∃ O',O'=O4:=⟨_,rfl⟩
 rw [<-hw',<-hO']at hp hf;obtain⟨_,_,c8,zp⟩:=hp.cell;have HO:=ae hp.own;have lpW:pb<w'.heap.size:=hp.lt hp.own;have npW:pb≠w'.heap.size:=Nat.ne_of_lt lpW;have hp:=hp.setOpn (wrap64 (st1.opn-1));obtain⟨hn0,hz,r0,r1,r2,r3,r4,zr,hfw⟩:=jN hf (ab N0);have HN:=ae hn0;have HP:=ae hp;have HF:=ae hfw;clear hn0 hfw hp hf;subst hw';subst hO';go_wp2_with fail;have F5:=ae (bE O' w');refine eO (v:=bx l8 ⟨#[]⟩ 0 0 (.slice (some ⟨w'.heap.size+1,0,none⟩) 1 1)) (by simp [results,results125,go_sem,r0,r1,r2,r3,r4,hz,l8]) rfl ⟨_,O',rfl,?_,?_,?_,(ab K4).opn _⟩
 ·refine(show PA _ pb s { st1 with opn:=wrap64 (st1.opn-1) } O' from ?_)
  repeat with_reducible first|refine PA.other ?_ (ab HN) _ _|refine PA.alloc ?_ _|refine PA.drew ?_|refine PA.drewN ?_ _|exact ab HP
 ·repeat with_reducible first|refine Fr.setCell ?_ (inr (aD _)) _|refine Fr.setCell ?_ (inl (ab HO)) _|refine Fr.alloc ?_ _|refine Fr.drew ?_|refine Fr.drewN ?_ _|exact ab HF|exact bE _ _
 refine aP.lone (a0:=.string op) (a1:=.string text) (a2:=.int .i64 n) (a3:=.int .i64 a) (a4:=.slice o c l) ?_ ?_ ?_
 ·refine aP.step (O:=λ k=>O' k\/k=w.heap.size) (O':=λ k=>O' k\/k=w.heap.size) (w:=w') ?_ ?_ ?_ t _ (ab T4)
  ·repeat with_reducible first|refine Fr.setCell ?_ (inl (inr rfl)) _|refine Fr.setCell ?_ (inl (inl (ab HO))) _|refine Fr.alloc ?_ _|refine Fr.drew ?_|refine Fr.drewN ?_ _|exact(ab F5).join _
  ·intro k hk;rcases hk with h|h
   ·exact inl h
   exact inr (by have:=ab Z3;omega)
  intro k hk;rcases hk with h|h
  ·exact inl (inl h)
  exact inl (inr (by have:=ab Z3;omega))
 ·rw [tt (by simp [World.setCell])]
 rintro(h|h)
 ·have:=(ab H4).lt h;omega
 omega
theorem yS(pb:Nat)(s:ByteArray)(f:Nat)(IH:uJ pb s f)(w:World)(st:PS)(O:Nat->Prop)(h:PA w pb s st O)(hk:Ok s st)(h0:aT st l8=false)(h1:aT st jP=false)(h2:aT st vh=false)(h3:aT st pJ=false)(h4:aT st eo=false)(hst:fh st=true)(st1:PS)(a:Tr)(hs1:sumTw s f st=some (st1,a))(st2:PS)(b:Tr)(wd:ByteArray)(hwd:(aT st1 ku=true/\wd=ku)\/(aT st1 ku=false/\wd=jo))(hs2:sumTw s f (aJ s st1 wd)=some (st2,b)) :
  Calls prog 125 #[fX pb,.int .i64 2] w (eP pb s w O (st2,.mk wd ⟨#[]⟩ 0 0 [a,b])):=by
 rcases hwd with⟨he,hw⟩|⟨he,hw⟩
 all_goals
  rw [hw]at hs2;have lp:pb<w.heap.size:=h.lt h.own;have hR:PA (w.alloc (.cells bj 115)) pb s st O:=h.alloc _;have N0:=ae (show ¬O w.heap.size from λ hk=>by have:=h.lt hk;omega);have HR:=ae hR;have K:=ae hk;have DA:=ae hs1;have EA:=ae hs2;have BA:=ae IH;clear hR h hk hs1 hs2 IH;go_enter func125,ntmps125;go_wp2_with fail;refine((ab HR).is _).mono ?_;rintro e w0 ⟨rfl,rfl⟩;rw [show aT st { data:=#[110,111,116] }=false from h0];go_wp2_with fail;refine((ab HR).is _).mono ?_;rintro e w0 ⟨rfl,rfl⟩;rw [show aT st { data:=#[91] }=false from h1];go_wp2_with fail;refine((ab HR).is _).mono ?_;rintro e w0 ⟨rfl,rfl⟩;rw [show aT st { data:=#[110,101,116] }=false from h2];go_wp2_with fail;refine((ab HR).is _).mono ?_;rintro e w0 ⟨rfl,rfl⟩;rw [show aT st { data:=#[112,97,116,104] }=false from h3];go_wp2_with fail;refine((ab HR).is _).mono ?_;rintro e w0 ⟨rfl,rfl⟩;rw [show aT st { data:=#[109,97,114,107,101,100] }=false from h4];go_wp2_with fail;refine(dY (ab HR)).mono ?_;rintro e w0 ⟨rfl,rfl⟩;rw [hst];go_wp2_with fail;refine(ab BA _ _ _ _ (ab HR) (ab K) (ab DA)).mono ?_;rintro e w4 ⟨v,O4,rfl,hp4,hf4,ht4,hk4⟩;obtain⟨aop,atext,an,aa,ao,ac,al,rfl⟩:=ht4.form;have H4:=ae (hp4.alloc (.cells (aj aop atext an aa (.slice ao ac al)) 115));have F4:=ae hf4;have T4:=ae ht4;have K4:=ae hk4;have N4:=ae (show ¬O4 w4.heap.size from λ hk=>by have:=hp4.lt hk;omega);have A1:=ae ((hp4.alloc (.cells (aj aop atext an aa (.slice ao ac al)) 115)).is ku);clear hp4 hf4 ht4 hk4;go_wp2_with fail;refine(ab A1).mono ?_;rintro e w0 ⟨rfl,rfl⟩;rw [he];go_wp2_with fail;refine(dr (ab H4) (ab K4) _).mono ?_;rintro e w5 ⟨rfl,O5,hp5,hf5⟩;have H5:=ae hp5;have F5:=ae (((bE O4 w4).alloc (.cells (aj aop atext an aa (.slice ao ac al)) 115)).trans hf5);have Q5:=ae ((hf5.block w4.heap.size (by simp) (ab N4)).trans (cN w4 _));have hz5:w4.heap.size<w5.heap.size:=ai (ab Q5)
  have N5:=ae (show ¬O5 w4.heap.size from λ hk=>by
   rcases hf5.own _ hk with h|h
   ·exact ab N4 h
   ·simp at h;omega)
  clear hp5 hf5;go_wp2_with fail;refine(ab BA _ _ _ _ (ab H5) ((ab K4).need _) (ab EA)).mono ?_;rintro e w' ⟨v,O',rfl,hp,hf6,ht6,hk6⟩;obtain⟨bop,btext,bn,ba,bo,bc,bl,rfl⟩:=ht6.form;have b0:w'.heap[w4.heap.size]?=some (.cells (aj aop atext an aa (.slice ao ac al)) 115 (0,0)):=(hf6.block w4.heap.size hz5 (ab N5)).trans (ab Q5);obtain⟨s0,s1,s2,s3,s4⟩:=cX b0;have hzb:w4.heap.size<w'.heap.size:=ai b0;have hzc:w.heap.size<w4.heap.size:=by have:=(ab F4).size;simp at this;omega
  have F6:=ae hf6;have AA:=ae ((ab F5).trans hf6);have hf:=(ab F4).trans (ab AA);have T6:=ae ht6;have K6:=ae hk6;have CA:=ae (show ∀ k,O' k->k<w'.heap.size from λ k hk=>hp.lt hk);clear b0 hf6 ht6 hk6;obtain⟨hn0,hz,r0,r1,r2,r3,r4,zr,hfw⟩:=jN hf (ab N0);have HN:=ae hn0;have HP:=ae hp;have HF:=ae hfw;clear hn0 hfw hp hf;go_wp2_with fail;have f0:Fr (λ k=>O' k\/k=w.heap.size) w' (λ k=>O' k\/k=w.heap.size) w':=(bE O' w').join (λ k=>k=w.heap.size);refine eO (v:=bx wd ⟨#[]⟩ 0 0 (.slice (some ⟨w'.heap.size+1,0,none⟩) 2 2)) (by simp [results,results125,go_sem,r0,r1,r2,r3,r4,hz,hw,ku,jo]) rfl ⟨_,O',rfl,?_,?_,?_,ab K6⟩
  ·repeat with_reducible first|refine PA.other ?_ (ab HN) _ _|refine PA.alloc ?_ _|refine PA.drew ?_|refine PA.drewN ?_ _|exact ab HP
  ·repeat with_reducible first|refine Fr.setCell ?_ (inr (aD _)) _|refine Fr.setCell ?_ (inl (ab HO)) _|refine Fr.alloc ?_ _|refine Fr.drew ?_|refine Fr.drewN ?_ _|exact ab HF|exact bE _ _
  refine aP.pair (a0:=.string aop) (a1:=.string atext) (a2:=.int .i64 an) (a3:=.int .i64 aa) (a4:=.slice ao ac al) (b0:=.string bop) (b1:=.string btext) (b2:=.int .i64 bn) (b3:=.int .i64 ba) (b4:=.slice bo bc bl) ?_ ?_ ?_ ?_
  ·refine aP.step (O:=λ k=>O4 k\/k=w.heap.size) (O':=λ k=>O' k\/k=w.heap.size) (w:=w4) (((ab AA).join (λ k=>k=w.heap.size)).trans ?_) ?_ ?_ _ _ (ab T4)
   ·repeat with_reducible first|refine Fr.setCell ?_ (inl (inr rfl)) _|refine Fr.alloc ?_ _|exact f0
   ·intro k hk;rcases hk with h|h
    ·exact inl h
    exact inr (by simp;omega)
   intro k hk;rcases hk with h|h
   ·rcases(ab AA).own k h with h1|h1
    ·exact inl (inl h1)
    exact inr h1
   exact inl (inr (by simp;omega))
  ·refine aP.step (O:=λ k=>O' k\/k=w.heap.size) (O':=λ k=>O' k\/k=w.heap.size) (w:=w') ?_ ?_ ?_ _ _ (ab T6)
   ·repeat with_reducible first|refine Fr.setCell ?_ (inl (inr rfl)) _|refine Fr.alloc ?_ _|exact f0
   ·intro k hk;rcases hk with h|h
    ·exact inl h
    exact inr (by omega)
   intro k hk;rcases hk with h|h
   ·exact inl (inl h)
   exact inl (inr (by omega))
  ·rw [tt (by simp [World.setCell])]
  rintro(h|h)
  ·have:=ab CA _ h;omega
  omega
