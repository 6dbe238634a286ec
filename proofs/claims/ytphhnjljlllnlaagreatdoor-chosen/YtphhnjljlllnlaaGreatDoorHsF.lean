/- part -/
import Derived.Test.YtphhnjljlllnlaaGreatDoorHsE
set_option maxRecDepth 100000
set_option maxHeartbeats 16000000
namespace Go.Proofs.YtphhnjljlllnlaaGreatDoor
open Go.Proofs.Tryz
open Or
open Go Go.RowKit Go.Sort Go.Shelf
structure sU(R:List (List Rt))(L:List Kp):Prop where
 rise:∀ j (h:j+1<L.length),ck L[j].net L[j+1].net
 best:∀ p:Nat,p<3->∀ r∈R.getD p [],(L.any λ x=>decide (x.net=r.net))=true/\∀ x∈L,x.net=r.net->Cy r p x.r x.peer=false
 mine:∀ x∈L,∃ p:Nat,p<3/\x.peer=p/\x.r∈R.getD p []
abbrev Mv(st:List HP):List (List Rt):=st.map λ p=>p.rts.map (·.r)
theorem rg{st:List HP}{i:Nat}(h:i<st.length):(Mv st).getD i []=st[i].rts.map (·.r):=by
 unfold Mv;rw [List.getD_eq_getElem?_getD,List.getElem?_map,gW h];rfl
theorem dg.open_{w:World}{base:Nat}{v:Value}{l:List Kp}(h:dg w base v l):∃ q c,v=.slice q l.length c/\(0<l.length->∃ g,q=some ⟨g,0,none⟩/\g<w.heap.size):=by
 obtain⟨_,⟨h2,h1⟩|⟨g,c,cur,h2,_,h3,_⟩⟩:=h
 ·exact⟨none,0,by rw [h2,h1],λ h=>by omega⟩
 exact⟨_,_,h2,λ _=>⟨g,rfl,ah h3⟩⟩
theorem CJ{n0:Nat}{w:World}{hb sb ip op base:Nat}{cs:Array Value}{st:List HP}{v:Value}{L:List Kp}(h:gX n0 w hb sb ip op cs st)(hK:dg w base v L)(hR:∀ x∈L,bK w x.rv/\dh x.r=true)(hLl:L.length<=600)(hok:sU (Mv st) L) :
  Calls prog 8 #[.pointer (some ⟨hb,0,none⟩),v] w λ e w'=>e=.returned (.bool true)/\Below w.heap.size w w':=by
 obtain⟨q,c,rfl,hq⟩:=hK.open_;have H:=af h;have HK:=af hK;have HR:=af hR;have MA:=af hok;have HQ:=af hq;have lhb:hb<w.heap.size:=ah h.blk;clear h hK hR hok hq;go_enter func8,ntmps8;go_wp2
 go_loopw [5] (λ kk wr=>∃ k:Nat,1<=k/\kk=.int .i64 k/\k<=L.length+1/\Below w.heap.size w wr) (λ kk _=>L.length+1-(intOf kk).toNat)
 case atStart=>exact⟨1,aL _,rfl,by omega,aY _ _⟩
 case round =>
  obtain⟨k,hk,rfl,hkl,hbr⟩:=hrel;by_cases hlt:k<L.length
  ·obtain⟨g,rfl,hg⟩:=ae HQ (by omega);obtain⟨j,hj⟩:∃ j:Nat,k=j+1:=⟨k-1,by omega⟩
   have hkr:=(ae HK).below hbr;have hjl:j<L.length:=by omega
   have hsub:(k:Int)-1=(j:Int):=by omega
   have hwj:IntKind.i64.wrap (j:Int)=(j:Int):=by rw [IntKind.wrap_i64];omega
   have x0:wr.cell? ⟨g,j*7,none⟩=some (.int .i64 L[j].r.addr):=hkr.cell hjl (i:=0) (by decide);have x1:wr.cell? ⟨g,j*7+1,none⟩=some (.int .i64 L[j].r.len):=hkr.cell hjl (i:=1) (by decide);have y0:wr.cell? ⟨g,k*7,none⟩=some (.int .i64 L[k].r.addr):=hkr.cell hlt (i:=0) (by decide);have y1:wr.cell? ⟨g,k*7+1,none⟩=some (.int .i64 L[k].r.len):=hkr.cell hlt (i:=1) (by decide)
   have hlt2:L[j].r.addr<L[k].r.addr\/L[j].r.addr=L[k].r.addr/\L[j].r.len<L[k].r.len:=by
    subst hj;exact(ae MA).rise j hlt
   have hgr:g<wr.heap.size:=by have:=hbr.size;omega
   have HJ:=af hj;have GA:=af hbr;generalize L[j].r.addr=A1 at *;generalize L[j].r.len=A2 at *;generalize L[k].r.addr=B1 at *;generalize L[k].r.len=B2 at *;clear hj hkr hbr;have hjn:(0:Int)<=(j:Int)/\(j:Int)<L.length:=by omega
   rcases hlt2 with h1|⟨rfl,h1⟩
   ·have n1:¬(B1<A1):=by omega
    have n2:¬(A1=B1):=by omega
    go_wp2
    exact⟨⟨k+1,by omega,by go_num,by omega,(((ae GA).alloc (ae GA).size _).alloc (by have:=(ae GA).size;simp;omega) _)⟩,by simp [intOf];omega⟩
   have n1:¬(B2<=A2):=by omega
   go_wp2
   exact⟨⟨k+1,by omega,by go_num,by omega,(((ae GA).alloc (ae GA).size _).alloc (by have:=(ae GA).size;simp;omega) _)⟩,by simp [intOf];omega⟩
  have OA:=af hbr;clear hbr;go_wp2
  go_loopw [8] (λ kk wr=>∃ p:Nat,p<=3/\kk=.int .i64 p/\Below w.heap.size w wr) (λ kk _=>3-(intOf kk).toNat)
  case atStart=>exact⟨0,by omega,rfl,ae OA⟩
  case round =>
   rename World=>w2
   obtain⟨p,hp,rfl,hb2⟩:=hrel;by_cases hp3:p<3
   ·have iz0:(0:Int)<=(p:Int):=by omega
    have iz3:(p:Int)<3:=by omega
    have hpl:p<st.length:=by rw [(ae H).len];exact hp3
    have KA:=af hb2;clear hb2;go_wp2
    go_loopw [9] (λ kk wr=>∃ i:Nat,i<=st[p].rts.length/\kk=.int .i64 i/\Below w.heap.size w wr) (λ kk _=>st[p].rts.length-(intOf kk).toNat)
    case atStart=>exact⟨0,dG _,rfl,ae KA⟩
    case round =>
     rename World=>w3
     obtain⟨i,hi,rfl,hb3⟩:=hrel;have h3:=(ae H).below hb3;obtain⟨rv,er,tr⟩:=h3.rts p hpl;obtain⟨rq,rc,rfl⟩:=al tr;have c6:w3.cell? ⟨hb,6+p,none⟩=some (.slice rq st[p].rts.length rc):=(ag h3.blk).trans er;have lh3:hb<w3.heap.size:=ah h3.blk;have hfew:=(h3.few _ (ej hpl)).1;by_cases hil:i<st[p].rts.length
     ·obtain⟨g2,rfl,hg2,_⟩:=tr.atG (by omega);have y0:w3.cell? ⟨g2,i*6,none⟩=some (.int .i64 st[p].rts[i].r.addr):=tr.cell hil (i:=0) (by decide);have y1:w3.cell? ⟨g2,i*6+1,none⟩=some (.int .i64 st[p].rts[i].r.len):=tr.cell hil (i:=1) (by decide);have y2:w3.cell? ⟨g2,i*6+2,none⟩=some (.slice st[p].rts[i].pq st[p].rts[i].r.path.length st[p].rts[i].pc):=tr.cell hil (i:=2) (by decide);have y3:w3.cell? ⟨g2,i*6+3,none⟩=some (.slice st[p].rts[i].mq st[p].rts[i].r.marks.length st[p].rts[i].mc):=tr.cell hil (i:=3) (by decide);have y4:w3.cell? ⟨g2,i*6+4,none⟩=some (.int .i64 st[p].rts[i].r.pref):=tr.cell hil (i:=4) (by decide);have y5:w3.cell? ⟨g2,i*6+5,none⟩=some (.int .i64 st[p].rts[i].r.med):=tr.cell hil (i:=5) (by decide);have DA:=af ((ae MA).best p hp3 st[p].rts[i].r (by rw [rg hpl];exact List.mem_map.2 ⟨_,ej hil,rfl⟩));have IA:=af hb3;clear h3 hb3 tr er;generalize st[p].rts[i]=Y at *;obtain⟨r,pq,pc,mq,mc⟩:=Y;obtain⟨a,l,pa,ma,pr,md⟩:=r;dsimp only at *;go_wp2
      have hn4:=cM w3 (.cells #[.int .i64 a,.int .i64 l,.slice pq pa.length pc,.slice mq ma.length mc,.int .i64 pr,.int .i64 md] 65);have hb4:Below w3.heap.size w3 (w3.alloc (.cells #[.int .i64 a,.int .i64 l,.slice pq pa.length pc,.slice mq ma.length mc,.int .i64 pr,.int .i64 md] 65)):=(aY _ _).alloc (aL _) _;generalize w3.alloc (.cells #[.int .i64 a,.int .i64 l,.slice pq pa.length pc,.slice mq ma.length mc,.int .i64 pr,.int .i64 md] 65)=W4 at hn4 hb4 ⊢;have hbw4:Below w.heap.size w W4:=(ae IA).trans (hb4.mono (ae IA).size);have lr:w3.heap.size<W4.heap.size:=ah hn4;have HA:=af hbw4;have QA:=af hn4;clear hn4 hb4 hbw4 y0 y1 y2 y3 y4 y5 c6;go_loopw [11,12] (λ th kk wx=>∃ k:Nat,k<=L.length/\kk=.int .i64 k/\th=.bool ((L.take k).any λ x=>decide (x.net=(a,l)))/\Below W4.heap.size W4 wx) (λ _ kk _=>L.length-(intOf kk).toNat)
      case atStart=>exact⟨0,dG _,rfl,rfl,aY _ _⟩
      case round =>
       rename World=>wx
       obtain⟨k4,hk4,rfl,rfl,hbx⟩:=hrel;have hbwx:Below w.heap.size w wx:=(ae HA).trans (hbx.mono (ae HA).size);have hRx:=(hbx.block _ lr).trans (ae QA);have lrx:w3.heap.size<wx.heap.size:=ah hRx;have EA:=af hbx;by_cases hkl4:k4<L.length
       ·obtain⟨g,rfl,hg⟩:=ae HQ (by omega);have hkx:=(ae HK).below hbwx;have hgx:g<wx.heap.size:=by have:=hbwx.size;omega
        have CA:Hid (∀ W':World,Below wx.heap.size wx W'->W'.cell? ⟨g,k4*7,none⟩=some (.int .i64 L[k4].r.addr)/\W'.cell? ⟨g,k4*7+1,none⟩=some (.int .i64 L[k4].r.len)/\W'.cell? ⟨g,k4*7+2,none⟩=some (.slice L[k4].pq L[k4].r.path.length L[k4].pc)/\W'.cell? ⟨g,k4*7+3,none⟩=some (.slice L[k4].mq L[k4].r.marks.length L[k4].mc)/\W'.cell? ⟨g,k4*7+4,none⟩=some (.int .i64 L[k4].r.pref)/\W'.cell? ⟨g,k4*7+5,none⟩=some (.int .i64 L[k4].r.med)/\W'.cell? ⟨g,k4*7+6,none⟩=some (.int .i64 L[k4].peer)/\W'.cell? ⟨w3.heap.size,0,none⟩=some (.int .i64 a)/\W'.cell? ⟨w3.heap.size,1,none⟩=some (.int .i64 l)/\W'.cell? ⟨w3.heap.size,2,none⟩=some (.slice pq pa.length pc)/\W'.cell? ⟨w3.heap.size,3,none⟩=some (.slice mq ma.length mc)/\W'.cell? ⟨w3.heap.size,4,none⟩=some (.int .i64 pr)/\W'.cell? ⟨w3.heap.size,5,none⟩=some (.int .i64 md)):=af (λ W' hW=>⟨(hW.cell (p:=⟨g,_,none⟩) hgx).trans (hkx.cell hkl4 (i:=0) (by decide)),(hW.cell (p:=⟨g,_,none⟩) hgx).trans (hkx.cell hkl4 (i:=1) (by decide)),(hW.cell (p:=⟨g,_,none⟩) hgx).trans (hkx.cell hkl4 (i:=2) (by decide)),(hW.cell (p:=⟨g,_,none⟩) hgx).trans (hkx.cell hkl4 (i:=3) (by decide)),(hW.cell (p:=⟨g,_,none⟩) hgx).trans (hkx.cell hkl4 (i:=4) (by decide)),(hW.cell (p:=⟨g,_,none⟩) hgx).trans (hkx.cell hkl4 (i:=5) (by decide)),(hW.cell (p:=⟨g,_,none⟩) hgx).trans (hkx.cell hkl4 (i:=6) (by decide)),(ag ((hW.block _ lrx).trans hRx)),(ag ((hW.block _ lrx).trans hRx)),(ag ((hW.block _ lrx).trans hRx)),(ag ((hW.block _ lrx).trans hRx)),(ag ((hW.block _ lrx).trans hRx)),(ag ((hW.block _ lrx).trans hRx))⟩);have AA:=af (show((L.take (k4+1)).any λ x=>decide (x.net=(a,l)))=(((L.take k4).any λ x=>decide (x.net=(a,l)))||decide (L[k4].net=(a,l)))by rw [List.take_succ_eq_append_getElem hkl4,List.any_append];simp)
        obtain⟨nb,HC,hnb⟩:∃ c:Bool,(∀ W:World,Calls prog 21 #[.agg #[.int .i64 L[k4].r.addr,.int .i64 L[k4].r.len],.agg #[.int .i64 a,.int .i64 l]] W λ e w'=>e=.returned (.bool c)/\Below W.heap.size W w')/\decide (L[k4].net=(a,l))=c:=⟨decide (L[k4].net=(a,l)),λ W=>jr L[k4].net (a,l) W,rfl⟩
        have BA:=af (λ(W:World)=>Cz ⟨a,l,pa,ma,pr,md⟩ L[k4].r pq mq L[k4].pq L[k4].mq pc mc L[k4].pc L[k4].mc p L[k4].peer W);have JA:Hid (nb=true->Cy ⟨a,l,pa,ma,pr,md⟩ p L[k4].r L[k4].peer=false):=af (λ e=>(ae DA).2 L[k4] (ej _) (of_decide_eq_true (hnb.trans e)));rw [hnb]at AA;have NA:=af HC;obtain⟨th,hth⟩:∃ th,((L.take k4).any λ x=>decide (x.net=(a,l)))=th:=⟨_,rfl⟩
        rw [hth]at AA;rw [hth];have hmx:prog.follows .mixedOrders=true:=by kernel_rfl
        clear hth hnb HC hkx hRx hbx hbwx;generalize L[k4]=Z at *;go_upto_region 19 with fail
        have HT:Hid (Below wx.heap.size wx wx.drew):=af (aY _ _).drew
        go_region_held3 (λ W'=>W'.cell? ⟨g,k4*7,none⟩=some (.int .i64 Z.r.addr)/\W'.cell? ⟨g,k4*7+1,none⟩=some (.int .i64 Z.r.len)/\W'.cell? ⟨g,k4*7+2,none⟩=some (.slice Z.pq Z.r.path.length Z.pc)/\W'.cell? ⟨g,k4*7+3,none⟩=some (.slice Z.mq Z.r.marks.length Z.mc)/\W'.cell? ⟨g,k4*7+4,none⟩=some (.int .i64 Z.r.pref)/\W'.cell? ⟨g,k4*7+5,none⟩=some (.int .i64 Z.r.med)/\W'.cell? ⟨g,k4*7+6,none⟩=some (.int .i64 Z.peer)/\W'.cell? ⟨w3.heap.size,0,none⟩=some (.int .i64 a)/\W'.cell? ⟨w3.heap.size,1,none⟩=some (.int .i64 l)/\W'.cell? ⟨w3.heap.size,2,none⟩=some (.slice pq pa.length pc)/\W'.cell? ⟨w3.heap.size,3,none⟩=some (.slice mq ma.length mc)/\W'.cell? ⟨w3.heap.size,4,none⟩=some (.int .i64 pr)/\W'.cell? ⟨w3.heap.size,5,none⟩=some (.int .i64 md)) (first|(with_reducible exact ae CA _ (ae HT))) (first
         | (go_at_call 21;refine(ae NA _).mono ?_;clear NA;rintro e w6 ⟨rfl,hg6⟩;replace HT:=af ((ae HT).trans (hg6.mono (ae HT).size));clear hg6))
        rename World=>w5
        cases nb
        ·have FA:=af ((ae EA).trans ((ae HT).mono (ae EA).size));clear CA BA HT JA;go_wp2
         exact⟨⟨k4+1,hkl4,by go_num,by rw [ae AA,Bool.or_false],ae FA⟩,by simp [intOf];omega⟩
        replace JA:=af (ae JA rfl);rw [ae JA]at BA;go_upto_region 22 with fail
        replace HT:Hid (Below wx.heap.size wx w5.drew):=af (ae HT).drew
        go_region_held3 (λ W'=>W'.cell? ⟨g,k4*7,none⟩=some (.int .i64 Z.r.addr)/\W'.cell? ⟨g,k4*7+1,none⟩=some (.int .i64 Z.r.len)/\W'.cell? ⟨g,k4*7+2,none⟩=some (.slice Z.pq Z.r.path.length Z.pc)/\W'.cell? ⟨g,k4*7+3,none⟩=some (.slice Z.mq Z.r.marks.length Z.mc)/\W'.cell? ⟨g,k4*7+4,none⟩=some (.int .i64 Z.r.pref)/\W'.cell? ⟨g,k4*7+5,none⟩=some (.int .i64 Z.r.med)/\W'.cell? ⟨g,k4*7+6,none⟩=some (.int .i64 Z.peer)/\W'.cell? ⟨w3.heap.size,0,none⟩=some (.int .i64 a)/\W'.cell? ⟨w3.heap.size,1,none⟩=some (.int .i64 l)/\W'.cell? ⟨w3.heap.size,2,none⟩=some (.slice pq pa.length pc)/\W'.cell? ⟨w3.heap.size,3,none⟩=some (.slice mq ma.length mc)/\W'.cell? ⟨w3.heap.size,4,none⟩=some (.int .i64 pr)/\W'.cell? ⟨w3.heap.size,5,none⟩=some (.int .i64 md)) (first|(with_reducible exact ae CA _ (ae HT))) (first
         | (go_at_call 22;refine(ae BA _).mono ?_;clear BA;rintro e w6 ⟨rfl,hg6⟩;replace HT:=af ((ae HT).trans (hg6.mono (ae HT).size));clear hg6))
        have FA:=af ((ae EA).trans ((ae HT).mono (ae EA).size));clear CA HT;go_wp2
        exact⟨⟨k4+1,hkl4,by go_num,by rw [ae AA,Bool.or_true],ae FA⟩,by simp [intOf];omega⟩
       have hke:k4=L.length:=by omega
       subst hke;have hth:((L.take L.length).any λ x=>decide (x.net=(a,l)))=true:=by rw [List.take_length];exact(ae DA).1
       rw [hth];have FA:=af hbwx;clear hth hbx hbwx hRx;go_wp2
       exact⟨⟨i+1,hil,by go_num,ae FA⟩,by simp [intOf];omega⟩
     have IA:=af hb3;clear h3 hb3 tr er;go_wp2
     exact⟨⟨p+1,by omega,by go_num,ae IA⟩,by simp [intOf];omega⟩
   have KA:=af hb2;clear hb2;go_wp2
   go_loopw [15] (λ kk wr=>∃ k:Nat,k<=L.length/\kk=.int .i64 k/\Below w.heap.size w wr) (λ kk _=>L.length-(intOf kk).toNat)
   case atStart=>exact⟨0,dG _,rfl,ae KA⟩
   case round =>
    rename World=>w5
    obtain⟨k5,hk5,rfl,hb5⟩:=hrel;by_cases hkl5:k5<L.length
    ·obtain⟨g,rfl,hg⟩:=ae HQ (by omega);obtain⟨p,hp3,hpe,hmem⟩:=(ae MA).mine L[k5] (ej _);have c6:w5.cell? ⟨g,k5*7+6,none⟩=some (.int .i64 L[k5].peer):=((ae HK).below hb5).cell hkl5 (i:=6) (by decide);rw [hpe]at c6;have iz0:(0:Int)<=(p:Int):=by omega
     have iz3:(p:Int)<3:=by omega
     have hpl:p<st.length:=by rw [(ae H).len];exact hp3
     have LA:=af hb5;have PA:=af hmem;clear hb5 hmem hpe;go_wp2
     clear c6;go_loopw [17,18] (λ mi kk wx=>∃ i:Nat,i<=st[p].rts.length/\kk=.int .i64 i/\mi=.bool ((st[p].rts.take i).any λ y=>fl y.r L[k5].r)/\Below w.heap.size w wx) (λ _ kk _=>st[p].rts.length-(intOf kk).toNat)
     case atStart=>exact⟨0,dG _,rfl,rfl,ae LA⟩
     case round =>
      rename World=>wx
      obtain⟨i,hi,rfl,rfl,hbx⟩:=hrel;have h3:=(ae H).below hbx;obtain⟨rv,er,tr⟩:=h3.rts p hpl;obtain⟨rq,rc,rfl⟩:=al tr;have c6:wx.cell? ⟨hb,6+p,none⟩=some (.slice rq st[p].rts.length rc):=(ag h3.blk).trans er;have lhx:hb<wx.heap.size:=ah h3.blk;have hfew:=(h3.few _ (ej hpl)).1;have EA:=af hbx;by_cases hil:i<st[p].rts.length
      ·obtain⟨g2,rfl,hg2,_⟩:=tr.atG (by omega);have hkx:=(ae HK).below hbx;have hgx:g<wx.heap.size:=by have:=hbx.size;omega
       have hyr:=h3.rows _ (ej hpl) _ (inl (ej hil));have hzr:=ae HR L[k5] (ej _);have hzx:=hzr.1.below hbx
       have CA:Hid (∀ W':World,Below wx.heap.size wx W'->W'.cell? ⟨hb,6+p,none⟩=some (.slice (some ⟨g2,0,none⟩) st[p].rts.length rc)/\W'.cell? ⟨g2,i*6,none⟩=some (.int .i64 st[p].rts[i].r.addr)/\W'.cell? ⟨g2,i*6+1,none⟩=some (.int .i64 st[p].rts[i].r.len)/\W'.cell? ⟨g2,i*6+2,none⟩=some (.slice st[p].rts[i].pq st[p].rts[i].r.path.length st[p].rts[i].pc)/\W'.cell? ⟨g2,i*6+3,none⟩=some (.slice st[p].rts[i].mq st[p].rts[i].r.marks.length st[p].rts[i].mc)/\W'.cell? ⟨g2,i*6+4,none⟩=some (.int .i64 st[p].rts[i].r.pref)/\W'.cell? ⟨g2,i*6+5,none⟩=some (.int .i64 st[p].rts[i].r.med)/\W'.cell? ⟨g,k5*7,none⟩=some (.int .i64 L[k5].r.addr)/\W'.cell? ⟨g,k5*7+1,none⟩=some (.int .i64 L[k5].r.len)/\W'.cell? ⟨g,k5*7+2,none⟩=some (.slice L[k5].pq L[k5].r.path.length L[k5].pc)/\W'.cell? ⟨g,k5*7+3,none⟩=some (.slice L[k5].mq L[k5].r.marks.length L[k5].mc)/\W'.cell? ⟨g,k5*7+4,none⟩=some (.int .i64 L[k5].r.pref)/\W'.cell? ⟨g,k5*7+5,none⟩=some (.int .i64 L[k5].r.med)):=af (λ W' hW=>⟨(hW.cell (p:=⟨hb,6+p,none⟩) lhx).trans c6,(hW.cell (p:=⟨g2,_,none⟩) hg2).trans (tr.cell hil (i:=0) (by decide)),(hW.cell (p:=⟨g2,_,none⟩) hg2).trans (tr.cell hil (i:=1) (by decide)),(hW.cell (p:=⟨g2,_,none⟩) hg2).trans (tr.cell hil (i:=2) (by decide)),(hW.cell (p:=⟨g2,_,none⟩) hg2).trans (tr.cell hil (i:=3) (by decide)),(hW.cell (p:=⟨g2,_,none⟩) hg2).trans (tr.cell hil (i:=4) (by decide)),(hW.cell (p:=⟨g2,_,none⟩) hg2).trans (tr.cell hil (i:=5) (by decide)),(hW.cell (p:=⟨g,_,none⟩) hgx).trans (hkx.cell hkl5 (i:=0) (by decide)),(hW.cell (p:=⟨g,_,none⟩) hgx).trans (hkx.cell hkl5 (i:=1) (by decide)),(hW.cell (p:=⟨g,_,none⟩) hgx).trans (hkx.cell hkl5 (i:=2) (by decide)),(hW.cell (p:=⟨g,_,none⟩) hgx).trans (hkx.cell hkl5 (i:=3) (by decide)),(hW.cell (p:=⟨g,_,none⟩) hgx).trans (hkx.cell hkl5 (i:=4) (by decide)),(hW.cell (p:=⟨g,_,none⟩) hgx).trans (hkx.cell hkl5 (i:=5) (by decide))⟩)
       have SR:=af (λ(W':World) (hW:Below wx.heap.size wx W')=>kJ st[p].rts[i].r L[k5].r _ _ _ _ W' ((hyr.1.below hW).ints hyr.2).1 ((hyr.1.below hW).ints hyr.2).2 ((hzx.below hW).ints hzr.2).1 ((hzx.below hW).ints hzr.2).2);have AA:=af (show((st[p].rts.take (i+1)).any λ y=>fl y.r L[k5].r)=(((st[p].rts.take i).any λ y=>fl y.r L[k5].r)||fl st[p].rts[i].r L[k5].r)by rw [List.take_succ_eq_append_getElem hil,List.any_append];simp);obtain⟨sv,hsv⟩:∃ sv,fl st[p].rts[i].r L[k5].r=sv:=⟨_,rfl⟩
       obtain⟨th,hth⟩:∃ th,((st[p].rts.take i).any λ y=>fl y.r L[k5].r)=th:=⟨_,rfl⟩
       rw [hsv]at SR AA;rw [hth]at AA ⊢;have hmx:prog.follows .mixedOrders=true:=by kernel_rfl
       clear hth hsv hkx h3 hbx hyr hzr hzx tr er;dsimp only [Kp.rv]at SR;generalize st[p].rts[i]=Y at CA SR;generalize L[k5]=Z at CA SR AA ⊢;go_upto_region 35 with fail
       have HT:Hid (Below wx.heap.size wx wx.drew):=af (aY _ _).drew
       go_region_held3 (λ W'=>W'.cell? ⟨hb,6+p,none⟩=some (.slice (some ⟨g2,0,none⟩) st[p].rts.length rc)/\W'.cell? ⟨g2,i*6,none⟩=some (.int .i64 Y.r.addr)/\W'.cell? ⟨g2,i*6+1,none⟩=some (.int .i64 Y.r.len)/\W'.cell? ⟨g2,i*6+2,none⟩=some (.slice Y.pq Y.r.path.length Y.pc)/\W'.cell? ⟨g2,i*6+3,none⟩=some (.slice Y.mq Y.r.marks.length Y.mc)/\W'.cell? ⟨g2,i*6+4,none⟩=some (.int .i64 Y.r.pref)/\W'.cell? ⟨g2,i*6+5,none⟩=some (.int .i64 Y.r.med)/\W'.cell? ⟨g,k5*7,none⟩=some (.int .i64 Z.r.addr)/\W'.cell? ⟨g,k5*7+1,none⟩=some (.int .i64 Z.r.len)/\W'.cell? ⟨g,k5*7+2,none⟩=some (.slice Z.pq Z.r.path.length Z.pc)/\W'.cell? ⟨g,k5*7+3,none⟩=some (.slice Z.mq Z.r.marks.length Z.mc)/\W'.cell? ⟨g,k5*7+4,none⟩=some (.int .i64 Z.r.pref)/\W'.cell? ⟨g,k5*7+5,none⟩=some (.int .i64 Z.r.med)) (first|(with_reducible exact ae CA _ (ae HT))) (first
        | (go_at_call 23;refine(ae SR _ (ae HT)).mono ?_;clear SR;rintro e w6 ⟨rfl,hg6⟩;replace HT:=af ((ae HT).trans (hg6.mono (ae HT).size));clear hg6))
       have FA:=af ((ae EA).trans ((ae HT).mono (ae EA).size));clear CA HT;cases th
       all_goals (go_wp2;exact⟨⟨i+1,hil,by go_num,by rw [ae AA];simp,ae FA⟩,by simp [intOf];omega⟩)
      have hie:i=st[p].rts.length:=by omega
      subst hie
      have hth:((st[p].rts.take st[p].rts.length).any λ y=>fl y.r L[k5].r)=true:=by
       have hm:=ae PA;rw [rg hpl]at hm;obtain⟨y,hy,e⟩:=List.mem_map.1 hm;rw [List.take_length];exact List.any_eq_true.2 ⟨y,hy,by rw [o4,kt];exact e⟩
      rw [hth];clear hth hbx h3 tr er;go_wp2
      exact⟨⟨k5+1,hkl5,by go_num,ae EA⟩,by simp [intOf];omega⟩
    have LA:=af hb5;clear hb5;go_wp2
    go_ret;exact⟨rfl,ae LA⟩
