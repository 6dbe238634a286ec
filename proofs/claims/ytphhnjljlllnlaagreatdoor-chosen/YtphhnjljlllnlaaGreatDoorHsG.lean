/- part -/
import Derived.Test.YtphhnjljlllnlaaGreatDoorHsF
set_option maxRecDepth 100000
set_option maxHeartbeats 16000000
namespace Go.Proofs.YtphhnjljlllnlaaGreatDoor
open Go Go.RowKit Go.Sort Go.Shelf
def sS(n0:Nat)(w0:World)(pp:Nat)(ms:List aJ):Prop:=∀ V,Below n0 w0 V->∀(r:Rt) (pv mv:Value),aA V pv r.path->aA V mv r.marks->dh r=true ->
 Calls Tryz.prog 24 #[.pointer (some ⟨pp,0,none⟩),sO r pv mv] V λ e w'=>∃ pv' mv',e=.returned (.tuple #[sO (dl ms r).1 pv' mv',.int .i64 (dl ms r).2,.int .i64 0])/\mE w' V.heap.size (dl ms r).1 pv' mv'/\Below V.heap.size V w'
def kM(ms:List aJ)(p:Int)(up:Bool)(V:List Rt)(L:List Kp):Prop:=if up then(cA ms p L).length=V.length/\∀ r∈cA ms p L,r∈V else V.length=0
theorem Cq{n0:Nat}{w0 w:World}{hb sb ip op base p:Nat}{cs:Array Value}{st:List HP}{v:Value}{L:List Kp}{ms:List aJ}(hP:sS n0 w0 op ms)(hG:gh ms)(hw:Below n0 w0 w)(hn:n0<=w.heap.size)(h:gX n0 w hb sb ip op cs st)(hK:dg w base v L)(hR:∀ x∈L,bK w x.rv/\dh x.r=true)(hLl:L.length<=600)(hp:p<st.length)(hok:kM ms p st[p].up (st[p].view.map (·.r)) L) :
  Calls Tryz.prog 9 #[.pointer (some ⟨hb,0,none⟩),.int .i64 p,v] w λ e w'=>e=.returned (.bool true)/\Below w.heap.size w w':=by
 obtain⟨q,c,rfl,hq⟩:=hK.open_;have iz0:(0:Int)<=(p:Int):=by omega
 have iz3:(p:Int)<3:=by have:=h.len;omega
 have H:=af h;have HK:=af hK;have HR:=af hR;have HQ:=af hq;have HP:=af hP;have HW:=af hw;have lhb:hb<w.heap.size:=ah h.blk;have hfew:=(h.few _ (ej hp)).2;obtain⟨up,hup⟩:∃ u,st[p].up=u:=⟨_,rfl⟩
 rw [hup]at hok;have UA:=af hup;have OA:=af hok;have HG:=af hG;clear h hK hR hok hq hP hw hup hG;go_enter Tryz.func9,Tryz.ntmps9;go_wp2
 go_loopw [7,8] (λ nn kk wr=>∃ k n:Nat,k<=L.length/\n<=k/\kk=.int .i64 k/\nn=.int .i64 n/\n=(if up then(cA ms p (L.take k)).length else 0)/\Below w.heap.size w wr) (λ _ kk _=>L.length-(intOf kk).toNat)
 case atStart=>exact⟨0,0,dG _,aL _,rfl,rfl,by cases up<;>rfl,aY _ _⟩
 case round =>
  obtain⟨k,n,hk,hnk,rfl,rfl,hnn,hbr⟩:=hrel;have hr:=(ae H).below hbr;have cu:wr.cell? ⟨hb,3+p,none⟩=some (.bool up):=(ag hr.blk).trans (by rw [hr.up p hp,ae UA]);have co:wr.cell? ⟨hb,2,none⟩=some (.pointer (some ⟨op,0,none⟩)):=(ag hr.blk).trans hr.c2;obtain⟨rv,er,tr⟩:=hr.view p hp;obtain⟨rq,rc,rfl⟩:=al tr;have c9:wr.cell? ⟨hb,9+p,none⟩=some (.slice rq st[p].view.length rc):=(ag hr.blk).trans er;have DA:=af hbr;have EA:=af hnn;by_cases hlt:k<L.length/\up=true
  ·obtain⟨hlt,rfl⟩:=hlt;obtain⟨g,rfl,hg⟩:=ae HQ (by omega);have hkr:=(ae HK).below hbr;have x0:wr.cell? ⟨g,k*7,none⟩=some (.int .i64 L[k].r.addr):=hkr.cell hlt (i:=0) (by decide);have x1:wr.cell? ⟨g,k*7+1,none⟩=some (.int .i64 L[k].r.len):=hkr.cell hlt (by decide);have x2:wr.cell? ⟨g,k*7+2,none⟩=some (.slice L[k].pq L[k].r.path.length L[k].pc):=hkr.cell hlt (by decide);have x3:wr.cell? ⟨g,k*7+3,none⟩=some (.slice L[k].mq L[k].r.marks.length L[k].mc):=hkr.cell hlt (by decide);have x4:wr.cell? ⟨g,k*7+4,none⟩=some (.int .i64 L[k].r.pref):=hkr.cell hlt (by decide);have x5:wr.cell? ⟨g,k*7+5,none⟩=some (.int .i64 L[k].r.med):=hkr.cell hlt (by decide);have x6:wr.cell? ⟨g,k*7+6,none⟩=some (.int .i64 L[k].peer):=hkr.cell hlt (by decide);obtain⟨hrx,hrok⟩:=ae HR L[k] (ej _);replace hrx:=hrx.below hbr;have hms:=uv (ms:=ms) (i:=p) hlt
   have KA:=af (show ∀ r∈cA ms p (L.take (k+1)),r∈st[p].view.map (·.r)from λ r hr=>by
    have:=(ae OA)
    unfold kM at this;rw [aS rfl]at this;refine this.2 r ?_;unfold cA at hr ⊢;obtain⟨y,hy,e⟩:=List.mem_filterMap.1 hr;exact List.mem_filterMap.2 ⟨y,List.mem_of_mem_take hy,e⟩)
   generalize L[k]=X at x0 x1 x2 x3 x4 x5 x6 hrx hrok hms;obtain⟨⟨a0,a1,ap,am,a4,a5⟩,aq,ac,aq2,ac2,a6⟩:=X;dsimp only [Kp.rv]at x0 x1 x2 x3 x4 x5 x6 hrx hrok hms;have AA:=af hms;clear hr tr er hbr hkr hms hnn;by_cases hpe:a6=p
   ·have SA:=af (show cA ms p (L.take (k+1))=cA ms p (L.take k)from by rw [ae AA,aS hpe,List.append_nil]);have hpb:(a6==(p:Int))=true:=by simpa using hpe
    clear hpe;go_wp2
    exact⟨⟨k+1,n,by omega,by omega,by go_num,rfl,by rw [ae SA];exact ae EA,ae DA⟩,by simp [intOf];omega⟩
   rw [aG hpe]at AA;have hpb:(a6==(p:Int))=false:=by simpa using hpe
   have hwr:Below n0 w0 wr:=(ae HW).trans ((ae DA).mono hn);have hsz:=(ae DA).size;have hgr:g<wr.heap.size:=by omega
   have lhr:hb<wr.heap.size:=by omega
   have CA:=af (λ(V:World) (hV:Below wr.heap.size wr V)=>ae HP V (hwr.trans (hV.mono (by omega))) ⟨a0,a1,ap,am,a4,a5⟩ _ _ ((hrx.below hV).ints hrok).1 ((hrx.below hV).ints hrok).2);have BA:=af hrok;have JA:=af ((ae HG) _ hrok);clear hpe hwr hrx hrok;obtain⟨rr,hrr⟩:∃ rr,dl ms ⟨a0,a1,ap,am,a4,a5⟩=rr:=⟨_,rfl⟩
   obtain⟨R,vd⟩:=rr;rw [hrr]at CA AA JA;clear hrr;dsimp only at CA AA BA JA;generalize ap.length=n1 at x2 CA ⊢;generalize am.length=n3 at x3 CA ⊢;go_upto_region 6 with fail
   go_cut [9,10,11] (λ v4 v5 v6 wx=>∃(B:Nat) (q1:Option Addr) (k1:Nat) (q2:Option Addr) (k2:Nat),v4=.pointer (some ⟨B,0,none⟩)/\v5=.int .i64 vd/\v6=.int .i64 0/\Below wr.heap.size wr wx/\wx.heap[B]?=some (.cells #[.int .i64 R.addr,.int .i64 R.len,.slice q1 R.path.length k1,.slice q2 R.marks.length k2,.int .i64 R.pref,.int .i64 R.med] 65 (0,0))/\bK wx ⟨R,q1,k1,q2,k2⟩)
   case first =>
    go_region_with (first
     | (go_at_call 24;refine(ae CA (wr.alloc (.cells #[.int .i64 0,.int .i64 0,.slice none 0 0,.slice none 0 0,.int .i64 0,.int .i64 0] 65)).drew ((aY _ _).alloc (aL _) _).drew (ae BA)).mono ?_;rintro e w' ⟨pv',mv',rfl,hv,hb⟩;obtain⟨q1,k1,rfl⟩:=al hv.1;obtain⟨q2,k2,rfl⟩:=al hv.2.1;have hk:w'.heap[wr.heap.size]?=some (.cells #[.int .i64 0,.int .i64 0,.slice none 0 0,.slice none 0 0,.int .i64 0,.int .i64 0] 65 (0,0)):=(hb.block _ (by simp)).trans (cM wr _);have HK:=af hk;have y0:=ag hk (o:=0);have y1:=ag hk (o:=1);have y2:=ag hk (o:=2);have y3:=ag hk (o:=3);have y4:=ag hk (o:=4);have y5:=ag hk (o:=5);have fz:∀ j,w'.frozen? ⟨wr.heap.size,j,none⟩=false:=(λ j=>by simp [World.frozen?,hk]);have LA:=af hv;have GA:=af hb;clear hv hb hk)
     | (go_at_call 24;refine(ae CA wr.drew (aY _ _).drew (ae BA)).mono ?_;rintro e w' ⟨pv',mv',rfl,hv,hb⟩;obtain⟨q1,k1,rfl⟩:=al hv.1;obtain⟨q2,k2,rfl⟩:=al hv.2.1;have LA:=af hv;have GA:=af hb;clear hv hb))
    all_goals
     go_wp2_with fail
     go_meet
     case rel =>
      first
       | (have h:=ME (ae GA) (ae HK) (ae LA);exact⟨wr.heap.size,q1,k1,q2,k2,rfl,rfl,rfl,h.1,h.2.1,h.2.2⟩)
       | (have h:=MF (ae GA) (ae LA);exact⟨w'.heap.size,q1,k1,q2,k2,rfl,rfl,rfl,h.1,h.2.1,h.2.2⟩)
   case rest =>
    obtain⟨B,q1,k1,q2,k2,rfl,rfl,rfl,hbx,hB,hrv⟩:=hcut
    rename World=>wc
    have hbwc:Below w.heap.size w wc:=(ae DA).trans (hbx.mono hsz);have HA:=af hbwc;have QA:=af hB;have TA:=af hrv;have lB:B<wc.heap.size:=ah hB;clear hbx hbwc hB hrv x0 x1 x2 x3 x4 x5 x6 CA cu co c9;by_cases hvd:vd=1
    ·subst hvd;rw [aS rfl]at AA;have hR:=(ae JA rfl).1;have PA:=af hR;have RA:=af (show R∈st[p].view.map (·.r)from ae KA R (by rw [ae AA];simp));clear hR;go_wp2
     go_loopw [12,13] (λ mi kk wx=>∃ i:Nat,i<=st[p].view.length/\kk=.int .i64 i/\mi=.bool ((st[p].view.take i).any λ y=>fl y.r R)/\Below wc.heap.size wc wx) (λ _ kk _=>st[p].view.length-(intOf kk).toNat)
     case atStart=>exact⟨0,dG _,rfl,rfl,aY _ _⟩
     case round =>
      rename World=>wx
      obtain⟨i,hi,rfl,rfl,hbx⟩:=hrel;have hbwx:Below w.heap.size w wx:=(ae HA).trans (hbx.mono (ae HA).size);have h3:=(ae H).below hbwx;obtain⟨rv,er,tr⟩:=h3.view p hp;obtain⟨rq,rc,rfl⟩:=al tr;have c9:wx.cell? ⟨hb,9+p,none⟩=some (.slice rq st[p].view.length rc):=(ag h3.blk).trans er;have lhx:hb<wx.heap.size:=ah h3.blk;have NA:=af hbx;by_cases hil:i<st[p].view.length
      ·obtain⟨g2,rfl,hg2,_⟩:=tr.atG (by omega);have hRx:=(hbx.block _ lB).trans (ae QA);have lBx:B<wx.heap.size:=ah hRx;have hyr:=h3.rows _ (ej hp) _ (Or.inr (ej hil));have hzx:=(ae TA).below hbx;have MA:Hid (∀ W':World,Below wx.heap.size wx W'->W'.cell? ⟨hb,9+p,none⟩=some (.slice (some ⟨g2,0,none⟩) st[p].view.length rc)/\W'.cell? ⟨g2,i*6,none⟩=some (.int .i64 st[p].view[i].r.addr)/\W'.cell? ⟨g2,i*6+1,none⟩=some (.int .i64 st[p].view[i].r.len)/\W'.cell? ⟨g2,i*6+2,none⟩=some (.slice st[p].view[i].pq st[p].view[i].r.path.length st[p].view[i].pc)/\W'.cell? ⟨g2,i*6+3,none⟩=some (.slice st[p].view[i].mq st[p].view[i].r.marks.length st[p].view[i].mc)/\W'.cell? ⟨g2,i*6+4,none⟩=some (.int .i64 st[p].view[i].r.pref)/\W'.cell? ⟨g2,i*6+5,none⟩=some (.int .i64 st[p].view[i].r.med)/\W'.cell? ⟨B,0,none⟩=some (.int .i64 R.addr)/\W'.cell? ⟨B,1,none⟩=some (.int .i64 R.len)/\W'.cell? ⟨B,2,none⟩=some (.slice q1 R.path.length k1)/\W'.cell? ⟨B,3,none⟩=some (.slice q2 R.marks.length k2)/\W'.cell? ⟨B,4,none⟩=some (.int .i64 R.pref)/\W'.cell? ⟨B,5,none⟩=some (.int .i64 R.med)):=af (λ W' hW=>⟨(hW.cell (p:=⟨hb,9+p,none⟩) lhx).trans c9,(hW.cell (p:=⟨g2,_,none⟩) hg2).trans (tr.cell hil (i:=0) (by decide)),(hW.cell (p:=⟨g2,_,none⟩) hg2).trans (tr.cell hil (i:=1) (by decide)),(hW.cell (p:=⟨g2,_,none⟩) hg2).trans (tr.cell hil (i:=2) (by decide)),(hW.cell (p:=⟨g2,_,none⟩) hg2).trans (tr.cell hil (i:=3) (by decide)),(hW.cell (p:=⟨g2,_,none⟩) hg2).trans (tr.cell hil (i:=4) (by decide)),(hW.cell (p:=⟨g2,_,none⟩) hg2).trans (tr.cell hil (i:=5) (by decide)),ag ((hW.block _ lBx).trans hRx),ag ((hW.block _ lBx).trans hRx),ag ((hW.block _ lBx).trans hRx),ag ((hW.block _ lBx).trans hRx),ag ((hW.block _ lBx).trans hRx),ag ((hW.block _ lBx).trans hRx)⟩)
       have SR:=af (λ(W':World) (hW:Below wx.heap.size wx W')=>kJ st[p].view[i].r R _ _ _ _ W' ((hyr.1.below hW).ints hyr.2).1 ((hyr.1.below hW).ints hyr.2).2 ((hzx.below hW).ints (ae PA)).1 ((hzx.below hW).ints (ae PA)).2);have FA:=af (show((st[p].view.take (i+1)).any λ y=>fl y.r R)=(((st[p].view.take i).any λ y=>fl y.r R)||fl st[p].view[i].r R)by rw [List.take_succ_eq_append_getElem hil,List.any_append];simp);obtain⟨sv,hsv⟩:∃ sv,fl st[p].view[i].r R=sv:=⟨_,rfl⟩
       obtain⟨th,hth⟩:∃ th,((st[p].view.take i).any λ y=>fl y.r R)=th:=⟨_,rfl⟩
       rw [hsv]at SR FA;rw [hth]at FA ⊢;have hmx:Tryz.prog.follows .mixedOrders=true:=by kernel_rfl
       clear hth hsv h3 hbx hbwx hyr hzx tr er hRx;dsimp only at SR;generalize st[p].view[i]=Y at MA SR;go_upto_region 15 with fail
       have HT:Hid (Below wx.heap.size wx wx.drew):=af (aY _ _).drew
       go_region_held3 (λ W'=>W'.cell? ⟨hb,9+p,none⟩=some (.slice (some ⟨g2,0,none⟩) st[p].view.length rc)/\W'.cell? ⟨g2,i*6,none⟩=some (.int .i64 Y.r.addr)/\W'.cell? ⟨g2,i*6+1,none⟩=some (.int .i64 Y.r.len)/\W'.cell? ⟨g2,i*6+2,none⟩=some (.slice Y.pq Y.r.path.length Y.pc)/\W'.cell? ⟨g2,i*6+3,none⟩=some (.slice Y.mq Y.r.marks.length Y.mc)/\W'.cell? ⟨g2,i*6+4,none⟩=some (.int .i64 Y.r.pref)/\W'.cell? ⟨g2,i*6+5,none⟩=some (.int .i64 Y.r.med)/\W'.cell? ⟨B,0,none⟩=some (.int .i64 R.addr)/\W'.cell? ⟨B,1,none⟩=some (.int .i64 R.len)/\W'.cell? ⟨B,2,none⟩=some (.slice q1 R.path.length k1)/\W'.cell? ⟨B,3,none⟩=some (.slice q2 R.marks.length k2)/\W'.cell? ⟨B,4,none⟩=some (.int .i64 R.pref)/\W'.cell? ⟨B,5,none⟩=some (.int .i64 R.med)) (first|(with_reducible exact ae MA _ (ae HT))) (first
        | (go_at_call 23;refine(ae SR _ (ae HT)).mono ?_;clear SR;rintro e w6 ⟨rfl,hg6⟩;replace HT:=af ((ae HT).trans (hg6.mono (ae HT).size));clear hg6))
       have IA:=af ((ae NA).trans ((ae HT).mono (ae NA).size));clear MA HT;cases th
       all_goals (go_wp2;exact⟨⟨i+1,hil,by go_num,by rw [ae FA];simp,ae IA⟩,by simp [intOf];omega⟩)
      have hie:i=st[p].view.length:=by omega
      subst hie
      have hth:((st[p].view.take st[p].view.length).any λ y=>fl y.r R)=true:=by
       obtain⟨y,hy,e⟩:=List.mem_map.1 (ae RA);rw [List.take_length];exact List.any_eq_true.2 ⟨y,hy,by rw [o4,kt];exact e⟩
      rw [hth];have IA:=af hbwx;clear hth hbx hbwx h3 tr er;go_wp2
      exact⟨⟨k+1,n+1,by omega,by omega,by go_num,by go_num,by have e:=ae EA;rw [ae AA];simp at e ⊢;omega,ae IA⟩,by simp [intOf];omega⟩
    rw [aG hvd,List.append_nil]at AA;go_wp2
    exact⟨⟨k+1,n,by omega,by omega,by go_num,rfl,by rw [ae AA];exact ae EA,ae HA⟩,by simp [intOf];omega⟩
  have hne:n=st[p].view.length:=by
   have:=ae OA;unfold kM at this;rw [List.length_map]at this;cases up with
   | true =>
    rw [aS rfl]at this hnn;have hke:k=L.length:=by simp at hlt;omega
    rw [hke,List.take_length]at hnn;omega
   | false=>rw [aG (by decide)]at this hnn;omega
  subst hne;clear hr tr er hbr hnn EA;by_cases hkl:k<L.length
  ·have hu:up=false:=by cases up with|true=>exact absurd ⟨hkl,rfl⟩ hlt|false=>rfl
   subst hu;clear hlt;go_wp2
   go_ret;exact⟨rfl,ae DA⟩
  clear hlt;go_wp2
  go_ret;exact⟨rfl,ae DA⟩
