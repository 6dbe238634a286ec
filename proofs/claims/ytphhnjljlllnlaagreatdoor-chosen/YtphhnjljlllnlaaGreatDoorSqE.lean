/- part -/
import Derived.Test.YtphhnjljlllnlaaGreatDoorSqK
set_option maxRecDepth 100000
set_option maxHeartbeats 8000000
namespace Go.Proofs.YtphhnjljlllnlaaGreatDoor
open Go.RowKit Go.Sort
def Kp.rv(x:Kp):Rv:=⟨x.r,x.pq,x.pc,x.mq,x.mc⟩
def cA(ms:List aJ)(i:Int)(best:List Kp):List Rt:=best.filterMap λ k=>if k.peer=i then none else if(dl ms k.r).2=1 then some (dl ms k.r).1 else none
theorem uv{ms:List aJ}{i:Int}{best:List Kp}{k:Nat}(h:k<best.length):cA ms i (best.take (k+1))=cA ms i (best.take k)++(if best[k].peer=i then []else if(dl ms best[k].r).2=1 then [(dl ms best[k].r).1]else []):=by
 unfold cA;rw [List.take_succ_eq_append_getElem h,List.filterMap_append]
 congr 1
 simp only [List.filterMap_cons,List.filterMap_nil];split
 ·rename_i e;split at e
  ·rename_i h1;rw [aS h1]
  rename_i h1;rw [aG h1];split at e
  ·cases e
  rename_i h2;rw [aG h2]
 rename_i b e;split at e
 ·cases e
 rename_i h1;rw [aG h1];split at e
 ·rename_i h2;rw [aS h2];cases e;rfl
 cases e
theorem yD{n0:Nat}{w0:World}{p:ByteArray}{sv:Value}{ms:List aJ}(hP:qH n0 w0 p sv ms)(w:World)(hw:Below n0 w0 w)(hn:n0<=w.heap.size)(b o:Nat)(cs:Array Value)(T:TypeId)(hb:w.heap[b]?=some (.cells cs T (0,0)))(hv0:cs[o+2]?=some (.string p))(hv1:cs[o+3]?=some sv)
  (number:Int) (best:List Kp) (base:Nat) (bv:Value) (hbest:dg w base bv best) (hbl:best.length<=1000) (hx:∀ k∈best,bK w k.rv) (hok:∀ k∈best,dh k.r=true) :
  Calls Tryz.prog 71 #[.pointer (some ⟨b,o,none⟩),.int .i64 number,bv] w λ e w'=>∃ v l,e=.returned v/\bS w' w.heap.size v l/\l.map (·.r)=cA ms number best/\(∀ y∈l,bK w' y)/\Below w.heap.size w w':=by
 obtain⟨i0,hi0,hz0,hz1,hz2⟩:=info_parts Tryz.infoRt;have lb:b<w.heap.size:=ah hb;obtain⟨bq,bc,rfl⟩:=al hbest;have OA:=af hbest;have HP:=af hP;have HW:=af hw;have HB:=af hb;have RA:=af hv0;have HA:=af hv1;have HX:=af hx;have PA:=af hok;clear hbest hP hw hb hv0 hv1 hx hok;go_enter Tryz.func71,Tryz.ntmps71;go_wp2
 go_loopw [7,14] (λ v7 i wr=>∃(k:Nat) (l:List Rv),k<=best.length/\i=.int .i64 k/\bS wr w.heap.size v7 l/\l.map (·.r)=cA ms number (best.take k)/\l.length<=k/\(∀ y∈l,bK wr y)/\Below w.heap.size w wr) (λ _ i _=>best.length-(intOf i).toNat)
 case atStart=>exact⟨0,[],dG _,rfl,i7 _ _ _ _,rfl,aL _,λ y hy=>(by cases hy),aY _ _⟩
 case round =>
  obtain⟨k,l,hk,rfl,htv,hmp,hll,hal,hbe⟩:=hrel;by_cases hlt:k<best.length
  ·have hKr:=(ae OA).below hbe
   obtain⟨g,rfl⟩:∃ g,bq=some ⟨g,0,none⟩:=by
    obtain⟨_,⟨_,h2⟩|⟨g',c,cur,h2,_⟩⟩:=hKr
    ·omega
    cases h2;exact⟨g',rfl⟩
   have x0:wr.cell? ⟨g,k*7,none⟩=some (.int .i64 best[k].r.addr):=hKr.cell hlt (i:=0) (by decide);have x1:wr.cell? ⟨g,k*7+1,none⟩=some (.int .i64 best[k].r.len):=hKr.cell hlt (by decide);have x2:wr.cell? ⟨g,k*7+2,none⟩=some (.slice best[k].pq best[k].r.path.length best[k].pc):=hKr.cell hlt (by decide);have x3:wr.cell? ⟨g,k*7+3,none⟩=some (.slice best[k].mq best[k].r.marks.length best[k].mc):=hKr.cell hlt (by decide);have x4:wr.cell? ⟨g,k*7+4,none⟩=some (.int .i64 best[k].r.pref):=hKr.cell hlt (by decide);have x5:wr.cell? ⟨g,k*7+5,none⟩=some (.int .i64 best[k].r.med):=hKr.cell hlt (by decide);have x6:wr.cell? ⟨g,k*7+6,none⟩=some (.int .i64 best[k].peer):=hKr.cell hlt (by decide);have hrx:bK wr best[k].rv:=(ae HX _ (ej hlt)).below hbe;have hrok:=ae PA _ (ej hlt);have hms:=uv (ms:=ms) (i:=number) hlt;generalize best[k]=X at x0 x1 x2 x3 x4 x5 x6 hrx hrok hms;obtain⟨⟨a0,a1,ap,am,a4,a5⟩,aq,ac,aq2,ac2,a6⟩:=X;dsimp only [Kp.rv]at x0 x1 x2 x3 x4 x5 x6 hrx hrok hms;have MA:=af htv;have GA:=af hmp;have IA:=af hal;have JA:=af hbe;have DA:=af hms;clear htv hmp hal hbe hKr hms;go_upto_region 5 with fail
   have hb1:Below wr.heap.size wr (wr.alloc (.cells #[.int .i64 a0,.int .i64 a1,.slice aq ap.length ac,.slice aq2 am.length ac2,.int .i64 a4,.int .i64 a5,.int .i64 a6] 67)):=(aY _ _).alloc (aL _) _;have hnw:=cM wr (.cells #[.int .i64 a0,.int .i64 a1,.slice aq ap.length ac,.slice aq2 am.length ac2,.int .i64 a4,.int .i64 a5,.int .i64 a6] 67);generalize wr.alloc (.cells #[.int .i64 a0,.int .i64 a1,.slice aq ap.length ac,.slice aq2 am.length ac2,.int .i64 a4,.int .i64 a5,.int .i64 a6] 67)=W at hb1 hnw ⊢;have y0:W.cell? ⟨wr.heap.size,0,none⟩=some (.int .i64 a0):=ag hnw;have y1:W.cell? ⟨wr.heap.size,1,none⟩=some (.int .i64 a1):=ag hnw;have y2:W.cell? ⟨wr.heap.size,2,none⟩=some (.slice aq ap.length ac):=ag hnw;have y3:W.cell? ⟨wr.heap.size,3,none⟩=some (.slice aq2 am.length ac2):=ag hnw;have y4:W.cell? ⟨wr.heap.size,4,none⟩=some (.int .i64 a4):=ag hnw;have y5:W.cell? ⟨wr.heap.size,5,none⟩=some (.int .i64 a5):=ag hnw;have y6:W.cell? ⟨wr.heap.size,6,none⟩=some (.int .i64 a6):=ag hnw;have AA:=af hb1;have hsz0:=(ae JA).size;have hsz1:=hb1.size;have lx:wr.heap.size<W.heap.size:=ah hnw;have lbW:b<W.heap.size:=by omega
   have KA:Hid (Below w.heap.size w W):=af ((ae JA).trans (hb1.mono hsz0));clear hb1 hnw x0 x1 x2 x3 x4 x5 x6;by_cases hpe:a6=number
   ·have FA:=af (show cA ms number (best.take (k+1))=cA ms number (best.take k)from by rw [ae DA,aS hpe,List.append_nil]);have hpb:(a6==number)=true:=by simpa using hpe
    clear hpe;go_wp2
    refine⟨⟨k+1,l,by omega,by go_num,(ae MA).below (ae AA),by rw [ae FA];exact ae GA,by omega,λ y hy=>(ae IA y hy).below (ae AA),ae KA⟩,by simp [intOf];omega⟩
   rw [aG hpe]at DA;have hpb:(a6==number)=false:=by simpa using hpe
   have hbW:=((ae KA).block b lb).trans (ae HB);have c2:W.cell? ⟨b,o+2,none⟩=some (.string p):=(ag hbW).trans (ae RA);have c3:W.cell? ⟨b,o+3,none⟩=some sv:=(ag hbW).trans (ae HA);have hwW:Below n0 w0 W:=(ae HW).trans ((ae KA).mono hn);have CA:=af (λ(V:World) (hV:Below W.heap.size W V)=>ae HP V (hwW.trans (hV.mono (by omega))) ⟨a0,a1,ap,am,a4,a5⟩ _ _ ((hrx.below (ae AA)).below hV |>.ints hrok).1 ((hrx.below (ae AA)).below hV |>.ints hrok).2);have BA:=af hrok;clear hpe hbW hwW hrx hrok;obtain⟨rr,hrr⟩:∃ rr,dl ms ⟨a0,a1,ap,am,a4,a5⟩=rr:=⟨_,rfl⟩
   obtain⟨R,vd⟩:=rr;rw [hrr]at CA DA;clear hrr;dsimp only at CA DA BA;generalize ap.length=n1 at y2 CA ⊢;generalize am.length=n3 at y3 CA ⊢;go_upto_region 6 with fail
   go_cut [10,11] (λ v4 v5 wx=>∃(B:Nat) (q1:Option Addr) (k1:Nat) (q2:Option Addr) (k2:Nat),v4=.pointer (some ⟨B,0,none⟩)/\v5=.int .i64 vd/\Below W.heap.size W wx/\wx.heap[B]?=some (.cells #[.int .i64 R.addr,.int .i64 R.len,.slice q1 R.path.length k1,.slice q2 R.marks.length k2,.int .i64 R.pref,.int .i64 R.med] 65 (0,0))/\bK wx ⟨R,q1,k1,q2,k2⟩)
   case first =>
    go_region_with (first
     | (go_at_call 42;refine(ae CA (W.alloc (.cells #[.int .i64 0,.int .i64 0,.slice none 0 0,.slice none 0 0,.int .i64 0,.int .i64 0] 65)).drew ((aY _ _).alloc (aL _) _).drew (ae BA)).mono ?_;rintro e w' ⟨pv',mv',rfl,hv,hb⟩;obtain⟨q1,k1,rfl⟩:=al hv.1;obtain⟨q2,k2,rfl⟩:=al hv.2.1;have hk:w'.heap[W.heap.size]?=some (.cells #[.int .i64 0,.int .i64 0,.slice none 0 0,.slice none 0 0,.int .i64 0,.int .i64 0] 65 (0,0)):=(hb.block _ (by simp)).trans (cM W _);have HK:=af hk;have y0:=ag hk (o:=0);have y1:=ag hk (o:=1);have y2:=ag hk (o:=2);have y3:=ag hk (o:=3);have y4:=ag hk (o:=4);have y5:=ag hk (o:=5);have fz:∀ j,w'.frozen? ⟨W.heap.size,j,none⟩=false:=(λ j=>by simp [World.frozen?,hk]);have HA:=af hv;have AA:=af hb;clear hv hb hk)
     | (go_at_call 42;refine(ae CA W.drew (aY _ _).drew (ae BA)).mono ?_;rintro e w' ⟨pv',mv',rfl,hv,hb⟩;obtain⟨q1,k1,rfl⟩:=al hv.1;obtain⟨q2,k2,rfl⟩:=al hv.2.1;have HA:=af hv;have AA:=af hb;clear hv hb))
    all_goals
     go_wp2_with fail
     go_meet
     case rel =>
      first
       | (have h:=ME (ae AA) (ae HK) (ae HA);exact⟨W.heap.size,q1,k1,q2,k2,rfl,rfl,h.1,h.2.1,h.2.2⟩)
       | (have h:=MF (ae AA) (ae HA);exact⟨w'.heap.size,q1,k1,q2,k2,rfl,rfl,h.1,h.2.1,h.2.2⟩)
   case rest =>
    obtain⟨B,q1,k1,q2,k2,rfl,rfl,hbx,hB,hrv⟩:=hcut;have hbwc:Below w.heap.size w wc:=(ae KA).trans (hbx.mono (by omega));have hbrc:Below wr.heap.size wr wc:=(ae AA).trans (hbx.mono hsz1);have hTc:=(ae MA).below hbrc;have hALc:∀ y∈l,bK wc y:=λ y hy=>(ae IA y hy).below hbrc
    have NA:=af hbwc;have LA:=af hTc;have EA:=af hALc;have QA:=af hrv;have hszc:=hbwc.size;clear hbx hbwc hbrc hTc hALc hrv y0 y1 y2 y3 y4 y5 y6 c2 c3 CA;by_cases hvd:vd=1
    ·subst hvd;have FA:=af (show cA ms number (best.take (k+1))=cA ms number (best.take k)++[R]from by rw [ae DA,aS rfl]);have t0:wc.cell? ⟨B,0,none⟩=some (.int .i64 R.addr):=ag hB;have t1:wc.cell? ⟨B,1,none⟩=some (.int .i64 R.len):=ag hB;have t2:wc.cell? ⟨B,2,none⟩=some (.slice q1 R.path.length k1):=ag hB;have t3:wc.cell? ⟨B,3,none⟩=some (.slice q2 R.marks.length k2):=ag hB;have t4:wc.cell? ⟨B,4,none⟩=some (.int .i64 R.pref):=ag hB;have t5:wc.cell? ⟨B,5,none⟩=some (.int .i64 R.med):=ag hB;clear hB;go_wp2_with (at_builtin;refine wpList_append_lies _ rfl _ _ _ rfl w.heap.size 65 i0 _ 6 80 Tryz.underlying105 hi0 hz0 hz1 hz2 rfl (by omega) u7 l.length (bW l) rfl (World.ownsRow.alloc (ae LA) _) ⟨wc.heap.size,0,none⟩ 1 1 (bQ ⟨R,q1,k1,q2,k2⟩) rfl rfl (World.news_of_block (cs:=#[.int .i64 R.addr,.int .i64 R.len,.slice q1 R.path.length k1,.slice q2 R.marks.length k2,.int .i64 R.pref,.int .i64 R.med]) (cM _ _)) (λ v hv=>iy (l:=[⟨R,q1,k1,q2,k2⟩]) v (by unfold bW;simpa using hv)) (by omega) (by unfold maxLen;omega) (by omega) (by rw [World.size_alloc];omega) _ rfl ?_;intro g3 cap3 w3 ho hgr hgg hgl)
     have hbn:Below wc.heap.size wc (wc.alloc (.cells #[.int .i64 R.addr,.int .i64 R.len,.slice q1 R.path.length k1,.slice q2 R.marks.length k2,.int .i64 R.pref,.int .i64 R.med] 65)):=(aY _ _).alloc (aL _) _
     have hrk:∀ y:Rv,bK wc y->bK w3 y:=λ y hy=>(hy.below hbn).fr λ j hj ⟨cur,hc⟩=>hgr.block j hj λ e=>by
      obtain⟨_,⟨h2,_⟩|⟨g4,c4,cur4,h2,_,h3,_⟩⟩:=(ae LA).below hbn
      ·rw [h2]at e;cases e
      rw [h2]at e;have:g4=j:=by simpa [Value.ownBlock]using e.symm
      subst this;rw [h3]at hc;cases hc
     refine⟨⟨k+1,l++[⟨R,q1,k1,q2,k2⟩],by omega,by go_num,?_,?_,?_,?_,?_⟩,by simp [intOf];omega⟩
     ·show w3.ownsRow _ _ _ _ _ _;rw [List.length_append,fS,show bW [(⟨R,q1,k1,q2,k2⟩:Rv)]=bQ ⟨R,q1,k1,q2,k2⟩by unfold bW;simp];exact ho
     ·rw [List.map_append,ae FA,ae GA];rfl
     ·simp only [List.length_append,List.length_singleton];omega
     ·intro y hy;rcases List.mem_append.1 hy with hy|hy
      ·exact hrk y (ae EA y hy)
      rw [List.mem_singleton.1 hy];exact hrk _ (ae QA)
     exact((ae NA).alloc hszc _).grown hgr (by rw [World.size_alloc];omega) (λ j e=>(World.ownsRow.lt (ae LA) j e).1)
    have hvb:(vd==1)=false:=by simpa using hvd
    have FA:=af (show cA ms number (best.take (k+1))=cA ms number (best.take k)from by rw [ae DA,aG hvd,List.append_nil]);clear hvd hB;go_wp2
    refine⟨⟨k+1,l,by omega,by go_num,ae LA,by rw [ae FA];exact ae GA,by omega,ae EA,ae NA⟩,by simp [intOf];omega⟩
  have hke:k=best.length:=by omega
  subst hke;rw [List.take_length]at hmp;have MA:=af htv;have GA:=af hmp;have IA:=af hal;have JA:=af hbe;clear htv hmp hal hbe;go_wp2
  go_ret;exact⟨_,l,rfl,ae MA,ae GA,ae IA,ae JA⟩
