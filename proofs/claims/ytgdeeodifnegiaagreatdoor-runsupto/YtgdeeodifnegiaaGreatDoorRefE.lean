/- part -/
import Derived.Test.YtgdeeodifnegiaaGreatDoorRefC
import Derived.Deep.RegionHeld3
import Derived.Deep.DeepCutAuto
import Derived.Deep.RegionLaw
import Derived.Deep.DrawnRows
set_option maxRecDepth 100000
set_option maxHeartbeats 3200000
namespace Go.Proofs.YtgdeeodifnegiaaGreatDoor
open Go.Proofs.Tryz
open Or
open Go.RowKit
namespace rf
attribute [local go_sem ↓] Go.wp_at_zero Go.wp_at_succ
theorem Tryz.infoTok:(prog.info? 121).map (λ i=>(i.zero,i.size,i.bytes))=some (some (.agg #[.int .u8 0,.string ⟨#[]⟩,.int .i64 0]),3,32):=by kernel_rfl
theorem Tryz.infoBool:(prog.info? 4).map (λ i=>(i.zero,i.size,i.bytes))=some (some (.bool false),1,1):=by kernel_rfl
theorem kq(l:List kA)(t:kA):cj (l++[t])=cj l++[.int .u8 t.kind,.string t.text,.int .i64 t.at_]:=by simp [cj]
theorem sR(l:List Bool)(b:Bool):gp (l++[b])=gp l++[.bool b]:=by simp [gp]
theorem Nh{W0 w1:World}{pb gg cap:Nat}{s:ByteArray}{st:PS}{tv lv:Value}{ob:Obj}(p0:jS W0 pb s st tv lv)
  (hgrow:(W0.alloc ob).drew.grownBy w1 tv.ownBlock) (t:kA)
  (hown:w1.ownsRow 0 121 3 (.slice (some ⟨gg,0,none⟩) (st.taken.length+1) cap) (st.taken.length+1) (cj st.taken++[.int .u8 t.kind,.string t.text,.int .i64 t.at_]))
  (hat:tv.ownBlock=some gg\/gg=W0.heap.size+1) :
  jS (w1.setCell ⟨pb,5,none⟩ (.slice (some ⟨gg,0,none⟩) (st.taken.length+1) cap)) pb s { st with taken:=st.taken++[t] } (.slice (some ⟨gg,0,none⟩) (st.taken.length+1) cap) lv
  /\ Fr (fj pb tv lv) W0 (fj pb (.slice (some ⟨gg,0,none⟩) (st.taken.length+1) cap) lv) (w1.setCell ⟨pb,5,none⟩ (.slice (some ⟨gg,0,none⟩) (st.taken.length+1) cap)):=by
 have lp:=ai p0.blk
 have hgp:gg≠pb:=by
  rcases hat with h|h
  ·intro e;exact p0.ne1 (by rw [h,e])
  omega
 have hold:∀ k,k<W0.heap.size->some k≠tv.ownBlock->w1.heap[k]?=W0.heap[k]?:=λ k hk hn=>by
  rw [hgrow.block k (by simp;omega) hn];exact eW _ _ _ hk
 have hl:∀ k,lv.ownBlock=some k->k<W0.heap.size/\some k≠tv.ownBlock:=λ k hk=>⟨(p0.own2.lt k hk).2,λ e=>by
  rcases p0.ne3 with h|h
  ·rw [h]at e;cases e
  ·exact h (by rw [<-e,hk])⟩
 refine⟨⟨?_,?_,?_,?_,p0.ne2,?_⟩,?_⟩
 ·have hb:w1.heap[pb]?=some (.cells (iQ s st tv lv) 139 (0,0)):=by rw [hold pb lp (λ e=>p0.ne1 e.symm)];exact p0.blk
  rw [aB hb];rfl
 ·rw [kq,List.length_append];exact ap hown (λ k hk=>ah (λ e=>hgp (by cases hk;exact e)))
 ·exact ap p0.own2 (λ k hk=>by rw [ah (λ e=>p0.ne2 (by rw [hk,e])),hold k (hl k hk).1 (hl k hk).2])
 ·intro e;cases e;exact hgp rfl
 ·right;intro e;rcases hat with h|h
  ·exact(hl gg e.symm).2 h.symm
  have:=(hl gg e.symm).1;omega
 have f1:Fr (fj pb tv lv) W0 (fj pb tv lv) (W0.alloc ob).drew:=((bE _ _).alloc _).drew;have f2:=f1.grown hgrow (λ k hk=>inl (inr (inl hk)));have f3:=f2.setCell (p:=⟨pb,5,none⟩) (inl (inl rfl)) (.slice (some ⟨gg,0,none⟩) (st.taken.length+1) cap);refine f3.reown (λ k hk=>?_);rcases hk with h|h|h
 ·exact inl (inl h)
 ·obtain rfl:gg=k:=by simpa [Value.ownBlock]using h
  rcases hat with h|h
  ·exact inl (inr (inl h))
  right;omega
 exact inl (inr (inr h))
theorem LN{W0 w1:World}{pb gg cap:Nat}{s:ByteArray}{st:PS}{tv lv:Value}{ob:Obj}(p0:jS W0 pb s st tv lv)
  (hgrow:(W0.alloc ob).drew.grownBy w1 lv.ownBlock) (b:Bool)
  (hown:w1.ownsRow 0 4 1 (.slice (some ⟨gg,0,none⟩) (st.lines.length+1) cap) (st.lines.length+1) (gp st.lines++[.bool b]))
  (hat:lv.ownBlock=some gg\/gg=W0.heap.size+1) :
  jS (w1.setCell ⟨pb,6,none⟩ (.slice (some ⟨gg,0,none⟩) (st.lines.length+1) cap)) pb s { st with lines:=st.lines++[b] } tv (.slice (some ⟨gg,0,none⟩) (st.lines.length+1) cap)
  /\ Fr (fj pb tv lv) W0 (fj pb tv (.slice (some ⟨gg,0,none⟩) (st.lines.length+1) cap)) (w1.setCell ⟨pb,6,none⟩ (.slice (some ⟨gg,0,none⟩) (st.lines.length+1) cap)):=by
 have lp:=ai p0.blk
 have hgp:gg≠pb:=by
  rcases hat with h|h
  ·intro e;exact p0.ne2 (by rw [h,e])
  omega
 have hold:∀ k,k<W0.heap.size->some k≠lv.ownBlock->w1.heap[k]?=W0.heap[k]?:=λ k hk hn=>by
  rw [hgrow.block k (by simp;omega) hn];exact eW _ _ _ hk
 have hl:∀ k,tv.ownBlock=some k->k<W0.heap.size/\some k≠lv.ownBlock:=λ k hk=>⟨(p0.own1.lt k hk).2,λ e=>by
  rcases p0.ne3 with h|h
  ·rw [h]at hk;cases hk
  ·exact h (by rw [hk,e])⟩
 refine⟨⟨?_,?_,?_,p0.ne1,?_,?_⟩,?_⟩
 ·have hb:w1.heap[pb]?=some (.cells (iQ s st tv lv) 139 (0,0)):=by rw [hold pb lp (λ e=>p0.ne2 e.symm)];exact p0.blk
  rw [aB hb];rfl
 ·exact ap p0.own1 (λ k hk=>by rw [ah (λ e=>p0.ne1 (by rw [hk,e])),hold k (hl k hk).1 (hl k hk).2])
 ·rw [sR,List.length_append];exact ap hown (λ k hk=>ah (λ e=>hgp (by cases hk;exact e)))
 ·intro e;cases e;exact hgp rfl
 ·by_cases hn:tv.ownBlock=none
  ·exact inl hn
  right;intro e;rcases hat with h|h
  ·exact(hl gg e).2 h.symm
  have:=(hl gg e).1;omega
 have f1:Fr (fj pb tv lv) W0 (fj pb tv lv) (W0.alloc ob).drew:=((bE _ _).alloc _).drew;have f2:=f1.grown hgrow (λ k hk=>inl (inr (inr hk)));have f3:=f2.setCell (p:=⟨pb,6,none⟩) (inl (inl rfl)) (.slice (some ⟨gg,0,none⟩) (st.lines.length+1) cap);refine f3.reown (λ k hk=>?_);rcases hk with h|h|h
 ·exact inl (inl h)
 ·exact inl (inr (inl h))
 obtain rfl:gg=k:=by simpa [Value.ownBlock]using h
 rcases hat with h|h
 ·exact inl (inr (inr h))
 right;omega
theorem jS.other{w:World}{pb b:Nat}{s:ByteArray}{st:PS}{tv lv:Value}(h:jS w pb s st tv lv)(hb:¬fj pb tv lv b)(o:Nat)(v:Value):jS (w.setCell ⟨b,o,none⟩ v) pb s st tv lv :=
 ⟨by rw [ah (λ e=>hb (inl e.symm))];exact h.blk,ap h.own1 (λ k hk=>ah (λ e=>hb (inr (inl (by rw [hk,e]))))),ap h.own2 (λ k hk=>ah (λ e=>hb (inr (inr (by rw [hk,e]))))),h.ne1,h.ne2,h.ne3⟩
def rB(w:World)(pb:Nat)(t:kA)(i:Nat):World:=(((w.setCell ⟨pb,1,none⟩ (.int .u8 t.kind)).setCell ⟨pb,2,none⟩ (.string t.text)).setCell ⟨pb,3,none⟩ (.int .i64 t.at_)).setCell ⟨pb,4,none⟩ (.int .i64 i)
theorem LO{wc w':World}{pb:Nat}{s:ByteArray}{st:PS}{tv lv:Value}(p:jS wc pb s st tv lv)(hb:Below wc.heap.size wc w')(t:kA)(i:Nat) :
  jS (rB w' pb t i) pb s { st with next:=t,i:=i } tv lv/\Fr (fj pb tv lv) wc (fj pb tv lv) (rB w' pb t i):=by
 have p1:=p.stay hb;have p2:=p1.set (o:=1) (v:=.int .u8 t.kind) (st':={ st with next:={ st.next with kind:=t.kind } }) rfl rfl rfl;have p3:=p2.set (o:=2) (v:=.string t.text) (st':={ st with next:=⟨t.kind,t.text,st.next.at_⟩ }) rfl rfl rfl;have p4:=p3.set (o:=3) (v:=.int .i64 t.at_) (st':={ st with next:=t }) rfl rfl rfl;have p5:=p4.set (o:=4) (v:=.int .i64 i) (st':={ st with next:=t,i:=i }) rfl rfl rfl;exact⟨p5,((((Fr.of_below hb).setCell (inl (inl rfl)) _).setCell (inl (inl rfl)) _).setCell (inl (inl rfl)) _).setCell (inl (inl rfl)) _⟩
theorem Gc{w:World}{pb:Nat}{s:ByteArray}{st:PS}{tv lv:Value}(h:jS w pb s st tv lv)(hs:s.size<=600)(hi:st.i<=s.size)(hb:st.bad<0)(hk1:(st.next.kind==33)=false)(hk2:(st.next.kind==46)=false)(hl1:st.taken.length<=1000)(hl2:st.lines.length<=1000) :
  Calls prog 118 #[fX pb] w λ e w'=>e=.returned (eG st.next)/\∃ tv' lv',jS w' pb s (ux s st) tv' lv'/\Fr (fj pb tv lv) w (fj pb tv' lv') w':=by
 obtain⟨i0,hi0,hz0,hz1,hz2⟩:=info_parts Tryz.infoTok;obtain⟨i1,hi1,hy0,hy1,hy2⟩:=info_parts Tryz.infoBool;have c0:w.cell? ⟨pb,0,none⟩=some (.string s):=af h.blk;have c1:w.cell? ⟨pb,1,none⟩=some (.int .u8 st.next.kind):=af h.blk;have c2:w.cell? ⟨pb,2,none⟩=some (.string st.next.text):=af h.blk;have c3:w.cell? ⟨pb,3,none⟩=some (.int .i64 st.next.at_):=af h.blk;have c4:w.cell? ⟨pb,4,none⟩=some (.int .i64 st.i):=af h.blk;have c5:w.cell? ⟨pb,5,none⟩=some tv:=af h.blk;have c6:w.cell? ⟨pb,6,none⟩=some lv:=af h.blk;have c7:w.cell? ⟨pb,7,none⟩=some (.int .i64 st.bad):=af h.blk;have zz:∀ o,w.frozen? ⟨pb,o,none⟩=false:=λ o=>ak h.blk
 have lp:pb<w.heap.size:=ai h.blk;have n0:pb≠w.heap.size:=by omega
 have n1:pb≠w.heap.size+1:=by omega
 have n2:pb≠w.heap.size+2:=by omega
 have lt1:∀ k,some k=tv.ownBlock->k<w.heap.size:=λ k hk=>(h.own1.lt k hk.symm).2
 have lt2:∀ k,some k=lv.ownBlock->k<w.heap.size:=λ k hk=>(h.own2.lt k hk.symm).2
 have L1:=ae lt1;have L2:=ae lt2;have H:=ae h;clear h lt1 lt2;go_enter func118,ntmps118;go_wp2_with fail
 obtain⟨W0,hW0,p0,q0,q1,f0⟩:∃ W0,(w.alloc (.cells #[.int .u8 0,.string ⟨#[]⟩,.int .i64 0] 121)).alloc (.cells #[.int .u8 st.next.kind,.string st.next.text,.int .i64 st.next.at_] 121)=W0/\jS W0 pb s st tv lv/\W0.heap[w.heap.size]?=some (.cells #[.int .u8 0,.string ⟨#[]⟩,.int .i64 0] 121 (0,0))/\W0.heap[w.heap.size+1]?=some (.cells #[.int .u8 st.next.kind,.string st.next.text,.int .i64 st.next.at_] 121 (0,0))/\Fr (fj pb tv lv) w (fj pb tv lv) W0 :=
  ⟨_,rfl,(ab H).stay (((aX _ _).alloc (aD _) _).alloc (by simp) _),by rw [eW _ _ _ (by simp)];exact cN w _,by rw [show w.heap.size+1=(w.alloc (.cells #[.int .u8 0,.string ⟨#[]⟩,.int .i64 0] 121)).heap.size by simp];exact cN _ _,((bE _ _).alloc _).alloc _⟩
 rw [hW0];clear hW0 c0 c1 c2 c3 c4 c5 c6 c7 zz;have hR:w.heap.size+1<W0.heap.size:=ai q1;generalize hRw:w.heap.size=R at *;have AA:=ae (Nat.le_of_eq hRw);clear hRw;have c5:W0.cell? ⟨pb,5,none⟩=some tv:=af p0.blk;have z5:W0.frozen? ⟨pb,5,none⟩=false:=ak p0.blk;have t0:W0.cell? ⟨R+1,0,none⟩=some (.int .u8 st.next.kind):=af q1;have t1:W0.cell? ⟨R+1,1,none⟩=some (.string st.next.text):=af q1;have t2:W0.cell? ⟨R+1,2,none⟩=some (.int .i64 st.next.at_):=af q1;have lpW:pb<W0.heap.size:=by omega
 have zf:∀ ob,(W0.alloc ob).frozen? ⟨pb,5,none⟩=false:=λ ob=>(World.frozen?_alloc_old W0 ob ⟨pb,5,none⟩ (Nat.ne_of_lt lpW)).trans z5
 have P0:=ae p0;have Q0:=ae q0;have Q1:=ae q1;clear p0 q0 q1;have T1:=ae (show some pb≠tv.ownBlock from λ e=>(ab P0).ne1 e.symm);have F0:=ae f0;clear f0;have A0:=ae (show(∀ k,fj pb tv lv k->k<R)from λ k hk=>by rcases hk with h|h|h;omega;exact ab L1 k h.symm;exact ab L2 k h.symm);go_cut [] (λ wc=>∃ tv1,jS wc pb s { st with taken:=st.taken++[st.next] } tv1 lv/\Fr (fj pb tv lv) W0 (fj pb tv1 lv) wc)
 case first =>
  go_region_law ((refine step_append_lies _ (by rfl) _ _ _ (by rfl) 0 121 i0 _ 3 32 underlying116 hi0 hz0 hz1 hz2 rfl (by omega) tv st.taken.length (cj st.taken) (by rfl) (((ab P0).own1.alloc _).drew) ⟨W0.heap.size,0,none⟩ 1 1 [.int .u8 st.next.kind,.string st.next.text,.int .i64 st.next.at_] (by rfl) (by rfl) (World.news_of_block (cs:=#[.int .u8 st.next.kind,.string st.next.text,.int .i64 st.next.at_]) (t:=121) (fr:=(0,0)) (cN _ _)) (by simp [Value.oneCell']) (by omega) (by simp [maxLen];omega) (by omega) (by omega) (W0.heap.size+1) (by simp) ?_;intro gg cap w1 hown1 hgrow hat hlt;have k1:w1.cell? ⟨pb,5,none⟩=some tv:=(hgrow.cell_far _ (by simp;omega) (ab T1)).trans (cell_later (aX _ _ |>.alloc (aD _) _ |>.drew) c5);have z1:w1.frozen? ⟨pb,5,none⟩=false:=(hgrow.frozen_far _ (by simp;omega) (ab T1)).trans (zf _)))
  all_goals
   go_wp2_with fail
   go_meet
   case rel=>exact⟨_,Nh (ab P0) hgrow st.next hown1 hat⟩
 case rest =>
  obtain⟨tv1,p1,f1⟩:=hcut;have q0:=(f1.block R (by omega) (λ h=>by have:=ab A0 _ h;omega)).trans (ab Q0);have q1:=(f1.block (R+1) (by omega) (λ h=>by have:=ab A0 _ h;omega)).trans (ab Q1);have f2:=(ab F0).trans f1
  have A1:=ae (show ∀ k,fj pb tv1 lv k->k≠R/\k≠R+1 from λ k hk=>by
   rcases f1.own k hk with h|h
   ·have:=ab A0 _ h;omega
   ·omega)
  have h1W:R+1<wc.heap.size:=ai q1;clear c5 z5 t0 t1 t2 P0 Q0 Q1 F0 A0 L1 L2 T1 zf lpW hR f1 H;clear W0;have c6:wc.cell? ⟨pb,6,none⟩=some lv:=af p1.blk;have z6:wc.frozen? ⟨pb,6,none⟩=false:=ak p1.blk;have t0:wc.cell? ⟨R+1,0,none⟩=some (.int .u8 st.next.kind):=af q1;have t1:wc.cell? ⟨R+1,1,none⟩=some (.string st.next.text):=af q1;have lpW:pb<wc.heap.size:=ai p1.blk;have zf:∀ ob,(wc.alloc ob).frozen? ⟨pb,6,none⟩=false:=λ ob=>(World.frozen?_alloc_old wc ob ⟨pb,6,none⟩ (Nat.ne_of_lt lpW)).trans z6
  have T2:=ae (show some pb≠lv.ownBlock from λ e=>p1.ne2 e.symm);have P1:=ae p1;have Q0:=ae q0;have Q1:=ae q1;have F2:=ae f2;clear p1 q0 q1 f2;go_wp2_with fail;go_cut [] (λ wd=>∃ lv1,jS wd pb s { st with taken:=st.taken++[st.next],lines:=st.lines++[gd st.next] } tv1 lv1/\Fr (fj pb tv1 lv) wc (fj pb tv1 lv1) wd)
  case first =>
   have hor:((st.next.kind==115)=true/\Hid (gd st.next=(st.next.text.toList==[59])))\/((st.next.kind==115)=false/\Hid (gd st.next=false)):=by
    unfold gd Hid;cases (st.next.kind==115)<;>simp
   rcases hor with⟨hk3,HS⟩|⟨hk3,HS⟩
   ·first|(go_region_law ((refine step_append_lies _ (by rfl) _ _ _ (by rfl) 0 4 i1 _ 1 1 underlying117 hi1 hy0 hy1 hy2 rfl (by omega) lv st.lines.length (gp st.lines) (by rfl) (((ab P1).own2.alloc _).drew) ⟨wc.heap.size,0,none⟩ 1 1 [.bool (st.next.text.toList==[59])] (by rfl) (by rfl) (World.news_of_block (cs:=#[.bool (st.next.text.toList==[59])]) (t:=4) (fr:=(0,0)) (cN _ _)) (by simp [Value.oneCell']) (by omega) (by simp [maxLen];omega) (by omega) (by omega) (wc.heap.size+1) (by simp) ?_;intro gg cap w1 hown1 hgrow hat hlt;have k1:w1.cell? ⟨pb,6,none⟩=some lv:=(hgrow.cell_far _ (by simp;omega) (ab T2)).trans (cell_later (aX _ _ |>.alloc (aD _) _ |>.drew) c6);have z1:w1.frozen? ⟨pb,6,none⟩=false:=(hgrow.frozen_far _ (by simp;omega) (ab T2)).trans (zf _))))|fail
    all_goals
     go_wp2_with fail
     go_meet
     case rel=>rw [ab HS];exact⟨_,LN (ab P1) hgrow _ hown1 hat⟩
   first|(go_region_law ((refine step_append_lies _ (by rfl) _ _ _ (by rfl) 0 4 i1 _ 1 1 underlying117 hi1 hy0 hy1 hy2 rfl (by omega) lv st.lines.length (gp st.lines) (by rfl) (((ab P1).own2.alloc _).drew) ⟨wc.heap.size,0,none⟩ 1 1 [.bool false] (by rfl) (by rfl) (World.news_of_block (cs:=#[.bool false]) (t:=4) (fr:=(0,0)) (cN _ _)) (by simp [Value.oneCell']) (by omega) (by simp [maxLen];omega) (by omega) (by omega) (wc.heap.size+1) (by simp) ?_;intro gg cap w1 hown1 hgrow hat hlt;have k1:w1.cell? ⟨pb,6,none⟩=some lv:=(hgrow.cell_far _ (by simp;omega) (ab T2)).trans (cell_later (aX _ _ |>.alloc (aD _) _ |>.drew) c6);have z1:w1.frozen? ⟨pb,6,none⟩=false:=(hgrow.frozen_far _ (by simp;omega) (ab T2)).trans (zf _))))|fail
   all_goals
    go_wp2_with fail
    go_meet
    case rel=>rw [ab HS];exact⟨_,LN (ab P1) hgrow _ hown1 hat⟩
  case rest =>
   obtain⟨lv1,p2,f3⟩:=hcut;have q0:=(f3.block R (by omega) (λ h=>(ab A1 _ h).1 rfl)).trans (ab Q0);have q1:=(f3.block (R+1) (by omega) (λ h=>(ab A1 _ h).2 rfl)).trans (ab Q1);have f4:=(ab F2).trans f3
   have A2:=ae (show ∀ k,fj pb tv1 lv1 k->k≠R/\k≠R+1 from λ k hk=>by
    rcases f3.own k hk with h|h
    ·exact ab A1 _ h
    ·omega)
   clear c6 z6 t0 t1 P1 Q0 Q1 F2 A1 T2 zf lpW h1W f3;have c0:wc.cell? ⟨pb,0,none⟩=some (.string s):=af p2.blk;have c1:wc.cell? ⟨pb,1,none⟩=some (.int .u8 st.next.kind):=af p2.blk;have c2:wc.cell? ⟨pb,2,none⟩=some (.string st.next.text):=af p2.blk;have c3:wc.cell? ⟨pb,3,none⟩=some (.int .i64 st.next.at_):=af p2.blk;have c4:wc.cell? ⟨pb,4,none⟩=some (.int .i64 st.i):=af p2.blk;have zp:∀ o,wc.frozen? ⟨pb,o,none⟩=false:=λ o=>ak p2.blk
   have r0:wc.cell? ⟨R,0,none⟩=some (.int .u8 0):=af q0;have r1:wc.cell? ⟨R,1,none⟩=some (.string ⟨#[]⟩):=af q0;have r2:wc.cell? ⟨R,2,none⟩=some (.int .i64 0):=af q0;have zr:∀ o,wc.frozen? ⟨R,o,none⟩=false:=λ o=>ak q0
   have t0:wc.cell? ⟨R+1,0,none⟩=some (.int .u8 st.next.kind):=af q1;have t1:wc.cell? ⟨R+1,1,none⟩=some (.string st.next.text):=af q1;have t2:wc.cell? ⟨R+1,2,none⟩=some (.int .i64 st.next.at_):=af q1;have lpW:pb<wc.heap.size:=ai p2.blk;have lrW:R<wc.heap.size:=ai q0;have ltW:R+1<wc.heap.size:=ai q1;have P2:=ae p2;have Q0:=ae q0;have Q1:=ae q1;have F4:=ae f4;clear p2 q0 q1 f4;go_wp2_with fail;go_region_with (go_at_call 66;refine(Dv _ _ _ (by omega) (by omega)).mono ?_;rintro e w' ⟨rfl,hb'⟩;have e1:w'.cell? ⟨pb,1,none⟩=some (.int .u8 st.next.kind):=cell_later hb' c1;have e2:w'.cell? ⟨pb,2,none⟩=some (.string st.next.text):=cell_later hb' c2;have e3:w'.cell? ⟨pb,3,none⟩=some (.int .i64 st.next.at_):=cell_later hb' c3;have e4:w'.cell? ⟨pb,4,none⟩=some (.int .i64 st.i):=cell_later hb' c4;have y1:∀ o,w'.frozen? ⟨pb,o,none⟩=false:=(λ o=>(hb'.frozen (p:=⟨pb,o,none⟩) lpW).trans (zp o)))
   all_goals
    obtain⟨W5,hW5,p5,f5⟩:∃ W5,rB w' pb (fG s st.i).1 (fG s st.i).2=W5/\jS W5 pb s { st with taken:=st.taken++[st.next],lines:=st.lines++[gd st.next],next:=(fG s st.i).1,i:=(fG s st.i).2 } tv1 lv1/\Fr (fj pb tv1 lv1) wc (fj pb tv1 lv1) W5:=⟨_,rfl,LO (ab P2) ⟨hb'.os,hb'.tape,hb'.output,hb'.size,hb'.block⟩ _ _⟩
    unfold rB at hW5;rw [hW5];have q0:=(f5.block R lrW (λ h=>(ab A2 _ h).1 rfl)).trans (ab Q0);have q1:=(f5.block (R+1) ltW (λ h=>(ab A2 _ h).2 rfl)).trans (ab Q1);have f6:=(ab F4).trans f5;clear hW5 e1 e2 e3 e4 y1 hb' f5 c0 c1 c2 c3 c4 zp r0 r1 r2 zr t0 t1 t2 P2 Q0 Q1 F4 lpW lrW ltW;clear w';have r0:W5.cell? ⟨R,0,none⟩=some (.int .u8 0):=af q0;have r1:W5.cell? ⟨R,1,none⟩=some (.string ⟨#[]⟩):=af q0;have r2:W5.cell? ⟨R,2,none⟩=some (.int .i64 0):=af q0;have zr:∀ o,W5.frozen? ⟨R,o,none⟩=false:=λ o=>ak q0
    have t0:W5.cell? ⟨R+1,0,none⟩=some (.int .u8 st.next.kind):=af q1;have t1:W5.cell? ⟨R+1,1,none⟩=some (.string st.next.text):=af q1;have t2:W5.cell? ⟨R+1,2,none⟩=some (.int .i64 st.next.at_):=af q1;have P5:=ae p5;have F6:=ae f6;clear p5 f6 q0 q1;go_wp2_with fail;refine eO (v:=eG st.next) (by simp [results,results118,go_sem,r0,r1,r2]) rfl ⟨rfl,tv1,lv1,?_,?_⟩
    ·exact(((ab P5).other (λ h=>(ab A2 _ h).1 rfl) _ _).other (λ h=>(ab A2 _ h).1 rfl) _ _).other (λ h=>(ab A2 _ h).1 rfl) _ _
    exact(((ab F6).setCell (inr (ab AA)) _).setCell (inr (ab AA)) _).setCell (inr (ab AA)) _
def PA(w:World)(pb:Nat)(s:ByteArray)(st:PS)(O:Nat->Prop):Prop:=∃ tv lv,jS w pb s st tv lv/\O=fj pb tv lv
theorem bM(w:World)(A B:Array Value)(TA TB:TypeId):((w.alloc (.cells A TA)).alloc (.cells B TB)).heap[w.heap.size]?=some (.cells A TA (0,0))/\((w.alloc (.cells A TA)).alloc (.cells B TB)).heap[w.heap.size+1]?=some (.cells B TB (0,0)) :=
 ⟨by rw [eW _ _ _ (by simp)];exact cN w _,by rw [show w.heap.size+1=(w.alloc (.cells A TA)).heap.size by simp];exact cN _ _⟩
theorem jS.lt{w:World}{pb:Nat}{s:ByteArray}{st:PS}{tv lv:Value}(h:jS w pb s st tv lv){k:Nat}(hk:fj pb tv lv k):k<w.heap.size:=by
 rcases hk with h1|h1|h1
 ·rw [h1];exact ai h.blk
 ·exact(h.own1.lt k h1).2
 exact(h.own2.lt k h1).2
theorem Jw{w:World}{pb:Nat}{s:ByteArray}{st:PS}{tv lv:Value}(h:jS w pb s st tv lv)(hb:st.next.kind=33\/st.next.kind=46\/0<=st.bad) :
  Calls prog 118 #[fX pb] w λ e w'=>e=.returned (eG st.next)/\jS w' pb s (ax s st) tv lv/\Fr (fj pb tv lv) w (fj pb tv lv) w':=by
 have c1:w.cell? ⟨pb,1,none⟩=some (.int .u8 st.next.kind):=af h.blk;have c2:w.cell? ⟨pb,2,none⟩=some (.string st.next.text):=af h.blk;have c3:w.cell? ⟨pb,3,none⟩=some (.int .i64 st.next.at_):=af h.blk;have c7:w.cell? ⟨pb,7,none⟩=some (.int .i64 st.bad):=af h.blk;have lp:pb<w.heap.size:=ai h.blk;have N0:=ae (show ¬fj pb tv lv w.heap.size from λ hk=>by have:=h.lt hk;omega);have N1:=ae (show ¬fj pb tv lv (w.heap.size+1)from λ hk=>by have:=h.lt hk;omega);have H:=ae h;clear h;by_cases hk:st.next.kind=33\/st.next.kind=46
 ·have HT:Hid (ax s st=aY st):=by unfold Hid ax;rw [aC hk]
  have hbd:0<=(aY st).bad:=by
   unfold aY;split
   ·show(0:Int)<=(st.next.at_:Int);omega
   omega
  have hor:((st.next.kind==33)=true)\/((st.next.kind==33)=false/\(st.next.kind==46)=true):=by
   rcases hk with h|h<;>rw [h]<;>simp
  clear hk hb;rcases hor with h1|⟨h1,h2⟩
  all_goals
   go_enter func118,ntmps118;go_wp2_with (go_at_call 68;refine(gb (tv:=tv) (lv:=lv) (s:=s) (st:=st) ?hpp).mono ?_;(case hpp=>exact(ab H).stay (((aX _ _).alloc (aD _) _).alloc (by simp) _));rintro e w' ⟨rfl,hp,hfr⟩;have c7':w'.cell? ⟨pb,7,none⟩=some (.int .i64 (aY st).bad):=(af hp.blk);have q0:w'.heap[w.heap.size]?=_:=(hfr.block w.heap.size (by simp;omega) (ab N0)).trans (bM w _ _ _ _).1;have q1:w'.heap[w.heap.size+1]?=_:=(hfr.block (w.heap.size+1) (by simp) (ab N1)).trans (bM w _ _ _ _).2;have r0:w'.cell? ⟨w.heap.size,0,none⟩=some (.int .u8 0):=(af q0);have r1:w'.cell? ⟨w.heap.size,1,none⟩=some (.string ⟨#[]⟩):=(af q0);have r2:w'.cell? ⟨w.heap.size,2,none⟩=some (.int .i64 0):=(af q0);have zr:∀ o,w'.frozen? ⟨w.heap.size,o,none⟩=false:=(λ o=>ak q0);have t0:w'.cell? ⟨w.heap.size+1,0,none⟩=some (.int .u8 st.next.kind):=(af q1);have t1:w'.cell? ⟨w.heap.size+1,1,none⟩=some (.string st.next.text):=(af q1);have t2:w'.cell? ⟨w.heap.size+1,2,none⟩=some (.int .i64 st.next.at_):=(af q1);clear q0 q1)
   refine eO (v:=eG st.next) (by simp [results,results118,go_sem,r0,r1,r2]) rfl ⟨rfl,?_,?_⟩
   ·rw [ab HT];exact(((hp.other (ab N0) _ _).other (ab N0) _ _).other (ab N0) _ _)
   exact((((((bE _ _).alloc _).alloc _).trans hfr).setCell (inr (aD _)) _).setCell (inr (aD _)) _).setCell (inr (aD _)) _
 have hbd:0<=st.bad:=by omega
 have HT:Hid (ax s st=st):=by unfold Hid ax;rw [au hk,au (by omega)]
 have h1:(st.next.kind==33)=false:=beq_eq_false_iff_ne.2 (by omega);have h2:(st.next.kind==46)=false:=beq_eq_false_iff_ne.2 (by omega);clear hk hb;go_enter func118,ntmps118;go_wp2_with fail;refine eO (v:=eG st.next) (by simp [results,results118,go_sem]) rfl ⟨rfl,?_,?_⟩
 ·rw [ab HT];exact(ab H).stay (by first|exact(((aX _ _).alloc (aD _) _).alloc (by simp) _)|exact((((((aX _ _).alloc (aD _) _).alloc (by simp) _).setCell (by simp) _).setCell (by simp) _).setCell (by simp) _))
 first|exact((bE _ _).alloc _).alloc _|exact(((((bE _ _).alloc _).alloc _).setCell (inr (aD _)) _).setCell (inr (aD _)) _).setCell (inr (aD _)) _
theorem aN{w:World}{pb:Nat}{s:ByteArray}{st:PS}{O:Nat->Prop}(h:PA w pb s st O)(hk:Ok s st) :
  Calls prog 118 #[fX pb] w λ e w'=>e=.returned (eG st.next)/\∃ O',PA w' pb s (ax s st) O'/\Fr O w O' w':=by
 obtain⟨tv,lv,hp,rfl⟩:=h;by_cases hb:st.next.kind=33\/st.next.kind=46\/0<=st.bad
 ·refine(Jw hp hb).mono ?_;rintro e w' ⟨rfl,h1,h2⟩;exact⟨rfl,_,⟨tv,lv,h1,rfl⟩,h2⟩
 have h1:=hk.tk0;have h2:=hk.hi;have h3:=hk.hs;have h4:=hk.ln;refine(Gc hp hk.hs hk.hi (by omega) (beq_eq_false_iff_ne.2 (by omega)) (beq_eq_false_iff_ne.2 (by omega)) (by omega) (by omega)).mono ?_;rintro e w' ⟨rfl,tv',lv',h1,h2⟩;refine⟨rfl,_,⟨tv',lv',?_,rfl⟩,h2⟩;rw [show ax s st=ux s st by unfold ax;rw [au (by omega),aC (by omega)]];exact h1
theorem JK{s:ByteArray}{i:Nat}(h:i<=s.size):i<=(g7 s i).2/\(g7 s i).2<=s.size/\((g7 s i).1.kind≠46->i+1<=(g7 s i).2):=by
 unfold g7;split
 ·simp;omega
 rename_i h1;split
 ·rename_i h2;have h3:=jB (p:=dF) (s:=s) (i:=i+1) (by omega);rw [<-eT (by omega) h2]at h3;split
  ·simp;omega
  split<;>(simp;omega)
 split
 ·rename_i h2;have h3:=jB (p:=bX) (s:=s) (i:=i+1) (by omega);rw [<-eT (p:=bX) (by omega) (by unfold bX;rw [h2];rfl)]at h3;split
  ·simp;omega
  split<;>(simp;omega)
 split<;>(simp;omega)
theorem Du{s:ByteArray}{i:Nat}(h:i<=s.size):i<=(fG s i).2/\(fG s i).2<=s.size/\((fG s i).1.kind≠46->i+1<=(fG s i).2):=by
 have h1:=jB (p:=cP) (s:=s) (i:=i) h;have h2:=JK (s:=s) (i:=aG cP s i) h1.2;unfold fG;exact⟨by omega,h2.2.1,λ hk=>by have:=h2.2.2 hk;omega⟩
theorem Ok.fail{s:ByteArray}{st:PS}(h:Ok s st):Ok s (aY st):=by
 unfold aY;split
 ·exact⟨h.hs,h.hi,h.tk0,h.tk,h.ln,h.tx⟩
 exact h
theorem vM(s:ByteArray)(i:Nat):(fG s i).1.text.size<=s.size:=by
 have he:∀ a b,(s.extract a b).size<=s.size:=λ a b=>by simp;omega
 unfold fG g7
 repeat' split
 all_goals first|exact he _ _|exact iL _
theorem Ok.took{s:ByteArray}{st:PS}(h:Ok s st)(hk:st.next.kind≠46):Ok s (ux s st):=by
 have hb:=Du (s:=s) (i:=st.i) h.hi;have ht:=h.tk hk;refine⟨h.hs,hb.2.1,?_,λ h2=>?_,?_,kr (vM s st.i) h.hs⟩
 ·show(st.taken++[st.next]).length<=(fG s st.i).2;simp;omega
 ·show(st.taken++[st.next]).length+1<=(fG s st.i).2;have:=hb.2.2 h2;simp;omega
 show(st.lines++[gd st.next]).length=(st.taken++[st.next]).length;simp [h.ln]
theorem Ok.take{s:ByteArray}{st:PS}(h:Ok s st):Ok s (ax s st):=by
 unfold ax;split
 ·exact h.fail
 split
 ·exact h.took (by omega)
 exact h
theorem kF(st:PS):0<=(aY st).bad:=by
 unfold aY;split
 ·show(0:Int)<=(st.next.at_:Int);omega
 omega
theorem th(st:PS):aY (aY st)=aY st:=by
 have:=kF st;rw [aY,au (by omega)]
theorem lN(s:ByteArray)(st:PS):ax s (aY st)=aY st:=by
 have:=kF st;unfold ax;split
 ·exact th st
 rw [au (by omega)]
theorem Ok.need{s:ByteArray}{st:PS}(h:Ok s st)(x:ByteArray):Ok s (aJ s st x):=by unfold aJ;split;exact h.take;exact h.fail
theorem Ok.kind{s:ByteArray}{st:PS}(h:Ok s st)(k:Int):Ok s (aA s st k):=by unfold aA;split;exact h.take;exact h.fail
theorem PA.fail{w:World}{pb:Nat}{s:ByteArray}{st:PS}{O:Nat->Prop}(h:PA w pb s st O) :
  Calls prog 68 #[fX pb] w λ e w'=>e=.returned (.tuple #[])/\PA w' pb s (aY st) O/\Fr O w O w':=by
 obtain⟨tv,lv,hp,rfl⟩:=h;refine(gb hp).mono ?_;rintro e w' ⟨rfl,h1,h2⟩;exact⟨rfl,⟨tv,lv,h1,rfl⟩,h2⟩
theorem PA.is{w:World}{pb:Nat}{s:ByteArray}{st:PS}{O:Nat->Prop}(h:PA w pb s st O)(x:ByteArray) :
  Calls prog 67 #[fX pb,.string x] w λ e w'=>e=.returned (.bool (aT st x))/\w'=w:=by
 obtain⟨tv,lv,hp,rfl⟩:=h;exact Mh hp.blk x
theorem PA.stay{w w':World}{pb:Nat}{s:ByteArray}{st:PS}{O:Nat->Prop}(h:PA w pb s st O)(hb:Below w.heap.size w w'):PA w' pb s st O:=by
 obtain⟨tv,lv,hp,rfl⟩:=h;exact⟨tv,lv,hp.stay hb,rfl⟩
theorem PA.drew{w:World}{pb:Nat}{s:ByteArray}{st:PS}{O:Nat->Prop}(h:PA w pb s st O):PA w.drew pb s st O:=h.stay (aX _ _).drew
theorem PA.alloc{w:World}{pb:Nat}{s:ByteArray}{st:PS}{O:Nat->Prop}(h:PA w pb s st O)(o:Obj):PA (w.alloc o) pb s st O:=h.stay ((aX _ _).alloc (aD _) _)
theorem PA.lt{w:World}{pb:Nat}{s:ByteArray}{st:PS}{O:Nat->Prop}(h:PA w pb s st O){k:Nat}(hk:O k):k<w.heap.size:=by
 obtain⟨tv,lv,hp,rfl⟩:=h;exact hp.lt hk
theorem PA.other{w:World}{pb b:Nat}{s:ByteArray}{st:PS}{O:Nat->Prop}(h:PA w pb s st O)(hb:¬O b)(o:Nat)(v:Value):PA (w.setCell ⟨b,o,none⟩ v) pb s st O:=by
 obtain⟨tv,lv,hp,rfl⟩:=h;exact⟨tv,lv,hp.other hb o v,rfl⟩
theorem PA.own{w:World}{pb:Nat}{s:ByteArray}{st:PS}{O:Nat->Prop}(h:PA w pb s st O):O pb:=by
 obtain⟨tv,lv,hp,rfl⟩:=h;exact inl rfl
theorem dr{w:World}{pb:Nat}{s:ByteArray}{st:PS}{O:Nat->Prop}(h:PA w pb s st O)(hk:Ok s st)(x:ByteArray) :
  Calls prog 120 #[fX pb,.string x] w λ e w'=>e=.returned (.tuple #[])/\∃ O',PA w' pb s (aJ s st x) O'/\Fr O w O' w':=by
 have H:=ae h;have K:=ae hk;clear h hk;cases hi:aT st x with
 | true =>
  have HN:Hid (aJ s st x=ax s st):=by unfold Hid aJ;rw [aC hi]
  go_enter func120,ntmps120;go_wp2_with (first|(go_at_call 67;refine((ab H).is _).mono ?_;rintro e w' ⟨rfl,rfl⟩)|(go_at_call 118;refine(aN (ab H) (ab K)).mono ?_;rintro e w' ⟨rfl,O',hp,hf⟩))
  go_end0
  exact⟨rfl,O',by rw [ab HN];exact hp,hf⟩
 | false =>
  have HN:Hid (aJ s st x=aY st):=by unfold Hid aJ;rw [au (by rw [hi];simp)]
  go_enter func120,ntmps120;go_wp2_with (first|(go_at_call 67;refine((ab H).is _).mono ?_;rintro e w' ⟨rfl,rfl⟩)|(go_at_call 68;refine((ab H).fail).mono ?_;rintro e w1 ⟨rfl,hp1,hf1⟩;have H1:=ae hp1;clear hp1)|(go_at_call 118;refine(aN (ab H1) (ab K).fail).mono ?_;rintro e w' ⟨rfl,O',hp,hf⟩))
  go_end0
  exact⟨rfl,O',by rw [ab HN,<-lN s st];exact hp,hf1.trans hf⟩
theorem iW{w:World}{pb:Nat}{s:ByteArray}{st:PS}{O:Nat->Prop}(h:PA w pb s st O)(hk:Ok s st)(k:Int) :
  Calls prog 119 #[fX pb,.int .u8 k] w λ e w'=>e=.returned (eG st.next)/\∃ O',PA w' pb s (aA s st k) O'/\Fr O w O' w':=by
 have c1:w.cell? ⟨pb,1,none⟩=some (.int .u8 st.next.kind):=by obtain⟨tv,lv,hp,rfl⟩:=h;exact af hp.blk
 have lp:pb<w.heap.size:=h.lt h.own;have N0:=ae (show ¬O w.heap.size from λ hk=>by have:=h.lt hk;omega);have H:=ae (h.stay (w':=w.alloc (.cells #[.int .u8 0,.string ⟨#[]⟩,.int .i64 0] 121)) ((aX _ _).alloc (aD _) _));have K:=ae hk;clear h hk;by_cases hi:st.next.kind=k
 ·have HN:Hid (aA s st k=ax s st):=by unfold Hid aA;rw [aC hi]
  have hb:(st.next.kind != k)=false:=by simp [hi]
  clear hi;go_enter func119,ntmps119;go_wp2_with (go_at_call 118;refine(aN (ab H) (ab K)).mono ?_;rintro e w' ⟨rfl,O',hp,hf⟩;have q0:w'.heap[w.heap.size]?=_:=(hf.block w.heap.size (by simp) (ab N0)).trans (cN w _);have r0:w'.cell? ⟨w.heap.size,0,none⟩=some (.int .u8 0):=(af q0);have r1:w'.cell? ⟨w.heap.size,1,none⟩=some (.string ⟨#[]⟩):=(af q0);have r2:w'.cell? ⟨w.heap.size,2,none⟩=some (.int .i64 0):=(af q0);have zr:∀ o,w'.frozen? ⟨w.heap.size,o,none⟩=false:=(λ o=>ak q0);clear q0)
  have N1:¬O' w.heap.size:=λ hk=>by
   rcases hf.own _ hk with h|h
   ·exact ab N0 h
   have h2:(w.alloc (.cells #[.int .u8 0,.string ⟨#[]⟩,.int .i64 0] 121)).heap.size=w.heap.size+1:=by simp
   omega
  refine eO (v:=eG st.next) (by simp [results,results119,go_sem,r0,r1,r2]) rfl ⟨rfl,O',?_,?_⟩
  ·rw [ab HN];exact((hp.other N1 _ _).other N1 _ _).other N1 _ _
  exact(((((bE _ _).alloc _).trans hf).setCell (inr (aD _)) _).setCell (inr (aD _)) _).setCell (inr (aD _)) _
 have HN:Hid (aA s st k=aY st):=by unfold Hid aA;rw [au hi]
 have hb:(st.next.kind != k)=true:=by simp [hi]
 clear hi;go_enter func119,ntmps119;go_wp2_with (first|(go_at_call 68;refine((ab H).fail).mono ?_;rintro e w1 ⟨rfl,hp1,hf1⟩;have H1:=ae hp1;clear hp1)|(go_at_call 118;refine(aN (ab H1) (ab K).fail).mono ?_;rintro e w' ⟨rfl,O',hp,hf2⟩;have hf:=hf1.trans hf2;have q0:w'.heap[w.heap.size]?=_:=(hf.block w.heap.size (by simp) (ab N0)).trans (cN w _);have r0:w'.cell? ⟨w.heap.size,0,none⟩=some (.int .u8 0):=(af q0);have r1:w'.cell? ⟨w.heap.size,1,none⟩=some (.string ⟨#[]⟩):=(af q0);have r2:w'.cell? ⟨w.heap.size,2,none⟩=some (.int .i64 0):=(af q0);have zr:∀ o,w'.frozen? ⟨w.heap.size,o,none⟩=false:=(λ o=>ak q0);clear q0))
 have N1:¬O' w.heap.size:=λ hk=>by
  rcases hf.own _ hk with h|h
  ·exact ab N0 h
  have h2:(w.alloc (.cells #[.int .u8 0,.string ⟨#[]⟩,.int .i64 0] 121)).heap.size=w.heap.size+1:=by simp
  omega
 refine eO (v:=eG st.next) (by simp [results,results119,go_sem,r0,r1,r2]) rfl ⟨rfl,O',?_,?_⟩
 ·rw [ab HN,<-lN s st];exact((hp.other N1 _ _).other N1 _ _).other N1 _ _
 exact(((((bE _ _).alloc _).trans hf).setCell (inr (aD _)) _).setCell (inr (aD _)) _).setCell (inr (aD _)) _
theorem dY{w:World}{pb:Nat}{s:ByteArray}{st:PS}{O:Nat->Prop}(h:PA w pb s st O) :
  Calls prog 175 #[fX pb] w λ e w'=>e=.returned (.bool (fh st))/\w'=w:=by
 have c1:w.cell? ⟨pb,1,none⟩=some (.int .u8 st.next.kind):=by obtain⟨tv,lv,hp,rfl⟩:=h;exact af hp.blk
 have c7:w.cell? ⟨pb,7,none⟩=some (.int .i64 st.bad):=by obtain⟨tv,lv,hp,rfl⟩:=h;exact af hp.blk
 have H:=ae h;clear h;have HS:Hid (fh st=(decide (st.bad<0)&&(st.next.kind==48||aT st kh||aT st pI||aT st yg||aT st fu))):=rfl;have a1:=(ab H).is kh;have a2:=(ab H).is pI;have a3:=(ab H).is yg;have a4:=(ab H).is fu;generalize aT st kh=b1 at *;generalize aT st pI=b2 at *;generalize aT st yg=b3 at *;generalize aT st fu=b4 at *;have A1:=ae a1;have A2:=ae a2;have A3:=ae a3;have A4:=ae a4;clear a1 a2 a3 a4;go_enter func175,ntmps175;go_wp2_with fail;refine(ab A1).mono ?_;rintro e w' ⟨rfl,rfl⟩;go_wp2_with fail;refine(ab A2).mono ?_;rintro e w' ⟨rfl,rfl⟩;go_wp2_with fail;refine(ab A3).mono ?_;rintro e w' ⟨rfl,rfl⟩;go_wp2_with fail;refine(ab A4).mono ?_;rintro e w' ⟨rfl,rfl⟩;by_cases hb:st.bad<0
 ·cases hk:(st.next.kind==48)<;>cases b1<;>cases b2<;>cases b3 <;>
   (go_wp2_with fail;go_ret;exact⟨jb (by rw [ab HS,jj hb,hk];simp),rfl⟩)
 go_wp2_with fail;go_ret;exact⟨jb (by rw [ab HS,gn (by omega)];rfl),rfl⟩
abbrev bx(op text:ByteArray)(n a:Int)(kv:Value):Value:=.agg #[.string op,.string text,.int .i64 n,.int .i64 a,kv]
abbrev aj(op text:ByteArray)(n a:Int)(kv:Value):Array Value:=#[.string op,.string text,.int .i64 n,.int .i64 a,kv]
abbrev bj:Array Value:=#[.string ⟨#[]⟩,.string ⟨#[]⟩,.int .i64 0,.int .i64 0,.slice none 0 0]
theorem jN{w w':World}{O O':Nat->Prop}(hf:Fr O (w.alloc (.cells bj 115)) O' w')(n0:¬O w.heap.size):¬O' w.heap.size/\w.heap.size<w'.heap.size/\w'.cell? ⟨w.heap.size,0,none⟩=some (.string ⟨#[]⟩)/\w'.cell? ⟨w.heap.size,1,none⟩=some (.string ⟨#[]⟩)/\w'.cell? ⟨w.heap.size,2,none⟩=some (.int .i64 0)/\w'.cell? ⟨w.heap.size,3,none⟩=some (.int .i64 0)/\w'.cell? ⟨w.heap.size,4,none⟩=some (.slice none 0 0)/\(∀ o,w'.frozen? ⟨w.heap.size,o,none⟩=false)/\Fr O w O' w':=by
 have q0:w'.heap[w.heap.size]?=some (.cells bj 115 (0,0)):=(hf.block w.heap.size (by simp) n0).trans (cN w _);obtain⟨r0,r1,r2,r3,r4⟩:=cX q0;refine⟨λ hk=>?_,ai q0,r0,r1,r2,r3,r4,λ o=>ak q0,((bE O w).alloc (.cells bj 115)).trans hf⟩;rcases hf.own _ hk with h|h
 ·exact n0 h
 have h2:(w.alloc (.cells bj 115)).heap.size=w.heap.size+1:=by simp
 omega
theorem lu{w:World}{pb:Nat}{s:ByteArray}{st:PS}{O:Nat->Prop}(h:PA w pb s st O)(hk:Ok s st)(op:ByteArray) :
  Calls prog 124 #[fX pb,.string op] w λ e w'=>e=.returned (bx op ⟨#[]⟩ (bf st.next.text 4294967295) st.next.at_ (.slice none 0 0))/\∃ O',PA w' pb s (aA s st 48) O'/\Fr O w O' w':=by
 have lp:pb<w.heap.size:=h.lt h.own;have N0:=ae (show ¬O w.heap.size from λ hk=>by have:=h.lt hk;omega);have H:=ae (h.stay (w':=w.alloc (.cells bj 115)) ((aX _ _).alloc (aD _) _));have K:=ae hk;clear h hk;go_enter func124,ntmps124;go_wp2_with (go_at_call 119;refine(iW (ab H) (ab K) _).mono ?_;rintro e w' ⟨rfl,O',hp,hf⟩)
 have q0:w'.heap[w.heap.size]?=some (.cells bj 115 (0,0)):=(hf.block w.heap.size (by simp) (ab N0)).trans (cN w _)
 have N1:¬O' w.heap.size:=λ hk=>by
  rcases hf.own _ hk with h|h
  ·exact ab N0 h
  have h2:(w.alloc (.cells bj 115)).heap.size=w.heap.size+1:=by simp
  omega
 have hz:w.heap.size<w'.heap.size:=ai q0;obtain⟨r0,r1,r2,r3,r4⟩:=cX q0;have zr:∀ o,w'.frozen? ⟨w.heap.size,o,none⟩=false:=λ o=>ak q0
 have HP:=ae hp;have HF:=ae (((bE O w).alloc (.cells bj 115)).trans hf);have HN:=ae N1;clear q0 hp hf N1;go_region_with (go_at_call 116;refine(bV _ _ _).mono ?_;rintro e w'' ⟨rfl,rfl⟩)
 all_goals
  go_wp2_with fail;refine eO (v:=bx op ⟨#[]⟩ (bf st.next.text 4294967295) st.next.at_ (.slice none 0 0)) (by simp [results,results124,go_sem,r0,r1,r2,r3,r4,hz]) rfl ⟨rfl,O',?_,?_⟩
  ·repeat with_reducible first|refine PA.other ?_ (ab HN) _ _|refine PA.alloc ?_ _|refine PA.drew ?_|refine PA.drewN ?_ _|exact ab HP
  repeat with_reducible first|refine Fr.setCell ?_ (inr (aD _)) _|refine Fr.setCell ?_ (inl (ab HO)) _|refine Fr.alloc ?_ _|refine Fr.drew ?_|refine Fr.drewN ?_ _|exact ab HF|exact bE _ _
