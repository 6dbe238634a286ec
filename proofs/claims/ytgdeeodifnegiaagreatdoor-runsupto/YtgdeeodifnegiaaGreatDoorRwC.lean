/- part -/
import Derived.Test.YtgdeeodifnegiaaGreatDoorLawG
set_option maxRecDepth 100000
set_option maxHeartbeats 12800000
namespace Go.Proofs.YtgdeeodifnegiaaGreatDoor
open Go.Proofs.Tryz
open Or
open Go.RowKit
structure LX(w:World)(cs:List Value)(R:Rt)(pv mv:Value):Prop where
 len:cs.length=18
 c4:cs[4]?=some (.int .i64 R.addr)
 c5:cs[5]?=some (.int .i64 R.len)
 c6:cs[6]?=some pv
 c7:cs[7]?=some mv
 c8:cs[8]?=some (.int .i64 R.pref)
 c9:cs[9]?=some (.int .i64 R.med)
 ip:a8 w pv R.path
 im:a8 w mv R.marks
 i1:jw R.addr
 i2:jw R.len
 i3:jw R.pref
 i4:jw R.med
 lp:R.path.length<=16777216
 lm:R.marks.length<=16777216
theorem LX.below{w w':World}{cs:List Value}{R:Rt}{pv mv:Value}(h:LX w cs R pv mv)(hb:Below w.heap.size w w'):LX w' cs R pv mv :=
 ⟨h.len,h.c4,h.c5,h.c6,h.c7,h.c8,h.c9,h.ip.below hb,h.im.below hb,h.i1,h.i2,h.i3,h.i4,h.lp,h.lm⟩
structure JS(wb:Nat)(b b':Bk)(W W':World):Prop where
 os:W'.os=W.os
 tape:W'.tape=W.tape
 output:W'.output=W.output
 size:W.heap.size<=W'.heap.size
 block:∀ k,k<W.heap.size->¬b.O wb k->W'.heap[k]?=W.heap[k]?
 own:∀ k,b'.O wb k->b.O wb k\/W.heap.size<=k
 recs:∀ k,b'.R k->b.R k\/W.heap.size<=k
 cnt:b'.cnt<=b.cnt+2
 ps:b'.vp=b.vp
theorem jL{w:World}{g:Nat}{cs:List Value}{R:Rt}{pv mv:Value}{W:World}(h:LX W cs R pv mv)(hg:w.heap[g]?=some (.cells cs.toArray 33 (0,0))) :
  w.cell? ⟨g,4,none⟩=some (.int .i64 R.addr)/\w.cell? ⟨g,5,none⟩=some (.int .i64 R.len)/\w.cell? ⟨g,6,none⟩=some pv/\w.cell? ⟨g,7,none⟩=some mv/\w.cell? ⟨g,8,none⟩=some (.int .i64 R.pref)/\w.cell? ⟨g,9,none⟩=some (.int .i64 R.med):=by
 refine⟨?_,?_,?_,?_,?_,?_⟩;all_goals rw [af hg]
 ·simpa using h.c4
 ·simpa using h.c5
 ·simpa using h.c6
 ·simpa using h.c7
 ·simpa using h.c8
 simpa using h.c9
theorem Ny{W:World}{wb:Nat}{b:Bk}{cs:List Value}{R:Rt}{pv mv a y:Value}{O:Nat->Prop}(hB:eI W wb b)(hcnt:b.cnt<=16777000)(ho:LX W cs R pv mv)(hpr:k7 W O a y) :
  Calls prog 15 #[ay wb 0,.agg cs.toArray,.agg #[a,y]] W λ e W'=>e=.returned (.bool true)/\∃ b',eI W' wb b'/\JS wb b b' W W':=by
 obtain⟨s,ms,x,c,r,pp,qq,rfl,rfl,hBo,hl1,hl2⟩:=hpr;have hlen:=Jf (hBo.sim.stp ms (by rw [hBo.steps];exact sJ ms)) R;have BR:=ae (λ(V:World) (hV:Below W.heap.size W V) (pv mv:Value) (hp:a8 V pv R.path) (hm:a8 V mv R.marks)=>GU (hl1.mono hV.size (λ k hk hA=>⟨hV.block k hk,hA⟩) (λ _ _ h=>h)) hp hm ho.i1 ho.i2);have RR:=ae (λ(V:World) (hV:Below W.heap.size W V) (pv mv:Value) (hp:a8 V pv R.path) (hm:a8 V mv R.marks)=>Jd hBo (hl2.mono hV.size (λ k hk hA=>⟨hV.block k hk,hA⟩) (λ _ _ h=>h)) hp hm ho.i1 ho.i2 ho.i3 ho.i4);obtain⟨q,hq⟩:∃ q,rf.ud ms R=q:=⟨_,rfl⟩
 rw [hq]at hlen BR RR;obtain⟨q,qv,qe⟩:=q;dsimp only at hlen BR RR;obtain⟨hpl,hml⟩:=hlen;have HB:=ae hB;have hwlt:wb<W.heap.size:=ai hB.blk;have IA:=ae ho.ip;have HA:=ae ho.im;have TP:=ae (DE ho.ip);have TM:=ae (DE ho.im);have IP:=ae (DD ho.ip);have IM:=ae (DD ho.im);have lp:=ho.lp;have lm:=ho.lm;obtain⟨po,pc,rfl,-⟩:=id ho.ip;obtain⟨mo,mc,rfl,-⟩:=id ho.im;have QA:=cN W (.cells cs.toArray 33);have BA:=(aX W.heap.size W).alloc (aD _) (.cells cs.toArray 33);obtain⟨WA,hWA⟩:∃ WA,W.alloc (.cells cs.toArray 33)=WA:=⟨_,rfl⟩
 have sA:WA.heap.size=W.heap.size+1:=by rw [<-hWA];simp
 rw [hWA]at QA BA;have QB:=cN WA (.cells #[ay pp 0,ay qq 0] 53);have BB:=(aX WA.heap.size WA).alloc (aD _) (.cells #[ay pp 0,ay qq 0] 53);obtain⟨WB,hWB⟩:∃ WB,WA.alloc (.cells #[ay pp 0,ay qq 0] 53)=WB:=⟨_,rfl⟩
 have sB:WB.heap.size=W.heap.size+2:=by rw [<-hWB];simp [sA]
 rw [hWB,sA]at QB;rw [hWB]at BB;have QC:=cN WB (bZ R (.slice po R.path.length pc) (.slice mo R.marks.length mc));have BC:=(aX WB.heap.size WB).alloc (aD _) (bZ R (.slice po R.path.length pc) (.slice mo R.marks.length mc));obtain⟨WC,hWC⟩:∃ WC,WB.alloc (bZ R (.slice po R.path.length pc) (.slice mo R.marks.length mc))=WC:=⟨_,rfl⟩
 have sC:WC.heap.size=W.heap.size+3:=by rw [<-hWC];simp [sB]
 rw [hWC,sB]at QC;rw [hWC]at BC;have BAB:=BA.trans (BB.mono BA.size);have C0:=ae (BAB.trans (BC.mono BAB.size));have qaB:=(BB.block _ (ai QA)).trans QA;obtain⟨o4,o5,o6,o7,o8,o9⟩:=jL ho qaB;have JA:=ae ((BC.block _ (ai qaB)).trans qaB);have XA:=ae ((BC.block _ (ai QB)).trans QB);have YA:=ae QC;have DA:=ae ho;have u6:WC.cell? ⟨W.heap.size,6,none⟩=some (.slice po R.path.length pc):=(jL ho (ab JA)).2.2.1;have uC:∀ o,WC.frozen? ⟨W.heap.size+2,o,none⟩=false:=λ o=>ak QC
 have uC2:WC.cell? ⟨W.heap.size+2,2,none⟩=some (.slice po R.path.length pc):=af QC;have UB:=ae hWA;have VB:=ae hWB;have XB:=ae (show WB.alloc (.cells #[.int .i64 R.addr,.int .i64 R.len,.slice po R.path.length pc,.slice mo R.marks.length mc,.int .i64 R.pref,.int .i64 R.med] 28)=WC from hWC);clear hWA hWB hWC QA QB QC BA BB BC BAB qaB hB hBo hl1 hl2 ho hq;go_enter func15,ntmps15;go_upto_region 1 with fail
 rw [ab UB,ab VB];go_wp2_with fail;rw [ab XB];refine(oU R.path _ WC ((ab IA).below (ab C0)) lp).mono ?_;rintro e w1 ⟨v1,rfl,hl,hb⟩;obtain⟨q1,d1,rfl⟩:=hl.sl;have B1:=ae ((ab C0).trans (hb.mono (ab C0).size));have qa1:=(hb.block _ (ai (ab JA))).trans (ab JA);have qb1:=(hb.block _ (ai (ab XA))).trans (ab XA);have qc1:=(hb.block _ (ai (ab YA))).trans (ab YA);obtain⟨x1,hx1⟩:∃ x1,w1.setCell ⟨W.heap.size+2,2,none⟩ (.slice q1 R.path.length d1)=x1:=⟨_,rfl⟩
 have sx1:x1.heap.size=w1.heap.size:=by rw [<-hx1];simp [World.setCell]
 have sb1:=hb.size;have OB:=ae (show x1.heap[W.heap.size+2]?=some (bZ R (.slice q1 R.path.length d1) (.slice mo R.marks.length mc))from by rw [<-hx1,aB qc1];rfl);have OA:=ae (show x1.heap[W.heap.size]?=some (.cells cs.toArray 33 (0,0))from by rw [<-hx1,ah (by simp only;omega)];exact qa1);have NB:=ae (show x1.heap[W.heap.size+1]?=some (.cells #[ay pp 0,ay qq 0] 53 (0,0))from by rw [<-hx1,ah (by simp only;omega)];exact qb1);have C1:=ae (show Below W.heap.size W x1 from by rw [<-hx1];exact(ab B1).setCell (p:=⟨W.heap.size+2,2,none⟩) (by simp only;omega) _);have EA:=ae (show gR WC x1 (.slice po R.path.length pc) (.slice q1 R.path.length d1) R.path from by rw [<-hx1];exact hl.set (by omega) _);have YB:=ae hx1;have t1:w1.cell? ⟨W.heap.size+2,2,none⟩=some (.slice po R.path.length pc):=af qc1;have fz1:∀ o,w1.frozen? ⟨W.heap.size+2,o,none⟩=false:=λ o=>ak qc1
 have y1:x1.cell? ⟨W.heap.size,7,none⟩=some (.slice mo R.marks.length mc):=(jL (ab DA) (ab OA)).2.2.2.1;have yy1:w1.cell? ⟨W.heap.size,7,none⟩=some (.slice mo R.marks.length mc):=(jL (ab DA) qa1).2.2.2.1;clear hl hb qa1 qb1 qc1 hx1 u6 uC uC2 o4 o5 o6 o7 o8 o9;go_wp2_with fail;rw [ab YB];refine(oU R.marks _ x1 ((ab HA).below (ab C1)) lm).mono ?_;rintro e w2 ⟨v2,rfl,hl,hb⟩;obtain⟨q2,d2,rfl⟩:=hl.sl;have B2:=ae ((ab C1).trans (hb.mono (ab C1).size));have qa2:=(hb.block _ (ai (ab OA))).trans (ab OA);have qb2:=(hb.block _ (ai (ab NB))).trans (ab NB);have qc2:=(hb.block _ (ai (ab OB))).trans (ab OB);obtain⟨x2,hx2⟩:∃ x2,w2.setCell ⟨W.heap.size+2,3,none⟩ (.slice q2 R.marks.length d2)=x2:=⟨_,rfl⟩
 have sx2:x2.heap.size=w2.heap.size:=by rw [<-hx2];simp [World.setCell]
 have sb2:=hb.size;have RA:=ae (show x2.heap[W.heap.size+2]?=some (bZ R (.slice q1 R.path.length d1) (.slice q2 R.marks.length d2))from by rw [<-hx2,aB qc2];rfl);have KB:=ae (show x2.heap[W.heap.size]?=some (.cells cs.toArray 33 (0,0))from by rw [<-hx2,ah (by simp only;omega)];exact qa2);have PA:=ae (show x2.heap[W.heap.size+1]?=some (.cells #[ay pp 0,ay qq 0] 53 (0,0))from by rw [<-hx2,ah (by simp only;omega)];exact qb2);have C2:=ae (show Below W.heap.size W x2 from by rw [<-hx2];exact(ab B2).setCell (p:=⟨W.heap.size+2,3,none⟩) (by simp only;omega) _);have AA:=ae (show gR WC x2 (.slice po R.path.length pc) (.slice q1 R.path.length d1) R.path from by rw [<-hx2];exact((ab EA).below hb).set (by omega) _);have CA:=ae (show gR x1 x2 (.slice mo R.marks.length mc) (.slice q2 R.marks.length d2) R.marks from by rw [<-hx2];exact hl.set (by omega) _);have ZB:=ae hx2;obtain⟨t0,t1',t2,t3,t4,t5,tz⟩:=mH qc2;have z0:w2.cell? ⟨W.heap.size+1,0,none⟩=some (ay pp 0):=af qb2;have z0':x2.cell? ⟨W.heap.size+1,0,none⟩=some (ay pp 0):=af (ab PA);obtain⟨s0,s1,s2,s3,s4,s5,sz⟩:=mH (ab RA);clear hl hb qa2 qb2 qc2 hx2 t1 fz1 y1 yy1;go_wp2_with fail;rw [ab ZB];refine(ab BR x2 (ab C2) _ _ ((ab AA).at_ (ab IP) lp) ((ab CA).at_ (ab IM) lm)).mono ?_;rintro e w3 ⟨pv',mv',rfl,hrv,hb3⟩;obtain⟨qa,ca,rfl⟩:=rf.aU hrv.1;obtain⟨qm,cm,rfl⟩:=rf.aU hrv.2.1;have sb3:=hb3.size;have QD:=cN w3 (bZ q (.slice qa q.path.length ca) (.slice qm q.marks.length cm));have BD:=(aX w3.heap.size w3).alloc (aD _) (bZ q (.slice qa q.path.length ca) (.slice qm q.marks.length cm));obtain⟨x3,hx3⟩:∃ x3,w3.alloc (bZ q (.slice qa q.path.length ca) (.slice qm q.marks.length cm))=x3:=⟨_,rfl⟩
 rw [hx3]at QD BD;have sx3:x3.heap.size=w3.heap.size+1:=by rw [<-hx3];simp
 have AC:=ae (show w3.alloc (.cells #[.int .i64 q.addr,.int .i64 q.len,.slice qa q.path.length ca,.slice qm q.marks.length cm,.int .i64 q.pref,.int .i64 q.med] 28)=x3 from hx3);have b23:Below x2.heap.size x2 x3:=hb3.trans (BD.mono hb3.size);have C3:=ae ((ab C2).trans (b23.mono (ab C2).size));have LB:=ae ((b23.block _ (ai (ab KB))).trans (ab KB));have GC:=ae ((b23.block _ (ai (ab PA))).trans (ab PA));have SA:=ae ((b23.block _ (ai (ab RA))).trans (ab RA));have KC:=ae QD;have n1:=ae hrv.2.2.1;have n2:=ae hrv.2.2.2.1;have AP:=ae hrv.2.2.2.2;have FB:=ae (show x3.ownsRow 0 3 1 (.slice qa q.path.length ca) q.path.length (rf.aq q.path)from ap hrv.1 (λ k hk=>BD.block k (hrv.1.lt k hk).2));have ZA:=ae (show x3.ownsRow 0 3 1 (.slice qm q.marks.length cm) q.marks.length (rf.aq q.marks)from ap hrv.2.1 (λ k hk=>BD.block k (hrv.2.1.lt k hk).2));have KA:=ae ((ab AA).below b23);have LA:=ae ((ab CA).below b23);have m1:=ae (ab AA).blk;have m2:=ae (ab CA).blk;have m1':=ae (ab EA).blk;have a6:x3.cell? ⟨W.heap.size,6,none⟩=some (.slice po R.path.length pc):=(jL (ab DA) (ab LB)).2.2.1;have a2:x3.cell? ⟨W.heap.size+2,2,none⟩=some (.slice q1 R.path.length d1):=af (ab SA);have lq3:W.heap.size+2<x3.heap.size:=ai (ab SA);clear hb3 hrv QD BD b23 hx3 t0 t1' t2 t3 t4 t5 tz z0 z0' s0 s1 s2 s3 s4 s5 sz;go_upto_region 5 with fail
 rw [ab AC];go_wp2_with fail;refine(oG R.path _ _ WC x3 ((ab IA).below (ab C3)) (ab KA) ((ab TP).imp id (λ h k hk e=>by have h1:=h k hk;have h2:=(ab m1 k e).1;omega)) lp).mono ?_;rintro e w4 ⟨rfl,hf⟩;have s4:=hf.size;have C4:=ae (hf.belowO (ab C3) (ab C3).size (λ k hk=>by have h2:=(ab m1 k hk).1;omega));have MB:=ae ((hf.block W.heap.size (by omega) (λ e=>by have h2:=(ab m1 _ e).1;omega)).trans (ab LB));have HC:=ae ((hf.block (W.heap.size+1) (by omega) (λ e=>by have h2:=(ab m1 _ e).1;omega)).trans (ab GC));have JC:=ae ((hf.block (W.heap.size+2) (by omega) (λ e=>by have h2:=(ab m1 _ e).1;omega)).trans (ab SA));have LC:=ae ((hf.block w3.heap.size (by omega) (λ e=>by have h2:=(ab m1 _ e).2;omega)).trans (ab KC));have GB:=ae (show w4.ownsRow 0 3 1 (.slice qa q.path.length ca) q.path.length (rf.aq q.path)from ap (ab FB) (λ k hk=>hf.block k ((ab FB).lt k hk).2 (λ e=>by have h2:=(ab m1 _ e).2;have h3:=ab n1 k hk;omega)));have AB:=ae (show w4.ownsRow 0 3 1 (.slice qm q.marks.length cm) q.marks.length (rf.aq q.marks)from ap (ab ZA) (λ k hk=>hf.block k ((ab ZA).lt k hk).2 (λ e=>by have h2:=(ab m1 _ e).2;have h3:=ab n2 k hk;omega)));have MA:=ae ((ab LA).keep hf (λ k h2 h1=>by have e1:=(ab m1' k h1).2;have e2:=(ab m2 k h2).1;omega));have a7:w4.cell? ⟨W.heap.size,7,none⟩=some (.slice mo R.marks.length mc):=(jL (ab DA) (ab MB)).2.2.2.1;have a3:w4.cell? ⟨W.heap.size+2,3,none⟩=some (.slice q2 R.marks.length d2):=af (ab JC);clear hf a6 a2;go_wp2_with fail;refine(oG R.marks _ _ x1 w4 ((ab HA).below (ab C4)) (ab MA) ((ab TM).imp id (λ h k hk e=>by have h1:=h k hk;have h2:=(ab m2 k e).1;omega)) lm).mono ?_;rintro e w5 ⟨rfl,hf⟩;have s5:=hf.size;have C5:=ae (hf.belowO (ab C4) (ab C4).size (λ k hk=>by have h2:=(ab m2 k hk).1;omega));have FC:=ae ((hf.block W.heap.size (by omega) (λ e=>by have h2:=(ab m2 _ e).1;omega)).trans (ab MB))
 have IC:=ae ((hf.block (W.heap.size+1) (by omega) (λ e=>by have h2:=(ab m2 _ e).1;omega)).trans (ab HC));have PB:=ae ((hf.block w3.heap.size (by omega) (λ e=>by have h2:=(ab m2 _ e).2;omega)).trans (ab LC));have IB:=ae (show w5.ownsRow 0 3 1 (.slice qa q.path.length ca) q.path.length (rf.aq q.path)from ap (ab GB) (λ k hk=>hf.block k ((ab GB).lt k hk).2 (λ e=>by have h2:=(ab m2 _ e).2;have h3:=ab n1 k hk;omega)));have CB:=ae (show w5.ownsRow 0 3 1 (.slice qm q.marks.length cm) q.marks.length (rf.aq q.marks)from ap (ab AB) (λ k hk=>hf.block k ((ab AB).lt k hk).2 (λ e=>by have h2:=(ab m2 _ e).2;have h3:=ab n2 k hk;omega)));have z1:w5.cell? ⟨W.heap.size+1,1,none⟩=some (ay qq 0):=af (ab IC);obtain⟨o4,o5,o6,o7,o8,o9⟩:=jL (ab DA) (ab FC);clear hf a7 a3;go_wp2_with fail;refine(ab RR w5 (ab C5) _ _ ((ab IA).below (ab C5)) ((ab HA).below (ab C5))).mono ?_;rintro e w6 ⟨pb,mb,rfl,ob1,ob2,hb6⟩;dsimp only at ob1 ob2 ⊢;obtain⟨fo,fc,rfl⟩:=rf.aU ob1;obtain⟨go,gc,rfl⟩:=rf.aU ob2;have sb6:=hb6.size;have QE:=cN w6 (bZ q (.slice fo q.path.length fc) (.slice go q.marks.length gc));have BE:=(aX w6.heap.size w6).alloc (aD _) (bZ q (.slice fo q.path.length fc) (.slice go q.marks.length gc));obtain⟨x6,hx6⟩:∃ x6,w6.alloc (bZ q (.slice fo q.path.length fc) (.slice go q.marks.length gc))=x6:=⟨_,rfl⟩
 rw [hx6]at QE BE;have sx6:x6.heap.size=w6.heap.size+1:=by rw [<-hx6];simp
 have CC:=ae (show w6.alloc (.cells #[.int .i64 q.addr,.int .i64 q.len,.slice fo q.path.length fc,.slice go q.marks.length gc,.int .i64 q.pref,.int .i64 q.med] 28)=x6 from hx6);have b56:Below w5.heap.size w5 x6:=hb6.trans (BE.mono hb6.size);have C6:=ae ((ab C5).trans (b56.mono (ab C5).size));have FA:=ae ((b56.block _ (ai (ab PB))).trans (ab PB));have GA:=ae (show x6.ownsRow 0 3 1 (.slice qa q.path.length ca) q.path.length (rf.aq q.path)from ap (ab IB) (λ k hk=>b56.block k ((ab IB).lt k hk).2));have NA:=ae (show x6.ownsRow 0 3 1 (.slice qm q.marks.length cm) q.marks.length (rf.aq q.marks)from ap (ab CB) (λ k hk=>b56.block k ((ab CB).lt k hk).2));have SR:=ae (Nb q _ _ _ _ x6 (ab GA) (ab NA) (ap ob1 (λ k hk=>BE.block k (ob1.lt k hk).2)) (ap ob2 (λ k hk=>BE.block k (ob2.lt k hk).2)));obtain⟨e0,e1,e2,e3,e4,e5,ez⟩:=mH (ab FA);obtain⟨f0,f1,f2,f3,f4,f5,fz⟩:=mH QE;have l36:w3.heap.size<x6.heap.size:=ai (ab FA);clear hb6 ob1 ob2 QE BE b56 hx6 o4 o5 o6 o7 o8 o9 z1;go_upto_region 8 with fail
 rw [ab CC];go_wp2_with fail;refine(ab SR).mono ?_;rintro e w7 ⟨rfl,hb7⟩;have sb7:=hb7.size;have C7:=ae ((ab C6).trans (hb7.mono (ab C6).size));have TA:=ae ((hb7.block _ (ai (ab FA))).trans (ab FA))
 have JB:=ae (show nO w7 W.heap.size (.slice qa q.path.length ca) q.path from by
  have h:=ap (ab GA) (λ k hk=>hb7.block k ((ab GA).lt k hk).2);refine⟨h.1,h.2.imp id ?_⟩;rintro⟨g,cap,cur,h1,_,h3⟩;exact⟨g,cap,cur,h1,by have:=ab n1 g (by rw [h1];rfl);omega,h3⟩)
 have DB:=ae (show nO w7 W.heap.size (.slice qm q.marks.length cm) q.marks from by
  have h:=ap (ab NA) (λ k hk=>hb7.block k ((ab NA).lt k hk).2);refine⟨h.1,h.2.imp id ?_⟩;rintro⟨g,cap,cur,h1,_,h3⟩;exact⟨g,cap,cur,h1,by have:=ab n2 g (by rw [h1];rfl);omega,h3⟩)
 clear hb7 e0 e1 e2 e3 e4 e5 ez f0 f1 f2 f3 f4 f5 fz SR;have sC7:=(ab C7).size;have sC2:=(ab C2).size
 have FP:=ae (show qJ wb b (.slice qa q.path.length ca)from λ k hk=>by
  have h1:=ab n1 k hk;exact⟨λ h=>by have:=((ab HB).lt h).1;omega,λ h=>by have:=((ab HB).sep k h).2;omega⟩)
 have FM:=ae (show qJ wb b (.slice qm q.marks.length cm)from λ k hk=>by
  have h1:=ab n2 k hk;exact⟨λ h=>by have:=((ab HB).lt h).1;omega,λ h=>by have:=((ab HB).sep k h).2;omega⟩)
 have UA:=ae (show vk (.slice qa q.path.length ca) (.slice qm q.marks.length cm)from λ k h1 h2=>by
  rcases ab AP with h|h
  ·rw [h]at h1;cases h1
  ·exact h (h1.trans h2.symm))
 have BI:=ae (λ(V:World) (hV:Below w7.heap.size w7 V)=>oz b wb (.slice qa q.path.length ca) q.path V W.heap.size (((ab HB).below (ab C7)).below hV) (ab FP) (ap (ab JB) (λ k hk=>hV.block k ((ab JB).lt k hk).2)) (kr sC7 hV.size) (by omega) (by omega));have NQ:=ae (rf.qo (ab GA) (ab FA) (by decide));have g2:w7.cell? ⟨w3.heap.size,2,none⟩=some (.slice qa q.path.length ca):=af (ab TA);have l37:w3.heap.size<w7.heap.size:=ai (ab TA);have lwb7:wb<w7.heap.size:=by omega
 go_upto_region 9 with fail
 go_cut [] (λ wc=>∃ bz,eI wc wb bz/\si wb b bz (.slice qa q.path.length ca) w7 wc)
 case first =>
  go_region_with (go_at_call 39;refine(ab BI _ (by exact(aX _ _).drew)).mono ?_;rintro e wz ⟨rfl,bz,hb1,hput⟩)
  all_goals
   go_wp2_with fail
   go_meet
   exact⟨bz,hb1,hput.from (aX _ _).drew⟩
 case rest =>
 obtain⟨b1,hbk,hput⟩:=hcut
 rename World=>e1
 have RB:=ae hbk;have DC:=ae hput;have se1:=hput.size;have MC:=ae ((hput.block w3.heap.size l37 (λ h=>by have:=((ab HB).lt h).1;omega) (ab NQ)).trans (ab TA));have EB:=ae (hput.row (ab FM) (ab UA) (ab DB));have TB:=ae (hput.free (ab FM) (ab UA) (λ k hk=>((ab DB).lt k hk).2));have cn1:=hput.cnt;have VA:=ae (λ(V:World) (hV:Below e1.heap.size e1 V)=>oz b1 wb (.slice qm q.marks.length cm) q.marks V W.heap.size ((ab RB).below hV) (ab TB) (ap (ab EB) (λ k hk=>hV.block k ((ab EB).lt k hk).2)) (kr (by omega) hV.size) (by omega) (by omega));have g3:e1.cell? ⟨w3.heap.size,3,none⟩=some (.slice qm q.marks.length cm):=af (ab MC);have l38:w3.heap.size<e1.heap.size:=by omega
 have lwb8:wb<e1.heap.size:=by omega
 clear hbk hput g2 BI;go_upto_region 10 with fail
 go_cut [] (λ wc=>∃ bz,eI wc wb bz/\si wb b1 bz (.slice qm q.marks.length cm) e1 wc)
 case first =>
  go_region_with (go_at_call 39;refine(ab VA _ (by exact(aX _ _).drew)).mono ?_;rintro e wz ⟨rfl,bz,hb1,hput⟩)
  all_goals
   go_wp2_with fail
   go_meet
   exact⟨bz,hb1,hput.from (aX _ _).drew⟩
 case rest =>
 obtain⟨b2,hbk,hput⟩:=hcut
 rename World=>e2
 have SB:=ae hbk;have EC:=ae hput;clear hbk hput g3 VA;go_wp2_with fail;go_ret;have P1:=ab DC;have P2:=ab EC;have c1:=P1.cnt;have c2:=P2.cnt;refine⟨rfl,b2,ab SB,P2.os.trans (P1.os.trans (ab C7).os),P2.tape.trans (P1.tape.trans (ab C7).tape),P2.output.trans (P1.output.trans (ab C7).output),by have:=P2.size;omega,λ k hk hO=>?_,λ k hk=>?_,λ k hk=>?_,by omega,P2.ps.trans P1.ps⟩
 ·rw [P2.block k (by omega) (λ h=>(P1.own k h).elim hO (λ h=>by omega)) (λ e=>by have:=ab n2 k e;omega),P1.block k (by omega) hO (λ e=>by have:=ab n1 k e;omega)];exact(ab C7).block k hk
 ·exact(P2.own k hk).elim (λ h=>(P1.own k h).imp id (λ h=>by omega)) (λ h=>inr (by omega))
 rcases P2.recs k hk with h|h|h
 ·rcases P1.recs k h with h|h|h
  ·exact inl h
  ·exact inr (by have:=ab n1 k h;omega)
  exact inr (by omega)
 ·exact inr (by have:=ab n2 k h;omega)
 exact inr (by omega)
theorem gG{ops:Array Oper}{rest:List Oper}{op:Oper}{a:Act}{w:World}{Q:Exit->Act->World->Prop}(hgd:op.guard=none)(x:Operand)(ho:op.op=.load 33 x)
  (b o:Nat) (hx:a.eval x=.pointer (some ⟨b,o,none⟩)) (cs:List Value) (hl:cs.length=18) (hc:w.rangeAt b o cs)
  (h:wpList prog ops Q rest (a.put op.dst (.agg cs.toArray)) w):wpList prog ops Q (op::rest) a w :=
 wpList_load_mid hgd _ x ho b o hx cs _ hc underlying33 rfl (by rw [hl];kernel_rfl) h
theorem mF{w:World}{g t:Nat}{fr:Nat×Nat}{cs:List Value}(h:w.heap[g]?=some (.cells cs.toArray t fr)):w.rangeAt g 0 cs:=λ j v hv=>by
 rw [Nat.zero_add,af h];simpa using hv
structure uM(W:World)(wb n:Nat)(b:Bk)(xs:List Value):Prop where
 book:eI W wb b
 own:W.ownsRow 0 53 2 b.vp n xs
 free:qJ wb b b.vp
def XO(wb:Nat)(b:Bk)(k:Nat):Prop:=b.O wb k\/b.vp.ownBlock=some k
theorem uM.below{W W':World}{wb n:Nat}{b:Bk}{xs:List Value}(h:uM W wb n b xs)(hb:Below W.heap.size W W'):uM W' wb n b xs :=
 ⟨h.book.below hb,ap h.own (λ k hk=>hb.block k (h.own.lt k hk).2),h.free⟩
theorem uM.blkN{w wn:World}{wb n:Nat}{b:Bk}{v:Value}{xs:List Value}{o:Obj}(h:uM w wb n b xs)(hv:b.vp=v)(hgrow:(w.alloc o).grownBy wn v.ownBlock):wn.heap[wb]?=some (.cells (Dc b) 47 (0,0)):=by
 subst hv;exact(hgrow.block wb (by have:=ai h.book.blk;simp;omega) (λ e=>(h.free wb e.symm).1 (inl rfl))).trans ((eW _ _ _ (ai h.book.blk)).trans h.book.blk)
theorem uM.cellN{w wn:World}{wb n:Nat}{b:Bk}{v:Value}{xs:List Value}{o:Obj}(h:uM w wb n b xs)(hv:b.vp=v)(hgrow:(w.alloc o).grownBy wn v.ownBlock):wn.cell? ⟨wb,0,none⟩=some v:=by
 have:=h.blkN hv hgrow;rw [<-hv];exact af this
theorem uM.push{W w wn:World}{wb n gg cap:Nat}{b:Bk}{v:Value}{xs ys:List Value}{o:Obj}(h0:Fr (XO wb b) W (XO wb b) w)(h:uM w wb n b xs)(hv:b.vp=v)(hgrow:(w.alloc o).grownBy wn v.ownBlock)
  (hown:wn.ownsRow 0 53 2 (.slice (some ⟨gg,0,none⟩) (n+1) cap) (n+1) (xs++ys)) (hat:v.ownBlock=some gg\/gg=w.heap.size+1) :
  uM (wn.setCell ⟨wb,0,none⟩ (.slice (some ⟨gg,0,none⟩) (n+1) cap)) wb (n+1) { b with vp:=.slice (some ⟨gg,0,none⟩) (n+1) cap } (xs++ys)/\Fr (XO wb b) W (XO wb { b with vp:=.slice (some ⟨gg,0,none⟩) (n+1) cap }) (wn.setCell ⟨wb,0,none⟩ (.slice (some ⟨gg,0,none⟩) (n+1) cap)):=by
 subst hv;have hb:=h.book;have hw:=ai hb.blk;have hsz:(w.alloc o).heap.size=w.heap.size+1:=by simp
 have hs2:=hgrow.size
 have hgO:¬b.O wb gg/\¬b.R gg:=by
  rcases hat with e|e
  ·exact h.free gg e
  exact⟨λ hh=>by have:=(hb.lt hh).1;omega,λ hh=>by have:=(hb.sep _ hh).2;omega⟩
 have hne:gg≠wb:=λ e=>hgO.1 (inl e)
 have keep1:∀ k,k<w.heap.size->b.vp.ownBlock≠some k->wn.heap[k]?=w.heap[k]?:=λ k hk h1=>(hgrow.block k (by omega) (λ e=>h1 e.symm)).trans (eW _ _ _ hk)
 have keep:∀ k,k<w.heap.size->b.vp.ownBlock≠some k->k≠wb->(wn.setCell ⟨wb,0,none⟩ (.slice (some ⟨gg,0,none⟩) (n+1) cap)).heap[k]?=w.heap[k]?:=λ k hk h1 h2=>by
  rw [ah h2];exact keep1 k hk h1
 have keepR:∀ k,b.R k->(wn.setCell ⟨wb,0,none⟩ (.slice (some ⟨gg,0,none⟩) (n+1) cap)).heap[k]?=w.heap[k]?:=λ k hk =>
  keep k (hb.sep k hk).2 (λ e=>(h.free k e).2 hk) (λ e=>(hb.sep k hk).1 (inl e))
 have keepO:∀ k,b.O wb k->k≠wb->(wn.setCell ⟨wb,0,none⟩ (.slice (some ⟨gg,0,none⟩) (n+1) cap)).heap[k]?=w.heap[k]?:=λ k hk h2 =>
  keep k (hb.lt hk).1 (λ e=>(h.free k e).1 hk) h2
 have sz:(wn.setCell ⟨wb,0,none⟩ (.slice (some ⟨gg,0,none⟩) (n+1) cap)).heap.size=wn.heap.size:=by simp [World.setCell]
 have hle:w.heap.size<=(wn.setCell ⟨wb,0,none⟩ (.slice (some ⟨gg,0,none⟩) (n+1) cap)).heap.size:=by omega
 refine⟨⟨⟨?_,?_,?_,?_,λ r hr=>(hb.lb r hr).keep hle (λ k e=>keepR k (inl ⟨r,hr,e⟩)),λ r hr=>(hb.li r hr).keep hle (λ k e=>keepR k (inr (inl ⟨r,hr,e⟩))),λ r hr=>(hb.ln r hr).keep hle (λ k e=>keepR k (inr (inr ⟨r,hr,e⟩))),λ k hk=>⟨(hb.sep k hk).1,eV (hb.sep k hk).2 hle⟩,hb.abi,hb.abn,hb.ain⟩,?_,?_⟩,?_⟩
 ·rw [aB ((keep1 wb hw (λ e=>(h.free wb e).1 (inl rfl))).trans hb.blk)];rfl
 ·exact ap hb.ob (λ k e=>keepO k (inr (inl e)) (by have:=(hb.ob.lt k e).1;omega))
 ·exact ap hb.oi (λ k e=>keepO k (inr (inr (inl e))) (by have:=(hb.oi.lt k e).1;omega))
 ·exact ap hb.on (λ k e=>keepO k (inr (inr (inr e))) (by have:=(hb.on.lt k e).1;omega))
 ·refine ap hown (λ k hk=>ah ?_);have e:gg=k:=by simpa [Value.ownBlock]using hk
  subst e;exact hne
 ·intro k hk;have e:gg=k:=by simpa [Value.ownBlock]using hk
  subst e;exact hgO
 have f1:=((h0.alloc o).grown hgrow (λ k hk=>inl (inr hk))).setCell (p:=⟨wb,0,none⟩) (inl (inl (inl rfl))) (.slice (some ⟨gg,0,none⟩) (n+1) cap);refine f1.reown (λ k hk=>?_);rcases hk with hk|hk
 ·exact inl (inl hk)
 have e:gg=k:=by simpa [Value.ownBlock]using hk
 subst e;rcases hat with e|e
 ·exact inl (inr e)
 exact inr (by have:=h0.size;omega)
theorem JO{W:World}{wb n:Nat}{b:Bk}{xs cs:List Value}{S:ByteArray}(hw:uM W wb n b xs)(hn:n<=1000000000000)(ho:MP cs 1 S)(ht:bB W) :
  Calls prog 10 #[ay wb 0,.agg cs.toArray] W λ e W'=>e=.returned (.bool true)/\∃ n' b' xs',n'<=n+1/\uM W' wb n' b' xs'/\b'.cnt=b.cnt/\Fr (XO wb b) W (XO wb b') W'/\(xs'=xs\/∃ a c,xs'=xs++[a,c]/\k7 W' (XO wb b') a c):=by
 obtain⟨i0,hi0,hz0,hz1,hz2⟩:=info_parts Tryz.infoPol;have lwb:wb<W.heap.size:=ai hw.book.blk;have hq:(W.alloc (.cells cs.toArray 33)).heap[W.heap.size]?=some (.cells cs.toArray 33 (0,0)):=cN _ _;have q3:(W.alloc (.cells cs.toArray 33)).cell? ⟨W.heap.size,3,none⟩=some (.string S):=by rw [af hq];simpa using ho.str
 have AA:=ae ((aX W.heap.size W).alloc (aD _) (.cells cs.toArray 33));have HW:=ae hw;have HT:=ae ht;have HQ:=ae hq;have Q3:=ae q3;clear hw ht hq q3;obtain⟨WA,hWA⟩:∃ WA,W.alloc (.cells cs.toArray 33)=WA:=⟨_,rfl⟩
 have FA:=ae hWA;rw [hWA]at AA HQ Q3;have q3:=ab Q3;clear hWA;go_enter func10,ntmps10;go_upto_region 1 with fail
 rw [ab FA];have lWA:W.heap.size<WA.heap.size:=ai (ab HQ);rcases xe S with⟨er,at_,hne,hp,hr⟩|⟨ms,x,c,r,hB,hp,hr⟩
 ·have HP:=ae (hp WA ((ab HT).below (ab AA)));have HR:=ae hr;have hb1:(er==0)=false:=by simpa using hne
  clear hp hr hne;go_wp2_with fail;refine(ab HP).mono ?_;rintro e w1 ⟨rfl,hb⟩;have BA:=ae hb;have q31:=(hb.cell (p:=⟨W.heap.size,3,none⟩) lWA).trans (ab Q3);have lw1:W.heap.size<w1.heap.size:=by have:=hb.size;omega
  clear hb HP;go_wp2_with fail;refine(ab HR w1).mono ?_;rintro e w2 ⟨rfl,hb⟩;have CA:=ae (((ab AA).trans ((ab BA).mono (ab AA).size)).trans (hb.mono (by have:=(ab AA).size;have:=(ab BA).size;omega)));clear hb HR;go_wp2_with fail;go_ret;exact⟨rfl,n,b,xs,by omega,(ab HW).below (ab CA),rfl,Fr.of_below (ab CA),inl rfl⟩
 have HP:=ae (hp WA ((ab HT).below (ab AA)));have HR:=ae hr;clear hp hr;go_wp2_with fail;refine(ab HP).mono ?_;rintro e w1 ⟨pp,rfl,hb,l1⟩;have L1:=ae l1;have BA:=ae hb;have q31:=(hb.cell (p:=⟨W.heap.size,3,none⟩) lWA).trans (ab Q3);have lw1:W.heap.size<w1.heap.size:=by have:=hb.size;omega
 clear hb HP l1;go_wp2_with fail;refine(ab HR w1).mono ?_;rintro e w2 ⟨qq,rfl,hb,l2⟩
 have PR:=ae (show k7 w2 (XO wb b) (ay pp 0) (ay qq 0)from by
  have hno:∀ k,WA.heap.size<=k->¬XO wb b k:=λ k hk h=>by
   rcases h with h|h
   ·have:=((ab HW).book.lt h).1;omega
   ·have:=((ab HW).own.lt k h).2;omega
  exact⟨S,ms,x,c,r,pp,qq,rfl,rfl,hB,(ab L1).mono hb.size (λ k h1 h2=>⟨hb.block k h1,hno k h2⟩) (λ _ _ h=>h),l2.mono (aD _) (λ k _ h2=>⟨rfl,hno k (kr (ab BA).size h2)⟩) (λ _ _ h=>h)⟩)
 clear l2 hB L1;have CA:=ae (((ab AA).trans ((ab BA).mono (ab AA).size)).trans (hb.mono (by have:=(ab AA).size;have:=(ab BA).size;omega)));have hw2:=(ab HW).below (ab CA);have EA:=ae hw2;have cv:w2.cell? ⟨wb,0,none⟩=some b.vp:=af hw2.book.blk;have zv:w2.frozen? ⟨wb,0,none⟩=false:=ak hw2.book.blk;have lw2:wb<w2.heap.size:=ai hw2.book.blk;obtain⟨vo,vc,hvv⟩:=rf.aU hw2.own;rw [hvv]at cv;have DA:=ae hvv;have OW:=ae (show w2.ownsRow 0 53 2 (.slice vo n vc) n xs from by rw [<-hvv];exact hw2.own);clear hb HR hw2 q31 hvv;have hlt:∀ k,(Value.slice vo n vc).ownBlock=some k->k<w2.heap.size:=λ k hk=>((ab OW).lt k hk).2
 have GA:=ae hlt;have ZV:=ae zv;clear hlt zv;go_wp2_with (at_builtin;refine wpList_append_lies _ rfl _ _ _ rfl 0 53 i0 _ 2 16 underlying37 hi0 hz0 hz1 hz2 rfl (by omega) (.slice vo n vc) n xs rfl ((ab OW).alloc _) ⟨w2.heap.size,0,none⟩ 1 1 [ay pp 0,ay qq 0] rfl rfl (World.news_of_block (cs:=#[ay pp 0,ay qq 0]) (t:=53) (fr:=(0,0)) (cN _ _)) (by simp [Value.oneCell']) (by omega) (by simp [maxLen];omega) (by omega) (by simp) (w2.heap.size+1) (by simp) ?_;intro gg cap wn hown hgrow hat hltg;have d0:wn.cell? ⟨wb,0,none⟩=some (.slice vo n vc):=(ab EA).cellN (ab DA) hgrow;have df:wn.frozen? ⟨wb,0,none⟩=false:=ak ((ab EA).blkN (ab DA) hgrow))
 go_ret;have P:=uM.push (Fr.of_below (ab CA)) (ab EA) (ab DA) hgrow hown hat;exact⟨rfl,_,_,_,aD _,P.1,rfl,P.2,inr ⟨_,_,rfl,(ab PR).fr (uM.push (bE _ _) (ab EA) (ab DA) hgrow hown hat).2⟩⟩
theorem MG{W:World}{wb n:Nat}{b:Bk}{xs cs:List Value}{S:ByteArray}(hw:uM W wb n b xs)(hn:n<=1000000000000)(ho:MP cs 1 S)(ht:bB W) :
  Calls prog 8 #[ay wb 0,.agg cs.toArray] W λ e W'=>e=.returned (.bool true)/\∃ n' b' xs',n'<=n+1/\uM W' wb n' b' xs'/\b'.cnt=b.cnt/\Fr (XO wb b) W (XO wb b') W'/\(xs'=xs\/∃ a c,xs'=xs++[a,c]/\k7 W' (XO wb b') a c):=by
 have lwb:wb<W.heap.size:=ai hw.book.blk;have hq:(W.alloc (.cells cs.toArray 33)).heap[W.heap.size]?=some (.cells cs.toArray 33 (0,0)):=cN _ _;have q0:(W.alloc (.cells cs.toArray 33)).cell? ⟨W.heap.size,0,none⟩=some (.int .i64 1):=by rw [af hq];simpa using ho.kind
 have AA:=ae ((aX W.heap.size W).alloc (aD _) (.cells cs.toArray 33));have HW:=ae hw;have HT:=ae ht;have HO:=ae ho;have HR:=ae (mF hq);clear hw ht hq ho;obtain⟨WA,hWA⟩:∃ WA,W.alloc (.cells cs.toArray 33)=WA:=⟨_,rfl⟩
 have BA:=ae hWA;rw [hWA]at AA HR q0;clear hWA;go_enter func8,ntmps8;go_upto_region 1 with fail
 rw [ab BA];go_wp2_with (refine gG rfl _ rfl W.heap.size 0 rfl cs (ab HO).len (ab HR) ?_)
 refine(JO ((ab HW).below (ab AA)) hn (ab HO) ((ab HT).below (ab AA))).mono ?_;rintro e w1 ⟨rfl,n',b',xs',h1,h2,hc,h3,h4⟩;have H2:=ae h2;have H3:=ae h3;have H4:=ae h4;clear h2 h3 h4;go_wp2_with fail;go_ret;exact⟨rfl,n',b',xs',h1,ab H2,hc,(Fr.of_below (ab AA)).trans (ab H3),ab H4⟩
def pq(c n:Int):Int:=(if c<0 then -(c+1)else c) % n
theorem Fk(c n:Int)(w:World)(h1 : -9223372036854775808<=c)(h2:c<=9223372036854775807)(h3:0<n)(h4:n<=2000000000000) :
  Calls prog 14 #[.int .i64 c,.int .i64 n] w λ e w'=>e=.returned (.int .i64 (pq c n))/\w'=w:=by
 have hz:(n==0)=false:=beq_eq_false_iff_ne.2 (by omega);by_cases hc:c<0
 ·have HP:=ae (show pq c n = -((c+1).tmod n)by unfold pq;rw [aC hc,<-Int.neg_tmod,Int.tmod_eq_emod_of_nonneg (by omega)]);go_enter func14,ntmps14;go_wp2
  all_goals (go_ret;exact⟨rf.bJ (ab HP).symm,rfl⟩)
 have HP:=ae (show pq c n=c % n by unfold pq;rw [au hc]);go_enter func14,ntmps14;go_wp2
 all_goals (go_ret;exact⟨rf.bJ (ab HP).symm,rfl⟩)
theorem IJ(c n:Int)(h:0<n):∃ i:Nat,pq c n=i/\(i:Int)<n:=by
 have h1:=Int.emod_nonneg (if c<0 then -(c+1)else c) (show n≠0 by omega);have h2:=Int.emod_lt_of_pos (if c<0 then -(c+1)else c) h;exact⟨(pq c n).toNat,(Int.toNat_of_nonneg h1).symm,by rw [show((pq c n).toNat:Int)=pq c n from Int.toNat_of_nonneg h1];exact h2⟩
def jZ(W:World)(O:Nat->Prop)(xs:List Value):Prop:=∀ i a b,xs[i*2]?=some a->xs[i*2+1]?=some b->k7 W O a b
theorem jZ.fr{W W':World}{O O':Nat->Prop}{xs:List Value}(h:jZ W O xs)(hf:Fr O W O' W'):jZ W' O' xs:=λ i a b h1 h2=>(h i a b h1 h2).fr hf
theorem jZ.snoc{W:World}{O:Nat->Prop}{xs:List Value}{n:Nat}{a b:Value}(h:jZ W O xs)(hl:xs.length=n*2)(hp:k7 W O a b):jZ W O (xs++[a,b]):=λ i a' b' h1 h2=>by
 by_cases hi:i<n
 ·rw [List.getElem?_append_left (by omega)]at h1 h2;exact h i a' b' h1 h2
 rw [List.getElem?_append_right (by omega)]at h1 h2
 have hin:i=n:=by
  have:=(List.getElem?_eq_some_iff.1 h1).1;simp at this;omega
 subst hin;rw [show i*2-xs.length=0 by omega]at h1;rw [show i*2+1-xs.length=1 by omega]at h2;simp at h1 h2;subst h1 h2;exact hp
