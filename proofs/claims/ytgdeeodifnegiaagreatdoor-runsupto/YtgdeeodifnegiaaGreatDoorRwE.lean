/- part -/
import Derived.Test.YtgdeeodifnegiaaGreatDoorRwC
set_option maxRecDepth 100000
set_option maxHeartbeats 6400000
namespace Go.Proofs.YtgdeeodifnegiaaGreatDoor
open Go.Proofs.Tryz
open Or
open Go.RowKit
theorem MH{W:World}{wb n:Nat}{b:Bk}{xs cs:List Value}{R:Rt}{pv mv:Value}{a:Int}{S:ByteArray}(hw:uM W wb n b xs)(hps:jZ W (XO wb b) xs)(hn:n<=1000000000001)(hcnt:b.cnt<=16777000)(ho:MP cs 3 S)(hr:LX W cs R pv mv)(ha:cs[1]?=some (.int .i64 a))(ha1 : -9223372036854775808<=a)(ha2:a<=9223372036854775807) :
  Calls prog 8 #[ay wb 0,.agg cs.toArray] W λ e W'=>e=.returned (.bool true)/\∃ b',eI W' wb b'/\JS wb b b' W W':=by
 have lwb:wb<W.heap.size:=ai hw.book.blk;have hq:(W.alloc (.cells cs.toArray 33)).heap[W.heap.size]?=some (.cells cs.toArray 33 (0,0)):=cN _ _;have q0:(W.alloc (.cells cs.toArray 33)).cell? ⟨W.heap.size,0,none⟩=some (.int .i64 3):=by rw [af hq];simpa using ho.kind
 have q1:(W.alloc (.cells cs.toArray 33)).cell? ⟨W.heap.size,1,none⟩=some (.int .i64 a):=by rw [af hq];simpa using ha
 have AA:=ae ((aX W.heap.size W).alloc (aD _) (.cells cs.toArray 33));obtain⟨vo,vc,hvv⟩:=rf.aU hw.own;have HR:=ae hr;have RA:=ae (mF hq);have DA:=ae ho.len;have HW:=ae hw;have FA:=ae hps;have LQ:=ae (ai hq);clear hw hq ho hps ha hr;obtain⟨WA,hWA⟩:∃ WA,W.alloc (.cells cs.toArray 33)=WA:=⟨_,rfl⟩
 have CA:=ae hWA;rw [hWA]at AA q0 q1 LQ RA;have lq:=ab LQ;clear hWA;have hwA:=(ab HW).below (ab AA);have c0:WA.cell? ⟨wb,0,none⟩=some (.slice vo n vc):=by rw [<-hvv];exact af hwA.book.blk
 have GA:=ae hwA;have BA:=ae (show WA.ownsRow 0 53 2 (.slice vo n vc) n xs from by rw [<-hvv];exact hwA.own);clear hvv;have lwA:wb<WA.heap.size:=by omega
 clear hwA;by_cases h0:n=0
 ·subst h0;go_enter func8,ntmps8;go_upto_region 1 with fail
  rw [ab CA];go_wp2_with fail;go_ret;exact⟨rfl,b,(ab GA).book,(ab AA).os,(ab AA).tape,(ab AA).output,(ab AA).size,λ k hk _=>(ab AA).block k hk,λ k h=>inl h,λ k h=>inl h,by omega,rfl⟩
 have hz:((n:Int)==0)=false:=by rw [beq_eq_false_iff_ne];omega
 obtain⟨i,hi,hin⟩:=IJ a n (by omega);have hin':i<n:=by omega
 obtain⟨vb,vcap,hvb,_⟩:=(ab BA).form (by omega);simp only [Value.slice.injEq]at hvb;obtain⟨rfl,-,rfl⟩:=hvb;have hxl:=(ab BA).1;obtain⟨xa,hxa⟩:∃ x,xs[i*2]?=some x:=⟨_,iK (by omega)⟩
 obtain⟨xb,hxb⟩:∃ x,xs[i*2+1]?=some x:=⟨_,iK (by omega)⟩
 have hpr:=ab FA i _ _ hxa hxb;obtain⟨pp,hpp⟩:∃ pp,xa=ay pp 0:=by obtain⟨_,_,_,_,_,pp,_,h,_⟩:=hpr;exact⟨pp,h⟩
 obtain⟨qq,hqq⟩:∃ qq,xb=ay qq 0:=by obtain⟨_,_,_,_,_,_,qq,_,h,_⟩:=hpr;exact⟨qq,h⟩
 subst hpp hqq;have y0:WA.cell? ⟨vb,i*2,none⟩=some (ay pp 0):=((ab BA).cellAt (i*2) (by omega)).trans hxa;have y1:WA.cell? ⟨vb,i*2+1,none⟩=some (ay qq 0):=((ab BA).cellAt (i*2+1) (by omega)).trans hxb;have lvb:vb<WA.heap.size:=((ab BA).lt vb rfl).2;have EA:=ae hpr;have PK:=ae (Fk a n · ha1 ha2 (by omega) (by omega));rw [hi]at PK;clear hpr hxa hxb hi;go_enter func8,ntmps8;go_upto_region 1 with fail
 rw [ab CA];go_upto_region 14 with fail
 go_cut [5] (λ v5 wc=>v5=.pointer (some ⟨WA.heap.size,0,none⟩)/\Below WA.heap.size WA wc/\wc.heap[WA.heap.size]?=some (.cells #[ay pp 0,ay qq 0] 53 (0,0)))
 case first =>
  go_region_with (go_at_call 14;refine(ab PK _).mono ?_;rintro e w' ⟨rfl,rfl⟩)
  all_goals
   go_wp2_with fail
   go_meet
   case rel=>exact⟨rfl,((aX _ _).alloc (aD _) _).drew,cN WA _⟩
 case rest =>
  obtain⟨rfl,hbc,hcb⟩:=hcut;have q0c:wc.cell? ⟨W.heap.size,0,none⟩=some (.int .i64 3):=(hbc.cell (p:=⟨W.heap.size,0,none⟩) lq).trans q0;have z0:wc.cell? ⟨WA.heap.size,0,none⟩=some (ay pp 0):=af hcb;have z1:wc.cell? ⟨WA.heap.size,1,none⟩=some (ay qq 0):=af hcb;have lc:WA.heap.size<wc.heap.size:=ai hcb;have hBC:=(ab AA).trans (hbc.mono (ab AA).size);have BC:=ae hBC;have RC:=ae (show wc.rangeAt W.heap.size 0 cs from λ j v hv=>by rw [hbc.cell (p:=⟨W.heap.size,0+j,none⟩) lq];exact ab RA j v hv);have XR:=ae (Ny (((ab HW).below hBC).book) hcnt ((ab HR).below hBC) ((ab EA).fr (Fr.of_below hBC)));clear hbc hcb q0 q1 c0 y0 y1 PK hBC;go_wp2_with (refine gG rfl _ rfl W.heap.size 0 rfl cs (ab DA) (ab RC) ?_)
  refine(ab XR).mono ?_;rintro e w1 ⟨rfl,b',hb',hs'⟩;have BB:=ae hb';have SS:=ae hs';clear hb' hs' XR;go_wp2_with fail;go_ret;have h1:=ab SS;have h0:=ab BC;have hz:=h0.size;exact⟨rfl,b',ab BB,h1.os.trans h0.os,h1.tape.trans h0.tape,h1.output.trans h0.output,kr hz h1.size,λ k hk hO=>(h1.block k (by omega) hO).trans (h0.block k hk),λ k h=>(h1.own k h).imp id (λ h=>by omega),λ k h=>(h1.recs k h).imp id (λ h=>by omega),h1.cnt,h1.ps⟩
