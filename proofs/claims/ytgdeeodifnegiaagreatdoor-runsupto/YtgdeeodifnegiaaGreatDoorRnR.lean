/- part -/
import Derived.Test.YtgdeeodifnegiaaGreatDoorEqG
set_option maxRecDepth 100000
set_option maxHeartbeats 12800000
namespace Go.Proofs.YtgdeeodifnegiaaGreatDoor
open Go.RowKit
namespace rf
theorem L7{ds:List Df}{Ds:List fe}(hDs:gQ ds Ds)(ks:List Tr)(tk:List kA)(ln:List Bool)(t:ByteArray)(a:Int){S:dU}(hS:dP Ds t=some S):rD (nj ds ks tk ln) (.mk AN t 0 a []) (nZ S):=by
 intro w Q v sb pb R pv mv hQ hp ht hR hs;obtain⟨j,hj,hf,rfl,hnets⟩:=Hq hDs hS 0;rw [Nat.zero_add]at hf;obtain⟨op,hop⟩:∃ op,AN=op:=⟨_,rfl⟩
 have e0:(op.toList==[105,110])=true:=by rw [<-hop];decide +kernel
 rw [hop]at ht;rw [aP]at ht;obtain⟨kv,xs,rfl,_,_,_⟩:=ht;have hA:Below w.heap.size w (w.alloc (.cells (aj op t 0 a kv) 115)):=(aX _ _).alloc (aD _) _;have q0:(w.alloc (.cells (aj op t 0 a kv) 115)).heap[w.heap.size]?=some (.cells (aj op t 0 a kv) 115 (0,0)):=cN _ _;have hs1:=hs.below hA;have hp1:=nj.fr sb pb _ _ hp (dL hA);obtain⟨WA,hWA⟩:∃ WA,w.alloc (.cells (aj op t 0 a kv) 115)=WA:=⟨_,rfl⟩
 have DA:=ae hWA;rw [hWA]at q0 hs1 hA hp1;have HF:=ae hA;obtain⟨g,cap,ro,rc,wo,wt,wn,wa,ko,kc,kl,fd⟩:=hp1.found hj;obtain⟨d,hd⟩:∃ d,ds[j]=d:=⟨_,rfl⟩
 rw [hd]at fd hnets ⊢;have k0:WA.cell? ⟨w.heap.size,0,none⟩=some (.string op):=af q0;have k1:WA.cell? ⟨w.heap.size,1,none⟩=some (.string t):=af q0;have s0:WA.cell? ⟨sb,0,none⟩=some (fX pb):=af hs1.blk;have lsb:sb<WA.heap.size:=ai hs1.blk;have lA:w.heap.size<WA.heap.size:=ai q0;have FA:=ae (show ∀ V,Below WA.heap.size WA V->Calls Tryz.prog 178 #[fX pb,.string t,.bool false] V λ e w'=>e=.returned (.int .i64 (j:Int))/\w'=V from λ V hV=>by rw [<-hf];exact ti (fd.defs.later hV) t false);have c0:=fd.pb_;have lp:=fd.lp;have lg:=fd.lg;obtain⟨d0,d1,d2,d3⟩:=fd.nm;have d4:=fd.rg;have hown:=fd.own;obtain⟨l,hl⟩:∃ l,d.ranges=l:=⟨_,rfl⟩
 rw [hl]at d4 hown hnets ⊢;have AA:=ae hown;obtain⟨d5,d6,d7,d8,d9⟩:=fd.tr;have big:=fd.big;have BA:=ae hs1;have HR:=ae hR;have HN:=ae hnets;have dl:j<ds.length:=hj;obtain⟨N,hN⟩:∃ N,ds.length=N:=⟨_,rfl⟩
 rw [hN]at c0 big dl;clear fd hown hl hs hs1 hA hop hp hp1 hWA hQ hf hd hS hDs hnets hR q0 hj;go_enter Tryz.func153,Tryz.ntmps153;go_upto_region 1 with fail
 rw [ab DA];go_upto_region 3 with fail
 go_cut [5] (λ v5 wc=>v5=.pointer (some ⟨WA.heap.size,0,none⟩)/\Below WA.heap.size WA wc/\wc.heap[WA.heap.size]?=some (.cells (bI d.name d.isWay (.slice ro l.length rc) wo wt wn wa (.slice ko kc kl)) 145 (0,0)))
 case first =>
  go_region_with (go_at_call 178;refine(ab FA _ (by first|exact(aX _ _).drew|exact((aX _ _).alloc (aD _) _).drew)).mono ?_;rintro e w' ⟨rfl,rfl⟩)
  all_goals
   go_wp2_with fail
   go_meet
   case rel=>exact⟨rfl,((aX _ _).alloc (aD _) _).drew,cN WA _⟩
 case rest =>
  obtain⟨rfl,hbc,hcb⟩:=hcut;have hs2:=(ab BA).below hbc;have hown:=ab AA;have BC:=ae ((ab HF).trans (hbc.mono (ab HF).size));have z4:wc.cell? ⟨WA.heap.size,4,none⟩=some (.slice ro l.length rc):=af hcb;have n1:wc.cell? ⟨sb,1,none⟩=some (.int .i64 R.addr):=af hs2.blk;have n2:wc.cell? ⟨sb,2,none⟩=some (.int .i64 R.len):=af hs2.blk;have lc:WA.heap.size<wc.heap.size:=ai hcb;have ls2:sb<wc.heap.size:=ai hs2.blk;have lrg:∀ k,(Value.slice ro l.length rc).ownBlock=some k->k<WA.heap.size:=λ k hk=>(hown.lt k hk).2
  have hmax:=rS hown;have OW:=ae (show wc.ownsRow 0 233 6 (.slice ro l.length rc) l.length (cG l)from ap hown (λ k hk=>hbc.block k (lrg k hk)));have CA:=ae hs2;clear hs2 hown hbc hcb c0 d0 d1 d2 d3 d4 d5 d6 d7 d8 d9 FA BA AA lrg k0 k1 s0;go_wp2_with fail;go_loopg [6,7] l.length (λ k b6 b7 wr=>∃ i:Nat,i+k=l.length/\b7=.int .i64 i/\b6=.bool (gC ((l.take i).map iB) R.addr R.len)/\Below wc.heap.size wc wr)
  case atStart=>exact⟨0,by omega,rfl,rfl,aX _ _⟩
  case round =>
   rename World=>WR
   obtain⟨i,hik,rfl,rfl,hb⟩:=hrel;have HB:=ae hb;have y4:=cell_later hb z4;have m1:=cell_later hb n1;have m2:=cell_later hb n2;have l1:WA.heap.size<WR.heap.size:=eV lc hb.size;have l2:sb<WR.heap.size:=eV ls2 hb.size;by_cases hi:i<l.length
   ·have ow:=ab OW;obtain⟨gr,cr,hgr,_,_⟩:=ow.form (by omega);obtain⟨g0,g1,g2,g3,g4,g5⟩:=mG l i hi;have hll:=ow.1;have ll:gr<wc.heap.size:=(ow.lt gr (by rw [hgr];rfl)).2;simp only [Value.slice.injEq]at hgr;obtain⟨rfl,-,rfl⟩:=hgr;have x0:=cell_later hb ((ow.cellAt (i*6) (by omega)).trans g0);have x1:=cell_later hb ((ow.cellAt (i*6+1) (by omega)).trans g1);have x2:=cell_later hb ((ow.cellAt (i*6+2) (by omega)).trans g2);have x3:=cell_later hb ((ow.cellAt (i*6+3) (by omega)).trans g3);have x4:=cell_later hb ((ow.cellAt (i*6+4) (by omega)).trans g4);have x5:=cell_later hb ((ow.cellAt (i*6+5) (by omega)).trans g5);have lr:gr<WR.heap.size:=eV ll hb.size;have HO:=ae (EK l[i] R.addr R.len (ab HN l[i] (nN hi)) (ab HR).net);have HU:=ae (CT hi R.addr R.len);clear ow g0 g1 g2 g3 g4 g5 hll ll hb;generalize iB l[i] R.addr R.len=bb at *;generalize gC ((l.take i).map iB) R.addr R.len=aa at *;go_upto_region 8 with fail
    go_cut [8]from 34 to 55 (λ v8 wx=>v8=.bool bb/\Below WR.heap.size WR wx)
    case first =>
     go_region_with (go_at_call 194;refine(ab HO _).mono ?_;rintro e w' ⟨rfl,hb'⟩)
     all_goals
      go_wp2_with fail
      go_meet
      case rel=>exact⟨rfl,(aX WR.heap.size WR).drew.trans hb'⟩
    case rest =>
     rename World=>WX
     obtain⟨rfl,hx⟩:=hcut;have HX:=ae hx;cases aa<;>cases bb
     all_goals
      go_wp2_with fail;go_roundg (l.length-(i+1))
      case measure=>omega
      case rel=>exact⟨i+1,by omega,by go_num,by rw [ab HU];rfl,(ab HB).trans ((ab HX).mono (ab HB).size)⟩
   have hil:i=l.length:=by omega
   subst hil;rw [List.take_length];go_wp2_with fail;go_ret;exact⟨_,0,rfl,(ab CA).below (ab HB),dL ((ab BC).trans ((ab HB).mono (ab BC).size)),Or.inl ⟨rfl,rfl⟩⟩
