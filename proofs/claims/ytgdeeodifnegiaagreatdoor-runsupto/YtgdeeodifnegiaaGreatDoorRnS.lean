/- part -/
import Derived.Test.YtgdeeodifnegiaaGreatDoorEqG
set_option maxRecDepth 100000
set_option maxHeartbeats 51200000
namespace Go.Proofs.YtgdeeodifnegiaaGreatDoor
open Go.RowKit
namespace rf
theorem GZ{ds:List Df}{Ds:List fe}(hDs:gQ ds Ds)(ks:List Tr)(tk:List kA)(ln:List Bool)(t:ByteArray)(a:Int){W:aH}(hS:dQ Ds t=some W):rD (nj ds ks tk ln) (.mk jd t 0 a []) (oV W):=by
 intro w Q v sb pb R pv mv hQ hp ht hR hs;obtain⟨j,hj,hf,hway⟩:=Hr hDs hS 0;rw [Nat.zero_add]at hf;obtain⟨op,hop⟩:∃ op,jd=op:=⟨_,rfl⟩
 have e0:(op.toList==[105,110])=false:=by rw [<-hop];decide +kernel
 have e1:(op.toList==[108,105,107,101])=true:=by rw [<-hop];decide +kernel
 rw [hop]at ht;rw [aP]at ht;obtain⟨kv,xs,rfl,_,_,_⟩:=ht;have hA:Below w.heap.size w (w.alloc (.cells (aj op t 0 a kv) 115)):=(aX _ _).alloc (aD _) _;have q0:(w.alloc (.cells (aj op t 0 a kv) 115)).heap[w.heap.size]?=some (.cells (aj op t 0 a kv) 115 (0,0)):=cN _ _;have hs1:=hs.below hA;have hp1:=nj.fr sb pb _ _ hp (dL hA);obtain⟨WA,hWA⟩:∃ WA,w.alloc (.cells (aj op t 0 a kv) 115)=WA:=⟨_,rfl⟩
 have DA:=ae hWA;rw [hWA]at q0 hs1 hA hp1;have HF:=ae hA;obtain⟨g,cap,ro,rc,wo,wt,wn,wa,ko,kc,kl,fd⟩:=hp1.found hj;obtain⟨d,hd⟩:∃ d,ds[j]=d:=⟨_,rfl⟩
 rw [hd]at fd hway;have k0:WA.cell? ⟨w.heap.size,0,none⟩=some (.string op):=af q0;have k1:WA.cell? ⟨w.heap.size,1,none⟩=some (.string t):=af q0;have s0:WA.cell? ⟨sb,0,none⟩=some (fX pb):=af hs1.blk;have lsb:sb<WA.heap.size:=ai hs1.blk;have lA:w.heap.size<WA.heap.size:=ai q0;have FA:=ae (show ∀ V,Below WA.heap.size WA V->Calls Tryz.prog 178 #[fX pb,.string t,.bool true] V λ e w'=>e=.returned (.int .i64 (j:Int))/\w'=V from λ V hV=>by rw [<-hf];exact ti (fd.defs.later hV) t true);have c0:=fd.pb_;have lp:=fd.lp;have lg:=fd.lg;obtain⟨d0,d1,d2,d3⟩:=fd.nm;have d4:=fd.rg;obtain⟨d5,d6,d7,d8,d9⟩:=fd.tr;have big:=fd.big;have FD:=ae fd;obtain⟨po,pc,rfl⟩:=aU hs1.own1;have hpl:=hR.path;have AA:=ae hs1;have HR:=ae hR;have HN:=ae (mw hway);have dl:j<ds.length:=hj;obtain⟨N,hN⟩:∃ N,ds.length=N:=⟨_,rfl⟩
 rw [hN]at c0 big dl;clear fd hs hs1 hA hop hp hp1 hWA hQ hf hd hS hDs hway hR q0 hj;go_enter Tryz.func153,Tryz.ntmps153;go_upto_region 1 with fail
 rw [ab DA];go_upto_region 12 with fail
 go_cut [9] (λ v9 wc=>v9=.pointer (some ⟨WA.heap.size,0,none⟩)/\Below WA.heap.size WA wc/\wc.heap[WA.heap.size]?=some (.cells (bI d.name d.isWay (.slice ro d.ranges.length rc) wo wt wn wa (.slice ko kc kl)) 145 (0,0)))
 case first =>
  go_region_with (go_at_call 178;refine(ab FA _ (by first|exact(aX _ _).drew|exact((aX _ _).alloc (aD _) _).drew)).mono ?_;rintro e w' ⟨rfl,rfl⟩)
  all_goals
   go_wp2_with fail
   go_meet
   case rel=>exact⟨rfl,((aX _ _).alloc (aD _) _).drew,cN WA _⟩
 case rest =>
  as_aux_lemma =>
   obtain⟨rfl,hbc,hcb⟩:=hcut;have hs2:=(ab AA).below hbc;obtain⟨Q',htr⟩:=(ab FD).way;have BC:=ae ((ab HF).trans (hbc.mono (ab HF).size));have z5:wc.cell? ⟨WA.heap.size,5,none⟩=some (.string wo):=af hcb;have z6:wc.cell? ⟨WA.heap.size,6,none⟩=some (.string wt):=af hcb;have z7:wc.cell? ⟨WA.heap.size,7,none⟩=some (.int .i64 wn):=af hcb;have z8:wc.cell? ⟨WA.heap.size,8,none⟩=some (.int .i64 wa):=af hcb;have z9:wc.cell? ⟨WA.heap.size,9,none⟩=some (.slice ko kc kl):=af hcb;have s3:wc.cell? ⟨sb,3,none⟩=some (.slice po R.path.length pc):=af hs2.blk;have lc:WA.heap.size<wc.heap.size:=ai hcb;have ls2:sb<wc.heap.size:=ai hs2.blk;have EN:=ae (λ(V:World) (hV:Below wc.heap.size wc V)=>ab HN V Q' _ R.path _ (aP.keep (λ k hk _=>(hV.block k (eV hk hbc.size)).trans (hbc.block k hk)) (λ _ _ h=>h) _ _ htr) (ap hs2.own1 (λ k hk=>hV.block k (hs2.own1.lt k hk).2)) (by omega));have CA:=ae hs2;clear hs2 hbc hcb htr c0 d0 d1 d2 d3 d4 d5 d6 d7 d8 d9 FA AA FD HN k0 k1 s0;go_upto_region 13 with fail
   go_cut [10] (λ v10 wx=>∃ bs M,Below wc.heap.size wc wx/\bs.length=R.path.length+1/\cV wx wc.heap.size (R.path.length+1) v10 bs M/\jp R.path W M)
   case first =>
    go_region_with (go_at_call 195;refine(ab EN _ (by exact(aX _ _).drew)).mono ?_;rintro e w' ⟨z,bs,M,rfl,hb',hbl,hgr,hlk⟩)
    all_goals
     go_wp2_with fail
     go_meet
     case rel=>exact⟨bs,M,(aX wc.heap.size wc).drew.trans hb',hbl,hgr,hlk⟩
   case rest =>
    obtain⟨bs,M,hb,hbl,hgr,hlk⟩:=hcut
    rename World=>WX
    obtain⟨gg,gc,hv,lgg,cg,lbs,_,cM⟩:=hgr.get (i:=0) (by omega);subst hv;have cl:=cM R.path.length (by omega);have s3':=cell_later hb s3;have ls3:sb<WX.heap.size:=eV ls2 hb.size
    have BA:=ae (show oV W R=some (M 0 R.path.length)from by
     have:=hlk 0 R.path.length (by omega) (by omega);rw [List.take_length,List.drop_zero]at this;unfold oV
     congr 1
     by_cases hw:W R.path
     ·rw [this.2 ⟨by omega,hw⟩];exact @decide_eq_true _ (Classical.propDecidable _) hw
     ·cases hM:M 0 R.path.length with
      | false=>exact @decide_eq_false _ (Classical.propDecidable _) hw
      | true=>exact absurd (this.1 hM).2 hw)
    have HB:=ae hb;rw [hbl];generalize M 0 R.path.length=x at *;generalize bs[0]=b0 at *;clear cM hgr hlk hb hbl EN z5 z6 z7 z8 z9 s3;go_upto_region 14 with fail
    go_region
    all_goals
     go_wp2_with fail;go_ret;exact⟨x,0,rfl,((ab CA).below (ab HB)).below (aX _ _).drew,dL (((ab BC).trans ((ab HB).mono (ab BC).size)).drew),Or.inl ⟨ab BA,rfl⟩⟩
