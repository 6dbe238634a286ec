/- part -/
import Derived.Test.YtphhnjljlllnlaaGreatDoorMsgU
set_option maxRecDepth 100000
set_option maxHeartbeats 8000000
namespace Go.Proofs.YtphhnjljlllnlaaGreatDoor
open Go.Proofs.Tryz
open Or
open Go Go.RowKit Go.Sort Go.Shelf
def wi(p:aW)(b:List Int)(l':List Rv)(ec:Int):Prop :=
 (lP b≠0/\l'=[]/\ec=lP b)\/(lP b=0/\∃ l1,jb p.mi (gc p.rts (cl b).gone) ((cl b).nets.map λ n=>⟨n.1,n.2,(cl b).path,(cl b).marks,(cl b).pref,(cl b).med⟩) l1/\((16<l1.length/\l'=[]/\ec=10)\/(l1.length<=16/\l'=l1/\ec=0)))
theorem Lq{b:List Int}(h:lP b=0):∃ u,jt b=.ok u/\cl b=u:=by
 unfold lP at h;unfold cl;cases hd:jt b with
 | ok u=>exact⟨u,rfl,rfl⟩
 | error e =>
  rw [hd]at h;simp only at h;subst h;exact absurd (IV hd) (by omega)
theorem Dp{u:fI}(h:eW u):∀ n∈u.nets,dh ⟨n.1,n.2,u.path,u.marks,u.pref,u.med⟩=true:=λ n hn =>
 y8 ⟨h.1.2.1 n (List.mem_append.2 (inr hn)),h.2.1,h.2.2.1,h.2.2.2.1,h.2.2.2.2.1⟩
theorem Hh{n0:Nat}{w0 w:World}{sb pb cap i:Nat}{cs:Array Value}{ps:List aW}(hN:n0=w0.heap.size)(hE:fU w0 48)(hD:iS w0 51)(h:bG n0 w0 w sb pb cap cs ps)(hi:i<ps.length)(hup:ps[i].up=true)(b:List Int)(bv:Value)(hb:aX w bv b) :
  Calls prog 36 #[.pointer (some ⟨sb,0,none⟩),.int .i64 i,bv] w λ e w'=>∃ l' ec v,wi ps[i] b l' ec/\e=.returned (.tuple #[v,.int .i64 ec])/\jE n0 w0 w sb pb cap cs (ps.set i { ps[i]with rts:=l' }) v w':=by
 have hs:w.cell? ⟨sb,0,none⟩=some (.slice (some ⟨pb,0,none⟩) ps.length cap):=ag h.spk;have hu:w.cell? ⟨pb,i*7+4,none⟩=some (.bool true):=(ag h.blk).trans (by rw [(h.at_ i hi).c4,hup]);have BA:=af (rh w sb pb ps.length cap i true true hs hi hu);rw [aS rfl]at BA;have hbel:=h.bel;rw [hN]at hbel;have JA:=af (hD w bv b hbel hb);have hby:aK b:=by obtain⟨_,_,_,_,_,hh,_⟩:=hb;exact hh
 obtain⟨bq,bc,rfl,-⟩:=id hb;have H:=af h;have HE:=af hE;clear h hE hD hb hbel hu hs;go_enter func36,ntmps36
 go_upto_region 5 with(first
  | (go_at_call 49;refine(ae BA).mono ?_;rintro e w ⟨rfl,rfl⟩)
  | (go_at_call 51;refine(ae JA).mono ?_;rintro e w1 ⟨hb1,vg,vn,vp,vm,rfl,og,on,op,om,hap⟩;obtain⟨q1,k1,rfl⟩:=aI og;obtain⟨q2,k2,rfl⟩:=aI on;obtain⟨q3,k3,rfl⟩:=aI op;obtain⟨q4,k4,rfl⟩:=aI om;have HA:=af hb1;have OG:=af og;have ON:=af on;have OP:=af op;have OM:=af om;clear hb1 og on op om hap))
 have hnu:=cM w1 (.cells #[.slice q1 (cl b).gone.length k1,.slice q2 (cl b).nets.length k2,.slice q3 (cl b).path.length k3,.slice q4 (cl b).marks.length k4,.int .i64 (cl b).pref,.int .i64 (cl b).med] 87);have hb2:Below w1.heap.size w1 (w1.alloc (.cells #[.slice q1 (cl b).gone.length k1,.slice q2 (cl b).nets.length k2,.slice q3 (cl b).path.length k3,.slice q4 (cl b).marks.length k4,.int .i64 (cl b).pref,.int .i64 (cl b).med] 87)):=(aY _ _).alloc (aL _) _;generalize w1.alloc (.cells #[.slice q1 (cl b).gone.length k1,.slice q2 (cl b).nets.length k2,.slice q3 (cl b).path.length k3,.slice q4 (cl b).marks.length k4,.int .i64 (cl b).pref,.int .i64 (cl b).med] 87)=W at hnu hb2 ⊢;have hbW:Below w.heap.size w W:=(ae HA).trans (hb2.mono (ae HA).size);have h2:=(ae H).below hbW;have a:=h2.at_ i hi;obtain⟨v5,e5,t5⟩:=a.c5;have ok:=h2.ok ps[i] (ej hi);have hFW:Hid (Fr (dA pb cs ps.length) w (dA pb cs ps.length) W):=af (Fr.of_below hbW);have H2:=af h2;by_cases hde:lP b=0
 ·obtain⟨u,hdp,hdm⟩:=Lq hde;have hmo:eW (cl b):=by rw [hdm];exact(Lw hby hdp).1
  have hrt:=Dp hmo;have hlen:=hmo.1.1;rw [List.length_append]at hlen;have hf16:=ok.few;have hgn:cQ W 0 (.slice q1 (cl b).gone.length k1) (cl b).gone:=aZ (ay (ae OG) λ k e=>hb2.block k ((ae OG).lt k e).2) (dG _);have hnn:cQ W 0 (.slice q2 (cl b).nets.length k2) (cl b).nets:=aZ (ay (ae ON) λ k e=>hb2.block k ((ae ON).lt k e).2) (dG _);have hpn:W.ownsRow 0 3 1 (.slice q3 (cl b).path.length k3) (cl b).path.length (aB (cl b).path):=aZ (ay (ae OP) λ k e=>hb2.block k ((ae OP).lt k e).2) (dG _);have hmn:W.ownsRow 0 3 1 (.slice q4 (cl b).marks.length k4) (cl b).marks.length (aB (cl b).marks):=aZ (ay (ae OM) λ k e=>hb2.block k ((ae OM).lt k e).2) (dG _);have hne5:v5.ownBlock≠some pb:=λ e=>by obtain⟨cur,hc⟩:=t5.typed e;rw [h2.blk]at hc;cases hc
  have GA:=af (yQ ok.pin W h2.bel ps[i].rts v5 n0 pb (i*7) cs 107 (cl b) q1 q2 q3 q4 k1 k2 k3 k4 h2.blk a.c0 a.c1 e5 (by omega) (by omega) (aL _) h2.lo h2.n0le t5 ok.rise hne5 (by decide) (by decide) (by decide) hgn hnn ⟨hpn,hmn⟩ hrt);have MA:=af hrt;have EA:=af (λ y hy=>(ok.rows y hy).2);have FA:=af (λ y hy=>(ok.rows y hy).1);have KA:=af ok.gin;have LA:=af ok.rise;have x0:W.cell? ⟨w1.heap.size,0,none⟩=some (.slice q1 (cl b).gone.length k1):=ag hnu;have x1:W.cell? ⟨w1.heap.size,1,none⟩=some (.slice q2 (cl b).nets.length k2):=ag hnu;have x2:W.cell? ⟨w1.heap.size,2,none⟩=some (.slice q3 (cl b).path.length k3):=ag hnu;have x3:W.cell? ⟨w1.heap.size,3,none⟩=some (.slice q4 (cl b).marks.length k4):=ag hnu;have x4:W.cell? ⟨w1.heap.size,4,none⟩=some (.int .i64 (cl b).pref):=ag hnu;have x5:W.cell? ⟨w1.heap.size,5,none⟩=some (.int .i64 (cl b).med):=ag hnu;clear hmo hrt hlen hgn hnn hpn hmn hdp hdm ok a t5 hnu hb2 hbW h2 hne5;have IA:=af hde;go_upto_region 7 with(go_at_call 52;refine(ae GA).mono ?_;rintro e w3 ⟨v',l',rfl,hts,htk,hrw⟩;have OA:=af hts;have DA:=af htk;have NA:=af hrw;clear hts htk hrw)
  have hts:=ae OA;have hrise:eo l':=(ae DA).rise (j8 _ (ae LA));have hokl:∀ y∈l',dh y.r=true:=(ae DA).ok (ae KA) (λ r hr=>by obtain⟨m,hm,rfl⟩:=List.mem_map.1 hr;exact ae MA m hm) λ y hy=>ae EA y (qR _ hy)
  by_cases hbig:16<l'.length
  ·have hts2:=hts.trans (bB.nil (n0:=n0) (q:=i*7+5) (v:=v') hts.blk);obtain⟨h4,f4⟩:=(ae H2).setRts hi e5 hts2 List.Pairwise.nil (dG _) (λ y hy=>by cases hy);have AA:=af (lm hN (ae HE) h4);have F4:=af ((ae hFW).trans f4);have c5:w3.cell? ⟨pb,i*7+5,none⟩=some v':=(ag hts.blk).trans (fF e5);have z5:w3.frozen? ⟨pb,i*7+5,none⟩=false:=aj hts.blk;have CA:Hid (wi ps[i] b [] 10):=af (inr ⟨ae IA,l',ae DA,inl ⟨hbig,rfl,rfl⟩⟩);rw [aS hbig];clear hts hts2 h4 f4 hrise hokl hde x0 x1 x2 x3 x4 x5 hbig;go_wp2_with (go_at_call 50;refine(ae AA).mono ?_;rintro e w5 ⟨v,T,cs',ps',rfl,hr⟩;have HR:Hid (jE n0 w0 _ sb pb cap _ _ v w5):=(af ⟨T,cs',ps',hr⟩);clear hr)
   refine gH (v:=.tuple #[v,.int .i64 10]) (by simp [results,results36,go_sem]) rfl ?_;exact⟨[],10,v,ae CA,rfl,(ae HR).behind (by rw [List.length_set]) (ae F4)⟩
  obtain⟨h4,f4⟩:=(ae H2).setRts hi e5 hts hrise (by omega) λ y hy=>⟨ae NA (ae FA) y hy,hokl y hy⟩
  have AA:=af (lm hN (ae HE) h4);have F4:=af ((ae hFW).trans f4);have CA:Hid (wi ps[i] b l' 0):=af (inr ⟨ae IA,l',ae DA,inr ⟨by omega,rfl,rfl⟩⟩);rw [aG hbig];clear hts h4 f4 hrise hokl hde x0 x1 x2 x3 x4 x5 hbig;go_wp2_with (go_at_call 50;refine(ae AA).mono ?_;rintro e w5 ⟨v,T,cs',ps',rfl,hr⟩;have HR:Hid (jE n0 w0 _ sb pb cap _ _ v w5):=(af ⟨T,cs',ps',hr⟩);clear hr)
  refine gH (v:=.tuple #[v,.int .i64 0]) (by simp [results,results36,go_sem]) rfl ?_;exact⟨l',0,v,ae CA,rfl,(ae HR).behind (by rw [List.length_set]) (ae F4)⟩
 obtain⟨h4,f4⟩:=(ae H2).noRts hi;have AA:=af (lm hN (ae HE) h4);have F4:=af ((ae hFW).trans f4);have c5:W.cell? ⟨pb,i*7+5,none⟩=some v5:=(ag h2.blk).trans e5;have z5:W.frozen? ⟨pb,i*7+5,none⟩=false:=aj h2.blk;have CA:Hid (wi ps[i] b [] (lP b)):=af (inl ⟨hde,rfl,rfl⟩);generalize lP b=ec at *;have hde1:(ec==0)=false:=by simpa using hde
 have hde2:(ec != 0)=true:=by simpa using hde
 clear h4 f4 hde ok a t5 hnu hb2 hbW h2;go_wp2_with (go_at_call 50;refine(ae AA).mono ?_;rintro e w5 ⟨v,T,cs',ps',rfl,hr⟩;have HR:Hid (jE n0 w0 _ sb pb cap _ _ v w5):=(af ⟨T,cs',ps',hr⟩);clear hr)
 refine gH (v:=.tuple #[v,.int .i64 ec]) (by simp [results,results36,go_sem]) rfl ?_;exact⟨[],ec,v,ae CA,rfl,(ae HR).behind (by rw [List.length_set]) (ae F4)⟩
def FX(x:Kp):List Value:=[.int .i64 x.r.addr,.int .i64 x.r.len,.slice x.pq x.r.path.length x.pc,.slice x.mq x.r.marks.length x.mc,.int .i64 x.r.pref,.int .i64 x.r.med]
theorem dg.put6{w:World}{base g cap n:Nat}{l:List Kp}(h:dg w base (.slice (some ⟨g,0,none⟩) n cap) l){i:Nat}(hi:i<n)(hil:i<l.length)(x:Kp)(hx:x.peer=l[i].peer):dg (w.setCells g (i*7) (FX x)) base (.slice (some ⟨g,0,none⟩) n cap) (l.set i x)/\eS w g (w.setCells g (i*7) (FX x)):=by
 obtain⟨cur,hb,hbg,hn,hlc,hmx,hsz,hrow⟩:=h.block;have hic:(i+1)*7<=cap*7:=Nat.mul_le_mul_right 7 (by omega);have hnc:n*7<=cap*7:=Nat.mul_le_mul_right 7 hlc;have e6:(FX x).length=6:=rfl;obtain⟨hs,cur1,hb1,hc1⟩:=dt g 67 (FX x) (i*7) cur w hb (by rw [e6];omega)
 have hp:cur.toList.drop (i*7+6)=.int .i64 x.peer::cur.toList.drop (i*7+7):=by
  have hlt:i*7+6<cur.toList.length:=by simp;omega
  have hc:=h.cell hil (i:=6) (by decide);rw [ag hb]at hc;have h2:cur[i*7+6]?=some (.int .i64 l[i].peer):=hc
  have h3:cur.toList[i*7+6]=.int .i64 x.peer:=by
   rw [hx,Array.getElem_toList];exact(Array.getElem?_eq_some_iff.1 h2).2
  rw [List.drop_eq_getElem_cons hlt,h3]
 have hc2:cur1.toList=cur.toList.take (i*7)++ey x++cur.toList.drop (i*7+(ey x).length):=by
  rw [hc1,e6,hp,gr,show ey x=FX x++[.int .i64 x.peer]from rfl,List.append_assoc,List.append_assoc,List.append_assoc]
  rfl
 have hf:=By hn.symm hi hrow (by simp;omega) hc2;refine⟨⟨by rw [j9],inr ⟨g,cap,cur1,by rw [List.length_set,hn],hbg,hb1,by rw [List.length_set,<-hn];exact hlc,hmx,?_,by rw [List.length_set,<-hn];exact hf.1⟩⟩,hs⟩;have:=hf.2;simp only [Array.length_toList]at this;omega
theorem dg.fz{w:World}{base g cap n:Nat}{l:List Kp}(h:dg w base (.slice (some ⟨g,0,none⟩) n cap) l)(o:Nat):w.frozen? ⟨g,o,none⟩=false:=by
 obtain⟨cur,hb,_⟩:=h.block;exact aj hb
def ji(x:Kp):Rt×Int:=(x.r,x.peer)
theorem Hd{n0:Nat}{w0 w:World}{sb pb cap:Nat}{cs:Array Value}{ps:List aW}(h:bG n0 w0 w sb pb cap cs ps) :
  Calls prog 20 #[.pointer (some ⟨sb,0,none⟩)] w λ e w'=>∃ v L,e=.returned v/\dg w' w.heap.size v L/\L.map ji=(cX (ps.map (·.rts))).map ji/\(∀ x∈L,bK w' x.rv)/\Below w.heap.size w w':=by
 have hsp:w.cell? ⟨sb,0,none⟩=some (.slice (some ⟨pb,0,none⟩) ps.length cap):=ag h.spk;have EA:=af (zQ w sb pb n0 cap (ps.map (·.rts)) (by rw [List.length_map];exact hsp) h.peers (ah h.blk) (by rw [List.length_map];have:=h.few;omega));obtain⟨hbr,hbl⟩:=h.best;have JA:=af hbr;generalize cX (ps.map (·.rts))=best at *;clear h hbr hsp;go_enter func20,ntmps20;go_wp2_with (go_at_call 38;refine(ae EA).mono ?_;rintro e w1 ⟨bv,rfl,hkv,hb1⟩;obtain⟨bq,bc,rfl⟩:=al hkv;have KA:=af hkv;have IA:=af hb1;clear hkv hb1)
 go_loopw [9] (λ i wr=>∃(k:Nat) (L:List Kp),k<=best.length/\i=.int .i64 k/\L.map ji=best.map ji/\dg wr w.heap.size (.slice bq best.length bc) L/\(∀ x∈L,bK wr x.rv)/\Below w.heap.size w wr) (λ i _=>best.length-(intOf i).toNat)
 case atStart=>exact⟨0,best,dG _,rfl,rfl,ae KA,λ x hx=>(ae JA x hx).1.below (ae IA),ae IA⟩
 case round =>
  obtain⟨k,L,hk,rfl,hmap,hkv,hrv,hbe⟩:=hrel;have hLl:L.length=best.length:=by have:=jC List.length hmap;simpa using this
  by_cases hlt:k<best.length
  ·have hltL:k<L.length:=by omega
   obtain⟨g,rfl⟩:∃ g,bq=some ⟨g,0,none⟩:=by
    obtain⟨_,⟨_,h2⟩|⟨g',c,cur,h2,_⟩⟩:=id hkv
    ·omega
    simp only [Value.slice.injEq]at h2;exact⟨g',h2.1⟩
   have hmk:ji L[k]=ji best[k]:=by
    have e:=jC (λ t=>t[k]?) hmap;simp only [List.getElem?_map,gW hltL,gW hlt,Option.map_some,Option.some.injEq]at e;exact e
   have hok:dh L[k].r=true:=by
    have e:L[k].r=best[k].r:=jC Prod.fst hmk;rw [e];exact(ae JA _ (ej hlt)).2
   have hra:=hrv L[k] (ej hltL);have hin:=hra.ints hok;have hln:=Bq hok;have x0:wr.cell? ⟨g,k*7,none⟩=some (.int .i64 L[k].r.addr):=hkv.cell hltL (i:=0) (by decide);have x1:wr.cell? ⟨g,k*7+1,none⟩=some (.int .i64 L[k].r.len):=hkv.cell hltL (by decide);have x2:wr.cell? ⟨g,k*7+2,none⟩=some (.slice L[k].pq L[k].r.path.length L[k].pc):=hkv.cell hltL (by decide);have x3:wr.cell? ⟨g,k*7+3,none⟩=some (.slice L[k].mq L[k].r.marks.length L[k].mc):=hkv.cell hltL (by decide);have x4:wr.cell? ⟨g,k*7+4,none⟩=some (.int .i64 L[k].r.pref):=hkv.cell hltL (by decide);have x5:wr.cell? ⟨g,k*7+5,none⟩=some (.int .i64 L[k].r.med):=hkv.cell hltL (by decide);have BA:=af (Ab L[k].r _ _ wr hin.1 hin.2 (by omega) (by omega));have lg:g<wr.heap.size:=(World.ownsRow.lt hkv g rfl).2;obtain⟨X,hX⟩:∃ X,X=L[k]:=⟨_,rfl⟩
   have HX:=af hX;rw [<-hX]at x0 x1 x2 x3 x4 x5 BA;have AA:=af hkv;have HA:=af hrv;have DA:=af hbe;have CA:=af hmap;have LA:=af hLl;clear hkv hrv hbe hmap hLl hX hra hin hln hok hmk;obtain⟨⟨a0,a1,ap,am,a4,a5⟩,aq,ac,aq2,ac2,a6⟩:=X;dsimp only [Kp.rv,sO]at x0 x1 x2 x3 x4 x5 BA;go_wp2_with (go_at_call 39;refine(ae BA).mono ?_;rintro e w2 ⟨pv',mv',rfl,o1,o2,-,hb2⟩;obtain⟨q1,k1,rfl⟩:=al o1;obtain⟨q2,k2,rfl⟩:=al o2;have hk2:=(ae AA).below hb2;have hle:L.length=best.length:=ae LA;have y0:w2.cell? ⟨g,k*7,none⟩=some (.int .i64 a0):=((hk2.cell hltL (i:=0) (by decide)).trans (by rw [<-ae HX];rfl));have y1:w2.cell? ⟨g,k*7+1,none⟩=some (.int .i64 a1):=((hk2.cell hltL (i:=1) (by decide)).trans (by rw [<-ae HX];rfl));have y2:w2.cell? ⟨g,k*7+2,none⟩=some (.slice aq ap.length ac):=((hk2.cell hltL (i:=2) (by decide)).trans (by rw [<-ae HX];rfl));have y3:w2.cell? ⟨g,k*7+3,none⟩=some (.slice aq2 am.length ac2):=((hk2.cell hltL (i:=3) (by decide)).trans (by rw [<-ae HX];rfl));have y4:w2.cell? ⟨g,k*7+4,none⟩=some (.int .i64 a4):=((hk2.cell hltL (i:=4) (by decide)).trans (by rw [<-ae HX];rfl));have y5:w2.cell? ⟨g,k*7+5,none⟩=some (.int .i64 a5):=((hk2.cell hltL (i:=5) (by decide)).trans (by rw [<-ae HX];rfl));have fz:=hk2.fz;have FA:=af (hk2.put6 hlt hltL ⟨⟨a0,a1,ap,am,a4,a5⟩,q1,k1,q2,k2,a6⟩ (by rw [<-ae HX]));have O1:=af o1;have O2:=af o2;have GA:=af hb2;simp only [FX,World.setCells,Nat.add_assoc,Nat.reduceAdd]at FA;clear o1 o2 hb2 hk2 hle)
   have hs9:=(ae FA).2
   have hall:∀ y:Rv,bK w2 y->bK _ y:=λ y hy=>hy.fr λ j _ ⟨cur,hc⟩=>hs9.other j λ e=>by
    obtain⟨c2,h2,_⟩:=((ae AA).below (ae GA)).block;rw [e,h2]at hc;cases hc
   refine⟨⟨k+1,L.set k ⟨⟨a0,a1,ap,am,a4,a5⟩,q1,k1,q2,k2,a6⟩,by omega,by go_num,?_,?_,?_,?_⟩,by simp [intOf];omega⟩
   ·rw [List.map_set,<-ae CA];refine List.ext_getElem (by simp) λ j h1 h2=>?_
    rw [List.getElem_set];split
    ·rename_i e;subst e;rw [List.getElem_map,<-ae HX];rfl
    rfl
   ·with_reducible exact(ae FA).1
   ·intro x hx;rcases List.mem_or_eq_of_mem_set hx with hx|rfl
    ·exact hall _ ((ae HA x hx).below (ae GA))
    exact hall _ ⟨aZ (ae O1) (dG _),aZ (ae O2) (dG _)⟩
   have hb3:=(ae DA).trans ((ae GA).mono (ae DA).size);have hg:=(World.ownsRow.lt (ae AA) g rfl).1;exact⟨hs9.os.trans hb3.os,hs9.tape.trans hb3.tape,hs9.output.trans hb3.output,by rw [hs9.size];exact hb3.size,λ j hj=>(hs9.other j (by omega)).trans (hb3.block j hj)⟩
  have hke:k=best.length:=by omega
  subst hke;have AA:=af hkv;have HA:=af hrv;have DA:=af hbe;have CA:=af hmap;clear hkv hrv hbe hmap hLl;go_wp2
  go_ret;exact⟨_,L,rfl,ae AA,ae CA,ae HA,ae DA⟩
theorem Lg{n0:Nat}{w0 w:World}{sb pb cap i:Nat}{cs:Array Value}{ps:List aW}(hN:n0=w0.heap.size)(hE:fU w0 48)(h:bG n0 w0 w sb pb cap cs ps)(hi:i<ps.length)(hup:ps[i].up=false) :
  Calls prog 19 #[.pointer (some ⟨sb,0,none⟩),.int .i64 i] w λ e w'=>∃ v,e=.returned (.tuple #[v,.int .i64 0])/\jE n0 w0 w sb pb cap cs (ps.set i { ps[i]with up:=true }) v w':=by
 have C:=af (MD hN hE h hi hup);clear h hE;go_enter func19,ntmps19;go_wp2_with (go_at_call 37;refine(ae C).mono ?_;rintro e w1 ⟨v,rfl,hr⟩;have HR:=af hr;clear hr)
 refine gH (v:=.tuple #[v,.int .i64 0]) (by simp [results,results19,go_sem]) rfl ?_;exact⟨v,rfl,ae HR⟩
theorem FG{n0:Nat}{w0 w:World}{sb pb cap i:Nat}{cs:Array Value}{ps:List aW}(hN:n0=w0.heap.size)(hE:fU w0 48)(h:bG n0 w0 w sb pb cap cs ps)(hi:i<ps.length)(hup:ps[i].up=true) :
  Calls prog 16 #[.pointer (some ⟨sb,0,none⟩),.int .i64 i] w λ e w'=>∃ v,e=.returned (.tuple #[v,.int .i64 0])/\jE n0 w0 w sb pb cap cs (ps.set i { ps[i]with up:=false,rts:=[],view:=[] }) v w':=by
 have C:=af (Hf hN hE h hi hup);clear h hE;go_enter func16,ntmps16;go_wp2_with (go_at_call 34;refine(ae C).mono ?_;rintro e w1 ⟨v,rfl,hr⟩;have HR:=af hr;clear hr)
 refine gH (v:=.tuple #[v,.int .i64 0]) (by simp [results,results16,go_sem]) rfl ?_;exact⟨v,rfl,ae HR⟩
theorem wv{n0:Nat}{w0 w:World}{sb pb cap i:Nat}{cs:Array Value}{ps:List aW}(hN:n0=w0.heap.size)(hE:fU w0 48)(hD:iS w0 51)(h:bG n0 w0 w sb pb cap cs ps)(hi:i<ps.length)(hup:ps[i].up=true)(b:List Int)(bv:Value)(hb:aX w bv b) :
  Calls prog 18 #[.pointer (some ⟨sb,0,none⟩),.int .i64 i,bv] w λ e w'=>∃ l' ec v,wi ps[i] b l' ec/\e=.returned (.tuple #[v,.int .i64 ec])/\jE n0 w0 w sb pb cap cs (ps.set i { ps[i]with rts:=l' }) v w':=by
 have C:=af (Hh hN hE hD h hi hup b bv hb);obtain⟨bq,bc,rfl,-⟩:=hb;clear h hE hD;go_enter func18,ntmps18;go_wp2_with (go_at_call 36;refine(ae C).mono ?_;rintro e w1 ⟨l',ec,v,hf,rfl,hr⟩;have HR:=af hr;have HF:=af hf;clear hr hf)
 refine gH (v:=.tuple #[v,.int .i64 ec]) (by simp [results,results18,go_sem]) rfl ?_;exact⟨l',ec,v,ae HF,rfl,ae HR⟩
theorem wu{n0:Nat}{w0 w:World}{sb pb cap:Nat}{cs:Array Value}{ps:List aW}(h:bG n0 w0 w sb pb cap cs ps) :
  Calls prog 7 #[.pointer (some ⟨sb,0,none⟩)] w λ e w'=>∃ v L,e=.returned v/\dg w' w.heap.size v L/\L.map ji=(cX (ps.map (·.rts))).map ji/\(∀ x∈L,bK w' x.rv)/\Below w.heap.size w w':=by
 have C:=af (Hd h);clear h;go_enter func7,ntmps7;go_wp2_with (go_at_call 20;refine(ae C).mono ?_;rintro e w1 ⟨v,L,rfl,hr⟩;have HR:=af hr;clear hr)
 go_ret;exact⟨v,L,rfl,ae HR⟩
theorem Tryz.infoPeer:(prog.info? 107).map (λ i=>(i.zero,i.size,i.bytes))=some (some (.agg #[.string ⟨#[]⟩,.slice none 0 0,.string ⟨#[]⟩,.slice none 0 0,.bool false,.slice none 0 0,.slice none 0 0]),7,136):=by kernel_rfl
abbrev GE(p1:ByteArray)(q1:Option Addr)(n1 c1:Nat)(p2:ByteArray)(q2:Option Addr)(n2 c2:Nat):List Value:=[.string p1,.slice q1 n1 c1,.string p2,.slice q2 n2 c2,.bool false,.slice none 0 0,.slice none 0 0]
theorem Tryz.nilEqP(W:World)(B:Addr):(binOp .eql 32 (.pointer none) (.pointer (some B))).run prog W=.ok (.bool false) W:=by kernel_rfl
theorem C9(l:List Nat)(v:Value)(b c:Nat)(hv:v=.slice (some ⟨b,0,none⟩) l.length c)(w:World)(hl:l.length<=100)(hc:∀ k (hk:k<l.length),w.cell? ⟨b,k,none⟩=some (.pointer (some ⟨l[k],0,none⟩))) :
  Calls prog 45 #[v,.pointer none] w λ e w'=>e=.returned (.int .i64 (-1))/\w'=w:=by
 subst hv;have HC:=af hc;clear hc;go_enter func45,ntmps45;go_wp2
 go_loopw [8] (λ i wr=>∃ k:Nat,k<=l.length/\i=.int .i64 k/\wr=w) (λ i _=>l.length-(intOf i).toNat)
 case atStart=>exact⟨0,dG _,rfl,rfl⟩
 case round =>
  obtain⟨k,hk,rfl,rfl⟩:=hrel;by_cases hlt:k<l.length
  ·have c0:=ae HC k hlt;have heq:=Tryz.nilEqP;go_wp2
   go_roundw
   case rel=>exact⟨k+1,by omega,by go_num,by first|rfl|trivial⟩
   case measure=>simp [intOf];omega
  go_wp2
  go_ret;exact⟨rfl,rfl⟩
theorem oB(l:List Nat)(v:Value)(b c:Nat)(hv:v=.slice (some ⟨b,0,none⟩) l.length c)(w:World)(hl:l.length<=100)(hc:∀ k (hk:k<l.length),w.cell? ⟨b,k,none⟩=some (.pointer (some ⟨l[k],0,none⟩))) :
  Calls prog 28 #[v,.pointer none] w λ e w'=>e=.returned (.bool false)/\w'=w:=by
 have C:=af (C9 l v b c hv w hl hc);subst hv;clear hc;go_enter func28,ntmps28;go_wp2_with (go_at_call 45;refine(ae C).mono ?_;rintro e w1 ⟨rfl,rfl⟩)
 go_ret;exact⟨rfl,rfl⟩
structure rm(w0:World)(base:Nat)(w:World)(sb:Nat)(v:Value)(n:Nat)(xs:List Value):Prop where
 blk:w.heap[sb]?=some (.cells #[v] 61 (0,0))
 row:w.ownsRow base 107 7 v n xs
 bel:Below base w0 w
 lo:base<=sb
theorem Kg{w0 w:World}{base sb n:Nat}{v:Value}{xs:List Value}(h:rm w0 base w sb v n xs)(hb0:base<=w.heap.size)(hn:n<=100)(p1 p2:ByteArray)(q1 q2:Option Addr)(n1 n2 c1 c2:Nat) :
  Calls prog 29 #[.pointer (some ⟨sb,0,none⟩),.agg #[.string p1,.slice q1 n1 c1],.agg #[.string p2,.slice q2 n2 c2]] w λ e w'=>e=.returned (.tuple #[])/\∃ v',rm w0 base w' sb v' (n+1) (xs++GE p1 q1 n1 c1 p2 q2 n2 c2)/\w.heap.size<=w'.heap.size:=by
 obtain⟨i0,hi0,hz0,hz1,hz2⟩:=info_parts Tryz.infoPeer;obtain⟨k0,k1,_⟩:=fp w (.cells #[.string p1,.slice q1 n1 c1] 81) (.cells #[.string p2,.slice q2 n2 c2] 81);have hbW:Below w.heap.size w ((w.alloc (.cells #[.string p1,.slice q1 n1 c1] 81)).alloc (.cells #[.string p2,.slice q2 n2 c2] 81)):=((bF.refl w).alloc _ |>.alloc _).below;obtain⟨vq,vc,rfl⟩:=al h.row;go_enter func29,ntmps29;go_upto_region 1 with fail
 generalize (w.alloc (.cells #[.string p1,.slice q1 n1 c1] 81)).alloc (.cells #[.string p2,.slice q2 n2 c2] 81)=W at k0 k1 hbW ⊢;have hsb:=(hbW.block sb (ah h.blk)).trans h.blk;have hrow:W.ownsRow base 107 7 (.slice vq n vc) n xs:=ay h.row λ k e=>hbW.block k (h.row.lt k e).2
 have s0:W.cell? ⟨sb,0,none⟩=some (.slice vq n vc):=ag hsb;have a0:W.cell? ⟨w.heap.size,0,none⟩=some (.string p1):=ag k0;have a1:W.cell? ⟨w.heap.size,1,none⟩=some (.slice q1 n1 c1):=ag k0;have b0:W.cell? ⟨w.heap.size+1,0,none⟩=some (.string p2):=ag k1;have b1:W.cell? ⟨w.heap.size+1,1,none⟩=some (.slice q2 n2 c2):=ag k1;have l0:w.heap.size<W.heap.size:=ah k0;have l1:w.heap.size+1<W.heap.size:=ah k1;have ls:sb<W.heap.size:=ah hsb;have AA:=af hrow;have FA:=af hsb;have DA:=af hbW;have H:=af h;have hszW:=hbW.size;clear hrow hsb hbW h k0 k1
 go_region_law ((refine step_append_lies _ (by rfl) _ _ _ (by rfl) base 107 i0 _ 7 136 underlying57 hi0 hz0 hz1 hz2 rfl (by omega) (.slice vq n vc) n xs (by rfl) (((ae AA).alloc _).drew) ⟨W.heap.size,0,none⟩ 1 1 (GE p1 q1 n1 c1 p2 q2 n2 c2) (by rfl) (by rfl) (World.news_of_block (cs:=#[.string p1,.slice q1 n1 c1,.string p2,.slice q2 n2 c2,.bool false,.slice none 0 0,.slice none 0 0]) (t:=107) (fr:=(0,0)) (cM _ _)) (by simp [Value.oneCell']) (by omega) (by simp [maxLen];omega) (by omega) (by simp;omega) (W.heap.size+1) (by simp) ?_;intro gg cap w6 hown hgrow hat hltg;have hsb6:w6.heap[sb]?=some (.cells #[.slice vq n vc] 61 (0,0)):=((hgrow.block sb (by simp;omega) (λ e=>by obtain⟨cur,hc⟩:=own_typed (ae AA) e.symm;rw [ae FA]at hc;cases hc)).trans ((mC _ _ _ ls).trans (ae FA)));have d0:w6.cell? ⟨sb,0,none⟩=some (.slice vq n vc):=ag hsb6;have dz:w6.frozen? ⟨sb,0,none⟩=false:=aj hsb6;have BA:=af hown;have EA:=af hgrow;have CA:=af hsb6;have GA:=af hat;clear hown hgrow hsb6 hat))
 all_goals
  go_wp2
  go_end0
  refine⟨rfl,.slice (some ⟨gg,0,none⟩) (n+1) cap,⟨?_,?_,?_,(ae H).lo⟩,?_⟩
  ·rw [aV (ae CA)];rfl
  ·refine ay (ae BA) λ k e=>ai λ e2=>?_
   obtain⟨cur,hc⟩:=own_typed (ae BA) e;rw [show k=sb from e2,ae CA]at hc;cases hc
  ·have hg:=ae EA;refine⟨hg.os.trans ((ae DA).os.trans (ae H).bel.os),hg.tape.trans ((ae DA).tape.trans (ae H).bel.tape),hg.output.trans ((ae DA).output.trans (ae H).bel.output),?_,λ k hk=>?_⟩
   ·have h1:=hg.size;have h2:=(ae H).bel.size;simp [World.setCell]at h1 ⊢;omega
   rw [ai (by have:=(ae H).lo;simp only;omega),hg.block k (by simp;omega) (λ e=>by have:=((ae AA).lt k e.symm).1;omega)];exact(mC _ _ _ (by omega)).trans (((ae DA).block k (by omega)).trans ((ae H).bel.block k hk))
  have h1:=(ae EA).size;simp [World.setCell]at h1 ⊢;omega
structure mK where
 blk:Nat
 p:ByteArray
 q:Option Addr
 n:Nat
 c:Nat
def wj(w:World)(x:mK):Prop:=w.heap[x.blk]?=some (.cells #[.string x.p,.slice x.q x.n x.c] 83 (0,0))
def mH(l:List (mK×mK)):List Value:=l.flatMap λ x=>GE x.1.p x.1.q x.1.n x.1.c x.2.p x.2.q x.2.n x.2.c
theorem DS{l:List (mK×mK)}{k:Nat}(h:k<l.length):mH (l.take (k+1))=mH (l.take k)++GE l[k].1.p l[k].1.q l[k].1.n l[k].1.c l[k].2.p l[k].2.q l[k].2.n l[k].2.c:=by
 unfold mH;rw [List.take_succ_eq_append_getElem h,List.flatMap_append];simp
theorem L5(w:World)(l:List (mK×mK))(b1 b2 c1 c2:Nat)(h1:0<l.length)(h4:l.length<=4)(hc1:l.length<=c1)(hc2:l.length<=c2)(hb1:b1<w.heap.size)(hb2:b2<w.heap.size)
  (hp1:∀ k (hk:k<l.length),w.cell? ⟨b1,k,none⟩=some (.pointer (some ⟨l[k].1.blk,0,none⟩))/\wj w l[k].1) (hp2:∀ k (hk:k<l.length),w.cell? ⟨b2,k,none⟩=some (.pointer (some ⟨l[k].2.blk,0,none⟩))/\wj w l[k].2) :
  Calls prog 13 #[.slice (some ⟨b1,0,none⟩) l.length c1,.slice (some ⟨b2,0,none⟩) l.length c2] w λ e w'=>∃ sb v,e=.returned (.tuple #[.pointer (some ⟨sb,0,none⟩),.int .i64 0])/\rm w w.heap.size w' sb v l.length (mH l):=by
 have C1:=af (oB (l.map (·.1.blk)) (.slice (some ⟨b1,0,none⟩) l.length c1) b1 c1 (by rw [List.length_map]) w (by rw [List.length_map];omega) (λ k hk=>by rw [List.length_map]at hk;rw [List.getElem_map];exact(hp1 k hk).1));have C2:=af (oB (l.map (·.2.blk)) (.slice (some ⟨b2,0,none⟩) l.length c2) b2 c2 (by rw [List.length_map]) w (by rw [List.length_map];omega) (λ k hk=>by rw [List.length_map]at hk;rw [List.getElem_map];exact(hp2 k hk).1));have DA:=af hp1;have EA:=af hp2;clear hp1 hp2;obtain⟨n,hn⟩:∃ n,l.length=n:=⟨_,rfl⟩
 rw [hn]at h1 h4 hc1 hc2 C1 C2 ⊢;have HN:=af hn;clear hn;go_enter func13,ntmps13
 go_wp2_with (first
  | (go_at_call 28;refine(ae C1).mono ?_;clear C1;rintro e w ⟨rfl,rfl⟩)
  | (go_at_call 28;refine(ae C2).mono ?_;clear C2;rintro e w ⟨rfl,rfl⟩))
 go_loopw [35] (λ i wr=>∃(k:Nat) (v:Value),k<=n/\i=.int .i64 k/\rm w w.heap.size wr w.heap.size v k (mH (l.take k))) (λ i _=>n-(intOf i).toNat)
 case atStart=>exact⟨0,.slice none 0 0,dG _,rfl,cM w _,i7 _ _ _ _,(aY _ _).alloc (aL _) _,aL _⟩
 case round =>
  obtain⟨k,v,hk,rfl,hA⟩:=hrel;by_cases hlt:k<n
  ·have hltl:k<l.length:=by rw [ae HN];exact hlt
   obtain⟨e1,f1⟩:=ae DA k hltl;obtain⟨e2,f2⟩:=ae EA k hltl;have hbe:=hA.bel;have GA:=af (λ(W':World) (hb:Below w.heap.size w W')=>And.intro ((hb.cell (p:=⟨b1,k,none⟩) hb1).trans e1) (And.intro ((hb.cell (p:=⟨b2,k,none⟩) hb2).trans e2) (And.intro ((ag ((hb.block _ (ah f1)).trans f1):W'.cell? ⟨l[k].1.blk,0,none⟩=some (.string l[k].1.p))) (And.intro ((ag ((hb.block _ (ah f1)).trans f1):W'.cell? ⟨l[k].1.blk,1,none⟩=some (.slice l[k].1.q l[k].1.n l[k].1.c))) (And.intro ((ag ((hb.block _ (ah f2)).trans f2):W'.cell? ⟨l[k].2.blk,0,none⟩=some (.string l[k].2.p))) ((ag ((hb.block _ (ah f2)).trans f2):W'.cell? ⟨l[k].2.blk,1,none⟩=some (.slice l[k].2.q l[k].2.n l[k].2.c))))))));have CA:=af hbe.drew;have hAd:rm w w.heap.size wr.drew w.heap.size v k (mH (l.take k)):=⟨hA.blk,ay hA.row λ _ _=>rfl,hA.bel.drew,hA.lo⟩
   have BA:=af (Kg hAd (show w.heap.size<=wr.drew.heap.size from hbe.size) (by omega) l[k].1.p l[k].2.p l[k].1.q l[k].2.q l[k].1.n l[k].2.n l[k].1.c l[k].2.c);have FA:=af (DS hltl);clear e1 e2 f1 f2 hbe hA hAd;generalize l[k].1=A1 at *;generalize l[k].2=A2 at *;obtain⟨B1,P1,Q1,N1,D1⟩:=A1;obtain⟨B2,P2,Q2,N2,D2⟩:=A2;dsimp only at *;have AA:Hid (∀ W':World,Below w.heap.size w W'->W'.cell? ⟨b1,k,none⟩=some (.pointer (some ⟨B1,0,none⟩))/\W'.cell? ⟨b2,k,none⟩=some (.pointer (some ⟨B2,0,none⟩))/\W'.cell? ⟨B1,0,none⟩=some (.string P1)/\W'.cell? ⟨B1,1,none⟩=some (.slice Q1 N1 D1)/\W'.cell? ⟨B2,0,none⟩=some (.string P2)/\W'.cell? ⟨B2,1,none⟩=some (.slice Q2 N2 D2)):=af (λ W' hb=>ae GA W' hb);go_upto_region 7 with fail
   go_region_held3 (λ W'=>W'.cell? ⟨b1,k,none⟩=some (.pointer (some ⟨B1,0,none⟩))/\W'.cell? ⟨b2,k,none⟩=some (.pointer (some ⟨B2,0,none⟩))/\W'.cell? ⟨B1,0,none⟩=some (.string P1)/\W'.cell? ⟨B1,1,none⟩=some (.slice Q1 N1 D1)/\W'.cell? ⟨B2,0,none⟩=some (.string P2)/\W'.cell? ⟨B2,1,none⟩=some (.slice Q2 N2 D2)) (first|(with_reducible exact ae AA _ (ae CA))) (first
    | (go_at_call 29;refine(ae BA).mono ?_;clear BA;rintro e w3 ⟨rfl,v',hA',hsz⟩;have HA:=af hA';replace CA:=af hA'.bel;clear hA'))
   go_wp2
   go_roundw
   case rel=>exact⟨k+1,v',by omega,by go_num,by rw [ae FA];exact ae HA⟩
   case measure=>simp [intOf];omega
  have hke:k=n:=by omega
  subst hke;have HA:=af hA;have HT:=af (show l.take k=l from by rw [<-ae HN,List.take_length]);clear hA;go_wp2
  refine gH (v:=.tuple #[.pointer (some ⟨w.heap.size,0,none⟩),.int .i64 0]) (by simp [results,results13,go_sem]) rfl ?_;exact⟨w.heap.size,v,rfl,by have:=ae HA;rw [ae HT]at this;exact this⟩
def xq(mi mo:List aJ)(x:mK×mK):aW:=⟨x.1.p,.slice x.1.q x.1.n x.1.c,mi,x.2.p,.slice x.2.q x.2.n x.2.c,mo,false,[],[]⟩
theorem xB:∀(l:List (mK×mK)) (k:Nat) (h:k<l.length) (i:Nat),i<7->(mH l)[k*7+i]?=(GE l[k].1.p l[k].1.q l[k].1.n l[k].1.c l[k].2.p l[k].2.q l[k].2.n l[k].2.c)[i]?
 | x::l,0,_,i,hi=>by
  rw [Nat.zero_mul,Nat.zero_add,mH,List.flatMap_cons,List.getElem?_append_left (by simpa using hi)];rfl
 | x::l,k+1,h,i,hi=>by
  rw [mH,List.flatMap_cons,List.getElem?_append_right (by simp;omega)];simp only [List.length_cons,List.length_nil];rw [show(k+1)*7+i-(0+1+1+1+1+1+1+1)=k*7+i by omega];exact xB l k (by simpa using h) i hi
theorem bG.made{n0:Nat}{w0 w w':World}{sb:Nat}{v:Value}{l:List (mK×mK)}{mi mo:List aJ}(hA:rm w w.heap.size w' sb v l.length (mH l))(h1:0<l.length)(h4:l.length<=4)(hw:Below n0 w0 w)(hn:n0<=w0.heap.size)(hi:gh mi)(ho:gh mo)
  (hP:∀ x∈l,qH n0 w0 x.1.p (.slice x.1.q x.1.n x.1.c) mi/\qH n0 w0 x.2.p (.slice x.2.q x.2.n x.2.c) mo):∃ pb cap cs,bG n0 w0 w' sb pb cap cs (l.map (xq mi mo))/\w.heap.size<=pb:=by
 have hsz:n0<=w.heap.size:=gG hn hw.size;obtain⟨_,⟨_,h2⟩|⟨g,cap,cur,rfl,hg,hb,hlc,hmx,hcs,hrow⟩⟩:=id hA.row
 ·omega
 have hcell:∀ i (hi:i<l.length) j,j<7->cur[i*7+j]?=(GE l[i].1.p l[i].1.q l[i].1.n l[i].1.c l[i].2.p l[i].2.q l[i].2.n l[i].2.c)[j]?:=λ i hi j hj=>by
  have h5:=xB l i hi j hj;rw [<-hrow,List.getElem?_take,aS (by have:(i+1)*7<=l.length*7:=Nat.mul_le_mul_right 7 hi;omega)]at h5;simpa using h5
 have hq:∀ q v,oU l.length q->cur[q]?=some v->v=.slice none 0 0:=λ q v ⟨hq1,hq2⟩ hv=>by
  have hi:q / 7<l.length:=by omega
  rcases hq2 with e|e
  ·have h6:=hcell (q / 7) hi 5 (by decide);rw [show q / 7*7+5=q by omega,hv]at h6;exact kd h6
  have h6:=hcell (q / 7) hi 6 (by decide);rw [show q / 7*7+6=q by omega,hv]at h6;exact kd h6
 refine⟨g,cap,cur,⟨hw.trans (hA.bel.mono hsz),hn,by omega,by rw [List.length_map];exact hA.blk,hb,?_,by rw [List.length_map];exact h4,λ i h=>?_,λ p hp=>?_,λ q q' u u' h2 h3 _ hu hu'=>?_⟩,hg⟩
 ·rw [List.length_map,hcs];exact Nat.mul_le_mul_right 7 hlc
 ·rw [List.length_map]at h;rw [List.getElem_map];exact⟨hcell i h 0 (by decide),hcell i h 1 (by decide),hcell i h 2 (by decide),hcell i h 3 (by decide),hcell i h 4 (by decide),⟨_,hcell i h 5 (by decide),i7 _ _ _ _⟩,⟨_,hcell i h 6 (by decide),i7 _ _ _ _⟩⟩
 ·obtain⟨x,hx,rfl⟩:=List.mem_map.1 hp;exact⟨(hP x hx).1,(hP x hx).2,hi,ho,⟨_,_,_,rfl⟩,⟨_,_,_,rfl⟩,List.Pairwise.nil,dG _,dG _,λ y hy=>(by cases hy),λ y hy=>(by cases hy)⟩
 rw [List.length_map]at h2;rw [hq q u h2 hu];intro k e;cases e
