/- part -/
import Derived.Test.YtgdeeodifnegiaaGreatDoorRwA
set_option maxRecDepth 100000
set_option maxHeartbeats 6400000
namespace Go.Proofs.YtgdeeodifnegiaaGreatDoor
open Go.Proofs.Tryz
open Or
open Go.RowKit
namespace rf
def jp(l:List Int)(A:aH)(M:Nat->Nat->Bool):Prop:=∀ i j,i<=l.length->j<=l.length->(M i j=true↔i<=j/\A ((l.take j).drop i))
def MM(w:World)(l:List Int)(A:aH)(e:Ending)(w':World):Prop:=∃ z bs M,e=.returned z/\Below w.heap.size w w'/\bs.length=l.length+1/\cV w' w.heap.size (l.length+1) z bs M/\jp l A M
def oB(t:Tr)(A:aH):Prop:=∀(w:World) (Q:Nat->Prop) (v:Value) (l:List Int) (pv:Value),aP w Q t v->w.ownsRow 0 3 1 pv l.length (aq l)->l.length<=100->Calls prog 195 #[v,pv] w (MM w l A)
def lf(f:Int->Bool)(l:List Int)(i a b:Nat):Bool:=decide (b=a+1/\a<i)&&f (l.getD a 0)
theorem DU{l:List Int}{i:Nat}(h:i<l.length):(l.take (i+1)).drop i=[l[i]]:=by
 rw [List.take_add_one,iK h,List.drop_append_of_le_length (by simp;omega),List.drop_eq_nil_of_le (by simp;omega)]
 rfl
theorem Kq(f:Int->Bool)(l:List Int):jp l (CH f) (lf f l l.length):=λ i j hi hj=>by
 unfold lf;rw [Bool.and_eq_true,decide_eq_true_eq]
 constructor
 ·rintro⟨⟨rfl,h1⟩,h2⟩;refine⟨by omega,?_⟩;rw [DU h1];rw [List.getD_eq_getElem?_getD,iK h1]at h2;exact⟨_,rfl,h2⟩
 rintro⟨h1,s,hs,h2⟩;have hl:=pP List.length hs;simp only [List.length_drop,List.length_take,List.length_singleton]at hl;obtain rfl:j=i+1:=by omega
 have h3:i<l.length:=by omega
 rw [DU h3]at hs;simp only [List.cons.injEq,and_true]at hs;refine⟨⟨rfl,h3⟩,?_⟩;rw [List.getD_eq_getElem?_getD,iK h3];rw [<-hs]at h2;exact h2
theorem vQ(op:ByteArray)(n a:Int)(f:Int->Bool)(dot:Bool)(hop:(op=cy/\dot=false/\f=λ s=>s==n)\/(op=jV/\dot=true/\f=λ _=>true)):oB (.mk op nB n a []) (CH f):=by
 intro w Q v l pv ht ho hl;have e0:(op.toList==[110,117,109,98,101,114])=!dot:=by rcases hop with⟨rfl,rfl,_⟩|⟨rfl,rfl,_⟩<;>decide +kernel
 have e1:(op.toList==[46])=dot:=by rcases hop with⟨rfl,rfl,_⟩|⟨rfl,rfl,_⟩<;>decide +kernel
 have hf:∀ s,f s=(dot||(s==n)):=λ s=>by rcases hop with⟨_,rfl,rfl⟩|⟨_,rfl,rfl⟩<;>simp
 rw [aP]at ht;obtain⟨kv,xs,rfl,_,_,_⟩:=ht;obtain⟨po,pc,rfl⟩:=aU ho;have hA:Below w.heap.size w (w.alloc (.cells (aj op nB n a kv) 115)):=(aX _ _).alloc (aD _) _;have q0:(w.alloc (.cells (aj op nB n a kv) 115)).heap[w.heap.size]?=some (.cells (aj op nB n a kv) 115 (0,0)):=cN _ _;obtain⟨WA,hWA⟩:∃ WA,w.alloc (.cells (aj op nB n a kv) 115)=WA:=⟨_,rfl⟩
 have DA:=ae hWA;rw [hWA]at hA q0;have lA:w.heap.size<WA.heap.size:=ai q0;have HA:=ae hA;have Q0:=ae q0;have HO:=ae ho;have HF:=ae hf;clear hWA hA q0 ho hop hf;go_enter func195,ntmps195;go_upto_region 1 with fail
 rw [ab DA];go_wp2_with fail;rw [show((l.length:Int)+1)=((l.length+1:Nat):Int)from by omega];refine(iY WA (l.length+1) (by omega)).mono ?_;rintro e w1 ⟨z,bs,rfl,hb1,hbl,hg1⟩;obtain⟨zo,zc,rfl⟩:=aU hg1.own;rw [hbl]at hg1 ⊢;have c0:w1.cell? ⟨w.heap.size,0,none⟩=some (.string op):=(hb1.cell (p:=⟨w.heap.size,0,none⟩) lA).trans (af (ab Q0));have BA:=ae hb1;have CA:=ae hg1;have l1:w.heap.size<w1.heap.size:=eV lA hb1.size;clear hb1 hg1;cases dot
 all_goals
  simp only [Bool.not_false,Bool.not_true]at e0;go_wp2_with fail;go_loopg [6] l.length (λ k b6 wr=>∃ i:Nat,i+k=l.length/\b6=.int .i64 i/\Below WA.heap.size WA wr/\cV wr WA.heap.size (l.length+1) (.slice zo (l.length+1) zc) bs (lf f l i))
  case atStart=>exact⟨0,by omega,rfl,ab BA,(ab CA).congr (λ a b _ _=>by simp [lf])⟩
  case round =>
   clear BA CA c0 l1;obtain⟨i,hik,rfl,hb,hg⟩:=hrel;have HB:=ae hb;have HG:=ae hg;by_cases hi:i<l.length
   ·obtain⟨g3,cap3,hv3,lg3,c3,lb3,zb3,cb3⟩:=hg.get (i:=i) (by omega);obtain⟨g1,cap1,hv1,lg1,y1⟩:=ly (ab HO) hi;simp only [Value.slice.injEq]at hv1 hv3;obtain⟨rfl,-,rfl⟩:=hv1;rw [hbl]at hv3;obtain⟨rfl,-,rfl⟩:=hv3;have hw:=((ab HA).trans (hb.mono (ab HA).size))
    have y1r:=(hw.cell (p:=⟨g1,i,none⟩) lg1).trans y1;have lgr:g1<wr.heap.size:=eV lg1 hw.size;have c0:wr.cell? ⟨w.heap.size,0,none⟩=some (.string op):=(hb.cell (p:=⟨w.heap.size,0,none⟩) lA).trans (af (ab Q0));have c2:wr.cell? ⟨w.heap.size,2,none⟩=some (.int .i64 n):=(hb.cell (p:=⟨w.heap.size,2,none⟩) lA).trans (af (ab Q0));have lw:w.heap.size<wr.heap.size:=eV lA hb.size;have d3:=cb3 (i+1) (by omega);obtain⟨x3,hx3⟩:∃ b,bs[i]'(by omega)=b:=⟨_,rfl⟩
    have F:=ae (show Below WA.heap.size WA (wr.setCell ⟨x3,i+1,none⟩ (.bool (f l[i])))/\cV (wr.setCell ⟨x3,i+1,none⟩ (.bool (f l[i]))) WA.heap.size (l.length+1) (.slice (some ⟨g3,0,none⟩) (l.length+1) zc) bs (lf f l (i+1))from by
     refine⟨hb.setCell ?_ _,?_⟩
     ·rw [<-hx3];exact(hg.rows i (by omega)).1
     ·rw [<-hx3];refine(hg.set (j:=i+1) (by omega) _).congr (λ a b _ _=>?_);by_cases e:a=i/\b=i+1
      ·obtain⟨rfl,rfl⟩:=e;rw [aC ⟨rfl,rfl⟩];unfold lf;rw [List.getD_eq_getElem?_getD,iK hi];simp
      ·rw [au e];unfold lf
       congr 1
       rw [decide_eq_decide];omega)
    rw [ab HF]at F;rw [hx3]at c3 lb3 zb3 d3;clear hb hg cb3 hx3 hw;generalize l[i]=y at *;go_wp2_with fail;go_region
    go_wp2_with fail;go_roundg (l.length-(i+1))
    case measure=>omega
    case rel=>exact⟨i+1,by omega,by go_num,(ab F).1.drew,(ab F).2.keep (λ _ _ _=>rfl)⟩
   have hin:i=l.length:=by omega
   have AA:=ae (show Below w.heap.size w wr/\cV wr w.heap.size (l.length+1) (.slice zo (l.length+1) zc) bs (lf f l l.length)from by
    have hs:=(ab HA).size;rw [hin]at hg;exact⟨(ab HA).trans (hb.mono hs),⟨hg.own,λ k hk=>kr hs (hg.new k hk),hg.off,hg.nd,λ i hi=>⟨kr hs (hg.rows i hi).1,(hg.rows i hi).2⟩⟩⟩)
   clear hb hg;go_wp2_with fail;go_ret;exact⟨_,bs,_,rfl,(ab AA).1,hbl,(ab AA).2,Kq f l⟩
theorem rU{l:List Int}{i k j:Nat}(h1:i<=k)(h2:k<=j)(h3:j<=l.length):(l.take j).drop i=(l.take k).drop i++(l.take j).drop k:=by
 have e:(l.take j).take k=l.take k:=by rw [List.take_take];congr 1;omega
 conv=>lhs;rw [<-List.take_append_drop k (l.take j),e]
 rw [List.drop_append_of_le_length (by simp;omega)]
theorem iR{l:List Int}{i j:Nat}(h3:j<=l.length):((l.take j).drop i).length=j-i:=by simp;omega
theorem Ks{l:List Int}{A B:aH}{M E:Nat->Nat->Bool}(h:jp l A M)(g:jp l B E):jp l (MI A B) (λ i j=>M i j||E i j):=λ i j hi hj=>by
 show(M i j||E i j)=true↔_;rw [Bool.or_eq_true,h i j hi hj,g i j hi hj]
 constructor
 ·rintro(⟨a,b⟩|⟨a,b⟩)
  ·exact⟨a,inl b⟩
  exact⟨a,inr b⟩
 rintro⟨a,b|b⟩
 ·exact inl ⟨a,b⟩
 exact inr ⟨a,b⟩
theorem Kr(l:List Int):jp l (kj []) (λ _ _=>false):=λ i j _ _=>by
 constructor
 ·intro h;cases h
 rintro⟨_,h⟩;cases h
theorem Ih(l:List Int):jp l (jM []) (λ i j=>false||decide (i=j)):=λ i j hi hj=>by
 show(false||decide (i=j))=true↔i<=j/\(l.take j).drop i=[];rw [Bool.false_or,decide_eq_true_eq]
 constructor
 ·rintro rfl;exact⟨aD _,List.drop_eq_nil_of_le (by simp;omega)⟩
 rintro⟨h1,h2⟩;have:=iR (i:=i) hj;rw [h2]at this;simp at this;omega
theorem Ig{l:List Int}{A B:aH}{M E:Nat->Nat->Bool}(h:jp l A M)(g:jp l B E):jp l (El A B) (cp M E (l.length+1)):=λ i j hi hj=>by
 unfold cp;rw [List.any_eq_true]
 constructor
 ·rintro⟨k,hk,hm⟩;have hk':k<=l.length:=by have:=List.mem_range.1 hk;omega
  rw [Bool.and_eq_true,h i k hi hk',g k j hk' hj]at hm;obtain⟨⟨h1,h2⟩,h3,h4⟩:=hm;exact⟨by omega,_,_,rU h1 h3 hj,h2,h4⟩
 rintro⟨hij,a,b,e,ha,hb⟩;have hle:=pP List.length e;rw [iR hj,List.length_append]at hle;have hk:i+a.length<=j:=by omega
 have e2:=rU (l:=l) (i:=i) (k:=i+a.length) (by omega) hk hj;rw [e]at e2;have hla:a.length=((l.take (i+a.length)).drop i).length:=by rw [iR (by omega)];omega
 obtain⟨ea,eb⟩:=List.append_inj e2 hla;refine⟨i+a.length,List.mem_range.2 (by omega),?_⟩;rw [Bool.and_eq_true,h i _ hi (by omega),g _ j (by omega) hj];exact⟨⟨by omega,by rw [<-ea];exact ha⟩,hk,by rw [<-eb];exact hb⟩
theorem GQ(ms:List aH)(m:aH):kj (ms++[m])=MI (kj ms) m:=by simp [kj]
theorem Jc(ms:List aH)(m:aH):jM (ms++[m])=El (jM ms) m:=by simp [jM]
theorem wO.below{w w':World}{Q:Nat->Prop}{kids:List Tr}{kv:Value}{g:Nat}(h:wO w Q kids kv g)(hb:Below w.heap.size w w'):wO w' (λ k=>Q k\/w.heap.size<=k) kids kv g:=by
 refine⟨h.sl,eV h.lt hb.size,λ hh=>?_,λ i hi=>?_⟩
 ·rcases hh with hh|hh
  ·exact h.off hh
  have:=h.lt;omega
 obtain⟨a,b,c,d,e,h0,h1,h2,h3,h4,h5⟩:=h.at_ i hi;have hc:∀ o,w'.cell? ⟨g,o,none⟩=w.cell? ⟨g,o,none⟩:=λ o=>vD (hb.block g h.lt)
 exact⟨a,b,c,d,e,(hc _).trans h0,(hc _).trans h1,(hc _).trans h2,(hc _).trans h3,(hc _).trans h4,aP.step (Fr.of_below (O:=nF) hb) (λ k hk=>hk.elim) (λ k hk=>hk) _ _ h5⟩
theorem ml{w W W':World}{n:Nat}{v:Value}{bs:List Nat}{M:Nat->Nat->Bool}(hb:Below w.heap.size w W)(hg:cV W w.heap.size n v bs M)(hf:Fr (In bs) W (In bs) W'):Below w.heap.size w W' :=
 ⟨hf.os.trans hb.os,hf.tape.trans hb.tape,hf.output.trans hb.output,kr hb.size hf.size,λ k hk=>(hf.block k (eV hk hb.size) (λ hm=>by
  obtain⟨i,hi,rfl⟩:=List.getElem_of_mem hm;have:=(hg.rows i hi).1;omega)).trans (hb.block k hk)⟩
theorem cV.later{w w':World}{base n:Nat}{v:Value}{bs:List Nat}{M:Nat->Nat->Bool}(h:cV w base n v bs M)(hb:Below w.heap.size w w'):cV w' base n v bs M:=h.keep (λ k hk _=>hb.block k hk)
theorem cV.lower{w:World}{base base' n:Nat}{v:Value}{bs:List Nat}{M:Nat->Nat->Bool}(h:cV w base n v bs M)(hb:base'<=base):cV w base' n v bs M :=
 ⟨h.own,λ k hk=>kr hb (h.new k hk),h.off,h.nd,λ i hi=>⟨kr hb (h.rows i hi).1,(h.rows i hi).2⟩⟩
theorem cV.apart{w w':World}{base n:Nat}{v u:Value}{bs cs:List Nat}{M E:Nat->Nat->Bool}(h:cV w base n v bs M)(g:cV w' w.heap.size n u cs E):∀ b∈bs,b ∉ cs/\u.ownBlock≠some b:=λ b hb=>by
 obtain⟨i,hi,rfl⟩:=List.getElem_of_mem hb;have hlt:=ai (h.rows i hi).2;refine⟨λ hc=>?_,λ e=>?_⟩
 ·obtain⟨j,hj,e⟩:=List.getElem_of_mem hc;have:=(g.rows j hj).1;omega
 have:=g.new _ e;omega
theorem zk{ks:List Tr}{ms:List aH}(hlen:ks.length=ms.length)(IK:∀ i,(h:i<ks.length)->(h':i<ms.length)->oB ks[i] ms[i]):oB (.mk gF nB 0 0 ks) (kj ms):=by
 intro w Q v l pv ht ho hl;obtain⟨op,hop⟩:∃ op,gF=op:=⟨_,rfl⟩
 have e0:(op.toList==[110,117,109,98,101,114])=false:=by rw [<-hop];decide +kernel
 have e1:(op.toList==[46])=false:=by rw [<-hop];decide +kernel
 have e2:(op.toList==[101,105,116,104,101,114])=true:=by rw [<-hop];decide +kernel
 rw [hop]at ht;have HT:=ae ht;rw [aP]at ht;obtain⟨kv,xs,rfl,hko,_,_⟩:=ht
 have hkmax:ks.length<=9223372036854775807:=by
  rcases hko.2 with⟨_,e⟩|⟨_,cap,_,_,_,_,h3,h4,_⟩
  ·omega
  unfold maxLen at h4;omega
 obtain⟨ko,kc,rfl⟩:=aU hko;obtain⟨po,pc,rfl⟩:=aU ho;have hA:Below w.heap.size w (w.alloc (.cells (aj op nB 0 0 (.slice ko ks.length kc)) 115)):=(aX _ _).alloc (aD _) _;have q0:(w.alloc (.cells (aj op nB 0 0 (.slice ko ks.length kc)) 115)).heap[w.heap.size]?=some (.cells (aj op nB 0 0 (.slice ko ks.length kc)) 115 (0,0)):=cN _ _;obtain⟨WA,hWA⟩:∃ WA,w.alloc (.cells (aj op nB 0 0 (.slice ko ks.length kc)) 115)=WA:=⟨_,rfl⟩
 have KA:=ae hWA;rw [hWA]at hA q0;have lA:w.heap.size<WA.heap.size:=ai q0;have HA:=ae hA;have Q0:=ae q0;have HO:=ae ho;have IA:=ae IK;have AA:=ae hlen;clear hWA hA q0 ho hop hko IK hlen;go_enter func195,ntmps195;go_upto_region 1 with fail
 rw [ab KA];go_wp2_with fail;rw [show((l.length:Int)+1)=((l.length+1:Nat):Int)from by omega];refine(iY WA (l.length+1) (by omega)).mono ?_;rintro e w1 ⟨z,bs,rfl,hb1,hbl,hg1⟩;obtain⟨zo,zc,rfl⟩:=aU hg1.own;rw [hbl]at hg1 ⊢;have c0:w1.cell? ⟨w.heap.size,0,none⟩=some (.string op):=(hb1.cell (p:=⟨w.heap.size,0,none⟩) lA).trans (af (ab Q0));have DA:=ae hb1;have EA:=ae hg1;have l1:w.heap.size<w1.heap.size:=eV lA hb1.size;clear hb1 hg1;go_wp2_with fail;go_loopg [7] ks.length (λ k b7 wr=>∃(i:Nat) (M:Nat->Nat->Bool),i+k=ks.length/\b7=.int .i64 i/\Below WA.heap.size WA wr/\cV wr WA.heap.size (l.length+1) (.slice zo (l.length+1) zc) bs M/\jp l (kj (ms.take i)) M)
 case atStart=>exact⟨0,_,by omega,rfl,ab DA,ab EA,Kr l⟩
 case round =>
  clear DA EA c0 l1;obtain⟨i,M,hik,rfl,hb,hg,hlk⟩:=hrel;have HB:=ae hb;have HG:=ae hg;have JA:=ae hlk;have c4:wr.cell? ⟨w.heap.size,4,none⟩=some (.slice ko ks.length kc):=(hb.cell (p:=⟨w.heap.size,4,none⟩) lA).trans (af (ab Q0));have lw:w.heap.size<wr.heap.size:=eV lA hb.size;have hw:=((ab HA).trans (hb.mono (ab HA).size))
  by_cases hi:i<ks.length
  ·obtain⟨kv',g,ev,hk⟩:=(ab HT).kids (λ e=>by rw [e]at hi;simp at hi);obtain rfl:kv'=.slice ko ks.length kc:=by simp at ev;exact ev.symm
   have hkr:=hk.below hw;obtain⟨cap,hcap⟩:=hkr.sl;simp only [Value.slice.injEq]at hcap;obtain⟨rfl,-,rfl⟩:=hcap;obtain⟨a0,a1,a2,a3,a4,y0,y1,y2,y3,y4,tk⟩:=hkr.at_ i hi;have lg:=hkr.lt;have CA:=ae (ab IA i hi (by have:=ab AA;omega) wr _ _ l _ tk (ap (ab HO) (λ k hk=>hw.block k ((ab HO).lt k hk).2)) hl);have LA:=ae (show kj (ms.take (i+1))=MI (kj (ms.take i)) (ms[i]'(by have:=ab AA;omega))from by rw [<-GQ,List.take_add_one,iK (by have:=ab AA;omega)];rfl);clear hb hg hlk hw hk hkr tk ev;go_wp2_with fail;refine(ab CA).mono ?_;rintro e w2 ⟨z2,cs,E,rfl,hb2,hcl,hg2,hlk2⟩;have hgo:=(ab HG).later hb2;have MC:=ae (qh hgo hg2 hbl hcl (by omega) ((ab HG).apart hg2));have L2:=ae (Ks (ab JA) hlk2);have FA:=ae ((ab HB).trans (hb2.mono (ab HB).size));have GA:=ae hgo;clear hb2 hg2 hgo hlk2 CA y0 y1 y2 y3 y4 c4;go_wp2_with fail;refine(ab MC).mono ?_;rintro e w3 ⟨x,rfl,_,hg3,_,hf3⟩;have BA:=ae (And.intro (ml (ab FA) (ab GA) hf3) hg3);clear hg3 hf3 MC;go_wp2_with fail;go_roundg (ks.length-(i+1))
   case measure=>omega
   case rel=>exact⟨i+1,_,by omega,by go_num,(ab BA).1,(ab BA).2,by rw [ab LA];exact ab L2⟩
  have hin:i=ms.length:=by have:=ab AA;omega
  have BA:=ae (show Below w.heap.size w wr/\cV wr w.heap.size (l.length+1) (.slice zo (l.length+1) zc) bs M/\jp l (kj ms) M from⟨hw,hg.lower (ab HA).size,by rw [hin,List.take_length]at hlk;exact hlk⟩);clear hb hg hlk hw;go_wp2_with fail;go_ret;exact⟨_,bs,_,rfl,(ab BA).1,hbl,(ab BA).2.1,(ab BA).2.2⟩
theorem Hn{ks:List Tr}{ms:List aH}(hlen:ks.length=ms.length)(IK:∀ i,(h:i<ks.length)->(h':i<ms.length)->oB ks[i] ms[i]):oB (.mk pK nB 0 0 ks) (jM ms):=by
 intro w Q v l pv ht ho hl;obtain⟨op,hop⟩:∃ op,pK=op:=⟨_,rfl⟩
 have e0:(op.toList==[110,117,109,98,101,114])=false:=by rw [<-hop];decide +kernel
 have e1:(op.toList==[46])=false:=by rw [<-hop];decide +kernel
 have e2:(op.toList==[101,105,116,104,101,114])=false:=by rw [<-hop];decide +kernel
 have e3:(op.toList==[114,111,119])=true:=by rw [<-hop];decide +kernel
 rw [hop]at ht;have HT:=ae ht;rw [aP]at ht;obtain⟨kv,xs,rfl,hko,_,_⟩:=ht
 have hkmax:ks.length<=9223372036854775807:=by
  rcases hko.2 with⟨_,e⟩|⟨_,cap,_,_,_,_,h3,h4,_⟩
  ·omega
  unfold maxLen at h4;omega
 obtain⟨ko,kc,rfl⟩:=aU hko;obtain⟨po,pc,rfl⟩:=aU ho;have hA:Below w.heap.size w (w.alloc (.cells (aj op nB 0 0 (.slice ko ks.length kc)) 115)):=(aX _ _).alloc (aD _) _;have q0:(w.alloc (.cells (aj op nB 0 0 (.slice ko ks.length kc)) 115)).heap[w.heap.size]?=some (.cells (aj op nB 0 0 (.slice ko ks.length kc)) 115 (0,0)):=cN _ _;obtain⟨WA,hWA⟩:∃ WA,w.alloc (.cells (aj op nB 0 0 (.slice ko ks.length kc)) 115)=WA:=⟨_,rfl⟩
 have KA:=ae hWA;rw [hWA]at hA q0;have lA:w.heap.size<WA.heap.size:=ai q0;have HA:=ae hA;have Q0:=ae q0;have HO:=ae ho;have IA:=ae IK;have AA:=ae hlen;clear hWA hA q0 ho hop hko IK hlen;go_enter func195,ntmps195;go_upto_region 1 with fail
 rw [ab KA];go_wp2_with fail;rw [show((l.length:Int)+1)=((l.length+1:Nat):Int)from by omega];refine(iY WA (l.length+1) (by omega)).mono ?_;rintro e w1 ⟨z,bs,rfl,hb1,hbl,hg1⟩;obtain⟨zo,zc,rfl⟩:=aU hg1.own;rw [hbl]at hg1 ⊢;have c0:w1.cell? ⟨w.heap.size,0,none⟩=some (.string op):=(hb1.cell (p:=⟨w.heap.size,0,none⟩) lA).trans (af (ab Q0));have FA:=ae hb1;have GA:=ae hg1;have l1:w.heap.size<w1.heap.size:=eV lA hb1.size;have SC:=ae (Ak hg1 hbl (by omega));clear hb1 hg1;go_wp2_with fail;refine(ab SC).mono ?_;rintro e w1' ⟨rfl,hgs,hfs⟩;have CA:=ae (ml (ab FA) (ab GA) hfs);have EA:=ae hgs;clear hgs hfs SC FA GA c0 l1;go_wp2_with fail;go_loopg [5,9] ks.length (λ k b5 b9 wr=>∃(i:Nat) (M:Nat->Nat->Bool) (zo:Option Addr) (zc:Nat) (bs:List Nat),i+k=ks.length/\b9=.int .i64 i/\b5=.slice zo (l.length+1) zc/\bs.length=l.length+1/\Below WA.heap.size WA wr/\cV wr WA.heap.size (l.length+1) (.slice zo (l.length+1) zc) bs M/\jp l (jM (ms.take i)) M)
 case atStart=>exact⟨0,_,zo,zc,bs,by omega,rfl,rfl,hbl,ab CA,ab EA,Ih l⟩
 case round =>
  clear CA EA hbl;obtain⟨i,M,zo,zc,bs,hik,rfl,rfl,hbl,hb,hg,hlk⟩:=hrel;have HB:=ae hb;have HG:=ae hg;have JA:=ae hlk;have c4:wr.cell? ⟨w.heap.size,4,none⟩=some (.slice ko ks.length kc):=(hb.cell (p:=⟨w.heap.size,4,none⟩) lA).trans (af (ab Q0));have lw:w.heap.size<wr.heap.size:=eV lA hb.size;have hw:=((ab HA).trans (hb.mono (ab HA).size))
  by_cases hi:i<ks.length
  ·obtain⟨kv',g,ev,hk⟩:=(ab HT).kids (λ e=>by rw [e]at hi;simp at hi);obtain rfl:kv'=.slice ko ks.length kc:=by simp at ev;exact ev.symm
   have hkr:=hk.below hw;obtain⟨cap,hcap⟩:=hkr.sl;simp only [Value.slice.injEq]at hcap;obtain⟨rfl,-,rfl⟩:=hcap;obtain⟨a0,a1,a2,a3,a4,y0,y1,y2,y3,y4,tk⟩:=hkr.at_ i hi;have lg:=hkr.lt;have DA:=ae (ab IA i hi (by have:=ab AA;omega) wr _ _ l _ tk (ap (ab HO) (λ k hk=>hw.block k ((ab HO).lt k hk).2)) hl);have LA:=ae (show jM (ms.take (i+1))=El (jM (ms.take i)) (ms[i]'(by have:=ab AA;omega))from by rw [<-Jc,List.take_add_one,iK (by have:=ab AA;omega)];rfl);clear hb hg hlk hw hk hkr tk ev;go_wp2_with fail;refine(ab DA).mono ?_;rintro e w2 ⟨z2,cs,E,rfl,hb2,hcl,hg2,hlk2⟩;have hgo:=(ab HG).later hb2;have MC:=ae (tO hgo hg2 hbl hcl (by omega));have L2:=ae (Ig (ab JA) hlk2);have CA:=ae ((ab HB).trans (hb2.mono (ab HB).size));have EA:=ae hgo;clear hb2 hg2 hgo hlk2 DA y0 y1 y2 y3 y4 c4;go_wp2_with fail;refine(ab MC).mono ?_;rintro e w3 ⟨z3,ds,rfl,hb3,hdl,hg3⟩;obtain⟨zo3,zc3,rfl⟩:=aU hg3.own;rw [hdl]at hg3 ⊢;have BA:=ae (And.intro ((ab CA).trans (hb3.mono (ab CA).size)) (hg3.lower (ab CA).size));clear hg3 hb3 MC;go_wp2_with fail;go_roundg (ks.length-(i+1))
   case measure=>omega
   case rel=>exact⟨i+1,_,zo3,zc3,ds,by omega,by go_num,rfl,hdl,(ab BA).1,(ab BA).2,by rw [ab LA];exact ab L2⟩
  have hin:i=ms.length:=by have:=ab AA;omega
  have BA:=ae (show Below w.heap.size w wr/\cV wr w.heap.size (l.length+1) (.slice zo (l.length+1) zc) bs M/\jp l (jM ms) M from⟨hw,hg.lower (ab HA).size,by rw [hin,List.take_length]at hlk;exact hlk⟩);clear hb hg hlk hw;go_wp2_with fail;go_ret;exact⟨_,bs,_,rfl,(ab BA).1,hbl,(ab BA).2.1,(ab BA).2.2⟩
theorem Lf{l:List Int}{k j:Nat}{a b:List Int}(hj:j<=l.length)(hkj:k<=j)(e:(l.take j).drop k=a++b):k+a.length<=j/\(l.take (k+a.length)).drop k=a/\(l.take j).drop (k+a.length)=b:=by
 have hle:=pP List.length e;rw [iR hj,List.length_append]at hle;have hk:k+a.length<=j:=by omega
 have e2:=rU (l:=l) (i:=k) (k:=k+a.length) (by omega) hk hj;rw [e]at e2;have hla:a.length=((l.take (k+a.length)).drop k).length:=by rw [iR (by omega)];omega
 obtain⟨ea,eb⟩:=List.append_inj e2 hla;exact⟨hk,ea.symm,eb.symm⟩
theorem MX{A B:Nat->Nat->Bool}{n i k j:Nat}(hk:k<n)(h1:A i k=true)(h2:B k j=true):cp A B n i j=true:=by
 unfold cp;rw [List.any_eq_true];exact⟨k,List.mem_range.2 hk,by rw [h1,h2];rfl⟩
theorem EZ{l:List Int}{A:aH}{E M:Nat->Nat->Bool}(hE:jp l A E)(h1:∀ i j,i<=l.length->j<=l.length->E i j=true->M i j=true)(h2:∀ i j,i<=l.length->j<=l.length->cp M E (l.length+1) i j=true->M i j=true)
  (h3:∀ i j,i<=l.length->j<=l.length->M i j=true->i<=j/\dC A ((l.take j).drop i)):jp l (dC A) M:=λ i j hi hj=>by
 refine⟨h3 i j hi hj,?_⟩;rintro⟨hij,hp⟩
 have one:∀ i k j,i<=l.length->k<=j->j<=l.length->(i=k\/M i k=true)->A ((l.take j).drop k)->M i j=true:=λ i k j hi hkj hj hor ha=>by
  have he:E k j=true:=(hE k j (by omega) hj).2 ⟨hkj,ha⟩;rcases hor with rfl|hm
  ·exact h1 i j hi hj he
  exact h2 i j hi hj (MX (by omega) hm he)
 have key:∀ p,dC A p->∀ i k j,i<=l.length->k<=j->j<=l.length->(i=k\/M i k=true)->(l.take j).drop k=p->M i j=true:=λ p hp=>by
  induction hp with
  | one ha=>intro i k j hi hkj hj hor e;exact one i k j hi hkj hj hor (by rw [e];exact ha)
  | @more a b ha _ ih =>
   intro i k j hi hkj hj hor e;obtain⟨hk,ea,eb⟩:=Lf hj hkj e;exact ih i (k+a.length) j hi hk hj (inr (one i k (k+a.length) hi (by omega) (by omega) hor (by rw [ea];exact ha))) eb
 exact key _ hp i i j hi hij hj (inl rfl) rfl
theorem Ii{l:List Int}{A:aH}{M:Nat->Nat->Bool}(h:jp l A M):jp l (od A) (λ i j=>M i j||decide (i=j)):=λ i j hi hj=>by
 show(M i j||decide (i=j))=true↔i<=j/\((l.take j).drop i=[]\/A ((l.take j).drop i));rw [Bool.or_eq_true,h i j hi hj,decide_eq_true_eq]
 constructor
 ·rintro(⟨a,b⟩|rfl)
  ·exact⟨a,inr b⟩
  exact⟨aD _,inl (List.drop_eq_nil_of_le (by simp;omega))⟩
 rintro⟨a,b|b⟩
 ·have:=iR (i:=i) hj;rw [b]at this;simp at this;exact inr (by omega)
 exact inl ⟨a,b⟩
def cnt(n:Nat)(M:Nat->Nat->Bool):Nat:=(List.range (n*n)).countP λ q=>!M (q / n) (q % n)
theorem vL{α:Type}{p q:α->Bool}:∀{l:List α},(∀ x∈l,q x=true->p x=true)->(∃ x∈l,p x=true/\q x=false)->l.countP q<l.countP p
 | [],_,h=>by obtain⟨x,hx,_⟩:=h;cases hx
 | y::l,h1,h2=>by
  have hle:l.countP q<=l.countP p:=List.countP_mono_left (λ x hx=>h1 x (List.mem_cons_of_mem _ hx));rw [List.countP_cons,List.countP_cons];obtain⟨x,hx,hp,hq⟩:=h2;rcases List.mem_cons.1 hx with rfl|hx
  ·rw [au (by rw [hq];simp),aC hp];omega
  have:=vL (λ x hx=>h1 x (List.mem_cons_of_mem _ hx)) ⟨x,hx,hp,hq⟩;have hy:=h1 y List.mem_cons_self;by_cases hyq:q y=true
  ·rw [aC hyq,aC (hy hyq)];omega
  rw [au hyq];split<;>omega
theorem J8(n:Nat)(M:Nat->Nat->Bool):cnt n M<=n*n:=by
 unfold cnt;exact kr List.countP_le_length (by simp)
theorem L8{n:Nat}{M M':Nat->Nat->Bool}(h:∀ a b,M a b=true->M' a b=true):cnt n M'<=cnt n M:=by
 unfold cnt;refine List.countP_mono_left (λ q _ hq=>?_);simp only [Bool.not_eq_true']at hq ⊢;cases e:M (q / n) (q % n)
 ·rfl
 rw [h _ _ e]at hq;cases hq
theorem L9{n:Nat}{M M':Nat->Nat->Bool}(h:∀ a b,M a b=true->M' a b=true){a b:Nat}(ha:a<n)(hb:b<n)(h1:M a b=false)(h2:M' a b=true):cnt n M'<cnt n M:=by
 unfold cnt;have hn:0<n:=by omega
 have e1:(a*n+b) / n=a:=by
  rw [Nat.mul_comm,Nat.mul_add_div hn,Nat.div_eq_of_lt hb];omega
 have e2:(a*n+b) % n=b:=by
  rw [Nat.mul_comm,Nat.mul_add_mod];exact Nat.mod_eq_of_lt hb
 have hlt:a*n+b<n*n:=by
  have:(a+1)*n<=n*n:=Nat.mul_le_mul_right n ha;rw [Nat.add_mul]at this;omega
 refine vL (λ q _ hq=>?_) ⟨a*n+b,List.mem_range.2 hlt,?_,?_⟩
 ·simp only [Bool.not_eq_true']at hq ⊢;cases e:M (q / n) (q % n)
  ·rfl
  rw [h _ _ e]at hq;cases hq
 ·rw [e1,e2,h1];rfl
 rw [e1,e2,h2];rfl
structure JR(l:List Int)(A C:aH)(E:Nat->Nat->Bool)(more:Bool)(M:Nat->Nat->Bool):Prop where
 one:∀ i j,i<=l.length->j<=l.length->E i j=true->M i j=true
 plus:∀ i j,i<=l.length->j<=l.length->M i j=true->i<=j/\dC A ((l.take j).drop i)
 done:more=false->jp l C M
theorem JR.start{l:List Int}{A:aH}{E:Nat->Nat->Bool}{q:Bool}(hE:jp l A E):JR l A (if q=true then A else dC A) E (!q) (λ i j=>false||E i j):=by
 refine⟨λ i j _ _ h=>by simpa using h,λ i j hi hj h=>?_,λ h=>?_⟩
 ·have h':E i j=true:=by simpa using h
  obtain⟨h1,h2⟩:=(hE i j hi hj).1 h';exact⟨h1,.one h2⟩
 cases q
 ·cases h
 rw [aC rfl];intro i j hi hj;show(false||E i j)=true↔_;rw [Bool.false_or];exact hE i j hi hj
theorem JR.round{l:List Int}{A:aH}{E M:Nat->Nat->Bool}{m x:Bool}(hE:jp l A E)(h:JR l A (dC A) E m M)(hx:x=true↔∃ a b,a<l.length+1/\b<l.length+1/\cp M E (l.length+1) a b=true/\M a b=false) :
  JR l A (dC A) E x (λ i j=>M i j||cp M E (l.length+1) i j):=by
 have snd:∀ i j,i<=l.length->j<=l.length->cp M E (l.length+1) i j=true->i<=j/\dC A ((l.take j).drop i):=λ i j hi hj hc=>by
  unfold cp at hc;rw [List.any_eq_true]at hc;obtain⟨k,hk,hc⟩:=hc;have hk':k<=l.length:=by have:=List.mem_range.1 hk;omega
  rw [Bool.and_eq_true]at hc;obtain⟨h1,h2⟩:=h.plus i k hi hk' hc.1;obtain⟨h3,h4⟩:=(hE k j hk' hj).1 hc.2;exact⟨by omega,by rw [rU h1 h3 hj];exact h2.snoc h4⟩
 have pl:∀ i j,i<=l.length->j<=l.length->(M i j||cp M E (l.length+1) i j)=true->i<=j/\dC A ((l.take j).drop i):=λ i j hi hj hc=>by
  rcases Bool.or_eq_true_iff.1 hc with hc|hc
  ·exact h.plus i j hi hj hc
  exact snd i j hi hj hc
 refine⟨λ i j hi hj he=>by show(M i j||_)=true;rw [h.one i j hi hj he];rfl,pl,λ h0=>?_⟩
 have cl:∀ i j,i<=l.length->j<=l.length->cp M E (l.length+1) i j=true->M i j=true:=λ i j hi hj hc=>by
  cases e:M i j
  ·have:x=true:=hx.2 ⟨i,j,by omega,by omega,hc,e⟩;rw [h0]at this;cases this
  rfl
 have hp:=EZ hE h.one cl h.plus;intro i j hi hj;rw [<-hp i j hi hj];show(M i j||cp M E (l.length+1) i j)=true↔M i j=true
 constructor
 ·intro hh;rcases Bool.or_eq_true_iff.1 hh with hh|hh
  ·exact hh
  exact cl i j hi hj hh
 intro hh;rw [hh];rfl
theorem tf{x:Tr}{A B:aH}(IX:oB x A)(op:ByteArray)(q p:Bool)(hop:(op=fK/\q=false/\p=false)\/(op=dI/\q=false/\p=true)\/(op=eZ/\q=true/\p=false))(hB:B=if p=true then(if q=true then A else dC A)else od (if q=true then A else dC A)):oB (.mk op nB 0 0 [x]) B:=by
 intro w Q v l pv ht ho hl;have e0:(op.toList==[110,117,109,98,101,114])=false:=by rcases hop with⟨rfl,_⟩|⟨rfl,_⟩|⟨rfl,_⟩<;>decide +kernel
 have e1:(op.toList==[46])=false:=by rcases hop with⟨rfl,_⟩|⟨rfl,_⟩|⟨rfl,_⟩<;>decide +kernel
 have e2:(op.toList==[101,105,116,104,101,114])=false:=by rcases hop with⟨rfl,_⟩|⟨rfl,_⟩|⟨rfl,_⟩<;>decide +kernel
 have e3:(op.toList==[114,111,119])=false:=by rcases hop with⟨rfl,_⟩|⟨rfl,_⟩|⟨rfl,_⟩<;>decide +kernel
 have e4:(op.toList==[63])=q:=by rcases hop with⟨rfl,rfl,_⟩|⟨rfl,rfl,_⟩|⟨rfl,rfl,_⟩<;>decide +kernel
 have e5:(op.toList==[43])=p:=by rcases hop with⟨rfl,_,rfl⟩|⟨rfl,_,rfl⟩|⟨rfl,_,rfl⟩<;>decide +kernel
 obtain⟨kv,g,rfl,hk⟩:=ht.kids (by simp);obtain⟨cap,hkv⟩:=hk.sl;obtain rfl:kv=.slice (some ⟨g,0,none⟩) 1 cap:=by simpa using hkv
 obtain⟨po,pc,rfl⟩:=aU ho;have hA:Below w.heap.size w (w.alloc (.cells (aj op nB 0 0 (.slice (some ⟨g,0,none⟩) 1 cap)) 115)):=(aX _ _).alloc (aD _) _;have q0:(w.alloc (.cells (aj op nB 0 0 (.slice (some ⟨g,0,none⟩) 1 cap)) 115)).heap[w.heap.size]?=some (.cells (aj op nB 0 0 (.slice (some ⟨g,0,none⟩) 1 cap)) 115 (0,0)):=cN _ _;obtain⟨WA,hWA⟩:∃ WA,w.alloc (.cells (aj op nB 0 0 (.slice (some ⟨g,0,none⟩) 1 cap)) 115)=WA:=⟨_,rfl⟩
 have SA:=ae hWA;rw [hWA]at hA q0;have lA:w.heap.size<WA.heap.size:=ai q0;have HA:=ae hA;have Q0:=ae q0;have HO:=ae ho;have LA:=ae IX;have HK:=ae hk;have IA:=ae hB;clear hWA hA q0 ho hop IX ht hk hkv hB;go_enter func195,ntmps195;go_upto_region 1 with fail
 rw [ab SA];go_wp2_with fail;rw [show((l.length:Int)+1)=((l.length+1:Nat):Int)from by omega];refine(iY WA (l.length+1) (by omega)).mono ?_;rintro e w1 ⟨z,bs,rfl,hb1,hbl,hg1⟩;obtain⟨zo,zc,rfl⟩:=aU hg1.own;rw [hbl]at hg1 ⊢;have c0:w1.cell? ⟨w.heap.size,0,none⟩=some (.string op):=(hb1.cell (p:=⟨w.heap.size,0,none⟩) lA).trans (af (ab Q0));have c4:w1.cell? ⟨w.heap.size,4,none⟩=some (.slice (some ⟨g,0,none⟩) 1 cap):=(hb1.cell (p:=⟨w.heap.size,4,none⟩) lA).trans (af (ab Q0));have hw1:=(ab HA).trans (hb1.mono (ab HA).size);obtain⟨a0,a1,a2,a3,a4,y0,y1,y2,y3,y4,tk⟩:=((ab HK).below hw1).at_ 0 (by simp);have lg:=((ab HK).below hw1).lt;have BA:=ae (ab LA w1 _ _ l _ tk (ap (ab HO) (λ k hk=>hw1.block k ((ab HO).lt k hk).2)) hl);have CA:=ae hb1;have EA:=ae hg1;have l1:w.heap.size<w1.heap.size:=eV lA hb1.size;simp only [Nat.zero_mul,Nat.zero_add]at y0 y1 y2 y3 y4;clear hb1 hg1 hw1 tk LA HK;go_wp2_with fail;refine(ab BA).mono ?_;rintro e w2 ⟨u,cs,E,rfl,hb2,hcl,hg2,hE⟩;obtain⟨uo,uc,rfl⟩:=aU hg2.own;rw [hcl]at hg2 ⊢;have hgo:=(ab EA).later hb2;have hd:=(ab EA).apart hg2;have MC:=ae (qh hgo hg2 hbl hcl (by omega) hd);have FA:=ae ((ab CA).trans (hb2.mono (ab CA).size));have JA:=ae hgo;have HD:=ae hd;have HE:=ae hE;have QA:=ae (ab CA).size;clear hb2 hg2 hgo hd hE BA y0 y1 y2 y3 y4 c0 c4 CA EA lg l1;go_wp2_with fail;refine(ab MC).mono ?_;rintro e w3 ⟨x0,rfl,_,hg3,hgu,hf3⟩;have hb3:=ml (ab FA) (ab JA) hf3;have c0:w3.cell? ⟨w.heap.size,0,none⟩=some (.string op):=(hb3.cell (p:=⟨w.heap.size,0,none⟩) lA).trans (af (ab Q0));have l3:w.heap.size<w3.heap.size:=eV lA hb3.size;have GA:=ae hb3;have KA:=ae hg3;have DA:=ae (hgu.lower (ab QA));have RP:=ae (JR.start (q:=q) (ab HE));clear hg3 hgu hf3 hb3 MC FA JA;go_wp2_with fail
 go_loopg [12] ((l.length+1)*(l.length+1)+1) (λ k b12 wr=>∃(more:Bool) (M:Nat->Nat->Bool),cnt (l.length+1) M+(if more=true then 1 else 0)<=k/\(q=true->more=false)/\b12=.bool more/\Below WA.heap.size WA wr/\cV wr WA.heap.size (l.length+1) (.slice zo (l.length+1) zc) bs M/\cV wr WA.heap.size (l.length+1) (.slice uo (l.length+1) uc) cs E/\JR l A (if q=true then A else dC A) E more M)
 case atStart=>exact⟨!q,_,by have:=J8 (l.length+1) (λ i j=>false||E i j);split<;>omega,λ h=>by rw [h];rfl,rfl,ab GA,ab KA,ab DA,ab RP⟩
 case round =>
  clear GA KA DA RP c0 l3;obtain⟨more,M,hcnt,hq,rfl,hb,hg,hgu,hr⟩:=hrel;have HB:=ae hb;have HG:=ae hg;have DA:=ae hgu;have HR:=ae hr;cases more
  ·have c0:wr.cell? ⟨w.heap.size,0,none⟩=some (.string op):=(hb.cell (p:=⟨w.heap.size,0,none⟩) lA).trans (af (ab Q0));have lw:w.heap.size<wr.heap.size:=eV lA hb.size;have hw:=(ab HA).trans (hb.mono (ab HA).size);have HW:=ae hw;have SC:=ae (Ak hg hbl (by omega));clear hb hg hgu hr hw hq hcnt;cases p
   ·go_wp2_with fail;refine(ab SC).mono ?_;rintro e w4 ⟨rfl,hgs,hfs⟩;have AA:=ae (show Below w.heap.size w w4/\cV w4 w.heap.size (l.length+1) (.slice zo (l.length+1) zc) bs (λ i j=>M i j||decide (i=j))/\jp l B (λ i j=>M i j||decide (i=j))from⟨(ab HA).trans ((ml (ab HB) (ab HG) hfs).mono (ab HA).size),hgs.lower (ab HA).size,by rw [ab IA,au (by decide)];exact Ii ((ab HR).done rfl)⟩);clear hgs hfs SC;go_wp2_with fail;go_ret;exact⟨_,bs,_,rfl,(ab AA).1,hbl,(ab AA).2.1,(ab AA).2.2⟩
   have AA:=ae (show cV wr w.heap.size (l.length+1) (.slice zo (l.length+1) zc) bs M/\jp l B M from⟨(ab HG).lower (ab HA).size,by rw [ab IA,aC rfl];exact(ab HR).done rfl⟩);clear SC;go_wp2_with fail;go_ret;exact⟨_,bs,_,rfl,ab HW,hbl,(ab AA).1,(ab AA).2⟩
  obtain rfl:q=false:=by
   cases q
   ·rfl
   exact absurd (hq rfl) (by decide)
  rw [aC rfl]at hcnt;have OC:=ae (tO hg hgu hbl hcl (by omega));have NA:=ae hcnt;clear hb hg hgu hr hq hcnt;go_wp2_with fail;refine(ab OC).mono ?_;rintro e w4 ⟨z4,ds,rfl,hb4,hdl,hg4⟩;obtain⟨yo,yc,rfl⟩:=aU hg4.own;rw [hdl]at hg4 ⊢;have hgo:=(ab HG).later hb4;have MC:=ae (qh hgo hg4 hbl hdl (by omega) ((ab HG).apart hg4));have MA:=ae ((ab HB).trans (hb4.mono (ab HB).size));have OA:=ae hgo;have RA:=ae ((ab DA).later hb4);clear hb4 hg4 hgo OC;go_wp2_with fail;refine(ab MC).mono ?_;rintro e w5 ⟨x,rfl,hx,hg5,_,hf5⟩
  have AA:=ae (show Below WA.heap.size WA w5/\cV w5 WA.heap.size (l.length+1) (.slice uo (l.length+1) uc) cs E/\JR l A (if false=true then A else dC A) E x (λ i j=>M i j||cp M E (l.length+1) i j)/\cnt (l.length+1) (λ i j=>M i j||cp M E (l.length+1) i j)+(if x=true then 1 else 0)<=gk-1/\gk-1<gk from by
   have hc:=ab NA;refine⟨ml (ab MA) (ab OA) hf5,(ab RA).keep (λ k hk hh=>hf5.block k hk (λ hm=>?_)),by rw [au (by decide)];exact JR.round (ab HE) (by have h:=ab HR;rw [au (by decide)]at h;exact h) hx,?_,by omega⟩
   ·rcases hh with e|e
    ·exact(ab HD k hm).2 e
    ·exact(ab HD k hm).1 e
   ·cases x
    ·have:=L8 (n:=l.length+1) (M:=M) (M':=λ i j=>M i j||cp M E (l.length+1) i j) (λ a b h=>by show(M a b||_)=true;rw [h];rfl);rw [au (by decide)];omega
    ·obtain⟨a,b,ha,hb,h1,h2⟩:=hx.1 rfl;have:=L9 (n:=l.length+1) (M:=M) (M':=λ i j=>M i j||cp M E (l.length+1) i j) (λ a b h=>by show(M a b||_)=true;rw [h];rfl) ha hb h2 (by show(M a b||cp M E (l.length+1) a b)=true;rw [h1,Bool.or_true]);rw [aC rfl];omega)
  have PA:=ae hg5;clear hg5 hf5 hx MC;go_wp2_with fail;go_roundg (gk-1)
  case measure=>exact(ab AA).2.2.2.2
  case rel=>exact⟨x,_,(ab AA).2.2.2.1,λ h=>(by cases h),rfl,(ab AA).1,ab PA,(ab AA).2.1,(ab AA).2.2.1⟩
mutual
theorem mw:∀{t:Tr} {A:aH},mf t A->oB t A
 | _,_,.num n a=>vQ _ n a _ false (inl ⟨rfl,rfl,rfl⟩)
 | _,_,.dot=>vQ _ 0 0 _ true (inr ⟨rfl,rfl,rfl⟩)
 | _,_,.either h=>zk h.len (p9 h)
 | _,_,.row h=>Hn h.len (p9 h)
 | _,_,.star h=>tf (mw h) _ false false (inl ⟨rfl,rfl,rfl⟩) rfl
 | _,_,.plus h=>tf (mw h) _ false true (inr (inl ⟨rfl,rfl,rfl⟩)) rfl
 | _,_,.quest h=>tf (mw h) _ true false (inr (inr ⟨rfl,rfl,rfl⟩)) rfl
theorem p9:∀{ks:List Tr} {ms:List aH},kC ks ms->∀ i,(h:i<ks.length)->(h':i<ms.length)->oB ks[i] ms[i]
 | _,_,.cons a _,0,_,_=>mw a
 | _,_,.cons _ b,i+1,h,h'=>p9 b i (by simpa using h) (by simpa using h')
end
