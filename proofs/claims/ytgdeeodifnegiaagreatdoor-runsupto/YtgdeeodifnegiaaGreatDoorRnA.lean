/- part -/
import Derived.Test.YtgdeeodifnegiaaGreatDoorRefZh
import Derived.Test.YtgdeeodifnegiaaGreatDoorEqC
set_option maxRecDepth 100000
set_option maxHeartbeats 4000000
namespace Go.Proofs.YtgdeeodifnegiaaGreatDoor
open Go.Proofs.Tryz
open Or
open Go.RowKit
namespace rf
abbrev aq(l:List Int):List Value:=l.map (.int .i64)
abbrev Nf(pb:Nat)(R:Rt)(pv mv:Value)(ver:Int):Array Value:=#[fX pb,.int .i64 R.addr,.int .i64 R.len,pv,mv,.int .i64 R.pref,.int .i64 R.med,.int .i64 ver]
structure pQ(w:World)(sb pb:Nat)(R:Rt)(pv mv:Value)(ver:Int):Prop where
 blk:w.heap[sb]?=some (.cells (Nf pb R pv mv ver) 184 (0,0))
 own1:w.ownsRow 0 3 1 pv R.path.length (aq R.path)
 own2:w.ownsRow 0 3 1 mv R.marks.length (aq R.marks)
 ne1:pv.ownBlock≠some sb
 ne2:mv.ownBlock≠some sb
abbrev Sb(sb:Nat):Nat->Prop:=λ k=>k=sb
theorem pQ.below{w w':World}{sb pb:Nat}{R:Rt}{pv mv:Value}{ver:Int}(h:pQ w sb pb R pv mv ver)(hb:Below w.heap.size w w'):pQ w' sb pb R pv mv ver :=
 ⟨(hb.block sb (ai h.blk)).trans h.blk,ap h.own1 (λ k hk=>hb.block k (h.own1.lt k hk).2),ap h.own2 (λ k hk=>hb.block k (h.own2.lt k hk).2),h.ne1,h.ne2⟩
theorem pQ.ver{w:World}{sb pb:Nat}{R:Rt}{pv mv:Value}{ver:Int}(h:pQ w sb pb R pv mv ver)(x:Int):pQ (w.setCell ⟨sb,7,none⟩ (.int .i64 x)) sb pb R pv mv x :=
 ⟨aB h.blk,ap h.own1 (λ k hk=>ah (λ e=>h.ne1 (by have e':k=sb:=e;rw [<-e'];exact hk))),ap h.own2 (λ k hk=>ah (λ e=>h.ne2 (by have e':k=sb:=e;rw [<-e'];exact hk))),h.ne1,h.ne2⟩
theorem vD{w w':World}{g o:Nat}(h:w'.heap[g]?=w.heap[g]?):w'.cell? ⟨g,o,none⟩=w.cell? ⟨g,o,none⟩:=by unfold World.cell?;rw [h]
structure wO(w:World)(Q:Nat->Prop)(kids:List Tr)(kv:Value)(g:Nat):Prop where
 sl:∃ cap,kv=.slice (some ⟨g,0,none⟩) kids.length cap
 lt:g<w.heap.size
 off:¬Q g
 at_:∀ i,(h:i<kids.length)->∃ a b c d e,w.cell? ⟨g,i*5,none⟩=some a/\w.cell? ⟨g,i*5+1,none⟩=some b/\w.cell? ⟨g,i*5+2,none⟩=some c/\w.cell? ⟨g,i*5+3,none⟩=some d/\w.cell? ⟨g,i*5+4,none⟩=some e/\aP w Q kids[i] (.agg #[a,b,c,d,e])
theorem aP.kids{w:World}{Q:Nat->Prop}{op text:ByteArray}{n a:Int}{kids:List Tr}{v:Value}(h:aP w Q (.mk op text n a kids) v)(h0:kids≠[]):∃ kv g,v=bx op text n a kv/\wO w Q kids kv g:=by
 rw [aP]at h;obtain⟨kv,xs,rfl,ho,hq,ha⟩:=h;have hl:kids.length≠0:=by simpa using h0
 rcases ho.2 with⟨_,h0⟩|⟨g,cap,cur,rfl,_⟩
 ·exact absurd h0 hl
 refine⟨_,g,rfl,⟨_,rfl⟩,(ho.lt g rfl).2,hq g rfl,λ i hi=>?_⟩;obtain⟨y0,y1,y2,y3,y4,x0,x1,x2,x3,x4,hk⟩:=bR.get kids xs ha i hi;exact⟨y0,y1,y2,y3,y4,(ho.cellAt _ (by omega)).trans x0,(ho.cellAt _ (by omega)).trans x1,(ho.cellAt _ (by omega)).trans x2,(ho.cellAt _ (by omega)).trans x3,(ho.cellAt _ (by omega)).trans x4,hk⟩
theorem wO.fr{w w':World}{Q:Nat->Prop}{kids:List Tr}{kv:Value}{g sb:Nat}(h:wO w Q kids kv g)(hQ:Q sb)(hf:Fr (Sb sb) w (Sb sb) w'):wO w' (λ k=>Q k\/w.heap.size<=k) kids kv g:=by
 have hg:g≠sb:=λ e=>h.off (by rw [e];exact hQ)
 refine⟨h.sl,eV h.lt hf.size,λ hh=>?_,λ i hi=>?_⟩
 ·rcases hh with hh|hh
  ·exact h.off hh
  have:=h.lt;omega
 obtain⟨a,b,c,d,e,h0,h1,h2,h3,h4,h5⟩:=h.at_ i hi;have hc:∀ o,w'.cell? ⟨g,o,none⟩=w.cell? ⟨g,o,none⟩:=λ o=>vD (hf.block g h.lt hg)
 exact⟨a,b,c,d,e,(hc _).trans h0,(hc _).trans h1,(hc _).trans h2,(hc _).trans h3,(hc _).trans h4,aP.step hf (λ k hk=>by rw [hk];exact hQ) (λ k hk=>hk) _ _ h5⟩
theorem dL{w w':World}{sb:Nat}(hb:Below w.heap.size w w'):Fr (Sb sb) w (Sb sb) w':=Fr.of_below hb
theorem Lp(x y:Int):jW (x+jW (1*y))=wrap64 (x+y):=by unfold jW wrap64;omega
theorem JN(x y:Int):jW (x+jW (-1*y))=wrap64 (x-y):=by unfold jW wrap64;omega
def Nt(w:World)(sb pb:Nat)(R:Rt)(pv mv:Value)(o:Option Int)(e:Ending)(w':World):Prop:=∃ x ver:Int,e=.returned (.int .i64 x)/\pQ w' sb pb R pv mv ver/\Fr (Sb sb) w (Sb sb) w'/\((o=some x/\ver=0)\/(o=none/\ver=3))
def ss(t:Tr)(m:bh):Prop:=∀(w:World) (Q:Nat->Prop) (v:Value) (sb pb:Nat) (R:Rt) (pv mv:Value),Q sb->aP w Q t v->pQ w sb pb R pv mv 0 ->
 Calls prog 150 #[fX sb,v] w (Nt w sb pb R pv mv (m R))
theorem Ll(n a:Int):ss (.mk cy nB n a []) (sY n):=by
 intro w Q v sb pb R pv mv hQ ht hs;rw [aP]at ht;obtain⟨kv,xs,rfl,_,_,_⟩:=ht;obtain⟨op,hop⟩:∃ op,cy=op:=⟨_,rfl⟩
 have e0:(op.toList==[110,117,109,98,101,114])=true:=by rw [<-hop];decide +kernel
 have e1:(op.toList==[112,114,101,102])=false:=by rw [<-hop];decide +kernel
 have e2:(op.toList==[109,101,100])=false:=by rw [<-hop];decide +kernel
 have e3:(op.toList==[108,101,110])=false:=by rw [<-hop];decide +kernel
 have e4:(op.toList==[45])=false:=by rw [<-hop];decide +kernel
 rw [hop];have h1:=hs.below ((aX _ _).alloc (aD _) (.cells (aj op nB n a kv) 115));have HS:=ae h1;have lsb:=ai hs.blk;clear hs h1 hop;go_enter func150,ntmps150;go_wp2_with fail;go_ret;exact⟨n,0,rfl,ab HS,dL ((aX _ _).alloc (aD _) _),inl ⟨rfl,rfl⟩⟩
theorem Jv:ss (.mk kh nB 0 0 []) DO:=by
 intro w Q v sb pb R pv mv hQ ht hs;rw [aP]at ht;obtain⟨kv,xs,rfl,_,_,_⟩:=ht;obtain⟨op,hop⟩:∃ op,kh=op:=⟨_,rfl⟩
 have e0:(op.toList==[110,117,109,98,101,114])=false:=by rw [<-hop];decide +kernel
 have e1:(op.toList==[112,114,101,102])=true:=by rw [<-hop];decide +kernel
 have e2:(op.toList==[109,101,100])=false:=by rw [<-hop];decide +kernel
 have e3:(op.toList==[108,101,110])=false:=by rw [<-hop];decide +kernel
 have e4:(op.toList==[45])=false:=by rw [<-hop];decide +kernel
 rw [hop];have h1:=hs.below ((aX _ _).alloc (aD _) (.cells (aj op nB 0 0 kv) 115));have c5:(w.alloc (.cells (aj op nB 0 0 kv) 115)).cell? ⟨sb,5,none⟩=some (.int .i64 R.pref):=af h1.blk;have HS:=ae h1;have lsb:=ai hs.blk;clear hs h1 hop;go_enter func150,ntmps150;go_wp2_with fail;go_ret;exact⟨R.pref,0,rfl,ab HS,dL ((aX _ _).alloc (aD _) _),inl ⟨rfl,rfl⟩⟩
theorem Lk:ss (.mk pI nB 0 0 []) Kw:=by
 intro w Q v sb pb R pv mv hQ ht hs;rw [aP]at ht;obtain⟨kv,xs,rfl,_,_,_⟩:=ht;obtain⟨op,hop⟩:∃ op,pI=op:=⟨_,rfl⟩
 have e0:(op.toList==[110,117,109,98,101,114])=false:=by rw [<-hop];decide +kernel
 have e1:(op.toList==[112,114,101,102])=false:=by rw [<-hop];decide +kernel
 have e2:(op.toList==[109,101,100])=true:=by rw [<-hop];decide +kernel
 have e3:(op.toList==[108,101,110])=false:=by rw [<-hop];decide +kernel
 have e4:(op.toList==[45])=false:=by rw [<-hop];decide +kernel
 rw [hop];have h1:=hs.below ((aX _ _).alloc (aD _) (.cells (aj op nB 0 0 kv) 115));have c5:(w.alloc (.cells (aj op nB 0 0 kv) 115)).cell? ⟨sb,6,none⟩=some (.int .i64 R.med):=af h1.blk;have HS:=ae h1;have lsb:=ai hs.blk;clear hs h1 hop;go_enter func150,ntmps150;go_wp2_with fail;go_ret;exact⟨R.med,0,rfl,ab HS,dL ((aX _ _).alloc (aD _) _),inl ⟨rfl,rfl⟩⟩
theorem Lj:ss (.mk yg nB 0 0 []) Kp:=by
 intro w Q v sb pb R pv mv hQ ht hs;rw [aP]at ht;obtain⟨kv,xs,rfl,_,_,_⟩:=ht;obtain⟨po,pc,rfl⟩:=aU hs.own1;obtain⟨op,hop⟩:∃ op,yg=op:=⟨_,rfl⟩
 have e0:(op.toList==[110,117,109,98,101,114])=false:=by rw [<-hop];decide +kernel
 have e1:(op.toList==[112,114,101,102])=false:=by rw [<-hop];decide +kernel
 have e2:(op.toList==[109,101,100])=false:=by rw [<-hop];decide +kernel
 have e3:(op.toList==[108,101,110])=true:=by rw [<-hop];decide +kernel
 have e4:(op.toList==[45])=false:=by rw [<-hop];decide +kernel
 rw [hop];have h1:=hs.below ((aX _ _).alloc (aD _) (.cells (aj op nB 0 0 kv) 115));have c5:(w.alloc (.cells (aj op nB 0 0 kv) 115)).cell? ⟨sb,3,none⟩=some (.slice po R.path.length pc):=af h1.blk;have HS:=ae h1;have lsb:=ai hs.blk;clear hs h1 hop;go_enter func150,ntmps150;go_wp2_with fail;go_ret;exact⟨(R.path.length:Int),0,rfl,ab HS,dL ((aX _ _).alloc (aD _) _),inl ⟨rfl,rfl⟩⟩
theorem D0{x y:Tr}{a b:bh}(IA:ss x a)(IB:ss y b)(op:ByteArray)(s:Int)(bm:Bool)(hop:(op=dI/\s=1/\bm=false)\/(op=iJ/\s = -1/\bm=true)):ss (.mk op nB 0 0 [x,y]) (jm a b s):=by
 intro w Q v sb pb R pv mv hQ ht hs;have e0:(op.toList==[110,117,109,98,101,114])=false:=by rcases hop with⟨rfl,_⟩|⟨rfl,_⟩<;>decide +kernel
 have e1:(op.toList==[112,114,101,102])=false:=by rcases hop with⟨rfl,_⟩|⟨rfl,_⟩<;>decide +kernel
 have e2:(op.toList==[109,101,100])=false:=by rcases hop with⟨rfl,_⟩|⟨rfl,_⟩<;>decide +kernel
 have e3:(op.toList==[108,101,110])=false:=by rcases hop with⟨rfl,_⟩|⟨rfl,_⟩<;>decide +kernel
 have e4:(op.toList==[45])=bm:=by rcases hop with⟨rfl,_,rfl⟩|⟨rfl,_,rfl⟩<;>decide +kernel
 have hsb:(s=1/\bm=false)\/(s = -1/\bm=true):=hop.imp (λ h=>h.2) (λ h=>h.2);obtain⟨kv,g,rfl,hk⟩:=ht.kids (by simp);have lsb:=ai hs.blk;have hA:Below w.heap.size w (w.alloc (.cells (aj op nB 0 0 kv) 115)):=(aX _ _).alloc (aD _) _;have q0:(w.alloc (.cells (aj op nB 0 0 kv) 115)).heap[w.heap.size]?=some (.cells (aj op nB 0 0 kv) 115 (0,0)):=cN _ _;obtain⟨cap,hkv⟩:=hk.sl;have hk1:=hk.fr hQ (dL hA);have hs1:=hs.below hA;have HA:=ae hA;obtain⟨WA,hWA⟩:∃ WA,w.alloc (.cells (aj op nB 0 0 kv) 115)=WA:=⟨_,rfl⟩
 have BA:=ae hWA;rw [hWA]at q0 hk1 hs1 HA;obtain⟨p0,p1,p2,p3,p4,c0,c1,c2,c3,c4,t0⟩:=hk1.at_ 0 (by simp);have k0:WA.cell? ⟨w.heap.size,0,none⟩=some (.string op):=af q0;have k4:WA.cell? ⟨w.heap.size,4,none⟩=some kv:=af q0;have HK:=ae hk1;have HS:=ae hs1;have T0:=ae t0;have HQ:=ae hQ;have Q0:=ae q0;have CA:=ae IA;have JA:=ae IB;have FA:=ae hsb;have lA:w.heap.size<WA.heap.size:=ai q0;have lg:=hk1.lt;rw [hkv]at k4 BA;simp only [List.length_cons,List.length_nil,Nat.zero_add,Nat.reduceAdd,Nat.zero_mul]at k4 BA c0 c1 c2 c3 c4;clear hk hk1 hs hs1 hA ht t0 q0 hQ IA IB hop hWA hsb;go_enter func150,ntmps150;go_upto_region 1 with fail
 rw [ab BA];go_wp2_with fail;refine(ab CA _ _ _ _ _ _ _ _ (inl (ab HQ)) (ab T0) (ab HS)).mono ?_;rintro e w1 ⟨x1,v1,rfl,hs1,hf1,hm1⟩;have c7:w1.cell? ⟨sb,7,none⟩=some (.int .i64 v1):=af hs1.blk;have l1:sb<w1.heap.size:=ai hs1.blk;have DA:=ae hs1;have F1:=ae ((dL (ab HA)).trans hf1);have hk1:=(ab HK).fr (inl (ab HQ)) hf1;have q1:w1.heap[w.heap.size]?=_:=(hf1.block w.heap.size lA (by omega)).trans (ab Q0);obtain⟨r0,r1,r2,r3,r4,d0,d1,d2,d3,d4,t1⟩:=hk1.at_ 1 (by simp);have n4:w1.cell? ⟨w.heap.size,4,none⟩=some kv:=af q1;have n0:w1.cell? ⟨w.heap.size,0,none⟩=some (.string op):=af q1;have T1:=ae t1;have Q1:=ae q1;have lg1:=hk1.lt;have lw1:w.heap.size<w1.heap.size:=ai q1;rw [hkv]at n4;simp only [List.length_cons,List.length_nil,Nat.zero_add,Nat.reduceAdd,Nat.one_mul]at n4 d0 d1 d2 d3 d4;clear hs1 hf1 hk1 q1 t1 c0 c1 c2 c3 c4 k0 k4 CA HK;rcases hm1 with⟨hm1,rfl⟩|⟨hm1,rfl⟩
 ·go_wp2_with fail;refine(ab JA _ _ _ _ _ _ _ _ (inl (inl (ab HQ))) (ab T1) (ab DA)).mono ?_;rintro e w2 ⟨x2,v2,rfl,hs2,hf2,hm2⟩;have l2:sb<w2.heap.size:=ai hs2.blk;have z2:∀ o,w2.frozen? ⟨sb,o,none⟩=false:=λ o=>ak hs2.blk
  have q2:w2.heap[w.heap.size]?=_:=(hf2.block w.heap.size lw1 (by omega)).trans (ab Q1);have o0:w2.cell? ⟨w.heap.size,0,none⟩=some (.string op):=af q2;have c72:w2.cell? ⟨sb,7,none⟩=some (.int .i64 v2):=af hs2.blk;have lw2:w.heap.size<w2.heap.size:=ai q2;have EA:=ae hs2;have F2:=ae ((ab F1).trans hf2);clear hs2 hf2 q2 n0 n4 d0 d1 d2 d3 d4 c7;obtain⟨N,hN⟩:∃ N,(if bm=true then wrap64 (x1-x2)else wrap64 (x1+x2))=N:=⟨_,rfl⟩
  have hpn:lW s x1 x2=if 0<=N/\N<=4294967295 then some N else none:=by
   have e:jW (x1+jW (s*x2))=N:=by
    rw [<-hN];rcases ab FA with⟨rfl,rfl⟩|⟨rfl,rfl⟩
    ·exact Lp x1 x2
    exact JN x1 x2
   unfold lW;rw [e]
  have hpm:jm a b s R=(match b R with|none=>none|some y=>lW s x1 y):=by simp only [jm,hm1];rfl
  have GA:=ae (show(N<0\/4294967295<N)->jm a b s R=none from λ h=>by
   rw [hpm];rcases hm2 with⟨h2,_⟩|⟨h2,_⟩
   ·rw [h2];show lW s x1 x2=none;rw [hpn,au (by omega)]
   ·rw [h2])
  have AA:=ae (show ¬(N<0\/4294967295<N)->(jm a b s R=some N/\v2=0)\/(jm a b s R=none/\v2=3)from λ h=>by
   rw [hpm];rcases hm2 with⟨h2,h3⟩|⟨h2,h3⟩
   ·rw [h2];refine inl ⟨?_,h3⟩;show lW s x1 x2=some N;rw [hpn,aC (by omega)]
   ·rw [h2];exact inr ⟨rfl,h3⟩)
  clear hm2 hpn hpm hm1 FA;cases bm
  all_goals
   simp only [if_true,if_false,Bool.false_eq_true]at hN;go_wp2_with fail
   all_goals
    rw [hN]at *;go_ret
    first
     | exact⟨N,3,rfl,(ab EA).ver 3,(ab F2).setCell (inl rfl) _,inr ⟨ab GA (by omega),rfl⟩⟩
     | exact⟨N,v2,rfl,ab EA,ab F2,ab AA (by omega)⟩
 go_wp2_with fail;go_ret;exact⟨0,3,rfl,ab DA,ab F1,inr ⟨by simp [jm,hm1],rfl⟩⟩
theorem mX{t:Tr}{m:bh}(h:jC t m):ss t m:=by
 induction h with
 | num n a=>exact Ll n a
 | pref=>exact Jv
 | med=>exact Lk
 | len=>exact Lj
 | plus _ _ ia ib=>exact D0 ia ib _ _ false (inl ⟨rfl,rfl,rfl⟩)
 | minus _ _ ia ib=>exact D0 ia ib _ _ true (inr ⟨rfl,rfl,rfl⟩)
theorem ly{w:World}{v:Value}{l:List Int}{i:Nat}(h:w.ownsRow 0 3 1 v l.length (aq l))(hi:i<l.length):∃ g cap,v=.slice (some ⟨g,0,none⟩) l.length cap/\g<w.heap.size/\w.cell? ⟨g,i,none⟩=some (.int .i64 l[i]):=by
 obtain⟨g,cap,hv,_⟩:=h.form (by omega);refine⟨g,cap,hv,?_,?_⟩
 ·rw [hv]at h;exact(h.lt g rfl).2
 rw [hv]at h;rw [h.cellAt i (by omega)];simp [aq,iK hi]
theorem rS{w:World}{e:TypeId}{sz:Nat}{v:Value}{n:Nat}{xs:List Value}(h:w.ownsRow 0 e sz v n xs):n<=9223372036854775807:=by
 rcases h.2 with⟨_,e⟩|⟨_,cap,_,_,_,_,h3,h4,_⟩
 ·omega
 unfold maxLen at h4;omega
def gJ(l:List Int)(n:Int):Int:=if n∈l then(l.idxOf n:Int)else -1
theorem zy{l:List Int}{n:Int}{i:Nat}(hi:i<l.length)(h1:∀ j,(h:j<i)->l[j]?≠some n)(h2:l[i]=n):gJ l n=i:=by
 have hm:n∈l:=by rw [<-h2];exact nN hi
 unfold gJ;rw [aC hm];have hlt:l.idxOf n<l.length:=List.idxOf_lt_length_iff.2 hm;have hg:l[l.idxOf n]=n:=List.getElem_idxOf hlt;have h3:¬l.idxOf n<i:=λ h=>h1 _ h (by rw [iK hlt,hg])
 have h4:l.idxOf n<=i:=by
  refine Nat.le_of_not_lt λ h=>?_
  have h5:=List.not_of_lt_findIdx (p:=(· == n)) (xs:=l) (i:=i) h;simp [h2]at h5
 omega
theorem zA{l:List Int}{n:Int}(h1:∀ j,(h:j<l.length)->l[j]?≠some n):gJ l n = -1:=by
 unfold gJ;rw [au];intro hm;obtain⟨j,hj,e⟩:=List.getElem_of_mem hm;exact h1 j hj (by rw [iK hj,e])
theorem gK{w:World}{sb pb:Nat}{R:Rt}{pv mv:Value}{ver:Int}(h:pQ w sb pb R pv mv ver)(n:Int) :
  Calls prog 152 #[fX sb,.int .i64 n] w λ e w'=>e=.returned (.int .i64 (gJ R.marks n))/\w'=w:=by
 obtain⟨mo,mc,rfl⟩:=aU h.own2;have c4:w.cell? ⟨sb,4,none⟩=some (.slice mo R.marks.length mc):=af h.blk;have lsb:=ai h.blk;have hmx:=rS h.own2;have H:=ae h.own2;obtain⟨l,hl⟩:∃ l,R.marks=l:=⟨_,rfl⟩
 rw [hl]at c4 H hmx ⊢;clear h hl;go_enter func152,ntmps152;go_wp2_with fail;go_loopg [5] l.length (λ k b5 wr=>∃ i:Nat,i+k=l.length/\b5=.int .i64 i/\wr=w/\∀ j,(h:j<i)->l[j]?≠some n)
 case atStart=>exact⟨0,by omega,rfl,rfl,λ j hj=>by omega⟩
 case round =>
  obtain⟨i,hik,rfl,rfl,hj⟩:=hrel;have HJ:=ae hj;clear hj;by_cases hi:i<l.length
  ·obtain⟨g,cap,hv,hg,y0⟩:=ly (ab H) hi;simp only [Value.slice.injEq]at hv;obtain⟨rfl,-,rfl⟩:=hv;cases he:(l[i]==n)
   ·have AA:=ae (show ∀ j,(h:j<i+1)->l[j]?≠some n from λ j h=>by
     by_cases hji:j<i
     ·exact ab HJ j hji
     ·obtain rfl:j=i:=by omega
      rw [iK hi];intro e;simp only [Option.some.injEq]at e;rw [e]at he;simp at he)
    go_wp2_with fail;go_roundg (l.length-(i+1))
    case measure=>omega
    case rel=>exact⟨i+1,by omega,by go_num,rfl,ab AA⟩
   have AA:=ae (zy hi (ab HJ) (by simpa using he)).symm;go_wp2_with fail;go_ret;exact⟨bJ (ab AA),rfl⟩
  have AA:=ae (zA (l:=l) (n:=n) (λ j hj=>ab HJ j (by omega))).symm;go_wp2_with fail;go_ret;exact⟨bJ (ab AA),rfl⟩
structure kZ(w wr:World)(v:Value)(l:List Int):Prop where
 own:wr.ownsRow 0 3 1 v l.length (aq l)
 new:∀ k,v.ownBlock=some k->w.heap.size<=k
theorem kZ.app{w W w':World}{v v':Value}{l l2:List Int}(h:kZ w W v l)(hb:Below w.heap.size w W)(hown:w'.ownsRow 0 3 1 v' (l.length+l2.length) (aq l++aq l2))(hat:v'.ownBlock=v.ownBlock\/v'.ownBlock=some W.heap.size):kZ w w' v' (l++l2):=by
 refine⟨by simpa [aq]using hown,λ k hk=>?_⟩;rcases hat with e|e
 ·exact h.new k (by rw [<-e];exact hk)
 rw [e]at hk;have:=hb.size;cases hk;exact this
theorem kM{l:List Int}:∀ u∈aq l,u.oneCell'=true:=λ u hu=>by
 obtain⟨x,_,rfl⟩:=List.mem_map.1 hu
 rfl
theorem kZ.ne{w wr:World}{v:Value}{l:List Int}(h:kZ w wr v l){sb:Nat}(hs:sb<w.heap.size):v.ownBlock≠some sb:=λ e=>by have:=h.new sb e;omega
theorem pQ.marks{w w2:World}{sb pb:Nat}{R:Rt}{pv mv v2:Value}{ver:Int}{l:List Int}(h:pQ w sb pb R pv mv ver)(hb:Below w.heap.size w w2)(hn:kZ w w2 v2 l):pQ (w2.setCell ⟨sb,4,none⟩ v2) sb pb { R with marks:=l } pv v2 ver:=by
 have h2:=h.below hb;have hne:=hn.ne (ai h.blk);exact⟨aB h2.blk,ap h2.own1 (λ k hk=>ah (λ e=>h.ne1 (by have e':k=sb:=e;rw [<-e'];exact hk))),ap hn.own (λ k hk=>ah (λ e=>hne (by have e':k=sb:=e;rw [<-e'];exact hk))),h.ne1,hne⟩
theorem pQ.path{w w2:World}{sb pb:Nat}{R:Rt}{pv mv v2:Value}{ver:Int}{l:List Int}(h:pQ w sb pb R pv mv ver)(hb:Below w.heap.size w w2)(hn:kZ w w2 v2 l):pQ (w2.setCell ⟨sb,3,none⟩ v2) sb pb { R with path:=l } v2 mv ver:=by
 have h2:=h.below hb;have hne:=hn.ne (ai h.blk);exact⟨aB h2.blk,ap hn.own (λ k hk=>ah (λ e=>hne (by have e':k=sb:=e;rw [<-e'];exact hk))),ap h2.own2 (λ k hk=>ah (λ e=>h.ne2 (by have e':k=sb:=e;rw [<-e'];exact hk))),hne,h.ne2⟩
theorem IL{l:List Int}{n:Int}{i:Nat}(hi:i<=l.length)(hs:l.Pairwise (· < ·))(h1:∀ j,(h:j<l.length)->j<i->l[j]<n)(h2:∀ h:i<l.length,¬l[i]<n):ce l n=i:=by
 unfold ce
 have e:l.filter (λ x=>decide (x<n))=l.take i:=by
  conv=>lhs;rw [<-List.take_append_drop i l]
  rw [List.filter_append,List.filter_eq_self.2,List.filter_eq_nil_iff.2,List.append_nil]
  ·intro x hx;obtain⟨j,hj,rfl⟩:=List.getElem_of_mem hx;rw [List.getElem_drop];have hj':i+j<l.length:=by simp at hj;omega
   have h3:=h2 (by omega);simp only [decide_eq_true_eq];rcases yj j with rfl|hp
   ·exact h3
   have h4:=List.pairwise_iff_getElem.1 hs i (i+j) (by omega) hj' (by omega);omega
  intro x hx;obtain⟨j,hj,rfl⟩:=List.getElem_of_mem hx;simp only [List.length_take]at hj;rw [List.getElem_take];simp only [decide_eq_true_eq];exact h1 j (by omega) (by omega)
 rw [e,List.length_take];omega
theorem vU{l:List Int}{n:Int}(h:n∈l):0<=gJ l n:=by unfold gJ;rw [aC h];omega
theorem qg{l:List Int}{n:Int}(h:¬n∈l):gJ l n = -1:=by unfold gJ;rw [au h]
def MU(w:World)(sb pb:Nat)(q:Rt×Int)(e:Ending)(w':World):Prop:=e=.returned (.tuple #[])/\∃ pv mv,pQ w' sb pb q.1 pv mv q.2/\Fr (Sb sb) w (Sb sb) w'
theorem Iq{w:World}{sb pb:Nat}{R:Rt}{pv mv:Value}(h:pQ w sb pb R pv mv 0)(hsr:R.marks.Pairwise (· < ·))(hm8:R.marks.length<=8)(n:Int) :
  Calls prog 151 #[fX sb,.int .i64 n] w (MU w sb pb (fV n R)):=by
 obtain⟨i0,hi0,hz0,hz1,hz2⟩:=info_parts Tryz.infoInt;obtain⟨mo,mc,rfl⟩:=aU h.own2;have c4:w.cell? ⟨sb,4,none⟩=some (.slice mo R.marks.length mc):=af h.blk;have z4:∀ o,w.frozen? ⟨sb,o,none⟩=false:=λ o=>ak h.blk
 have c7:w.cell? ⟨sb,7,none⟩=some (.int .i64 0):=af h.blk;have lsb:=ai h.blk;have H:=ae h;by_cases hn:n∈R.marks
 ·have hge:=vU hn;have DA:=ae (show fV n R=(R,0)from by unfold fV;rw [aC (by simpa using hn)]);clear h;go_enter func151,ntmps151;go_wp2_with fail;refine(gK (ab H) n).mono ?_;rintro e w1 ⟨rfl,rfl⟩;generalize gJ R.marks n=q at *;go_wp2_with fail
  go_end0
  rw [ab DA];exact⟨rfl,_,_,ab H,bE _ _⟩
 have hlt:=qg hn;by_cases h8:R.marks.length=8
 ·have e8:((R.marks.length:Int)==8)=true:=by rw [h8];rfl
  have DA:=ae (show fV n R=(R,3)from by unfold fV;rw [au (by simpa using hn),aC h8]);clear h;go_enter func151,ntmps151;go_wp2_with fail;refine(gK (ab H) n).mono ?_;rintro e w1 ⟨rfl,rfl⟩;rw [hlt];go_wp2_with fail
  go_end0
  rw [ab DA];exact⟨rfl,_,_,(ab H).ver 3,(bE (Sb sb) _).setCell (inl rfl) _⟩
 have e8:((R.marks.length:Int)==8)=false:=by rw [beq_eq_false_iff_ne];omega
 have HMX:=rS h.own2;obtain⟨l,hl⟩:∃ l,R.marks=l:=⟨_,rfl⟩
 have hm:fV n R=({ R with marks:=l.take (ce l n)++n::l.drop (ce l n) },0):=by unfold fV;rw [au (by simpa using hn),au h8,hl]
 have HM:=ae hm;have OW:=ae h.own2;have HL:=ae hl;rw [hl]at hsr hm8 c4 hn hlt e8 OW;have SR:=ae hsr;clear h hm h8 hl hsr;go_enter func151,ntmps151;go_wp2_with fail;refine(gK (ab H) n).mono ?_;rintro e w1 ⟨rfl,rfl⟩;rw [ab HL,hlt];go_wp2_with fail;go_loopg [4,5] l.length (λ k b4 b5 wr=>∃ i:Nat,i+k=l.length/\b5=.int .i64 i/\(∀ j,(h:j<l.length)->j<i->l[j]<n)/\kZ w1 wr b4 (l.take i)/\Below w1.heap.size w1 wr)
 case atStart=>exact⟨0,by omega,rfl,λ j _ h=>by omega,⟨jX _ _ _ _,λ k hk=>by simp [Value.ownBlock]at hk⟩,aX _ _⟩
 case round =>
  obtain⟨i,hik,rfl,hlo,hnew,hbw⟩:=hrel;have c4r:wr.cell? ⟨sb,4,none⟩=some (.slice mo l.length mc):=(hbw.cell (p:=⟨sb,4,none⟩) lsb).trans c4;have lsr:sb<wr.heap.size:=eV lsb hbw.size;have zr:∀ o,wr.frozen? ⟨sb,o,none⟩=false:=λ o=>ak ((hbw.block sb lsb).trans (ab H).blk)
  have GA:=ae hlo;have BA:=ae hnew;have AA:=ae hbw;have hml:l.length<=8:=hm8;have htl:(l.take i).length=i:=by rw [List.length_take];omega
  clear hlo
  have more:(∃(hi:i<l.length),l[i]<n)\/((∀ hi:i<l.length,¬l[i]<n)/\i<=l.length):=by
   by_cases hi:i<l.length
   ·by_cases hx:l[i]<n
    ·exact inl ⟨hi,hx⟩
    exact inr ⟨λ _=>hx,by omega⟩
   exact inr ⟨λ h=>absurd h hi,by omega⟩
  rcases more with⟨hi,hx⟩|⟨hx,hil⟩
  ·obtain⟨g,cap,hv,hg,y0⟩:=ly (ab OW) hi;simp only [Value.slice.injEq]at hv;obtain⟨rfl,-,rfl⟩:=hv;have y0r:wr.cell? ⟨g,i,none⟩=some (.int .i64 l[i]):=(hbw.cell (p:=⟨g,i,none⟩) hg).trans y0;have lgr:g<wr.heap.size:=eV hg hbw.size
   have DA:=ae (show ∀ j,(h:j<l.length)->j<i+1->l[j]<n from λ j h1 h2=>by
    by_cases hji:j<i
    ·exact ab GA j h1 hji
    ·obtain rfl:j=i:=by omega
     exact hx)
   have JA:=ae (show l.take i++[l[i]]=l.take (i+1)from by rw [List.take_add_one,iK hi];rfl);clear hnew hbw;generalize l[i]=y at *;go_wp2_with (at_builtin;refine bA rfl _ _ _ rfl 0 3 i0 _ 1 8 underlying26 hi0 hz0 hz1 hz2 rfl (by omega) _ _ _ rfl ((ab BA).own.alloc _) _ 1 [.int .i64 y] rfl (inr ⟨⟨wr.heap.size,0,none⟩,1,rfl,World.news_of_block (cs:=#[.int .i64 y]) (t:=3) (fr:=(0,0)) (cN _ _)⟩) rfl (by simp [Value.oneCell']) (by simp only [maxLen];omega) (by omega) (by omega) ?_;intro v' w' hown hgrow hat)
   have CA:=ae (ee ((ab AA).alloc (ab AA).size _) hgrow (by have:=(ab AA).size;simp;omega) (ab BA).new);have FA:=ae (kZ.app (l2:=[y]) ⟨(ab BA).own.alloc _,(ab BA).new⟩ ((ab AA).alloc (ab AA).size _) hown hat);clear hown hgrow hat;go_wp2_with fail;go_roundg (l.length-(i+1))
   case measure=>omega
   case rel=>exact⟨i+1,by omega,by go_num,ab DA,by rw [<-ab JA];exact ab FA,ab CA⟩
  have IA:=ae (IL hil (ab SR) (ab GA) hx)
  have hsome:(∃ g,mo=some ⟨g,0,none⟩/\g<w1.heap.size/\l.length<=mc)\/(mo=none/\mc=0/\l=[]):=by
   rcases(ab OW).2 with⟨h0,h1⟩|⟨g,_,_,h0,_,h2,h3,_⟩
   ·simp only [Value.slice.injEq]at h0;exact inr ⟨h0.1,h0.2.2,by simpa using h1⟩
   simp only [Value.slice.injEq]at h0;exact inl ⟨g,h0.1,ai h2,by omega⟩
  have hln:(l.take i++[n]).length=i+1:=by simp;omega
  clear hnew hbw;rcases hsome with⟨g,rfl,hg,hmc⟩|⟨rfl,rfl,rfl⟩
  focus
   have RD:=ae (show ∀ W,Below w1.heap.size w1 W->fA W (.slice (some ⟨g,i,none⟩) (l.length-i) (mc-i)) (l.length-i) (aq (l.drop i))from λ W hW=>inr ⟨_,_,rfl,λ j u hj=>by
    have hj':(aq l)[i+j]?=some u:=by rw [<-hj];simp [aq]
    have hlt':i+j<l.length:=by have:=(List.getElem?_eq_some_iff.1 hj').1;simpa [aq]using this
    rw [show(⟨g,i,none⟩:Addr).add j=⟨g,i+j,none⟩from by simp [Addr.add],hW.cell (p:=⟨g,i+j,none⟩) hg,(ab OW).cellAt (i+j) (by omega)];exact hj'⟩)
   by_cases hi:i<l.length
   focus
    obtain⟨g',cap,hv,hg',y0⟩:=ly (ab OW) hi;simp only [Value.slice.injEq,Option.some.injEq,Addr.mk.injEq]at hv;obtain⟨⟨rfl,-⟩,-,rfl⟩:=hv;have y0r:wr.cell? ⟨g,i,none⟩=some (.int .i64 l[i]):=((ab AA).cell (p:=⟨g,i,none⟩) hg).trans y0;have lgr:g<wr.heap.size:=eV hg (ab AA).size;have hy:=hx hi;clear hx;generalize l[i]=y at *
   rotate_left
   focus
    clear RD
    have RD:=ae (show ∀ W,Below w1.heap.size w1 W->fA W (.slice (if mc=i then some ⟨g,0,none⟩else some ⟨g,i,none⟩) (l.length-i) (mc-i)) (l.length-i) (aq (l.drop i))from λ W hW=>by
     split<;>exact inr ⟨_,_,rfl,λ j u hj=>by rw [List.drop_eq_nil_of_le (by omega)]at hj;simp [aq]at hj⟩)
  rotate_left 2
  focus
   obtain rfl:i=0:=by simpa using hil
   have RD:=ae (show ∀ W,Below w1.heap.size w1 W->fA W (.slice none 0 0) 0 (aq [])from λ W hW=>inl ⟨rfl,rfl,rfl⟩)
  all_goals
   go_upto_region 9 with(at_builtin;refine bA rfl _ _ _ rfl 0 3 i0 _ 1 8 underlying26 hi0 hz0 hz1 hz2 rfl (by omega) _ _ _ rfl ((ab BA).own.alloc _) _ 1 [.int .i64 n] rfl (inr ⟨⟨wr.heap.size,0,none⟩,1,rfl,World.news_of_block (cs:=#[.int .i64 n]) (t:=3) (fr:=(0,0)) (cN _ _)⟩) rfl (by simp [Value.oneCell']) (by simp only [maxLen];omega) (by omega) (by omega) ?_;intro v' w' hown hgrow hat)
   have CA:=ae (ee ((ab AA).alloc (ab AA).size _) hgrow (by have:=(ab AA).size;simp;omega) (ab BA).new);have FA:=ae (kZ.app (l2:=[n]) ⟨(ab BA).own.alloc _,(ab BA).new⟩ ((ab AA).alloc (ab AA).size _) hown hat);clear hown hgrow hat;have c4n:=((ab CA).cell (p:=⟨sb,4,none⟩) lsb).trans c4;go_wp2_with (at_builtin;refine bA rfl _ _ _ rfl 0 3 i0 _ 1 8 underlying26 hi0 hz0 hz1 hz2 rfl (by omega) _ _ _ rfl (ab FA).own _ _ _ rfl (ab RD _ (ab CA)) (by simp [aq]) kM (by simp only [maxLen];omega) (by omega) (by omega) ?_;intro v2 w2 hown hgrow hat;obtain⟨o2,cc2,rfl⟩:=aU hown;have EA:=ae (ee (ab CA) hgrow (ab CA).size (ab FA).new);have HA:=ae (kZ.app (ab FA) (ab CA) (by first|(rw [List.length_drop];exact hown)|exact hown) hat);have c42:=((ab EA).cell (p:=⟨sb,4,none⟩) lsb).trans c4;have z42:∀ o,w2.frozen? ⟨sb,o,none⟩=false:=(λ o=>ak (((ab EA).block sb lsb).trans (ab H).blk));have ls2:sb<w2.heap.size:=eV lsb (ab EA).size;clear hown hgrow hat)
   all_goals
    go_end0
    rw [ab HM,ab IA];have hn2:=ab HA;rw [hln,List.append_assoc]at hn2;exact⟨rfl,pv,_,(ab H).marks (ab EA) hn2,Fr.setCell (p:=⟨sb,4,none⟩) (dL (sb:=sb) (ab EA)) (inl rfl) _⟩
end rf
abbrev wq(r:Rt)(pv mv:Value):Value:=.agg #[.int .i64 r.addr,.int .i64 r.len,pv,mv,.int .i64 r.pref,.int .i64 r.med]
abbrev bZ(r:Rt)(pv mv:Value):Obj:=.cells #[.int .i64 r.addr,.int .i64 r.len,pv,mv,.int .i64 r.pref,.int .i64 r.med] 28
theorem iG{w:World}{x:Value}{m:Nat}{news:List Value}(h:fA w x m news):∃ a n c,x=.slice a n c:=by
 rcases h with⟨h,_⟩|⟨ad,c,h,_⟩
 ·exact⟨_,_,_,h⟩
 exact⟨_,_,_,h⟩
theorem eX{w:World}{v:Value}{l:List Int}(h:a8 w v l):fA w v l.length (aq l):=by
 obtain⟨p,c,rfl,hcap,hl,hin,hr⟩:=h;rcases hr with⟨rfl,h0⟩|⟨b,o,rfl,hb,hc⟩
 ·cases p with
  | none=>exact inl ⟨by rw [h0 rfl];rfl,rfl,rfl⟩
  | some ad=>exact inr ⟨ad,c,rfl,λ j u hu=>by simp [aq]at hu⟩
 refine inr ⟨⟨b,o,none⟩,c,rfl,λ j u hu=>?_⟩;rw [aq,List.getElem?_map]at hu;obtain⟨x,hx,rfl⟩:=Option.map_eq_some_iff.1 hu
 have hj:j<l.length:=by
  rcases Nat.lt_or_ge j l.length with h|h
  ·exact h
  rw [List.getElem?_eq_none h]at hx;cases hx
 rw [iK hj]at hx;cases hx
 have e:(⟨b,o,none⟩:Addr).add j=⟨b,o+j,none⟩:=by unfold Addr.add;split<;>simp_all
 rw [e];exact hc j hj
theorem oS(l:List Int):∀ u∈aq l,u.oneCell'=true:=λ u hu=>by
 obtain⟨x,_,rfl⟩:=List.mem_map.1 hu;rfl
theorem mH{w:World}{b:Nat}{r:Rt}{pv mv:Value}(h:w.heap[b]?=some (bZ r pv mv)) :
  w.cell? ⟨b,0,none⟩=some (.int .i64 r.addr)/\w.cell? ⟨b,1,none⟩=some (.int .i64 r.len)/\w.cell? ⟨b,2,none⟩=some pv/\w.cell? ⟨b,3,none⟩=some mv/\w.cell? ⟨b,4,none⟩=some (.int .i64 r.pref)/\w.cell? ⟨b,5,none⟩=some (.int .i64 r.med)/\∀ o,w.frozen? ⟨b,o,none⟩=false :=
 ⟨af h,af h,af h,af h,af h,af h,λ _=>ak h⟩
theorem Tryz.infoIntR:(prog.info? 3).map (λ i=>(i.zero,i.size,i.bytes))=some (some (.int .i64 0),1,8):=by kernel_rfl
theorem vK{w W w1:World}{c c':Array Value}{o:Nat}{v:Value}{R:Obj}{n:Nat}{l:List Int}(hB:Below w.heap.size w W)(hq:W.heap[w.heap.size]?=some (.cells c 28 (0,0)))(hr:W.heap[w.heap.size+1]?=some R)(hown:w1.ownsRow w.heap.size 3 1 v n (aq l))(hg:W.grownBy w1 none)(hat:v.ownBlock=none\/v.ownBlock=some W.heap.size)
  (hc:c.setIfInBounds o v=c') :
  (w1.cell? ⟨w.heap.size,o,none⟩=c[o]?/\w1.frozen? ⟨w.heap.size,o,none⟩=false)/\(w1.setCell ⟨w.heap.size,o,none⟩ v).heap[w.heap.size]?=some (.cells c' 28 (0,0))/\(w1.setCell ⟨w.heap.size,o,none⟩ v).heap[w.heap.size+1]?=some R/\(w1.setCell ⟨w.heap.size,o,none⟩ v).ownsRow w.heap.size 3 1 v n (aq l)/\Below w.heap.size w (w1.setCell ⟨w.heap.size,o,none⟩ v)/\(∀ k,k<W.heap.size->k≠w.heap.size->(w1.setCell ⟨w.heap.size,o,none⟩ v).heap[k]?=W.heap[k]?)/\W.heap.size<=(w1.setCell ⟨w.heap.size,o,none⟩ v).heap.size:=by
 have lq:=ai hq;have lr:=ai hr
 have hold:∀ k,k<W.heap.size->k≠w.heap.size->(w1.setCell ⟨w.heap.size,o,none⟩ v).heap[k]?=W.heap[k]?:=λ k hk hn=>by
  rw [ah hn,hg.block k hk (λ e=>by cases e)]
 have hq1:w1.heap[w.heap.size]?=some (.cells c 28 (0,0)):=(hg.block _ lq (λ e=>by cases e)).trans hq;refine⟨⟨af hq1,ak hq1⟩,by rw [aB hq1,hc],(hold _ lr (by omega)).trans hr,ap hown (λ k e=>ah (λ e2=>?_)),?_,hold,by have:=hg.size;simp [World.setCell];omega⟩
 ·have e3:k=w.heap.size:=e2;rcases hat with h1|h1
  ·rw [h1]at e;cases e
  rw [h1]at e;cases e;omega
 exact(hB.grown hg hB.size (λ k e=>by cases e)).setCell (p:=⟨w.heap.size,o,none⟩) (aD _) v
theorem Hf(r:Rt)(pv mv:Value)(w:World)(hp:a8 w pv r.path)(hm:a8 w mv r.marks)(n1:r.path.length<=12)(n2:r.marks.length<=8) :
  Calls prog 148 #[wq r pv mv] w λ e w'=>∃ pv' mv',e=.returned (wq r pv' mv')/\w'.ownsRow w.heap.size 3 1 pv' r.path.length (aq r.path)/\w'.ownsRow w.heap.size 3 1 mv' r.marks.length (aq r.marks)/\(pv'.ownBlock=none\/pv'.ownBlock≠mv'.ownBlock)/\Below w.heap.size w w':=by
 obtain⟨i0,hi0,hz0,hz1,hz2⟩:=info_parts Tryz.infoIntR;obtain⟨a1,b1,c1,hpv⟩:=iG (eX hp);obtain⟨a2,b2,c2,hmv⟩:=iG (eX hm);have r0:Rt:=⟨0,0,[],[],0,0⟩
 obtain⟨W0,hW0⟩:∃ W0,(w.alloc (bZ r pv mv)).alloc (.cells #[.int .i64 0,.int .i64 0,.slice none 0 0,.slice none 0 0,.int .i64 0,.int .i64 0] 28)=W0:=⟨_,rfl⟩
 have hb0:Below w.heap.size w W0:=by rw [<-hW0];exact((aX _ _).alloc (aD _) _).alloc (by rw [World.size_alloc];omega) _
 obtain⟨q1,q2,qs⟩:=iu w (bZ r pv mv) (.cells #[.int .i64 0,.int .i64 0,.slice none 0 0,.slice none 0 0,.int .i64 0,.int .i64 0] 28);rw [hW0]at q1 q2 qs;have HP:=ae (eX (hp.below hb0));have HM:=ae hm;have GA:=ae hb0;obtain⟨c0,c1',c2',c3,c4,c5,cz⟩:=mH q1;have MA:=ae q1;have NA:=ae q2;clear hp hm hb0 q1 q2;subst hpv hmv;go_enter func148,ntmps148
 go_wp2_with (first
  | (at_builtin;refine bA rfl _ _ _ rfl w.heap.size 3 i0 _ 1 8 underlying26 hi0 hz0 hz1 hz2 rfl (by omega) (.slice none 0 0) 0 [] rfl (jX _ _ _ _) (.slice a1 b1 c1) r.path.length (aq r.path) rfl (ab HP) (by simp [aq]) (oS _) (by unfold maxLen;omega) (by omega) (by omega) ?_;intro v1 w1 hown1 hgrow1 hat1;rw [List.nil_append,Nat.zero_add]at hown1;obtain⟨⟨d2,dz⟩,e1,e2,e3,e4,e5,e6⟩:=vK (o:=2) (ab GA) (ab MA) (ab NA) hown1 hgrow1 hat1 rfl;obtain⟨fa,fc,hfv⟩:=bi hown1;have HA:=ae e1;have IA:=ae e2;have BA:=ae e3;have DA:=ae e4;have OA:=ae e5;have EA:=ae e6;have CA:=ae hat1;have FA:=ae (eX ((ab HM).below (ab DA)));obtain⟨g0,g1,g2,g3,g4,g5,gz⟩:=mH (r:=r) (pv:=v1) e1;clear HP HM hown1 hgrow1 hat1 e1 e2 e3 e4 e5 e6 c0 c1' c2' c3 c4 c5 cz;subst hfv)
  | (at_builtin;refine bA rfl _ _ _ rfl w.heap.size 3 i0 _ 1 8 underlying26 hi0 hz0 hz1 hz2 rfl (by omega) (.slice none 0 0) 0 [] rfl (jX _ _ _ _) (.slice a2 b2 c2) r.marks.length (aq r.marks) rfl (ab FA) (by simp [aq]) (oS _) (by unfold maxLen;omega) (by omega) (by have h1:=ab EA;omega) ?_;intro v2 w2 hown2 hgrow2 hat2;rw [List.nil_append,Nat.zero_add]at hown2;obtain⟨⟨d3,dz3⟩,k1,k2,k3,k4,k5,k6⟩:=vK (o:=3) (ab DA) (ab HA) (ab IA) hown2 hgrow2 hat2 rfl;obtain⟨fa2,fc2,hfv2⟩:=bi hown2;have PA:=ae k1;have QA:=ae k2;have JA:=ae k3;have KA:=ae k4;have LA:=ae k5;have AA:=ae hat2;obtain⟨m0,m1,m2,m3,m4,m5,mz⟩:=mH (r:=r) (mv:=v2) k1;obtain⟨z0,z1,z2,z3,z4,z5,zz⟩:=mH (r:=⟨0,0,[],[],0,0⟩) (pv:=.slice none 0 0) (mv:=.slice none 0 0) k2;clear FA hown2 hgrow2 hat2 k1 k2 k3 k4 k5 k6 g0 g1 g2 g3 g4 g5 gz;subst hfv2))
 have hR:∀(X:World) (v0 v1 v2 v3 v4 v5:Value) (k:Nat),k≠w.heap.size+1->((((((X.setCell ⟨w.heap.size+1,0,none⟩ v0).setCell ⟨w.heap.size+1,1,none⟩ v1).setCell ⟨w.heap.size+1,2,none⟩ v2).setCell ⟨w.heap.size+1,3,none⟩ v3).setCell ⟨w.heap.size+1,4,none⟩ v4).setCell ⟨w.heap.size+1,5,none⟩ v5).heap[k]?=X.heap[k]?:=λ X v0 v1 v2 v3 v4 v5 k hk=>by
  rw [ah hk,ah hk,ah hk,ah hk,ah hk,ah hk]
 refine eO (v:=wq r (.slice fa r.path.length fc) (.slice fa2 r.marks.length fc2)) (by simp [results,results148,go_sem,z0,z1,z2,z3,z4,z5]) rfl ⟨_,_,rfl,?_,?_,?_,?_⟩
 ·refine ap (ab BA) (λ k e=>?_)
  have hk:w.heap.size+2<=k:=by
   rcases ab CA with h1|h1
   ·rw [h1]at e;cases e
   rw [h1]at e;cases e;omega
  rw [hR _ _ _ _ _ _ _ k (by omega),(ab LA) k ((ab BA).lt k e).2 (by omega)]
 ·refine ap (ab JA) (λ k e=>?_)
  have hk:w.heap.size+2<=k:=by
   rcases ab AA with h1|h1
   ·rw [h1]at e;cases e
   rw [h1]at e;cases e;have:=ab EA;omega
  rw [hR _ _ _ _ _ _ _ k (by omega)]
 ·rcases ab CA with h1|h1
  ·exact inl h1
  right;intro e;rw [h1]at e;have h3:=((ab BA).lt _ h1).2;rcases ab AA with h2|h2
  ·rw [h2]at e;cases e
  rw [h2]at e;have e4:=fZ e;omega
 refine Below.setCell (p:=⟨w.heap.size+1,5,none⟩) (Below.setCell (p:=⟨w.heap.size+1,4,none⟩) (Below.setCell (p:=⟨w.heap.size+1,3,none⟩) (Below.setCell (p:=⟨w.heap.size+1,2,none⟩) (Below.setCell (p:=⟨w.heap.size+1,1,none⟩) (Below.setCell (p:=⟨w.heap.size+1,0,none⟩) (ab KA) (Nat.le_succ _) _) (Nat.le_succ _) _) (Nat.le_succ _) _) (Nat.le_succ _) _) (Nat.le_succ _) _) (Nat.le_succ _) _
def kU:Rt:=⟨0,0,[],[],0,0⟩
def jT(ms:List aM)(r:Rt):Rt×Int:=if(aK ms r).2=1 then((aK ms r).1,1)else(kU,if(aK ms r).2=3 then 3 else 2)
def so(w:World)(n0:Nat)(r:Rt)(pv mv:Value):Prop :=
 w.ownsRow 0 3 1 pv r.path.length (aq r.path)/\w.ownsRow 0 3 1 mv r.marks.length (aq r.marks)/\(∀ k,pv.ownBlock=some k->n0<=k)/\(∀ k,mv.ownBlock=some k->n0<=k)/\(pv.ownBlock=none\/pv.ownBlock≠mv.ownBlock)
theorem so.zero(w:World)(n0:Nat):so w n0 kU (.slice none 0 0) (.slice none 0 0) :=
 ⟨jX _ _ _ _,jX _ _ _ _,λ k e=>by simp [Value.ownBlock]at e,λ k e=>by simp [Value.ownBlock]at e,inl rfl⟩
theorem dX{X:World}{b k:Nat}{v0 v1 v2 v3 v4 v5:Value}(hk:k≠b):((((((X.setCell ⟨b,0,none⟩ v0).setCell ⟨b,1,none⟩ v1).setCell ⟨b,2,none⟩ v2).setCell ⟨b,3,none⟩ v3).setCell ⟨b,4,none⟩ v4).setCell ⟨b,5,none⟩ v5).heap[k]?=X.heap[k]?:=by
 rw [ah hk,ah hk,ah hk,ah hk,ah hk,ah hk]
theorem wu{X:World}{b:Nat}{c0 c1 c2 c3 c4 c5 v0 v1 v2 v3 v4 v5:Value}{T:TypeId}(h:X.heap[b]?=some (.cells #[c0,c1,c2,c3,c4,c5] T (0,0))):((((((X.setCell ⟨b,0,none⟩ v0).setCell ⟨b,1,none⟩ v1).setCell ⟨b,2,none⟩ v2).setCell ⟨b,3,none⟩ v3).setCell ⟨b,4,none⟩ v4).setCell ⟨b,5,none⟩ v5).heap[b]?=some (.cells #[v0,v1,v2,v3,v4,v5] T (0,0)):=by
 rw [aB (aB (aB (aB (aB (aB h)))))];rfl
theorem dW{w X:World}{n b:Nat}{v0 v1 v2 v3 v4 v5:Value}(h:Below n w X)(hb:n<=b):Below n w ((((((X.setCell ⟨b,0,none⟩ v0).setCell ⟨b,1,none⟩ v1).setCell ⟨b,2,none⟩ v2).setCell ⟨b,3,none⟩ v3).setCell ⟨b,4,none⟩ v4).setCell ⟨b,5,none⟩ v5) :=
 Below.setCell (p:=⟨b,5,none⟩) (Below.setCell (p:=⟨b,4,none⟩) (Below.setCell (p:=⟨b,3,none⟩) (Below.setCell (p:=⟨b,2,none⟩) (Below.setCell (p:=⟨b,1,none⟩) (Below.setCell (p:=⟨b,0,none⟩) h hb _) hb _) hb _) hb _) hb _) hb _
theorem kQ{X:World}{b:Nat}{v0 v1 v2 v3 v4 v5:Value}:((((((X.setCell ⟨b,0,none⟩ v0).setCell ⟨b,1,none⟩ v1).setCell ⟨b,2,none⟩ v2).setCell ⟨b,3,none⟩ v3).setCell ⟨b,4,none⟩ v4).setCell ⟨b,5,none⟩ v5).heap.size=X.heap.size:=by simp [World.setCell]
theorem DQ{w1 W2:World}{b n:Nat}{r:Rt}{pv mv:Value}(h1:w1.ownsRow n 3 1 pv r.path.length (aq r.path))(h2:w1.ownsRow n 3 1 mv r.marks.length (aq r.marks))(hne:pv.ownBlock=none\/pv.ownBlock≠mv.ownBlock)(hb:W2.heap[b]?=some (bZ r pv mv))(ho:∀ k,n<=k->W2.heap[k]?=w1.heap[k]?)(hbn:b<n)(n1:r.path.length<=12)(n2:r.marks.length<=8)(hso:r.marks.Pairwise (· < ·)):dK W2 b r pv mv:=by
 have k1:=mT h1 (iL n);have k2:=mT h2 (iL n);exact⟨hb,ap k1 (λ k e=>ho k (h1.lt k e).1),ap k2 (λ k e=>ho k (h2.lt k e).1),λ e=>by have:=(h1.lt b e).1;omega,λ e=>by have:=(h2.lt b e).1;omega,hne,n1,n2,hso⟩
theorem ws{w W0 w1 W2:World}{v0 v1 v2 v3 v4 v5:Value}(h0:Below w.heap.size w W0)(h1:Below W0.heap.size W0 w1)(hW:(((((w1.setCell ⟨w.heap.size+1,0,none⟩ v0).setCell ⟨w.heap.size+1,1,none⟩ v1).setCell ⟨w.heap.size+1,2,none⟩ v2).setCell ⟨w.heap.size+1,3,none⟩ v3).setCell ⟨w.heap.size+1,4,none⟩ v4).setCell ⟨w.heap.size+1,5,none⟩ v5=W2):Below w.heap.size w W2:=by
 rw [<-hW];exact dW (h0.trans (h1.mono h0.size)) (Nat.le_succ _)
theorem DR{w1:World}{b n:Nat}{T:TypeId}{pv mv:Value}{a c:Nat}{xs ys:List Value}(h1:w1.ownsRow n T 1 pv a xs)(h2:w1.ownsRow n T 1 mv c ys):∀ k,fv b pv mv k->k=b\/n<=k:=by
 intro k h;rcases h with h|h|h
 ·exact inl h
 ·exact inr (h1.lt k h).1
 exact inr (h2.lt k h).1
theorem vR{w W2 w3:World}{O O':Nat->Prop}(h:Below w.heap.size w W2)(hf:Fr O W2 O' w3)(hO:∀ k,k<w.heap.size->¬O k):Below w.heap.size w w3 :=
 ⟨hf.os.trans h.os,hf.tape.trans h.tape,hf.output.trans h.output,kr h.size hf.size,λ k hk=>(hf.block k (eV hk h.size) (hO k hk)).trans (h.block k hk)⟩
theorem Kk{W2 w3:World}{b n:Nat}{O O':Nat->Prop}(hO:∀ k,O k->k=b\/n<=k)(hf:Fr O W2 O' w3):∀ k,O' k->k=b\/n<=k\/W2.heap.size<=k:=by
 intro k h;rcases hf.own k h with h1|h1
 ·rcases hO k h1 with h2|h2
  ·exact inl h2
  exact inr (inl h2)
 exact inr (inr h1)
theorem IU(w0:World)(K:Nat->Prop)(p:ByteArray)(sv:Value)(ms:List aM)(hK:∀ k,K k->k<w0.heap.size)(HS:∀ V,w0.heap.size<=V.heap.size->(∀ k,K k->V.heap[k]?=w0.heap[k]?)->jE sv ms K V)
  (w:World) (hw:w0.heap.size<=w.heap.size) (hag:∀ k,K k->w.heap[k]?=w0.heap[k]?) (r:Rt) (pv mv:Value) (hp:a8 w pv r.path) (hm:a8 w mv r.marks) (n1:r.path.length<=12) (n2:r.marks.length<=8) (hso:r.marks.Pairwise (· < ·)) :
  Calls prog 94 #[.agg #[.string p,sv],wq r pv mv] w λ e w'=>∃ pv' mv',e=.returned (.tuple #[wq (jT ms r).1 pv' mv',.int .i64 (jT ms r).2])/\so w' w.heap.size (jT ms r).1 pv' mv'/\Below w.heap.size w w':=by
 have UA:=ae hso;clear hso
 have hsf:∃ a n c,sv=.slice a n c:=by
  obtain⟨_,vs,_,h2,_⟩:=HS w hw hag;rcases h2 with⟨_,h2⟩|⟨S,cap,h2,_⟩
  ·exact⟨_,_,_,h2⟩
  exact⟨_,_,_,h2⟩
 obtain⟨sa,sn,sc,rfl⟩:=hsf;obtain⟨a1,b1,c1,hpv⟩:=iG (eX hp);obtain⟨a2,b2,c2,hmv⟩:=iG (eX hm);obtain⟨q1,q2,q3,qs⟩:=g6 w (.cells #[.string p,.slice sa sn sc] 109) (bZ r pv mv) (bZ kU (.slice none 0 0) (.slice none 0 0));obtain⟨W0,hW0⟩:∃ W0,((w.alloc (.cells #[.string p,.slice sa sn sc] 109)).alloc (bZ r pv mv)).alloc (bZ kU (.slice none 0 0) (.slice none 0 0))=W0:=⟨_,rfl⟩
 have hb0:Below w.heap.size w W0:=by rw [<-hW0];exact(((aX _ _).alloc (aD _) _).alloc (by rw [World.size_alloc];omega) _).alloc (by rw [World.size_alloc,World.size_alloc];omega) _
 rw [hW0]at q1 q2 q3 qs;have HC:=ae (Hf r pv mv W0 (hp.below hb0) (hm.below hb0) n1 n2);obtain⟨c0,c1',c2',c3,c4,c5,cz⟩:=mH q2;have RA:=ae q1;have SA:=ae q2;have TA:=ae q3;have OA:=ae hb0;have QA:=ae HS;have CA:=ae hK;have NA:=ae hag;clear hp hm hb0 q1 q2 q3 HS hK hag;subst hpv hmv;have hW0':=hW0;unfold bZ kU at hW0';have KA:=ae (show jT ms r=if(aK ms r).2=1 then((aK ms r).1,1)else(kU,if(aK ms r).2=3 then 3 else 2)from rfl);by_cases v1:(aK ms r).2=1
 ·
  go_enter func94,ntmps94;go_wp2_with fail;refine(ab HC).mono ?_;rintro e w1 ⟨pv1,mv1,rfl,ho1,ho2,hne,hb1⟩;obtain⟨x1,x2,hx⟩:=bi ho1;obtain⟨y1,y2,hy⟩:=bi ho2;have p1:=(hb1.block (w.heap.size+1) (by omega)).trans (ab SA);have p0:=(hb1.block w.heap.size (by omega)).trans (ab RA);have p2:=(hb1.block (w.heap.size+1+1) (by omega)).trans (ab TA);obtain⟨s0,s1,s2,s3,s4,s5,hz⟩:=mH p1;obtain⟨W2,hW2⟩:∃ W2,(((((w1.setCell ⟨w.heap.size+1,0,none⟩ (.int .i64 r.addr)).setCell ⟨w.heap.size+1,1,none⟩ (.int .i64 r.len)).setCell ⟨w.heap.size+1,2,none⟩ pv1).setCell ⟨w.heap.size+1,3,none⟩ mv1).setCell ⟨w.heap.size+1,4,none⟩ (.int .i64 r.pref)).setCell ⟨w.heap.size+1,5,none⟩ (.int .i64 r.med)=W2:=⟨_,rfl⟩
  have hsW2:W2.heap.size=w1.heap.size:=(by rw [<-hW2];exact kQ)
  have o2:∀ k,k≠w.heap.size+1->W2.heap[k]?=w1.heap[k]?:=(λ k hk=>by rw [<-hW2];exact dX hk)
  have e1:W2.heap[w.heap.size+1]?=some (bZ r pv1 mv1):=(by rw [<-hW2];exact wu p1)
  have d1:W2.cell? ⟨w.heap.size,1,none⟩=some (.slice sa sn sc):=af ((o2 _ (by omega)).trans p0);have MA:=ae (DQ ho1 ho2 hne e1 (λ k hk=>o2 k (by omega)) (by omega) n1 n2 (ab UA));have JA:=ae ((o2 _ (by omega)).trans p2);have EA:=ae (ws (ab OA) hb1 hW2);have BA:=ae (DR (b:=w.heap.size+1) ho1 ho2);have hsz2:=hb1.size;clear p0 p1 p2 o2 e1 ho1 ho2 hne hb1;subst hx hy;go_wp2_with fail;have FA:=ae (ke w0 K (.slice sa sn sc) ms (ab CA) (ab QA) W2 (by omega) (λ k hk=>((ab EA).block k (by have:=(ab CA) k hk;omega)).trans ((ab NA) k hk)) (w.heap.size+1) r _ _ (ab MA) (λ k ho hk=>by have h1:=(ab BA) k ho;have h2:=(ab CA) k hk;omega));clear hW2 s0 s1 s2 s3 s4 s5 hz
  have AA:Hid (Calls prog 149 #[.slice sa sn sc,ay (w.heap.size+1) 0] W2 λ e W3=>e=.returned (.int .i64 1)/\∃ pv3 mv3,dK W3 (w.heap.size+1) (aK ms r).1 pv3 mv3/\Fr (fv (w.heap.size+1) (.slice x1 r.path.length x2) (.slice y1 r.marks.length y2)) W2 (fv (w.heap.size+1) pv3 mv3) W3):=by
   have h:=ab FA;unfold ic at h;rw [v1]at h;exact h
  refine(ab AA).mono ?_;rintro e w3 ⟨rfl,pv3,mv3,hr3,hf3⟩;have g3:=bD hf3 (ab JA) (λ ho=>by rcases(ab BA) _ ho with h|h<;>omega);obtain⟨z0,z1,z2,z3,z4,z5,zz⟩:=mH g3.1;have DA:=ae hr3;have PA:=ae hf3;have IA:=ae (vR (ab EA) hf3 (λ k hk ho=>by rcases(ab BA) _ ho with h|h<;>omega));clear hr3 hf3 g3 FA AA;obtain⟨t0,t1,t2,t3,t4,t5,tz⟩:=mH (ab DA).blk;obtain⟨f1,f2,hf1⟩:=bi (ab DA).path;obtain⟨f3,f4,hf3'⟩:=bi (ab DA).marks;have LA:=ae (ab DA);have HA:=ae (Kk (ab BA) (ab PA));clear DA;subst hf1 hf3';go_wp2_with fail;refine eO (v:=.tuple #[wq (aK ms r).1 (.slice f1 (aK ms r).1.path.length f2) (.slice f3 (aK ms r).1.marks.length f4),.int .i64 1]) (by simp [results,results94,go_sem,z0,z1,z2,z3,z4,z5]) rfl ?_;rw [ab KA,aC v1];refine⟨_,_,rfl,⟨ap (ab LA).path (λ k e=>dX (λ e2=>?_)),ap (ab LA).marks (λ k e=>dX (λ e2=>?_)),λ k e=>?_,λ k e=>?_,(ab LA).ne3⟩,dW (ab IA) (by omega)⟩
  ·have:=(ab HA) k (inr (inl e));omega
  ·have:=(ab HA) k (inr (inr e));omega
  ·have:=(ab HA) k (inr (inl e));omega
  have:=(ab HA) k (inr (inr e));omega
 have hv1:((aK ms r).2==1)=false:=by simpa using v1
 have hv3:((aK ms r).2==3)=true/\jT ms r=(kU,3)\/((aK ms r).2==3)=false/\jT ms r=(kU,2):=by
  by_cases v3:(aK ms r).2=3
  ·exact inl ⟨by simpa using v3,by rw [ab KA,au v1,aC v3]⟩
  exact inr ⟨by simpa using v3,by rw [ab KA,au v1,au v3]⟩
 have VA:=ae hv3;clear hv3;rcases ab VA with⟨hb3,hrm⟩|⟨hb3,hrm⟩
 all_goals
  have GA:=ae hrm;clear hrm;go_enter func94,ntmps94;go_wp2_with fail;refine(ab HC).mono ?_;rintro e w1 ⟨pv1,mv1,rfl,ho1,ho2,hne,hb1⟩;obtain⟨x1,x2,hx⟩:=bi ho1;obtain⟨y1,y2,hy⟩:=bi ho2;have p1:=(hb1.block (w.heap.size+1) (by omega)).trans (ab SA);have p0:=(hb1.block w.heap.size (by omega)).trans (ab RA);have p2:=(hb1.block (w.heap.size+1+1) (by omega)).trans (ab TA);obtain⟨s0,s1,s2,s3,s4,s5,hz⟩:=mH p1;obtain⟨W2,hW2⟩:∃ W2,(((((w1.setCell ⟨w.heap.size+1,0,none⟩ (.int .i64 r.addr)).setCell ⟨w.heap.size+1,1,none⟩ (.int .i64 r.len)).setCell ⟨w.heap.size+1,2,none⟩ pv1).setCell ⟨w.heap.size+1,3,none⟩ mv1).setCell ⟨w.heap.size+1,4,none⟩ (.int .i64 r.pref)).setCell ⟨w.heap.size+1,5,none⟩ (.int .i64 r.med)=W2:=⟨_,rfl⟩
  have hsW2:W2.heap.size=w1.heap.size:=(by rw [<-hW2];exact kQ)
  have o2:∀ k,k≠w.heap.size+1->W2.heap[k]?=w1.heap[k]?:=(λ k hk=>by rw [<-hW2];exact dX hk)
  have e1:W2.heap[w.heap.size+1]?=some (bZ r pv1 mv1):=(by rw [<-hW2];exact wu p1)
  have d1:W2.cell? ⟨w.heap.size,1,none⟩=some (.slice sa sn sc):=af ((o2 _ (by omega)).trans p0);have MA:=ae (DQ ho1 ho2 hne e1 (λ k hk=>o2 k (by omega)) (by omega) n1 n2 (ab UA));have JA:=ae ((o2 _ (by omega)).trans p2);have EA:=ae (ws (ab OA) hb1 hW2);have BA:=ae (DR (b:=w.heap.size+1) ho1 ho2);have hsz2:=hb1.size;clear p0 p1 p2 o2 e1 ho1 ho2 hne hb1;subst hx hy;go_wp2_with fail;have FA:=ae (ke w0 K (.slice sa sn sc) ms (ab CA) (ab QA) W2 (by omega) (λ k hk=>((ab EA).block k (by have:=(ab CA) k hk;omega)).trans ((ab NA) k hk)) (w.heap.size+1) r _ _ (ab MA) (λ k ho hk=>by have h1:=(ab BA) k ho;have h2:=(ab CA) k hk;omega));clear hW2 s0 s1 s2 s3 s4 s5 hz
  have AA:Hid (Calls prog 149 #[.slice sa sn sc,ay (w.heap.size+1) 0] W2 λ e W3=>e=.returned (.int .i64 (aK ms r).2)/\∃ pv3 mv3,dK W3 (w.heap.size+1) (aK ms r).1 pv3 mv3/\Fr (fv (w.heap.size+1) (.slice x1 r.path.length x2) (.slice y1 r.marks.length y2)) W2 (fv (w.heap.size+1) pv3 mv3) W3):=by
   have h:=ab FA;unfold ic at h;exact h
  refine(ab AA).mono ?_;rintro e w3 ⟨rfl,pv3,mv3,hr3,hf3⟩;have g3:=bD hf3 (ab JA) (λ ho=>by rcases(ab BA) _ ho with h|h<;>omega);obtain⟨z0,z1,z2,z3,z4,z5,zz⟩:=mH g3.1;have DA:=ae hr3;have PA:=ae hf3;have IA:=ae (vR (ab EA) hf3 (λ k hk ho=>by rcases(ab BA) _ ho with h|h<;>omega));clear hr3 hf3 g3 FA AA;go_wp2_with fail;refine eO (v:=.tuple #[wq kU (.slice none 0 0) (.slice none 0 0),.int .i64 (jT ms r).2]) (by rw [ab GA];simp [results,results94,go_sem,z0,z1,z2,z3,z4,z5,kU]) rfl ?_;rw [ab GA];exact⟨_,_,rfl,so.zero _ _,dW (ab IA) (by omega)⟩
def vg(r:Rt):Bool:=dH (r.addr,r.len) r.path r.marks r.pref r.med
theorem zU:∀{l:List Int} {n:Int},gU n l->l.Pairwise (· < ·)/\∀ x∈l,n<=x
 | [],_,_=>⟨List.Pairwise.nil,λ x hx=>by cases hx⟩
 | y::l,n,h=>by
  obtain⟨h1,_,h3⟩:=iH.1 h;obtain⟨i1,i2⟩:=zU h3;refine⟨List.pairwise_cons.2 ⟨λ x hx=>by have:=i2 x hx;omega,i1⟩,λ x hx=>?_⟩;rcases List.mem_cons.1 hx with rfl|hx
  ·exact h1
  have:=i2 x hx;omega
theorem ru{r:Rt}(h:vg r=true):r.marks.Pairwise (· < ·):=by
 have h1:pA (r.addr,r.len) r.path r.marks r.pref r.med:=of_decide_eq_true h;exact(zU h1.2.2.1.2).1
theorem GV(w0:World)(K:Nat->Prop)(pp:Nat)(ms:List aM)(hK:∀ k,K k->k<w0.heap.size)(HS:∀ V,w0.heap.size<=V.heap.size->(∀ k,K k->V.heap[k]?=w0.heap[k]?)->MR pp ms K V)
  (w:World) (hw:w0.heap.size<=w.heap.size) (hag:∀ k,K k->w.heap[k]?=w0.heap[k]?) (r:Rt) (pv mv:Value) (hp:a8 w pv r.path) (hm:a8 w mv r.marks) (i1:jw r.addr) (i2:jw r.len) (n1:r.path.length<=12) (n2:r.marks.length<=8) (hok:vg r=true) :
  Calls prog 44 #[ay pp 0,wq r pv mv] w λ e w'=>∃ pv' mv',e=.returned (.tuple #[wq (jT ms r).1 pv' mv',.int .i64 (jT ms r).2,.int .i64 0])/\so w' w.heap.size (jT ms r).1 pv' mv'/\Below w.heap.size w w':=by
 obtain⟨kp,p,sv,hpb,hst⟩:=HS w hw hag
 obtain⟨sa,sn,sc,hsv⟩:∃ a n c,sv=.slice a n c:=by
  obtain⟨_,vs,_,h2,_⟩:=hst;rcases h2 with⟨_,h2⟩|⟨S,cap,h2,_⟩
  ·exact⟨_,_,_,h2⟩
  exact⟨_,_,_,h2⟩
 have hst2:∀ V,w0.heap.size<=V.heap.size->(∀ k,K k->V.heap[k]?=w0.heap[k]?)->jE sv ms K V:=λ V hV hk=>by
  obtain⟨_,p2,sv2,hb2,hs2⟩:=HS V hV hk;have e:=hb2.symm.trans ((hk pp kp).trans ((hag pp kp).symm.trans hpb));simp only [Option.some.injEq,Obj.cells.injEq,and_true]at e;have e2:sv2=sv:=by have:=pP (λ a=>a[1]?) e;simpa using this
  rw [<-e2];exact hs2
 obtain⟨a1,b1,c1,hpv⟩:=iG (eX hp);obtain⟨a2,b2,c2,hmv⟩:=iG (eX hm);obtain⟨q1,q2,qs⟩:=iu w (bZ r pv mv) (bZ kU (.slice none 0 0) (.slice none 0 0));obtain⟨W0,hW0⟩:∃ W0,(w.alloc (bZ r pv mv)).alloc (bZ kU (.slice none 0 0) (.slice none 0 0))=W0:=⟨_,rfl⟩
 have hb0:Below w.heap.size w W0:=by rw [<-hW0];exact((aX _ _).alloc (aD _) _).alloc (by rw [World.size_alloc];omega) _
 rw [hW0]at q1 q2 qs;have HV:=ae (sj (r.addr,r.len) r.path r.marks r.pref r.med pv mv W0 i1 i2 (hp.below hb0) (hm.below hb0));rw [show dH (r.addr,r.len) r.path r.marks r.pref r.med=true from hok]at HV;obtain⟨c0,c1',c2',c3,c4,c5,cz⟩:=mH q1;have JA:=ae q1;have KA:=ae q2;have CA:=ae hb0;have FA:=ae hst2;have DA:=ae hK;have EA:=ae hag;have HP:=ae hp;have HM:=ae hm;have HA:=ae hpb;have lpp:pp<w.heap.size:=ai hpb;clear hp hm hb0 q1 q2 HS hK hag hst hst2 hpb;subst hpv hmv hsv;have hW0':=hW0;unfold bZ kU at hW0';go_enter func44,ntmps44;go_wp2_with fail;refine(ab HV).mono ?_;rintro e w1 ⟨rfl,hb1⟩;have p1:=(hb1.block w.heap.size (by omega)).trans (ab JA);have p2:=(hb1.block (w.heap.size+1) (by omega)).trans (ab KA);have p3:=(hb1.block pp (by omega)).trans (((ab CA).block pp lpp).trans (ab HA));obtain⟨s0,s1,s2,s3,s4,s5,hz⟩:=mH p1;obtain⟨z0,z1,z2,z3,z4,z5,zz⟩:=mH p2;have u0:w1.cell? ⟨pp,0,none⟩=some (.string p):=af p3;have u1:w1.cell? ⟨pp,1,none⟩=some (.slice sa sn sc):=af p3;have hBw1:=(ab CA).trans (hb1.mono (ab CA).size);have AA:=ae hBw1;have GA:=ae p2;have hs1:=hb1.size;have IA:=ae (λ(W:World) (hW:Below w1.heap.size w1 W)=>IU w0 K p (.slice sa sn sc) ms (ab DA) (ab FA) W (by have:=hW.size;omega) (λ k hk=>(hW.block k (by have:=(ab DA) k hk;omega)).trans ((hBw1.block k (by have:=(ab DA) k hk;omega)).trans ((ab EA) k hk))) r _ _ (((ab HP).below hBw1).below hW) (((ab HM).below hBw1).below hW) n1 n2 (ru hok));have lw:w.heap.size<w1.heap.size:=by omega
 have lpw:pp<w1.heap.size:=by omega
 have hal:=(GR ((aX w1.heap.size w1).alloc (aD _) (.cells #[.int .i64 0,.int .i64 0,.slice none 0 0,.slice none 0 0,.int .i64 0,.int .i64 0] 28))).1;have s0':=(hal w.heap.size 0 lw).trans s0;have s1':=(hal w.heap.size 1 lw).trans s1;have s2':=(hal w.heap.size 2 lw).trans s2;have s3':=(hal w.heap.size 3 lw).trans s3;have s4':=(hal w.heap.size 4 lw).trans s4;have s5':=(hal w.heap.size 5 lw).trans s5;have u0':=(hal pp 0 lpw).trans u0;have u1':=(hal pp 1 lpw).trans u1;clear hal;clear hb1 p1 p2 p3 hBw1 c0 c1' c2' c3 c4 c5 cz;go_wp2_with fail;go_region_with (go_at_call 94;refine((ab IA) _ (by first|exact(aX _ _).drew|exact((aX _ _).alloc (aD _) _).drew|exact(aX _ _).drew.alloc (aD _) _)).mono ?_;rintro e w2 ⟨pv2,mv2,rfl,hrv,hb2⟩;obtain⟨f1,f2,hf1⟩:=bi hrv.1;obtain⟨f3,f4,hf3⟩:=bi hrv.2.1;(try (have zb:w2.heap[w1.heap.size]?=some (bZ kU (.slice none 0 0) (.slice none 0 0)):=(hb2.block w1.heap.size (by simp)).trans (cN w1 _);obtain⟨y0,y1,y2,y3,y4,y5,yz⟩:=mH zb;have ZB:=ae zb;clear zb));have hbx:Below w1.heap.size w1 w2:=(by first|exact((aX _ _).drew).trans (hb2.mono (aD _))|exact(((aX _ _).alloc (aD _) _).drew).trans (hb2.mono (by simp)));have BA:=ae hbx;have LA:=ae hrv;clear hrv hb2 hbx;subst hf1 hf3)
 all_goals
  obtain⟨g0,g1,g2,g3,g4,g5,gz⟩:=mH (((ab BA).block (w.heap.size+1) (by omega)).trans (ab GA));have lx:w.heap.size+1<w2.heap.size:=by have h:=(ab BA).size;omega
  have lx1:w1.heap.size<=w2.heap.size:=(ab BA).size
  first|(have zb2:Hid (w2.heap[w1.heap.size]?=some (bZ kU (.slice none 0 0) (.slice none 0 0))):=by assumption;have zb3:=mH (ab zb2);obtain⟨y0,y1,y2,y3,y4,y5,yz⟩:=zb3)|skip
  go_wp2_with fail;refine eO (v:=.tuple #[wq (jT ms r).1 (.slice f1 (jT ms r).1.path.length f2) (.slice f3 (jT ms r).1.marks.length f4),.int .i64 (jT ms r).2,.int .i64 0]) (by simp [results,results44,go_sem,g0,g1,g2,g3,g4,g5,lx]) rfl ?_;have hv:=ab LA;have hbw:=(ab AA).trans ((ab BA).mono (ab AA).size);have hk1:∀ k,(Value.slice f1 (jT ms r).1.path.length f2).ownBlock=some k->w1.heap.size<=k:=λ k e=>by have h:=hv.2.2.1 k e;simp at h;omega
  have hk2:∀ k,(Value.slice f3 (jT ms r).1.marks.length f4).ownBlock=some k->w1.heap.size<=k:=λ k e=>by have h:=hv.2.2.2.1 k e;simp at h;omega
  refine⟨_,_,rfl,⟨?_,?_,λ k e=>by have h:=hk1 k e;omega,λ k e=>by have h:=hk2 k e;omega,hv.2.2.2.2⟩,?_⟩
  ·refine ap hv.1 (λ k e=>?_);have h:=hk1 k e;have h2:=hv.2.2.1 k e
   first
    | (rw [dX (by omega),dX (by simp at h2;omega)])
    | (rw [eW _ _ _ (by rw [kQ];exact(hv.1.lt k e).2),dX (by omega)])
  ·refine ap hv.2.1 (λ k e=>?_);have h:=hk2 k e;have h2:=hv.2.2.2.1 k e
   first
    | (rw [dX (by omega),dX (by simp at h2;omega)])
    | (rw [eW _ _ _ (by rw [kQ];exact(hv.2.1.lt k e).2),dX (by omega)])
  first
   | with_reducible exact dW (dW hbw (by omega)) (by omega)
   | (with_reducible refine Below.alloc (dW hbw (by omega)) ?_ _);(rw [kQ];omega)
