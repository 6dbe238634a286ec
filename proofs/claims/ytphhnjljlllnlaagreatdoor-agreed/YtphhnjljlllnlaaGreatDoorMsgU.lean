/- part -/
import Derived.Test.YtphhnjljlllnlaaGreatDoorMsgR
import Derived.Test.YtphhnjljlllnlaaGreatDoorSqM
set_option maxRecDepth 100000
set_option maxHeartbeats 4000000
namespace Go.Proofs.YtphhnjljlllnlaaGreatDoor
open Go.Proofs.Tryz
open Or
open Go.RowKit
open Go Go.RowKit Go.Sort Go.Shelf
def Ci(b:List Int)(w:World)(e:Ending)(w':World):Prop :=
 Below w.heap.size w w' /\
   ∃ vg vn vp vm,e=.returned (.tuple #[.agg #[vg,vn,vp,vm,.int .i64 (cl b).pref,.int .i64 (cl b).med],.int .i64 (lP b)]) /\
    cQ w' w.heap.size vg (cl b).gone/\cQ w' w.heap.size vn (cl b).nets/\ia w' w.heap.size vp (cl b).path/\ia w' w.heap.size vm (cl b).marks /\
    hZ vg vn/\hZ vg vp/\hZ vg vm/\hZ vn vp/\hZ vn vm/\hZ vp vm
theorem iH(v:Value):hZ (.slice none 0 0) v:=λ k hk=>by simp [Value.ownBlock]at hk
theorem Ci.err{b:List Int}{w w':World}{k:Int}(h:jt b=.error k)(hb:Below w.heap.size w w'):Ci b w (.returned (.tuple #[.agg #[.slice none 0 0,.slice none 0 0,.slice none 0 0,.slice none 0 0,.int .i64 0,.int .i64 0],.int .i64 k])) w':=by
 have e1:cl b=fN:=by unfold cl;rw [h]
 have e2:lP b=k:=by unfold lP;rw [h]
 refine⟨hb,_,_,_,_,by rw [e1,e2];rfl,?_⟩;rw [e1];exact⟨i7 _ _ _ _,i7 _ _ _ _,i7 _ _ _ _,i7 _ _ _ _,iH _,iH _,iH _,iH _,iH _,iH _⟩
theorem iI{w w':World}{B b:Nat}(h:Below B w w')(hb:B<=b)(x0 x1 x2 x3 x4 x5:Value) :
  Below B w ((((((w'.setCell ⟨b,0,none⟩ x0).setCell ⟨b,1,none⟩ x1).setCell ⟨b,2,none⟩ x2).setCell ⟨b,3,none⟩ x3).setCell ⟨b,4,none⟩ x4).setCell ⟨b,5,none⟩ x5) :=
 (((((h.setCell hb _).setCell hb _).setCell hb _).setCell hb _).setCell hb _).setCell hb _
theorem jl{w:World}{base:Nat}{e:TypeId}{size:Nat}{v:Value}{n:Nat}{xs:List Value}(h:w.ownsRow base e size v n xs){b:Nat}(hb:b<base)(x0 x1 x2 x3 x4 x5:Value) :
  ((((((w.setCell ⟨b,0,none⟩ x0).setCell ⟨b,1,none⟩ x1).setCell ⟨b,2,none⟩ x2).setCell ⟨b,3,none⟩ x3).setCell ⟨b,4,none⟩ x4).setCell ⟨b,5,none⟩ x5).ownsRow base e size v n xs :=
 ay h (λ k hk=>by
  have hne:k≠b:=by have:=(h.lt k hk).1;omega
  rw [ai hne,ai hne,ai hne,ai hne,ai hne,ai hne])
theorem Fr.owns{w0 W:World}{ub:Nat}{O:Nat->Prop}(h:Fr (· = ub) w0 O W){base:Nat}{e:TypeId}{size:Nat}{v:Value}{n:Nat}{xs:List Value}(ho:w0.ownsRow base e size v n xs)(hu:∀ k,v.ownBlock=some k->k≠ub):W.ownsRow base e size v n xs :=
 ay ho (λ k hk=>h.block k (ho.lt k hk).2 (hu k hk))
theorem DT(w:World)(a:Addr)(v:Value):(w.setCell a v).heap.size=w.heap.size:=by simp [World.setCell]
theorem zU{w:World}{o:Obj}{b i:Nat}(h:b<w.heap.size):(w.alloc o).cell? ⟨b,i,none⟩=w.cell? ⟨b,i,none⟩:=World.cell?_of_block (mC w o b h)
theorem z7{T:List (Int×Int)}{A:List (Int×Int×Value)}{D:List (Int×Int×List Int)}{w:World}{s:AS}(hA:db w A D)(hs:cV ⟨fN,0,false,false⟩ D=.ok s) :
  mU (T.take 21).length A=false↔((T≠[]/\¬(s.two=true/\s.five=true))\/(T=[]/\D≠[])):=by
 obtain⟨h2,h5⟩:=FD hs;have hl:=hA.len;rw [<-hA.any 2]at h2;rw [<-hA.any 5]at h5;simp only [Bool.false_or]at h2 h5;rw [h2,h5];unfold mU;cases T with
 | nil =>
  rw [aS (by simp)];simp only [beq_eq_false_iff_ne,ne_eq,not_true_eq_false,false_and,true_and,false_or];rw [hl,List.length_eq_zero_iff]
 | cons t T =>
  rw [aG (by simp)];simp
theorem tO(b:List Int)(v:Value)(w:World)(ht:ja w)(h:aX w v b) :
  Calls prog 51 #[v] w (Ci b w):=by
 have HX:=af h;have HT:=af ht;have CB:=af (show aK b from by obtain⟨_,_,_,_,_,hh,_⟩:=h;exact hh);clear h ht;obtain⟨wR,hwR⟩:∃ wR,w.alloc (.cells #[.slice none 0 0,.slice none 0 0,.slice none 0 0,.slice none 0 0,.int .i64 0,.int .i64 0] 87)=wR:=⟨_,rfl⟩
 have QR:=af (cM w (.cells #[.slice none 0 0,.slice none 0 0,.slice none 0 0,.slice none 0 0,.int .i64 0,.int .i64 0] 87));have BR:=af ((aY w.heap.size w).alloc (aL _) (.cells #[.slice none 0 0,.slice none 0 0,.slice none 0 0,.slice none 0 0,.int .i64 0,.int .i64 0] 87));rw [hwR]at QR BR;have hlR:w.heap.size<wR.heap.size:=ah (ae QR);have EB:=af hwR;clear hwR;go_enter func51,ntmps51;go_wp2_with fail;rw [ae EB];refine(Hl b _ _ ((ae HX).below (ae BR))).mono ?_;rintro e w1 ⟨hb1,q1,q2,q3,n1,n2,n3,k1,k2,k3,ok,rfl,hm⟩;have B1:=af hb1;have YA:=af ((ae BR).trans (hb1.mono (ae BR).size));have EA:=af ((hb1.block _ hlR).trans (ae QR));have hl1:=hb1.size;clear hb1;obtain⟨r0,r1,r2,r3,r4,r5⟩:=dF (ae EA);have hf:∀ o,w1.frozen? ⟨w.heap.size,o,none⟩=false:=λ o=>aj (ae EA)
 have hlR1:w.heap.size<w1.heap.size:=ah (ae EA);cases hs:iP b with
 | none =>
  rw [hs]at hm;simp only at hm;subst hm;have HE:=af (so hs);clear hs;go_wp2
  refine gH (v:=.tuple #[.agg #[.slice none 0 0,.slice none 0 0,.slice none 0 0,.slice none 0 0,.int .i64 0,.int .i64 0],.int .i64 6]) (by simp [results,results51,go_sem,r0,r1,r2,r3,r4,r5,zU,hlR1]) rfl ?_;exact Ci.err (ae HE) ((iI (ae YA) (aL _) _ _ _ _ _ _).alloc (by simp only [DT];omega) _)
 | some gdt =>
  obtain⟨G,D,T⟩:=gdt;rw [hs]at hm;simp only at hm;obtain⟨rfl,og,on,ap,A,oa,aa⟩:=hm;have JA:=af (CQ hs);have DA:=af (Hk (ae CB) hs);have e1:n1=(G.take 21).length:=by obtain⟨_,_,e⟩:=aI og;cases e;rfl
  have e2:n2=(T.take 21).length:=by obtain⟨_,_,e⟩:=aI on;cases e;rfl
  have e3:n3=A.length:=by obtain⟨_,_,e⟩:=aI oa;cases e;rfl
  have hn1:n1<=21:=by rw [e1,List.length_take];omega
  have hn2:n2<=21:=by rw [e2,List.length_take];omega
  have hn3:n3<=65535:=by have h1:=aa.len;have h2:=(ae DA).2.2.2;omega
  have E1:=af e1;have E2:=af e2;have E3:=af e3;have AP:=af ap;have AA:=af aa;clear hs e1 e2 e3 ap aa r0 r1 r2 r3 r4 r5 hf;obtain⟨w2,hw2⟩:∃ w2,w1.alloc (.cells #[.slice q1 n1 k1,.slice q2 n2 k2,.slice q3 n3 k3] 155)=w2:=⟨_,rfl⟩
  have QP:=cM w1 (.cells #[.slice q1 n1 k1,.slice q2 n2 k2,.slice q3 n3 k3] 155);have B12:=(aY w1.heap.size w1).alloc (aL _) (.cells #[.slice q1 n1 k1,.slice q2 n2 k2,.slice q3 n3 k3] 155);rw [hw2]at QP B12;obtain⟨w3,hw3⟩:∃ w3,w2.alloc (.cells #[.slice q1 n1 k1,.slice q2 n2 k2,.slice none 0 0,.slice none 0 0,.int .i64 0,.int .i64 0] 87)=w3:=⟨_,rfl⟩
  have QU:=cM w2 (.cells #[.slice q1 n1 k1,.slice q2 n2 k2,.slice none 0 0,.slice none 0 0,.int .i64 0,.int .i64 0] 87);have B23:=(aY w2.heap.size w2).alloc (aL _) (.cells #[.slice q1 n1 k1,.slice q2 n2 k2,.slice none 0 0,.slice none 0 0,.int .i64 0,.int .i64 0] 87);rw [hw3]at QU B23;have WA:=af hw2;have DB:=af hw3;have l12:w1.heap.size<w2.heap.size:=ah QP;have l23:w2.heap.size<w3.heap.size:=ah QU;have BA:=af (B12.trans (B23.mono B12.size));have PA:=af ((ae B1).trans ((ae BA).mono (ae B1).size));have ZA:=af ((ae BR).trans ((ae PA).mono (ae BR).size));have HB:=af ((B23.block _ l12).trans QP);have IB:=af (((ae BA).block _ hlR1).trans (ae EA));have BX:=af (show jT w3 w3 w2.heap.size (.slice q1 n1 k1) (.slice q2 n2 k2) fN from⟨⟨_,_,QU,i7 _ _ _ _,i7 _ _ _ _,iH _⟩,dw _ _⟩);have lg:=og.lt;have ln:=on.lt;have la:=oa.lt;have OG:=af (og.nextW (ae BA));have ON:=af (on.nextW (ae BA));have OA:=af (oa.next (ae BA));have UG:=af (show ∀ k,(Value.slice q1 n1 k1).ownBlock=some k->k≠w2.heap.size from λ k hk=>by have:=(lg k hk).2;omega);have UN:=af (show ∀ k,(Value.slice q2 n2 k2).ownBlock=some k->k≠w2.heap.size from λ k hk=>by have:=(ln k hk).2;omega);have UA:=af (show ∀ k,(Value.slice q3 n3 k3).ownBlock=some k->k≠w2.heap.size from λ k hk=>by have:=(la k hk).2;omega);have LG:=af lg;have LN:=af ln;clear og on oa lg ln la hw2 hw3 QP QU B12 B23;go_wp2_with fail;rw [ae WA,ae DB,show w1.heap.size+1=w2.heap.size from by rw [<-ae WA];simp];refine(DL A D _ wR w3 w2.heap.size q1 q2 n1 n2 k1 k2 ((ae HT).below (ae BR)) (ae PA) (by omega) l23 (ae BX) (ae OA).row (ae UA) (ae AA) (by rw [<-ae E3];exact hn3) (ae DA).2.2.1).mono ?_;rintro e w4 ⟨kk,rfl,hfr,hm⟩;have QP4:=(hfr.block w1.heap.size (by omega) (by omega)).trans (ae HB);have QR4:=(hfr.block w.heap.size (by omega) (by omega)).trans (ae IB);have p0:w4.cell? ⟨w1.heap.size,0,none⟩=some (.slice q1 n1 k1):=ag QP4
  have p1:w4.cell? ⟨w1.heap.size,1,none⟩=some (.slice q2 n2 k2):=ag QP4;have p2:w4.cell? ⟨w1.heap.size,2,none⟩=some (.slice q3 n3 k3):=ag QP4;obtain⟨r0,r1,r2,r3,r4,r5⟩:=dF QR4;have hf:∀ o,w4.frozen? ⟨w.heap.size,o,none⟩=false:=λ o=>aj QR4
  have l4:=hfr.size;have IA:=af hfr;have GA:=af (hfr.toBelow (ae ZA) (by omega));have SA:=af QP4;have TA:=af QR4;clear hfr QP4 QR4;cases ha:cV ⟨fN,0,false,false⟩ D with
  | error cc =>
   rw [ha]at hm;simp only at hm;subst hm;have HE:=af (show jt b=.error kk from by rw [ae JA,ha]);have h6:=wt ha;have dk:(kk != 0)=true:=by simp;omega
   clear ha h6;go_wp2
   refine gH (v:=.tuple #[.agg #[.slice none 0 0,.slice none 0 0,.slice none 0 0,.slice none 0 0,.int .i64 0,.int .i64 0],.int .i64 kk]) (by simp [results,results51,go_sem,r0,r1,r2,r3,r4,r5]) rfl ?_;exact Ci.err (ae HE) (iI (ae GA) (aL _) _ _ _ _ _ _)
  | ok s =>
   rw [ha]at hm;simp only at hm;obtain⟨rfl,hbx⟩:=hm;have AB:=af hbx;have CA:=af (z7 (T:=T) (ae AA) ha);have KA:=af (show jt b=if(T≠[]/\¬(s.two=true/\s.five=true))\/(T=[]/\D≠[])then .error 9 else if kI (G++T)then .ok { s.u with gone:=G,nets:=T }else .error 10 from by rw [ae JA,ha]);rw [<-ae E2]at CA;clear ha hbx JA;go_wp2_with fail;refine(yj A q1 q2 n1 n2 k1 k2 _ w4 (kf.row (w:=w4) (l:=A) ((ae IA).owns (ae OA) (ae UA))) (by rw [<-ae E3];exact hn3) (ae AA).slices (by omega)).mono ?_;rintro e w5 ⟨rfl,hb5⟩;have FA:=af hb5;have HA:=af ((ae GA).trans (hb5.mono (ae GA).size));have l5:=hb5.size;have QP5:=(hb5.block _ (ah (ae SA))).trans (ae SA);have QR5:=(hb5.block _ (ah (ae TA))).trans (ae TA);have VA:=af QR5;clear p0 p1 p2 r0 r1 r2 r3 r4 r5 hf hb5;have p0:w5.cell? ⟨w1.heap.size,0,none⟩=some (.slice q1 n1 k1):=ag QP5;have p1:w5.cell? ⟨w1.heap.size,1,none⟩=some (.slice q2 n2 k2):=ag QP5;obtain⟨r0,r1,r2,r3,r4,r5⟩:=dF QR5;have hf:∀ o,w5.frozen? ⟨w.heap.size,o,none⟩=false:=λ o=>aj QR5
   clear QP5 QR5;cases hc:mU n2 A with
   | false =>
    have HE:=af (show jt b=.error 9 from by rw [ae KA,aS ((ae CA).1 hc)]);clear hc;go_wp2
    refine gH (v:=.tuple #[.agg #[.slice none 0 0,.slice none 0 0,.slice none 0 0,.slice none 0 0,.int .i64 0,.int .i64 0],.int .i64 9]) (by simp [results,results51,go_sem,r0,r1,r2,r3,r4,r5]) rfl ?_;exact Ci.err (ae HE) (iI (ae HA) (aL _) _ _ _ _ _ _)
   | true =>
    have RA:=af (show jt b=if kI (G++T)then .ok { s.u with gone:=G,nets:=T }else .error 10 from by
     rw [ae KA,aG (λ h=>by have:=(ae CA).2 h;rw [hc]at this;cases this)])
    clear hc KA CA;have LA:Hid (cQ w5 wR.heap.size (.slice q1 n1 k1) (G.take 21)):=cQ.nextW ((ae IA).owns (ae OG) (ae UG)) (ae FA);have MA:Hid (cQ w5 wR.heap.size (.slice q2 n2 k2) (T.take 21)):=cQ.nextW ((ae IA).owns (ae ON) (ae UN)) (ae FA);go_wp2_with fail;refine(oQ (G.take 21) (T.take 21) _ _ _ ((ae LA).at_ (λ x hx=>(ae DA).1 x (List.mem_of_mem_take hx)) (by rw [<-ae E1];omega)) ((ae MA).at_ (λ x hx=>(ae DA).2.1 x (List.mem_of_mem_take hx)) (by rw [<-ae E2];omega))).mono ?_;rintro e w6 ⟨rfl,hb6⟩;rw [yF];have NA:=af hb6;have QA:=af ((ae HA).trans (hb6.mono (ae HA).size));have QR6:=(hb6.block _ (ah (ae VA))).trans (ae VA);have BB:=af (((ae AB).next (ae FA)).next hb6);clear p0 p1 r0 r1 r2 r3 r4 r5 hf hb6;obtain⟨r0,r1,r2,r3,r4,r5⟩:=dF QR6;have hf:∀ o,w6.frozen? ⟨w.heap.size,o,none⟩=false:=λ o=>aj QR6
    clear QR6;cases hn:eH (G++T)with
    | false =>
     have HE:=af (show jt b=.error 10 from by rw [ae RA,aG (of_decide_eq_false hn)]);clear hn;go_wp2
     refine gH (v:=.tuple #[.agg #[.slice none 0 0,.slice none 0 0,.slice none 0 0,.slice none 0 0,.int .i64 0,.int .i64 0],.int .i64 10]) (by simp [results,results51,go_sem,r0,r1,r2,r3,r4,r5]) rfl ?_;exact Ci.err (ae HE) (iI (ae QA) (aL _) _ _ _ _ _ _)
    | true =>
     have hno:kI (G++T):=of_decide_eq_true hn;have HE:=af (show jt b=.ok { s.u with gone:=G,nets:=T }from by rw [ae RA,aS hno]);have hl20:=hno.1;rw [List.length_append]at hl20
     have FB:Hid (cQ w6 wR.heap.size (.slice q1 n1 k1) G):=by
      have:=(ae LA).nextW (ae NA)
      rwa [List.take_of_length_le (by omega)]at this
     have GB:Hid (cQ w6 wR.heap.size (.slice q2 n2 k2) T):=by
      have:=(ae MA).nextW (ae NA)
      rwa [List.take_of_length_le (by omega)]at this
     obtain⟨⟨vp,vm,hbk,op,om,apm⟩,-⟩:=ae BB;obtain⟨u0,u1,u2,u3,u4,u5⟩:=dF hbk;obtain⟨qp,cp,rfl⟩:=aI op;obtain⟨qm,cm,rfl⟩:=aI om;have OP:=af op;have OM:=af om;have XA:=af apm;clear hn hno hl20 hbk op om apm LA MA;go_wp2
     refine gH (v:=.tuple #[.agg #[.slice q1 n1 k1,.slice q2 n2 k2,.slice qp s.u.path.length cp,.slice qm s.u.marks.length cm,.int .i64 s.u.pref,.int .i64 s.u.med],.int .i64 0]) (by simp [results,results51,go_sem,r0,r1,r2,r3,r4,r5]) rfl ?_;have d1:cl b={ s.u with gone:=G,nets:=T }:=by unfold cl;rw [ae HE]
     have d2:lP b=0:=by unfold lP;rw [ae HE]
     refine⟨iI (ae QA) (aL _) _ _ _ _ _ _,_,_,_,_,by rw [d1,d2],?_⟩;rw [d1];refine⟨cQ.base (jl (ae FB) hlR _ _ _ _ _ _) (by omega),cQ.base (jl (ae GB) hlR _ _ _ _ _ _) (by omega),ia.base (jl (ae OP) (by omega) _ _ _ _ _ _) (by omega),ia.base (jl (ae OM) (by omega) _ _ _ _ _ _) (by omega),ae AP,?_,?_,?_,?_,ae XA⟩
     ·intro k h1 h2;have:=(ae LG k h1).2;have:=((ae OP).lt k h2).1;omega
     ·intro k h1 h2;have:=(ae LG k h1).2;have:=((ae OM).lt k h2).1;omega
     ·intro k h1 h2;have:=(ae LN k h1).2;have:=((ae OP).lt k h2).1;omega
     intro k h1 h2;have:=(ae LN k h1).2;have:=((ae OM).lt k h2).1;omega
theorem rn(w0:World)(ht:ja w0):iS w0 35:=by
 intro w v b hb hv;have HV:=af hv;have HT:=af (ht.below hb);obtain⟨p,c,rfl,-⟩:=hv;clear ht hb;obtain⟨wR,hwR⟩:∃ wR,w.alloc (.cells #[.slice none 0 0,.slice none 0 0,.slice none 0 0,.slice none 0 0,.int .i64 0,.int .i64 0] 87)=wR:=⟨_,rfl⟩
 have QR:=af (cM w (.cells #[.slice none 0 0,.slice none 0 0,.slice none 0 0,.slice none 0 0,.int .i64 0,.int .i64 0] 87));have BR:=af ((aY w.heap.size w).alloc (aL _) (.cells #[.slice none 0 0,.slice none 0 0,.slice none 0 0,.slice none 0 0,.int .i64 0,.int .i64 0] 87));rw [hwR]at QR BR;have hlR:w.heap.size<wR.heap.size:=ah (ae QR);have AA:=af hwR;clear hwR;go_enter func35,ntmps35;go_wp2_with fail;rw [ae AA];refine(tO b _ _ ((ae HT).below (ae BR)) ((ae HV).below (ae BR))).mono ?_;rintro e w1 ⟨hb1,vg,vn,vp,vm,rfl,og,on,op,om,ha⟩;have BW:=af ((ae BR).trans (hb1.mono (ae BR).size));have HR1:=(hb1.block _ hlR).trans (ae QR);obtain⟨r0,r1,r2,r3,r4,r5⟩:=dF HR1;have hf:∀ o,w1.frozen? ⟨w.heap.size,o,none⟩=false:=λ o=>aj HR1
 have OG:=af og;have ON:=af on;have OP:=af op;have OM:=af om;have HA:=af ha;obtain⟨q1,k1,rfl⟩:=aI og;obtain⟨q2,k2,rfl⟩:=aI on;obtain⟨q3,k3,rfl⟩:=aI op;obtain⟨q4,k4,rfl⟩:=aI om;clear hb1 og on op om ha HR1;go_wp2
 refine gH (v:=.tuple #[.agg #[.slice q1 (cl b).gone.length k1,.slice q2 (cl b).nets.length k2,.slice q3 (cl b).path.length k3,.slice q4 (cl b).marks.length k4,.int .i64 (cl b).pref,.int .i64 (cl b).med],.int .i64 (lP b)]) (by simp [results,results35,go_sem,r0,r1,r2,r3,r4,r5]) rfl ?_;refine⟨iI (ae BW) (aL _) _ _ _ _ _ _,_,_,_,_,rfl,?_,?_,?_,?_,ae HA⟩
 ·exact cQ.base (jl (ae OG) hlR _ _ _ _ _ _) (by omega)
 ·exact cQ.base (jl (ae ON) hlR _ _ _ _ _ _) (by omega)
 ·exact ia.base (jl (ae OP) hlR _ _ _ _ _ _) (by omega)
 exact ia.base (jl (ae OM) hlR _ _ _ _ _ _) (by omega)
theorem rP(w0:World)(ht:ja w0):iS w0 51:=λ w v b hb hv=>tO b v w (ht.below hb) hv
theorem eC.base{w:World}{base b2:Nat}{v:Value}{l:List TV}(h:eC w base v l)(hb:b2<=base):eC w b2 v l :=
 ⟨aZ h.row hb,λ x hx=>⟨aZ (h.bytes x hx).1 hb,(h.bytes x hx).2⟩⟩
def jE(n0:Nat)(w0 w:World)(sb pb cap:Nat)(cs:Array Value)(ps:List aW)(v:Value)(w':World):Prop :=
 ∃ T cs' ps',eC w' w.heap.size v T/\bG n0 w0 w' sb pb cap cs' ps'/\Fr (dA pb cs ps.length) w (dA pb cs' ps.length) w'/\T.map (λ x=>(x.peer,x.m))=fh (cX (ps.map (·.rts))) 0 ps/\ps'.length=ps.length/\∀ i (hi:i<ps.length) (hi':i<ps'.length),tf (cX (ps.map (·.rts))) i ps[i] ps'[i]
theorem jE.behind{n0:Nat}{w0 w w1 w':World}{sb pb cap n:Nat}{cs cs1:Array Value}{ps:List aW}{v:Value}(hn:n=ps.length)(hf:Fr (dA pb cs n) w (dA pb cs1 n) w1)(h:jE n0 w0 w1 sb pb cap cs1 ps v w'):jE n0 w0 w sb pb cap cs ps v w':=by
 subst hn;obtain⟨T,cs',ps',h1,h2,h3,h4⟩:=h;exact⟨T,cs',ps',h1.base hf.size,h2,hf.trans h3,h4⟩
theorem jE.slice{n0:Nat}{w0 w w':World}{sb pb cap:Nat}{cs:Array Value}{ps:List aW}{v:Value}(h:jE n0 w0 w sb pb cap cs ps v w'):∃ q n c,v=.slice q n c:=by
 obtain⟨T,cs',ps',h1,_⟩:=h;obtain⟨q,c,e⟩:=al h1.row;exact⟨q,_,c,e⟩
theorem bG.noView{n0:Nat}{w0 w:World}{sb pb cap:Nat}{cs:Array Value}{ps:List aW}(h:bG n0 w0 w sb pb cap cs ps){i:Nat}(hi:i<ps.length):bG n0 w0 (w.setCell ⟨pb,i*7+6,none⟩ (.slice none 0 0)) sb pb cap (cs.setIfInBounds (i*7+6) (.slice none 0 0)) (ps.set i { ps[i]with view:=[] })/\Fr (dA pb cs ps.length) w (dA pb (cs.setIfInBounds (i*7+6) (.slice none 0 0)) ps.length) (w.setCell ⟨pb,i*7+6,none⟩ (.slice none 0 0)):=by
 obtain⟨v,hv,_⟩:=(h.at_ i hi).c6;exact⟨h.setView hi (i7 _ _ _ _) (λ k e=>by cases e) (dG _) (λ y hy=>by cases hy),bB.spFr (n0:=n0) (l':=[]) ⟨by omega,by omega⟩ hv (bB.nil h.blk)⟩
theorem bG.noRts{n0:Nat}{w0 w:World}{sb pb cap:Nat}{cs:Array Value}{ps:List aW}(h:bG n0 w0 w sb pb cap cs ps){i:Nat}(hi:i<ps.length):bG n0 w0 (w.setCell ⟨pb,i*7+5,none⟩ (.slice none 0 0)) sb pb cap (cs.setIfInBounds (i*7+5) (.slice none 0 0)) (ps.set i { ps[i]with rts:=[] })/\Fr (dA pb cs ps.length) w (dA pb (cs.setIfInBounds (i*7+5) (.slice none 0 0)) ps.length) (w.setCell ⟨pb,i*7+5,none⟩ (.slice none 0 0)):=by
 obtain⟨v,hv,_⟩:=(h.at_ i hi).c5;exact h.setRts hi hv (bB.nil h.blk) List.Pairwise.nil (dG _) λ y hy=>by cases hy
theorem jb.rise{ms:List aJ}{l l':List Rv}{rs:List Rt}(h:jb ms l rs l')(hl:eo l):eo l':=by
 induction h with
 | nil=>exact hl
 | cons a _ ih =>
  rcases a with⟨_,rfl⟩|⟨_,y,_,rfl⟩
  ·exact ih (lh hl)
  exact ih (uP hl)
theorem jb.ok{ms:List aJ}(hg:gh ms){l l':List Rv}{rs:List Rt}(h:jb ms l rs l')(hr:∀ r∈rs,dh r=true)(hl:∀ y∈l,dh y.r=true):∀ y∈l',dh y.r=true:=by
 induction h with
 | nil=>exact hl
 | cons a _ ih =>
  refine ih (λ r h=>hr r (by simp [h])) λ z hz=>?_
  rcases a with⟨_,rfl⟩|⟨hv,y,hy,rfl⟩
  ·exact hl z (tQ hz)
  rcases E7 hz with rfl|hz
  ·rw [hy];exact(hg _ (hr _ (by simp)) hv).1
  exact hl z hz
theorem MD{n0:Nat}{w0 w:World}{sb pb cap i:Nat}{cs:Array Value}{ps:List aW}(hN:n0=w0.heap.size)(hE:fU w0 48)(h:bG n0 w0 w sb pb cap cs ps)(hi:i<ps.length)(hup:ps[i].up=false) :
  Calls prog 37 #[.pointer (some ⟨sb,0,none⟩),.int .i64 i] w λ e w'=>∃ v,e=.returned (.tuple #[v,.int .i64 0])/\jE n0 w0 w sb pb cap cs (ps.set i { ps[i]with up:=true }) v w':=by
 have hs:w.cell? ⟨sb,0,none⟩=some (.slice (some ⟨pb,0,none⟩) ps.length cap):=ag h.spk;have hu:w.cell? ⟨pb,i*7+4,none⟩=some (.bool false):=(ag h.blk).trans (by rw [(h.at_ i hi).c4,hup]);have hz:w.frozen? ⟨pb,i*7+4,none⟩=false:=aj h.blk;have AA:=af (rh w sb pb ps.length cap i false false hs hi hu);rw [aS rfl]at AA;obtain⟨h1,f1⟩:=h.setUp hi true;have BA:=af (lm hN hE h1);have F1:=af f1;clear h h1 f1 hE;go_enter func37,ntmps37
 go_wp2_with (first
  | (go_at_call 49;refine(ae AA).mono ?_;rintro e w1 ⟨rfl,rfl⟩)
  | (go_at_call 50;refine(ae BA).mono ?_;rintro e w2 ⟨v,T,cs',ps',rfl,hr⟩;have HR:Hid (jE n0 w0 _ sb pb cap _ _ v w2):=(af ⟨T,cs',ps',hr⟩);clear hr))
 refine gH (v:=.tuple #[v,.int .i64 0]) (by simp [results,results37,go_sem]) rfl ?_;exact⟨v,rfl,(ae HR).behind (by rw [List.length_set]) (ae F1)⟩
theorem Hf{n0:Nat}{w0 w:World}{sb pb cap i:Nat}{cs:Array Value}{ps:List aW}(hN:n0=w0.heap.size)(hE:fU w0 48)(h:bG n0 w0 w sb pb cap cs ps)(hi:i<ps.length)(hup:ps[i].up=true) :
  Calls prog 34 #[.pointer (some ⟨sb,0,none⟩),.int .i64 i] w λ e w'=>∃ v,e=.returned (.tuple #[v,.int .i64 0])/\jE n0 w0 w sb pb cap cs (ps.set i { ps[i]with up:=false,rts:=[],view:=[] }) v w':=by
 have hs:w.cell? ⟨sb,0,none⟩=some (.slice (some ⟨pb,0,none⟩) ps.length cap):=ag h.spk;have a:=h.at_ i hi;have hu:w.cell? ⟨pb,i*7+4,none⟩=some (.bool true):=(ag h.blk).trans (by rw [a.c4,hup]);obtain⟨v5,e5,_⟩:=a.c5;obtain⟨v6,e6,_⟩:=a.c6;have h5:w.cell? ⟨pb,i*7+5,none⟩=some v5:=(ag h.blk).trans e5;have h6:w.cell? ⟨pb,i*7+6,none⟩=some v6:=(ag h.blk).trans e6;have hz:∀ j,w.frozen? ⟨pb,j,none⟩=false:=λ j=>aj h.blk
 have AA:=af (rh w sb pb ps.length cap i true true hs hi hu);rw [aS rfl]at AA;obtain⟨h1,f1⟩:=h.setUp hi false;obtain⟨h2,f2⟩:=h1.noRts (by rw [List.length_set];exact hi);obtain⟨h3,f3⟩:=h2.noView (by rw [List.length_set,List.length_set];exact hi);simp only [List.length_set,List.getElem_set_self,List.set_set]at h2 h3 f2 f3;have BA:=af (lm hN hE h3);have F1:=af ((f1.trans f2).trans f3);clear h h1 f1 hE a e5 e6 h2 h3 f2 f3;go_enter func34,ntmps34
 go_wp2_with (first
  | (go_at_call 49;refine(ae AA).mono ?_;rintro e w1 ⟨rfl,rfl⟩)
  | (go_at_call 50;refine(ae BA).mono ?_;rintro e w2 ⟨v,T,cs',ps',rfl,hr⟩;have HR:Hid (jE n0 w0 _ sb pb cap _ _ v w2):=(af ⟨T,cs',ps',hr⟩);clear hr))
 refine gH (v:=.tuple #[v,.int .i64 0]) (by simp [results,results34,go_sem]) rfl ?_;exact⟨v,rfl,(ae HR).behind (by rw [List.length_set]) (ae F1)⟩
