/- part -/
import Derived.Test.YtphhnjljlllnlaaGreatDoorMrkA
import Derived.Test.YtphhnjljlllnlaaGreatDoorWayC
set_option maxRecDepth 100000
set_option maxHeartbeats 4000000
namespace Go.Proofs.YtphhnjljlllnlaaGreatDoor
open Go.Proofs.Tryz
open Or
open Go.RowKit
theorem GZ{l:List It}{ms:List aJ}{k' f:Nat}(hl:kv l=true)(hs:(eh l).length<=600)(hm:xW (bO 0 l) (D0 (bO 0 l) f) 0 0 k' ms)(hne:ms≠[])(hn:ms.length<100)(he:ce (bO 0 l) k'=1)(h0:((bO 0 l)[0]?.getD fZ).text.data.toList≠[])
  (h5:ce (bO 0 l) 0≠5) (h6:ce (bO 0 l) 0≠6):oT (br (eh l)) ms:=by
 intro w ht;have ha:=LO hl;have hsz:(br (eh l)).size<=600:=by rw [bM];exact hs
 obtain⟨hts,hpos⟩:=Eu hsz;obtain⟨st,hp,g⟩:=yS (n:=100) hm hne hn he h0;have hk0:an (bO 0 l) qE=ce (bO 0 l) 0:=(⟨rfl,rfl,rfl,rfl,rfl,h0,inl rfl⟩:cR (bO 0 l) qE 0 0).kind
 have hpage:st.page≠[]:=by
  rcases g.page with h|h
  ·subst h;exfalso;have hd:=hm;cases hd with
   | nil=>exact hne rfl
   | cons h1 h2 =>
    have:∀{k k':Nat} {l':List aJ},xW (bO 0 l) (D0 (bO 0 l) f) 0 k k' l'->True:=λ _=>trivial
    have hz:ce (bO 0 l) 0=1:=he;obtain⟨s1,e1,g1⟩:=h1 qE ⟨rfl,rfl,rfl,rfl,rfl,h0,inl rfl⟩;cases f with
    | zero=>rw [D0,cH]at e1;cases e1
    | succ f =>
     rw [D0,cH,hk0,hz,aG (by decide),aG (by decide),aG (by decide),aG (by decide),aG (by decide),aG (by decide),aG (by decide),aG (by decide),aG (by decide)]at e1;cases e1
  exact h
 rw [<-ha]at hp hk0 h5 h6;have IS:∀ pb,gA pb (fJ (br (eh l))) (iQ (fJ (br (eh l)))):=λ pb=>vh hts 100 20
 have IH:∀ pb,ib pb (fJ (br (eh l))) (D0 (fJ (br (eh l))) f):=λ pb =>
  xH hts 100 (by decide) H8 (λ _=>qc) (λ _=>oC) (λ _=>p8) (IS pb) (qP hts (L9 hts (IS pb)) 100) f
 exact Mq _ hsz w ht hts (n:=100) (by decide) IH hpos (by rw [hk0];exact h5) (by rw [hk0];exact h6) hp g.syn g.nam g.num (pD ms) hpage
def cZ:List It:=[.wo 9,.sp,.wo 4,.sp,.sg 60,.sp,.nm 100,.sp,.wo 10,.sp,.sg 123,.sp,.wo 3,.sg 59,.sp,.sg 125,.sp,.wo 8,.sp,.nm 7,.sg 59,.sp,.wo 2,.sg 59]
def kx:List aJ:=[gD (H7 oJ (ie 100)) [ci 2] [],dM 7,ci 1]
theorem rK:br (eh cZ)=⟨#[105,102,32,112,114,101,102,32,60,32,49,48,48,32,116,104,101,110,32,123,32,114,101,106,101,99,116,59,32,125,32,112,114,101,112,101,110,100,32,55,59,32,97,99,99,101,112,116,59]⟩:=by
 have h1:Lib.decDigits 100=[49,48,48]:=by rw [dW,aG (by decide),dW,aG (by decide),dW,aS (by decide)];rfl
 have h2:Lib.decDigits 7=[55]:=by rw [dW,aS (by decide)];rfl
 simp only [cZ,eF,It.bytes,h1,h2]
 rfl
theorem Au:ui cZ=[(14,0),(9,0),(40,0),(2,100),(15,0),(29,0),(8,0),(27,0),(30,0),(13,0),(2,7),(27,0),(7,0),(27,0),(1,0)]:=by decide +kernel
theorem sI(i:Nat)(q:Int)(h:(([(14,0),(9,0),(40,0),(2,100),(15,0),(29,0),(8,0),(27,0),(30,0),(13,0),(2,7),(27,0),(7,0),(27,0),(1,0)]:List (Int×Int))[i]?.getD (0,0)).1=q):ce (bO 0 cZ) i=q:=by
 rw [LP,Au];exact h
theorem EL(i:Nat)(q:Int)(h:(([(14,0),(9,0),(40,0),(2,100),(15,0),(29,0),(8,0),(27,0),(30,0),(13,0),(2,7),(27,0),(7,0),(27,0),(1,0)]:List (Int×Int))[i]?.getD (0,0)).2=q):zv (bO 0 cZ) i=q:=by
 rw [LR,Au];exact h
theorem Db:xW (bO 0 cZ) (D0 (bO 0 cZ) 3) 0 0 14 kx:=by
 have k:=sI;have n3:zv (bO 0 cZ) 3=100:=EL 3 _ rfl;have n10:zv (bO 0 cZ) 10=7:=EL 10 _ rfl
 have hc:bX (bO 0 cZ) (Np (bO 0 cZ)) 0 1 4 (some (H7 oJ (ie 100))):=by
  refine IQ (JN (CK (k1:=2) (nS (mu (k 1 9 rfl)) (by rw [k 2 40 rfl];decide) (by rw [k 2 40 rfl];decide) (by decide)) (k 2 40 rfl) (nS (k1:=4) ?_ (by rw [k 4 15 rfl];decide) (by rw [k 4 15 rfl];decide) (by decide))) (by rw [k 1 9 rfl];decide)) (by rw [k 4 15 rfl];decide) (by rw [k 4 15 rfl];decide) (by decide);have:=jQ (ts:=bO 0 cZ) (n:=100) (f:=19) (d:=0) (k 3 2 rfl);rw [n3]at this;exact this
 have hb:bX (bO 0 cZ) (ef (bO 0 cZ) (D0 (bO 0 cZ) 2) 100) 0 5 9 ([ci 2].map some) :=
  jc (k':=8) (k 5 29 rfl) (by decide) (by decide) (.cons (zj (k 6 8 rfl) rfl (k 7 27 rfl)) (.nil (mt (by rw [k 8 30 rfl];decide) (by rw [k 8 30 rfl];rfl)))) (by decide) (k 8 30 rfl)
 refine .cons (k1:=9) (Kr (k 0 14 rfl) rfl hc (k 4 15 rfl) hb (by rw [k 9 13 rfl];decide)) (.cons (k1:=12) ?_ (.cons (k1:=14) (iz (k 12 7 rfl) rfl (k 13 27 rfl)) (.nil (mt (by rw [k 14 1 rfl];decide) (by rw [k 14 1 rfl];rfl)))));have:=oP (ts:=bO 0 cZ) (n:=100) (f:=2) (ok:=H8) (sum:=iQ (bO 0 cZ)) (cnd:=Np (bO 0 cZ)) (d:=0) (k 9 13 rfl) rfl (k 10 2 rfl) (by rw [n10];decide) (by rw [n10];decide) (k 11 27 rfl);rw [n10]at this;exact this
theorem Dc:oT (br (eh cZ)) kx :=
 GZ (by decide +kernel) (by rw [<-bM,rK];decide) Db (by simp [kx]) (by simp [kx]) (sI 14 1 rfl) (by decide +kernel) (by rw [sI 0 14 rfl];decide) (by rw [sI 0 14 rfl];decide)
theorem GT(t:ByteArray):0<=(lf t).2/\(lf t).2<=32:=by
 unfold lf;cases h:mG t with
 | none=>exact⟨Int.le_refl _,by decide⟩
 | some p =>
  unfold mG at h;split at h
  ·split at h
   ·cases h
   split at h
   ·rename_i hb;cases h
    have h2:dX (_,jy (pE t) 32):=of_decide_eq_true hb.2;exact h2.2.1
   cases h
  cases h
theorem Af(t:ByteArray):0<=(dC t).len/\(dC t).len<=32:=by
 cases h:gR t 4294967295 with
 | true=>rw [dC,aS h];exact(by decide:(0:Int)<=0/\(0:Int)<=32)
 | false =>
  rw [dC,aG (by rw [h];decide)];cases h2:(mG t).isSome with
  | true=>rw [aS rfl];exact GT t
  | false=>rw [aG (by decide)];exact(by decide:(0:Int)<=0/\(0:Int)<=32)
theorem tY(s:ByteArray):0<=(de s).len/\(de s).len<=32:=by
 cases h:fk (bt s 0)with
 | true=>rw [de,aS h];exact(by decide:(0:Int)<=0/\(0:Int)<=32)
 | false =>
  rw [de,aG (by rw [h];decide)];cases h2:je (bt s 0)with
  | true=>rw [aS rfl];exact Af _
  | false=>rw [aG (by decide)];exact(by decide:(0:Int)<=0/\(0:Int)<=32)
theorem qJ(s:ByteArray):∀ f k,sZ (dP s f k)
 | 0,_,t,h=>by cases h
 | f+1,k,t,h=>by
  rw [dP]at h;split at h
  ·split at h
   ·exact qJ s f _ t h
   split at h
   ·rw [List.mem_singleton.1 h];exact tY _
   rcases List.mem_cons.1 h with rfl|h
   ·exact tY _
   exact qJ s f _ t h
  rw [List.mem_singleton.1 h];exact⟨Int.le_refl _,by show(0:Int)<=32;decide⟩
theorem Is(s:ByteArray):sZ (fJ s):=qJ s _ _
def vI(w:World)(A:Nat->Prop)(v:Value):Option aP->Prop
 | none=>jD v
 | some m=>ax w A (kP v m)
theorem vI.fnv{w:World}{A:Nat->Prop}{v:Value}{o:Option aP}(h:vI w A v o):jD v:=by
 cases o with
 | none=>exact h
 | some m =>
  obtain⟨K,g,lb,h1,_⟩:=ax.now h;exact inl ⟨_,_,_,h1⟩
def KZ(pb:Nat)(ts:List ak)(w:World)(D O:Nat->Prop)(r:RS×Option aP)(e:Ending)(w':World):Prop :=
 ∃ v O',e=.returned v/\RA w' pb ts r.1 D O'/\Fr O w O' w'/\vI w' (cW O' D w.heap.size) v r.2/\Ok ts r.1
theorem Tryz.neNilW(w:World):(Sem.run prog (binOp BinOp.neq 220 .nilFunc .nilFunc) w)=.ok (.bool false) w:=by kernel_rfl
theorem Tryz.neFnW(f:Fn)(a b:Array Value)(w:World):(Sem.run prog (binOp BinOp.neq 220 (.func f a b) .nilFunc) w)=.ok (.bool true) w:=by kernel_rfl
theorem Eh{pb:Nat}{ts:List ak}(ht:bY ts){w:World}{st:RS}{D O:Nat->Prop}(h:RA w pb ts st D O)(hk:Ok ts st) :
  Calls prog 279 #[au pb 0] w (KZ pb ts w D O (gF ts st)):=by
 have EA:=af (bL h hk ht 4);have CA:=af (bT (k:=4) hk ht (by decide));have HW:=af (show gF ts st=(match fC (aC ts 4 st).1.defs (aC ts 4 st).2.text with|some s=>((aC ts 4 st).1,some s)|none=>(eJ (aC ts 4 st).1 (aC ts 4 st).2.at_,none))from rfl);clear h hk ht;generalize aC ts 4 st=P at *;obtain⟨s1,t⟩:=P;dsimp only at CA HW;generalize gF ts st=RS2 at *;have hbf:=Tryz.neNilW;have hbg:=Tryz.neFnW;go_enter func279,ntmps279;go_wp2_with (go_at_call 139;refine(ae EA).mono ?_;clear EA;rintro e w1 ⟨rfl,O1,hr1,hf1⟩;have HR:=af (hr1.alloc (aQ t));have HF:=af (hf1.alloc (aQ t));have HN:=af (And.intro (cM w1 (aQ t)) (show ¬O1 w1.heap.size from λ ho=>by have:=hr1.lt ho;omega));obtain⟨dv,xs,hc,hd,hl,hrep⟩:=(hr1.alloc (aQ t)).defsV;obtain⟨q,c,hq⟩:=hd.form;have HD:=af hd;have DA:=af (And.intro hl hrep);clear hr1 hf1 hd hl hrep;dsimp only;subst hq)
 obtain⟨W1,hW1⟩:∃ W1,w1.alloc (aQ t)=W1:=⟨_,rfl⟩
 rw [hW1]at HR HF HN HD DA;unfold aQ at hW1;rw [hW1];have hln:=(ae HD).len;unfold maxLen at hln;have hwf:=(ae HF).size;have hn1:w1.heap.size<W1.heap.size:=ah (ae HN).1;clear hc;go_loopw [13] (λ i wr=>∃ j:Nat,j<=xs.length/\i=.int .i64 (j:Nat)/\Hid (fC (s1.defs.drop j) t.text=fC s1.defs t.text)/\Below W1.heap.size W1 wr) (λ i _=>xs.length-(intOf i).toNat)
 case atStart=>exact⟨0,dG _,rfl,rfl,aY _ _⟩
 case round =>
  obtain⟨j,hj,rfl,BA,hbl⟩:=hrel;have AA:=af hbl;have hsb:=hbl.size;clear hbl;by_cases hlt:j<xs.length
  ·obtain⟨g,c',hq⟩:=(ae HD).some_ (λ e=>by rw [e]at hlt;simp at hlt)
   injection hq with hq1 hq2 hq3
   subst hq1 hq3;obtain⟨hgl,hcell⟩:=((ae HD).below (ae AA)).cell g c rfl;have hx:xs[j]?=some xs[j]:=gW hlt;have hjd:j<s1.defs.length:=by rw [<-(ae DA).1];exact hlt
   obtain⟨k1,k2,k3⟩:=hcell j _ hx;have hrp:=(ae DA).2 j s1.defs[j] xs[j] (gW hjd) hx;have hfn:=(ae HD).fn xs[j] (ej _);have hdr:s1.defs.drop j=s1.defs[j]::s1.defs.drop (j+1):=List.drop_eq_getElem_cons hjd;have hfs:=ae BA;rw [hdr,fC]at hfs;have hnk:=((ae AA).block w1.heap.size hn1).trans (ae HN).1;have ct:wr.cell? ⟨w1.heap.size,2,none⟩=some (.string t.text):=ag hnk;have lw:w1.heap.size<wr.heap.size:=ah hnk;clear hcell hx hdr BA hnk;generalize s1.defs[j]=dd at *;generalize xs[j]=X at *;obtain⟨n,v1,v2⟩:=X;obtain⟨hp1,_,hp2⟩:=hrp;dsimp only at k1 k2 k3 hfn hp1 hp2;subst hp1;obtain⟨h2,h1⟩:=hfn;cases hE:dd.name.toList==t.text.toList with
   | true =>
    cases hS:dd.way with
    | some m =>
     rw [hS]at hp2 hfs;dsimp only at hp2;rw [hE,aS (by simp)]at hfs;have hR2:RS2=(s1,some m):=by rw [ae HW,<-hfs]
     obtain⟨K0,g0,lb0,hv0,_⟩:=ax.now hp2;have GA:=af hp2;subst hR2;clear hp2 hfs h1;subst hv0;rcases h2 with⟨f',a',b',rfl⟩|rfl <;>
     ·go_wp2_with fail;go_ret;refine⟨_,_,rfl,((ae HR).stay (ae AA)).alloc _,((ae HF).below (ae AA)).alloc _,?_,ae CA⟩;exact ax.mono (ae GA) (by simp;omega) (λ k hk ha=>⟨(mC _ _ _ (by omega)).trans ((ae AA).block k hk),ha.1,inl ha.2⟩) (λ _ _ h=>h)
    | none =>
     rw [hS]at hp2 hfs;dsimp only at hp2;rw [aG (by simp)]at hfs;have BA:=af hfs;clear hfs h1;subst hp2;rcases h2 with⟨f',a',b',rfl⟩|rfl <;>
     ·go_wp2_with fail;exact⟨⟨j+1,by omega,by go_num,BA,(ae AA).alloc hsb _⟩,by simp [intOf];omega⟩
   | false =>
    rw [hE,aG (by simp)]at hfs;have BA:=af hfs;clear hfs hp2;rcases h1 with⟨f,a,b,rfl⟩|rfl<;>rcases h2 with⟨f',a',b',rfl⟩|rfl <;>
    ·go_wp2_with fail;exact⟨⟨j+1,by omega,by go_num,BA,(ae AA).alloc hsb _⟩,by simp [intOf];omega⟩
  have hfs:=ae BA;rw [List.drop_eq_nil_of_le (by rw [<-(ae DA).1];omega),fC]at hfs;have hR2:RS2=(eJ s1 t.at_,none):=by rw [ae HW,<-hfs]
  subst hR2;have hnk:=((ae AA).block w1.heap.size hn1).trans (ae HN).1;have ct:wr.cell? ⟨w1.heap.size,1,none⟩=some (.int .i64 t.at_):=ag hnk;have IA:=af (λ q=>nC (((ae HR).stay (ae AA)).drewN q) t.at_);clear hfs BA hnk;go_wp2_with fail;go_region_with (go_at_call 154;refine((ae IA) 1).mono ?_;rintro e w3 ⟨rfl,hr3,hf3⟩)
  all_goals
   have HA:=af hr3;have FA:=af ((((ae HF).below (ae AA)).drewN 1).trans hf3);clear hr3 hf3;go_wp2_with fail;go_ret;exact⟨_,_,rfl,ae HA,ae FA,inr rfl,⟨(ae CA).next,(ae CA).page,(ae CA).gap⟩⟩
theorem Mm{W:World}{b:Nat}{r:Rt}{pv mv:Value}(h:dp W b r pv mv):f9 W pv r.path:=by
 rcases h.path.2 with⟨h1,h0⟩|⟨g,cap,cur,hv,_,hg,hnc,_,hcs,htk⟩
 ·have hnil:r.path=[]:=List.length_eq_zero_iff.mp h0;exact⟨none,0,by rw [h1,hnil];rfl,inl hnil⟩
 refine⟨_,_,hv,inr ⟨g,0,rfl,ah hg,λ j hj=>?_⟩⟩;rw [ag hg];have h2:(cur.toList.take (r.path.length*1))[j]?=some (.int .i64 r.path[j]):=by rw [htk];simp [aB,hj]
 rw [List.getElem?_take,aS (by omega)]at h2;simpa using h2
theorem yN(W:World)(b:Nat)(r:Rt)(pv mv:Value)(h:dp W b r pv mv)(va:Value)(ma:aP)(Ka:Nat->Prop)(ha:kP va ma Ka W)(B1:Nat)(c1:W.cell? ⟨B1,0,none⟩=some va) :
  Calls prog 287 (#[au b 0]++#[au B1 0]) W λ e W'=>e=.returned (jX (wW ma r))/\Below W.heap.size W W':=by
 have HP:=af (Mm h);have hn:=h.n1;have r2:W.cell? ⟨b,2,none⟩=some pv:=ag h.blk;obtain⟨g,lb,rfl,eg,hc⟩:=ha;have HA:=af (λ(V:World) (hV:Below W.heap.size W V)=>Jy V (.func (.func g) #[] lb) ma Ka ⟨g,lb,rfl,eg,λ U pv l f hU=>hc U pv l f (hV.trans (hU.mono hV.size))⟩ pv r.path ((ae HP).below hV) hn);obtain⟨a,c,hpv⟩:=al h.path;have EQ:Hid (jX (wW ma r)=.tuple #[.bool (@decide (ma r.path) (Classical.propDecidable _)),.bool true]):=rfl;clear h hc eg hn HP;rw [ae EQ];subst hpv;go_enter func287,ntmps287;go_wp2_with fail;go_region_with (go_at_call 288;refine((ae HA) _ (aY _ _).drew).mono ?_;rintro e w1 ⟨⟨B,rfl,hB⟩,hb1⟩;have AA:=af (((aY W.heap.size W).drew).trans (hb1.mono (aL _)));have HX:=af hB;clear hb1 hB)
 all_goals
  go_wp2_with fail
  go_ret2
  refine⟨?_,ae AA⟩
  have hq:B=@decide (ma r.path) (Classical.propDecidable _):=by
   have h:=ae HX;cases B with
   | true=>exact(@decide_eq_true _ (Classical.propDecidable _) (h.1 rfl)).symm
   | false=>exact(@decide_eq_false _ (Classical.propDecidable _) (λ hm=>by have:=h.2 hm;cases this)).symm
  rw [hq];rfl
theorem vU(w:World)(va:Value)(ha:jD va) :
  Calls prog 278 #[va] w λ e w'=>e=.returned (.func (.func 287) #[] #[au w.heap.size 0])/\w'=(w.alloc (aE va 220)):=by
 have hmf:∀(fn:Fn) (first cap:Array Value) (w:World),(Instr.makeFunc fn first cap).run prog w=.ok (.func fn first cap) w:=λ _ _ _ _=>rfl
 rcases ha with⟨f,a,b,rfl⟩|rfl <;>
 ·go_enter func278,ntmps278;go_wp2_with fail;go_ret;exact⟨rfl,rfl⟩
theorem Tryz.entPathLike:Enters prog 287:=enters_of func287 (by kernel_rfl) rfl
theorem vI.alloc{w:World}{A:Nat->Prop}{v:Value}{o:Option aP}(h:vI w A v o)(b:Obj):vI (w.alloc b) A v o:=by
 cases o with
 | none=>exact h
 | some m=>exact ax.mono h (bE w b A).1 (bE w b A).2 (λ _ _ h=>h)
theorem vI.fr{w w':World}{O O' D:Nat->Prop}{n m:Nat}{v:Value}{o:Option aP}(h:vI w (cW O D n) v o)(hf:Fr O w O' w')(hm:m<=n):vI w' (cW O' D m) v o:=by
 cases o with
 | none=>exact h
 | some x=>exact ax.fr h hf hm
theorem yM(w:World)(va:Value)(oa:Option aP)(A:Nat->Prop)(hA:∀ k,w.heap.size<=k->A k)(ha:vI w A va oa) :
  Calls prog 278 #[va] w λ e w'=>∃ v,e=.returned v/\w'=(w.alloc (aE va 220))/\gJ w' A v (oa.map wW):=by
 refine(vU w va ha.fnv).mono ?_;rintro e w' ⟨rfl,rfl⟩;refine⟨_,rfl,rfl,?_⟩;cases oa with
 | none=>exact inl ⟨_,_,_,rfl⟩
 | some ma =>
  have h1:ax _ A (kP va ma):=ha.alloc (aE va 220);refine ax.one h1 (λ k=>k=w.heap.size) (λ k hk=>⟨by subst hk;simp,hA k (by omega)⟩) (λ K1 _ q1 W hW hk=>?_);exact⟨_,_,rfl,Tryz.entPathLike,λ b r pv mv hr=>yN W b r pv mv hr va ma K1 (q1 W hW (λ k h=>hk k (inl h))) _ (ag ((hk _ (inr rfl)).trans (cM w _)))⟩
theorem Hv{pb:Nat}{ts:List ak}(ht:bY ts){w:World}{st:RS}{D O:Nat->Prop}(h:RA w pb ts st D O)(hk:Ok ts st)(e21:an ts st=23) :
  Calls prog 262 #[au pb 0] w (lF pb ts w D O ((gF ts (aC ts 24 (b9 ts st)).1).1,(gF ts (aC ts 24 (b9 ts st)).1).2.map wW)):=by
 have HR:=af h;have HF:=af (dw O w);have HK:=af hk;have HT:=af ht;have HE:=af e21;have n21:=af (show an ts st≠21 by rw [e21];decide);have HG:=af (bV hk ht e21 (by decide));have AA:=af (bT (k:=24) (ae HG) ht (by decide));clear h hk ht e21;go_enter func262,ntmps262
 go_wp2_with (first
  | (go_at_call 137;refine(aH (ae HR) (ae HK) (ae HT) 21 (ae n21)).mono ?_;rintro e w1 ⟨rfl,hr1,hf1⟩;replace HR:=af hr1;replace HF:=af ((ae HF).trans hf1);clear hr1 hf1 n21)
  | (go_at_call 137;refine(bP (ae HR) (ae HK) (ae HT) 23 (ae HE)).mono ?_;rintro e w1 ⟨rfl,O1,hr1,hf1⟩;replace HR:=af hr1;replace HF:=af ((ae HF).trans hf1);clear hr1 hf1)
  | (go_at_call 139;refine(bL (ae HR) (ae HG) (ae HT) 24).mono ?_;rintro e w2 ⟨rfl,O2,hr2,hf2⟩;replace HR:=af hr2;replace HF:=af ((ae HF).trans hf2);clear hr2 hf2)
  | (go_at_call 279;refine(Eh (ae HT) (ae HR) (ae AA)).mono ?_;rintro e w3 ⟨v,O3,rfl,hr3,hf3,hv3,hk3⟩;have HV:=af (hv3.fr (dw _ _) (ae HF).size);have BA:=af hk3;have hfv:=hv3.fnv;replace HR:=af hr3;replace HF:=af ((ae HF).trans hf3);clear hr3 hf3 hv3 hk3))
 refine(yM _ v _ _ ((ae HR).newFree (ae HF)) (ae HV)).mono ?_;rintro e w4 ⟨v4,rfl,rfl,hv4⟩;have CA:=af hv4;replace HR:=af ((ae HR).alloc (aE v 220));replace HF:=af ((ae HF).alloc (aE v 220));clear hv4;go_wp2_with fail;go_ret;exact⟨_,_,rfl,ae HR,ae HF,ae CA,ae BA⟩
theorem mg(ts:List ak):∀(n:Nat) (st:RS) (z m:Bool) (r:RS×Bool×Bool),j7 ts n st z m=some r->r.1.defs=st.defs
 | 0,_,_,_,_,h=>by cases h
 | n+1,st,z,m,r,h=>by
  rw [j7]at h;split at h
  ·rw [mg ts n _ _ _ r h];rfl
  split at h
  ·rw [mg ts n _ _ _ r h];rfl
  split at h
  ·rw [mg ts n _ _ _ r h];rfl
  cases h;rfl
theorem vX{ts:List ak}{n:Nat}{A:aP}{st:RS}{r:RS×aP}(h:dY ts n A st=some r):r.1.defs=st.defs:=by
 unfold dY at h;split at h
 ·cases h
 rename_i s z m hx;cases h
 exact mg ts n st false false _ hx
theorem o5{ts:List ak}{n:Nat}{A:aP}{st:RS}{r:RS×Option aP}(h:ql (dY ts n A st)=some r):r.1.defs=st.defs:=by
 unfold ql at h;split at h
 ·cases h
 rename_i s m hx;cases h
 exact vX hx
theorem nf{α:Type}{rd:RS->Option (RS×Option α)}(h0:∀ st r,rd st=some r->r.1.defs=st.defs):∀(n:Nat) (st:RS) (l:List α) (r:RS×List α),cf rd n st l=some r->r.1.defs=st.defs
 | 0,_,_,_,h=>by cases h
 | n+1,st,l,r,h=>by
  rw [cf]at h;split at h
  ·cases h
  ·rename_i s hx;cases h
   exact h0 _ _ hx
  rename_i s x hx;rw [nf h0 n _ _ r h];exact h0 _ _ hx
theorem tj{ts:List ak}{rd:RS->Option (RS×aP)}(h0:∀ st r,rd st=some r->r.1.defs=st.defs):∀(n:Nat) (st:RS) (l:List aP) (r:RS×List aP),ou ts rd n st l=some r->r.1.defs=st.defs
 | 0,_,_,_,h=>by cases h
 | n+1,st,l,r,h=>by
  rw [ou]at h;split at h
  ·split at h
   ·cases h
   rename_i s m hx;rw [tj h0 n _ _ r h];exact h0 _ _ hx
  cases h;rfl
theorem rC(ts:List ak)(n:Nat):∀(f:Nat) (st:RS) (r:RS×aP),gL ts n f st=some r->r.1.defs=st.defs
 | 0,_,_,h=>by cases h
 | f+1,st,r,h=>by
  have hi:∀ st r,iM ts n (gL ts n f) st=some r->r.1.defs=st.defs:=λ st r h=>by
   unfold iM at h;split at h
   ·rw [o5 h,fq]
   split at h
   ·rw [o5 h];rfl
   split at h
   ·split at h
    ·cases h
    rename_i s m hx;rw [o5 h];show(aC ts 34 s).1.defs=_;have h1:=rC ts n f _ _ hx;dsimp only at h1;rw [aU,h1];show(aC ts 33 (if st.depth=8 then dL ts st else st)).1.defs=_;rw [aU];split<;>rfl
   cases h;rfl
  have hrw:∀ st r,li ts n (iM ts n (gL ts n f)) st=some r->r.1.defs=st.defs:=λ st r h=>by
   unfold li at h;split at h
   ·cases h
   rename_i s l hx;cases h
   have h1:=nf hi n st [] _ hx;dsimp only at h1 ⊢;rw [<-h1];split<;>rfl
  rw [gL]at h;unfold oX at h;split at h
  ·cases h
  rename_i s m hx;split at h
  ·cases h
  rename_i s2 l hy;cases h
  have h1:=tj hrw n _ _ _ hy;have h2:=hrw _ _ hx;dsimp only at h1 h2 ⊢;rw [h1,h2]
def CR(ts:List ak)(n f:Nat)(st:RS):Option (RS×Bool) :=
 if an ts st=6 then
  (match gL ts n f (aC ts 26 (bI ts (b9 ts st)).1).1 with
   | none=>none
   | some (s,m)=>some (ee (aC ts 27 s).1 ⟨(bI ts (b9 ts st)).2,none,some m⟩,true))
 else FP ts n st
def mW(ts:List ak)(n f:Nat):Nat->RS->Option RS
 | 0,st=>some st
 | k+1,st=>match CR ts n f st with
  | none=>none
  | some (s,true)=>mW ts n f k s
  | some (s,false)=>some s
def mf(ts:List ak)(n f:Nat)(stmt:RS->Option (RS×Option (Option aJ)))(st:RS):Option (RS×List (Option aJ)) :=
 match mW ts n f 8 st with
 | none=>none
 | some s=>jo ts n stmt s
theorem yR{pb:Nat}{ts:List ak}(ht:bY ts)(hL:sZ ts){tw:RS->Option (RS×Option (Option aJ))}(IH:ib pb ts tw)(n f:Nat)(hn:n<=1000)(IE:nH 141 pb ts (gL ts n f)){w:World}{st:RS}{r:RS×List (Option aJ)}{O:Nat->Prop}(h:RA w pb ts st (λ _=>False) O)(hk:Ok ts st)(hd0:st.defs=[])(hr:mf ts n f tw st=some r) :
  Calls prog 63 #[au pb 0] w (Ii pb ts w O r):=by
 unfold mf at hr;cases hs:mW ts n f 8 st with
 | none=>rw [hs]at hr;cases hr
 | some sF =>
 rw [hs]at hr;dsimp only at hr;unfold jo at hr;cases h1:cf tw n sF []with
 | none=>rw [h1]at hr;cases hr
 | some p =>
  obtain⟨s1,l⟩:=p;rw [h1]at hr;have hmf:∀(fn:Fn) (first cap:Array Value) (w:World),(Instr.makeFunc fn first cap).run prog w=.ok (.func fn first cap) w:=λ _ _ _ _=>rfl
  have HO:=af (λ W D O (hW:RA W pb ts sF D O) (hk:Ok ts sF)=>AZ ht IH n hn hW hk h1);have HT:=af ht;have IA:=af hL;have HA:=af IE;have hq:r=(if an ts (if l.length=0 then dL ts s1 else s1)=1 then(if l.length=0 then dL ts s1 else s1)else dL ts (if l.length=0 then dL ts s1 else s1),l):=(kd hr).symm;have HR:=af h;have HK:=af hk;have GA:=af hs;have hdl:st.defs.length=0:=by rw [hd0];rfl
  clear h hk ht IH h1 hr hs hL hd0 IE;generalize (if l.length=0 then dL ts s1 else s1)=s2 at *;go_enter func63,ntmps63;go_wp2_with fail;go_loopg [3] 8 (λ k i wr=>∃(j:Nat) (su:RS) (Dj Oj:Nat->Prop),i=.int .i64 (j:Int)/\j+k=8/\su.defs.length<=j/\RA wr pb ts su Dj Oj/\Fr O w Oj wr/\(∀ q,Dj q->w.heap.size<=q)/\Ok ts su/\mW ts n f (8-j) su=some sF)
  case atStart=>exact⟨0,st,_,O,rfl,rfl,by omega,ae HR,dw _ _,λ q hq=>hq.elim,ae HK,ae GA⟩
  case round =>
   clear HR HK GA;obtain⟨j,su,Dj,Oj,rfl,hjk,hdj,hr,hf,hDj,hk,hl⟩:=hrel;have HF:=af hf;have CA:=af hDj;have HK:=af hk;have hws:=hf.size;by_cases hj8:j<8
   ·rw [show 8-j=(7-j)+1 by omega,mW,CR]at hl;by_cases k6:an ts su=6
    ·rw [aS k6]at hl;cases hrg:gL ts n f (aC ts 26 (bI ts (b9 ts su)).1).1 with
     | none=>rw [hrg]at hl;cases hl
     | some q =>
      obtain⟨sq,mq⟩:=q;rw [hrg]at hl;dsimp only at hl
      have hdd:(aC ts 27 sq).1.defs=su.defs:=by
       rw [aU];have:=rC ts n f _ _ hrg;dsimp only at this;rw [this,aU,oH];rfl
      have HD:=af (Lt (ae HT) (ae HA) hr hk k6 (by rw [hdd];omega) hrg);have HL:=af hl
      have hdn:(ee (aC ts 27 sq).1 ⟨(bI ts (b9 ts su)).2,none,some mq⟩).defs.length<=j+1:=by
       show((aC ts 27 sq).1.defs++[_]).length<=_;rw [hdd];simp;omega
      clear hr hf hDj hk hl k6 hrg hdd;generalize ee (aC ts 27 sq).1 ⟨(bI ts (b9 ts su)).2,none,some mq⟩=sN at *;go_wp2_with (go_at_call 87;refine(ae HD).mono ?_;rintro e w1 ⟨rfl,D1,O1,hr1,hf1,hD1,hk1⟩;have FA:=af hr1;have EA:=af hk1;have DA:=af hD1;replace HF:=af ((ae HF).trans hf1);clear hr1 hf1 hD1 hk1)
      have hwr:=(ae HF).size;go_roundg (8-(j+1))
      case measure=>omega
      case rel=>exact⟨j+1,sN,D1,O1,by go_num,by omega,hdn,ae FA,ae HF,λ q hq=>((ae DA) q hq).elim ((ae CA) q) (λ h=>by omega),ae EA,by rw [show 8-(j+1)=7-j by omega];exact ae HL⟩
    rw [aG k6]at hl;by_cases k5:an ts su=5
    ·rw [FP,aS k5]at hl;cases hrg:iv ts n (aC ts 26 (bI ts (b9 ts su)).1).1 with
     | none=>rw [hrg]at hl;cases hl
     | some q =>
      obtain⟨sq,mq⟩:=q;rw [hrg]at hl;dsimp only at hl
      have hdd:(aC ts 27 sq).1.defs=su.defs:=by
       rw [aU];have:=yW hrg;dsimp only at this;rw [this,aU,oH];rfl
      have HD:=af (Ls (ae HT) (ae IA) n hn hr hk k5 (by rw [hdd];omega) hrg);have HL:=af hl
      have hdn:(ee (aC ts 27 sq).1 ⟨(bI ts (b9 ts su)).2,some mq,none⟩).defs.length<=j+1:=by
       show((aC ts 27 sq).1.defs++[_]).length<=_;rw [hdd];simp;omega
      clear hr hf hDj hk hl k5 k6 hrg hdd;generalize ee (aC ts 27 sq).1 ⟨(bI ts (b9 ts su)).2,some mq,none⟩=sN at *;go_wp2_with (go_at_call 87;refine(ae HD).mono ?_;rintro e w1 ⟨rfl,D1,O1,hr1,hf1,hD1,hk1⟩;have FA:=af hr1;have EA:=af hk1;have DA:=af hD1;replace HF:=af ((ae HF).trans hf1);clear hr1 hf1 hD1 hk1)
      have hwr:=(ae HF).size;go_roundg (8-(j+1))
      case measure=>omega
      case rel=>exact⟨j+1,sN,D1,O1,by go_num,by omega,hdn,ae FA,ae HF,λ q hq=>((ae DA) q hq).elim ((ae CA) q) (λ h=>by omega),ae EA,by rw [show 8-(j+1)=7-j by omega];exact ae HL⟩
    rw [FP,aG k5,aG k6]at hl;dsimp only at hl;obtain rfl:su=sF:=kd hl;have HD:=af (IX (ae HT) hr hk k5 k6);clear hr hf hDj hk hl k5 k6;by_cases e1:an ts s2=1
    ·rw [aS e1]at hq;have HQ:=af hq;have HE:=af e1;clear hq e1
     go_wp2_with (first
      | (go_at_call 87;refine(ae HD).mono ?_;clear HD;rintro e w1 ⟨rfl,hr1,hf1⟩;have HR:=af hr1;replace HF:=af ((ae HF).trans hf1);clear hr1 hf1))
     refine((ae HO) _ _ _ (ae HR) (ae HK)).mono ?_;rintro e w2 ⟨v,O2,rfl,hr2,hf2,hs2,hk2,⟨va,vc,rfl⟩,hl2⟩;have HS:=af (hs2.fr (dw _ _) (ae HF).size);have AA:=af hk2;have BA:=af hl2;replace HR:=af hr2;replace HF:=af ((ae HF).trans hf2);clear hr2 hf2 hs2 hk2 hl2
     go_wp2_with (first
      | (go_at_call 90;refine(cY (ae HR) (ae AA) (ae HT) (ae HE)).mono ?_;rintro e w1 ⟨rfl,hr1,hf1⟩;replace HR:=af hr1;replace HS:=af ((ae HS).fr hf1 (aL _));replace HF:=af ((ae HF).trans hf1);clear hr1 hf1)
      | fail)
     go_ret;rw [ae HQ];exact⟨_,_,_,rfl,ae HR,ae HF,(ae HS).allow (λ k _ ha=>⟨ha.1,inr (ha.2.elim ((ae CA) k) id)⟩),ae AA,⟨_,_,rfl⟩,ae BA⟩
    rw [aG e1]at hq;have HQ:=af hq;have b1:(an ts s2 != 1)=true:=by simpa using e1
    clear hq e1
    go_wp2_with (first
     | (go_at_call 87;refine(ae HD).mono ?_;clear HD;rintro e w1 ⟨rfl,hr1,hf1⟩;have HR:=af hr1;replace HF:=af ((ae HF).trans hf1);clear hr1 hf1))
    refine((ae HO) _ _ _ (ae HR) (ae HK)).mono ?_;rintro e w2 ⟨v,O2,rfl,hr2,hf2,hs2,hk2,⟨va,vc,rfl⟩,hl2⟩;have HS:=af (hs2.fr (dw _ _) (ae HF).size);have AA:=af hk2;have BA:=af hl2;replace HR:=af hr2;replace HF:=af ((ae HF).trans hf2);clear hr2 hf2 hs2 hk2 hl2
    go_wp2_with (first
     | (go_at_call 90;refine(cY (ae HR) (ae AA) (ae HT) rfl).mono ?_;rintro e w1 ⟨rfl,hr1,hf1⟩;replace HR:=af hr1;replace HS:=af ((ae HS).fr hf1 (aL _));replace HF:=af ((ae HF).trans hf1);clear hr1 hf1)
     | (go_at_call 91;refine(jf (ae HR) (ae AA).next (ae HT).n1).mono ?_;rintro e w1 ⟨rfl,hr1,hf1⟩;replace HR:=af hr1;replace HS:=af ((ae HS).fr hf1 (aL _));replace HF:=af ((ae HF).trans hf1);clear hr1 hf1))
    go_ret;rw [ae HQ];exact⟨_,_,_,rfl,ae HR,ae HF,(ae HS).allow (λ k _ ha=>⟨ha.1,inr (ha.2.elim ((ae CA) k) id)⟩),ij (ae AA),⟨_,_,rfl⟩,ae BA⟩
   obtain rfl:j=8:=by omega
   obtain rfl:su=sF:=kd hl;have HR:=af hr;clear hr hf hDj hk hl;by_cases e1:an ts s2=1
   ·rw [aS e1]at hq;have HQ:=af hq;have HE:=af e1;clear hq e1;go_wp2_with fail;refine((ae HO) _ _ _ (ae HR) (ae HK)).mono ?_;rintro e w2 ⟨v,O2,rfl,hr2,hf2,hs2,hk2,⟨va,vc,rfl⟩,hl2⟩;have HS:=af (hs2.fr (dw _ _) (ae HF).size);have AA:=af hk2;have BA:=af hl2;replace HR:=af hr2;replace HF:=af ((ae HF).trans hf2);clear hr2 hf2 hs2 hk2 hl2
    go_wp2_with (first
     | (go_at_call 90;refine(cY (ae HR) (ae AA) (ae HT) (ae HE)).mono ?_;rintro e w1 ⟨rfl,hr1,hf1⟩;replace HR:=af hr1;replace HS:=af ((ae HS).fr hf1 (aL _));replace HF:=af ((ae HF).trans hf1);clear hr1 hf1)
     | fail)
    go_ret;rw [ae HQ];exact⟨_,_,_,rfl,ae HR,ae HF,(ae HS).allow (λ k _ ha=>⟨ha.1,inr (ha.2.elim ((ae CA) k) id)⟩),ae AA,⟨_,_,rfl⟩,ae BA⟩
   rw [aG e1]at hq;have HQ:=af hq;have b1:(an ts s2 != 1)=true:=by simpa using e1
   clear hq e1;go_wp2_with fail;refine((ae HO) _ _ _ (ae HR) (ae HK)).mono ?_;rintro e w2 ⟨v,O2,rfl,hr2,hf2,hs2,hk2,⟨va,vc,rfl⟩,hl2⟩;have HS:=af (hs2.fr (dw _ _) (ae HF).size);have AA:=af hk2;have BA:=af hl2;replace HR:=af hr2;replace HF:=af ((ae HF).trans hf2);clear hr2 hf2 hs2 hk2 hl2
   go_wp2_with (first
    | (go_at_call 90;refine(cY (ae HR) (ae AA) (ae HT) rfl).mono ?_;rintro e w1 ⟨rfl,hr1,hf1⟩;replace HR:=af hr1;replace HS:=af ((ae HS).fr hf1 (aL _));replace HF:=af ((ae HF).trans hf1);clear hr1 hf1)
    | (go_at_call 91;refine(jf (ae HR) (ae AA).next (ae HT).n1).mono ?_;rintro e w1 ⟨rfl,hr1,hf1⟩;replace HR:=af hr1;replace HS:=af ((ae HS).fr hf1 (aL _));replace HF:=af ((ae HF).trans hf1);clear hr1 hf1))
   go_ret;rw [ae HQ];exact⟨_,_,_,rfl,ae HR,ae HF,(ae HS).allow (λ k _ ha=>⟨ha.1,inr (ha.2.elim ((ae CA) k) id)⟩),ij (ae AA),⟨_,_,rfl⟩,ae BA⟩
theorem qU(c:UInt8)(y:List UInt8):∀(x:List UInt8),c ∉ x->Lib.index (x++c::y) [c]=(x.length:Int)
 | [],_=>by simp [Lib.index,List.isPrefixOf]
 | b::x,h=>by
  have hb:c≠b:=λ e=>h (by rw [e];exact List.mem_cons_self)
  have ih:=qU c y x (λ e=>h (List.mem_cons_of_mem _ e));rw [List.cons_append,Lib.index,aG (by simp [List.isPrefixOf,hb]),ih,aG (by simp<;>omega)];simp
theorem ug(c:UInt8):∀(x:List UInt8),c ∉ x->Lib.index x [c] = -1
 | [],_=>by simp [Lib.index]
 | b::x,h=>by
  have hb:c≠b:=λ e=>h (by rw [e];exact List.mem_cons_self)
  have ih:=ug c x (λ e=>h (List.mem_cons_of_mem _ e));rw [Lib.index,aG (by simp [List.isPrefixOf,hb]),ih];rfl
theorem Ln(c:UInt8)(x y:List UInt8)(h:c ∉ x):Lib.cut (x++c::y) [c]=(x,y,true):=by
 have hi:=qU c y x h;unfold Lib.cut;rw [hi,aS (by omega),Int.toNat_natCast,List.take_left,show x.length+[c].length=x.length+1 from rfl,<-List.drop_drop,List.drop_left];rfl
theorem o8(c:UInt8)(x y:List UInt8)(h:c ∉ x)(k:Nat):Lib.splitK [c] 0 (k+1) (x++c::y)=x::Lib.splitK [c] 0 k y:=by
 have hi:=qU c y x h;rw [Lib.splitK,hi,aG (by simp<;>omega),Int.toNat_natCast,Nat.add_zero,List.take_left,show x.length+[c].length=x.length+1 from rfl,<-List.drop_drop,List.drop_left];rfl
theorem BJ(c:UInt8)(x:List UInt8)(h:c ∉ x)(k:Nat):Lib.splitK [c] 0 k x=[x]:=by
 cases k with
 | zero=>rfl
 | succ k=>rw [Lib.splitK,ug c x h];rfl
theorem Ae:∀{a b:List ByteArray},a.map (·.data.toList)=b.map (·.data.toList)->a=b
 | [],[],_=>rfl
 | [],_::_,h=>by cases h
 | _::_,[],h=>by cases h
 | x::a,y::b,h=>by
  simp only [List.map_cons,List.cons.injEq]at h;rw [Ae h.2];obtain⟨dx⟩:=x;obtain⟨dy⟩:=y
  have:dx=dy:=by
   have:=jC List.toArray h.1;simpa using this
  rw [this]
structure oR where
 a:Nat
 b:Nat
 c:Nat
 d:Nat
def oR.ok(q:oR):Prop:=q.a<=255/\q.b<=255/\q.c<=255/\q.d<=255
def oR.addr(q:oR):Int:=(((q.a:Int)*256+q.b)*256+q.c)*256+q.d
def nY(q:oR):List UInt8:=Lib.decDigits q.a++46::(Lib.decDigits q.b++46::(Lib.decDigits q.c++46::Lib.decDigits q.d))
def jn(q:oR)(l:Nat):List UInt8:=nY q++47::Lib.decDigits l
theorem yq(u:Nat):∀ b∈Lib.decDigits u,je (b.toNat:Int)=true:=(nL u).2.1
theorem jJ(u:Nat){c:UInt8}(h:je (c.toNat:Int)=false):c ∉ Lib.decDigits u:=λ hm=>by rw [yq u c hm]at h;cases h
theorem Dz{u:Nat}{m:Int}(h:(u:Int)<=m)(hm:m<=4294967295):k8 (br (Lib.decDigits u)) m=(u:Int):=by
 have h0:=ED (u:=u) (by omega);unfold k8 at h0 ⊢;split at h0
 ·omega
 rename_i hc;rw [aG hc];split at h0
 ·rename_i hd;rw [aS hd];split at h0
  ·omega
  rw [aG (by omega)];exact h0
 omega
theorem k9{u:Nat}{m:Int}(h:(u:Int)<=m)(hm:m<=4294967295):gR (br (Lib.decDigits u)) m=true/\jy (br (Lib.decDigits u)) m=(u:Int):=by
 have h1:=qX (Dz h hm) (by omega);exact⟨h1.2,h1.1⟩
theorem Ew(q:oR)(l:Nat):vM (br (jn q l))=br (nY q)/\pE (br (jn q l))=br (Lib.decDigits l):=by
 have hn:(47:UInt8) ∉ nY q:=by
  have h47:je ((47:UInt8).toNat:Int)=false:=by decide
  unfold nY;simp only [List.mem_append,List.mem_cons,not_or];exact⟨jJ _ h47,by decide,jJ _ h47,by decide,jJ _ h47,by decide,jJ _ h47⟩
 have hc:Lib.cut (br (jn q l)).data.toList [47]=(nY q,Lib.decDigits l,true):=Ln 47 (nY q) (Lib.decDigits l) hn;unfold vM pE;rw [hc];exact⟨rfl,rfl⟩
theorem GN(q:oR)(l:Nat):me (br (jn q l))=[br (Lib.decDigits q.a),br (Lib.decDigits q.b),br (Lib.decDigits q.c),br (Lib.decDigits q.d)]:=by
 have h46:je ((46:UInt8).toNat:Int)=false:=by decide
 unfold me;rw [(Ew q l).1];refine Ae ?_
 have hcn:Lib.countB (br (nY q)) mY=3:=by
  show Lib.count (nY q) [46]=3;have hz:∀ u,(Lib.decDigits u).count 46=0:=λ u=>List.count_eq_zero.2 (jJ u h46)
  rw [Lib.count_one];unfold nY;simp [List.count_append,hz]
 rw [hcn,Lib.splitB_data];show Lib.splitK [46] 0 3 (nY q)=_;unfold nY;rw [o8 46 _ _ (jJ _ h46),o8 46 _ _ (jJ _ h46),o8 46 _ _ (jJ _ h46),BJ 46 _ (jJ _ h46)]
 rfl
theorem J5(q:oR)(l:Nat)(hq:q.ok)(hl:l<=32)(hn:dX (q.addr,(l:Int))):mG (br (jn q l))=some (q.addr,(l:Int)):=by
 obtain⟨h1,h2,h3,h4⟩:=hq;obtain⟨a1,a2⟩:=k9 (u:=q.a) (m:=255) (by omega) (by decide);obtain⟨b1,b2⟩:=k9 (u:=q.b) (m:=255) (by omega) (by decide);obtain⟨c1,c2⟩:=k9 (u:=q.c) (m:=255) (by omega) (by decide);obtain⟨d1,d2⟩:=k9 (u:=q.d) (m:=255) (by omega) (by decide);obtain⟨l1,l2⟩:=k9 (u:=l) (m:=32) (by omega) (by decide);have hb:fA (q.addr,(l:Int))=true:=Fh hn;unfold mG;rw [GN,(Ew q l).2,aS (show [br (Lib.decDigits q.a),br (Lib.decDigits q.b),br (Lib.decDigits q.c),br (Lib.decDigits q.d)].length=4 from rfl)];simp only [jV,a1,b1,c1,d1,if_true,a2,b2,c2,d2,l1,l2,Int.zero_mul,Int.zero_add];rw [aS ⟨trivial,hb⟩]
 rfl
theorem L1(q:oR)(l:Nat)(hq:q.ok)(hl:l<=32)(hn:dX (q.addr,(l:Int)))(rest:List UInt8)(hr:∀ b,rest.head?=some b->et (b.toNat:Int)=false) :
  ru (jn q l) ⟨3,0,br (jn q l),0,q.addr,(l:Int)⟩ rest:=by
 have hnum:∀ x∈jn q l,et (x.toNat:Int)=true:=λ x hx=>by
  have hd:∀ u,x∈Lib.decDigits u->et (x.toNat:Int)=true:=λ u h=>by unfold et;rw [yq u x h];rfl
  unfold jn nY at hx;simp only [List.mem_append,List.mem_cons]at hx;rcases hx with(h|h|h|h|h|h|h)|h|h
  ·exact hd _ h
  ·rw [h];decide
  ·exact hd _ h
  ·rw [h];decide
  ·exact hd _ h
  ·rw [h];decide
  ·exact hd _ h
  ·rw [h];decide
  exact hd _ h
 have hsc:cD et (br (jn q l++rest)) 0=(jn q l).length:=nA hnum hr _ 0 (Nat.zero_add _)
 obtain⟨c,r,hc⟩:∃ c r,Lib.decDigits q.a=c::r:=by
  cases h:Lib.decDigits q.a with
  | nil=>exact absurd h (nL q.a).1
  | cons c r=>exact⟨c,r,rfl⟩
 have hcd:je (c.toNat:Int)=true:=yq q.a c (by rw [hc];exact List.mem_cons_self);have hP:∃ t,jn q l=c::t:=⟨_,by unfold jn nY;rw [hc];rfl⟩
 obtain⟨t,hP⟩:=hP;have hb0:bt (br (jn q l++rest)) 0=(c.toNat:Int):=by rw [hP,List.cons_append];exact jH c _
 have hdd:=(fK _).1 hcd;have hlo:fk (bt (br (jn q l++rest)) 0)=false:=by rw [hb0];unfold fk;rw [Cf (by omega)];rfl
 have hni:gR (br (jn q l)) 4294967295=false:=by
  have hk:(Lib.decDigits q.a).length<(br (jn q l)).size:=by rw [bM];unfold jn nY;simp
  have hbt:bt (br (jn q l)) (Lib.decDigits q.a).length=((46:UInt8).toNat:Int):=by
   refine mS ?_;unfold jn nY;rw [List.append_assoc,List.getElem?_append_right (aL _),Nat.sub_self];rfl
  exact(nh (AW hk (by rw [hbt];decide))).2
 have hpf:=J5 q l hq hl hn;refine⟨by rw [hP];simp,λ x hx=>?_,?_,by show(3:Int)≠0;decide,by show(br (jn q l)).size=_;rw [bM]⟩
 ·rw [hP]at hx;simp at hx;subst hx;unfold gb;simp;omega
 rw [de,aG (by rw [hlo];decide),aS (by rw [hb0];exact hcd),hsc,m7,dC,aG (by rw [hni];decide),aS (by rw [hpf];rfl)];unfold lf;rw [hpf];rfl
inductive Pc where
 | sp
 | tk (bs:List UInt8) (t:ak)
def aD:List Pc->List UInt8
 | []=>[]
 | .sp::l=>32::aD l
 | .tk bs _::l=>bs++aD l
def fP:Nat->List Pc->List ak
 | k,[]=>[⟨1,(k:Int),⟨#[]⟩,0,0,0⟩]
 | k,.sp::l=>fP (k+1) l
 | k,.tk bs t::l=>{ t with at_:=(k:Int) }::fP (k+bs.length) l
def p7:List Pc->List ak
 | []=>[⟨1,0,⟨#[]⟩,0,0,0⟩]
 | .sp::l=>p7 l
 | .tk _ t::l=>t::p7 l
def fY:List Pc->Prop
 | []=>True
 | .sp::l=>fY l
 | .tk bs t::l=>ru bs t (aD l)/\fY l
theorem yO:∀(l:List Pc) (k:Nat),fY l->zC (aD l) k (fP k l)
 | [],k,_=>zC.done k
 | .sp::l,k,h=>zC.blank (by decide) (yO l (k+1) h)
 | .tk bs t::l,k,h=>zC.tok h.1 (yO l _ h.2)
theorem E6{l:List Pc}(h:fY l):fJ (br (aD l))=fP 0 l:=EN (yO l 0 h)
theorem yP:∀(l:List Pc) (k:Nat),(fP k l).map (λ t=>(t.kind,t.text,t.number,t.addr,t.len))=(p7 l).map (λ t=>(t.kind,t.text,t.number,t.addr,t.len))
 | [],_=>rfl
 | .sp::l,k=>yP l (k+1)
 | .tk bs t::l,k=>by rw [fP,p7,List.map_cons,List.map_cons,yP l]
def D8(ts:List ak)(k:Nat):Int×ByteArray×Int×Int×Int:=let t:=ts[k]?.getD fZ;(t.kind,t.text,t.number,t.addr,t.len)
theorem Mn(l:List Pc)(k:Nat):D8 (fP 0 l) k=D8 (p7 l) k:=by
 have h:=jC (·[k]?) (yP l 0);simp only [List.getElem?_map]at h;unfold D8;cases h1:(fP 0 l)[k]? with
 | none =>
  rw [h1]at h;cases h2:(p7 l)[k]? with
  | none=>rfl
  | some y=>rw [h2]at h;cases h
 | some x =>
  rw [h1]at h;cases h2:(p7 l)[k]? with
  | none=>rw [h2]at h;cases h
  | some y =>
   rw [h2]at h;simp only [Option.map_some,Option.some.injEq]at h;exact h
theorem aF{ts:List ak}{k:Nat}{x:Int×ByteArray×Int×Int×Int}(h:D8 ts k=x):ce ts k=x.1:=by rw [<-h];rfl
theorem gM{ts:List ak}{k:Nat}{x:Int×ByteArray×Int×Int×Int}(h:D8 ts k=x):zv ts k=x.2.2.1:=by rw [<-h];rfl
theorem qA{ts:List ak}{st:RS}{d:Int}{k:Nat}(g:cR ts st d k){x:Int×ByteArray×Int×Int×Int}(h:D8 ts k=x):(dH ts st).text=x.2.1/\(dH ts st).number=x.2.2.1/\(dH ts st).addr=x.2.2.2.1/\(dH ts st).len=x.2.2.2.2:=by
 have e:dH ts st=ts[k]?.getD fZ:=by unfold dH;rw [g.next]
 rw [e,<-h];exact⟨rfl,rfl,rfl,rfl⟩
theorem Aw(nm:List UInt8)(h0:nm≠[])(hl:∀ b∈nm,fk (b.toNat:Int)=true)(hw:kF (br nm)=0)(h8:nm.length<=8)(rest:List UInt8)(hr:∀ b,rest.head?=some b->fk (b.toNat:Int)=false) :
  ru nm ⟨4,0,br nm,0,0,0⟩ rest:=by
 have hsc:cD fk (br (nm++rest)) 0=nm.length:=nA hl hr _ 0 (Nat.zero_add _)
 obtain⟨c,r,rfl⟩:∃ c r,nm=c::r:=by
  cases nm with
  | nil=>exact absurd rfl h0
  | cons c r=>exact⟨c,r,rfl⟩
 have hc:=hl c List.mem_cons_self;have hb:bt (br ((c::r)++rest)) 0=(c.toNat:Int):=jH c _;refine⟨h0,λ x hx=>?_,?_,by show(4:Int)≠0;decide,by show(br (c::r)).size=_;rw [bM]⟩
 ·simp at hx;subst hx;unfold fk at hc;unfold gb;simp only [Bool.and_eq_true,decide_eq_true_eq]at hc;simp;omega
 rw [de,aS (by rw [hb];exact hc),hsc,m7,j1,aS ⟨hw,by rw [bM];exact h8⟩]
theorem yK{ts:List ak}{st:RS}{d:Int}{k:Nat}(g:cR ts st d k){x0 x1 x2:ByteArray}{z a l lo hi y1 y2 y3 y4:Int}(e0:D8 ts k=(3,x0,z,a,l))(e1:D8 ts (k+1)=(2,x1,lo,y1,y2))(e2:D8 ts (k+2)=(2,x2,hi,y3,y4))(h1:l<=lo)(h2:lo<=32)(h3:lo<=hi)(h4:hi<=32) :
  ∃ st',cL ts st=(st',qo a l lo hi)/\cR ts st' d (k+3)/\st'.defs=st.defs:=by
 obtain⟨_,_,ta,tl⟩:=qA g e0;dsimp only at ta tl;have n1:=gM e1;have n2:=gM e2;dsimp only at n1 n2;have w1:=g.go.within (lo:=l) (hi:=32) (aF e1) (by rw [n1];exact h1) (by rw [n1];exact h2);have w2:=g.go.go.within (lo:=lo) (hi:=32) (aF e2) (by rw [n2];exact h3) (by rw [n2];exact h4);rw [n1]at w1;rw [n2]at w2;refine⟨b9 ts (b9 ts (b9 ts st)),?_,g.go.go.go,rfl⟩;unfold cL;rw [g.take (aF e0)];dsimp only;rw [g.go.kind,aF e1,aS rfl,ta,tl,w1];dsimp only;rw [w2]
inductive Ik(ts:List ak):Nat->Nat->List dU->Prop
 | nil {k:Nat}:ce ts k≠28->Ik ts k k []
 | cons {k k':Nat} {m:dU} {l:List dU}:ce ts k=28->(∀ st d,cR ts st d (k+1)->∃ st',cL ts st=(st',m)/\cR ts st' d (k+4)/\st'.defs=st.defs)->Ik ts (k+4) k' l->Ik ts k k' (m::l)
theorem Mr{ts:List ak}{k k':Nat}{l:List dU}(h:Ik ts k k' l):∀(n:Nat),l.length<n->∀(st:RS) (d:Int) (acc:List dU),cR ts st d k->∃ st',fe ts n st acc=some (st',acc++l)/\cR ts st' d k'/\st'.defs=st.defs:=by
 induction h with
 | nil hk =>
  intro n hn st d acc g;obtain⟨m,rfl⟩:∃ m,n=m+1:=⟨n-1,by simp at hn;omega⟩
  exact⟨st,by rw [fe,g.kind,aG hk,List.append_nil],g,rfl⟩
 | @cons k k' m l hk hr _ ih =>
  intro n hn st d acc g;obtain⟨p,rfl⟩:∃ m,n=m+1:=⟨n-1,by simp at hn;omega⟩
  obtain⟨s1,e1,g1,d1⟩:=hr (b9 ts st) d g.go;obtain⟨s2,e2,g2,d2⟩:=ih p (by simp at hn;omega) s1 d (acc++[m]) g1;refine⟨s2,?_,g2,d2.trans d1⟩;rw [fe,g.kind,aS hk,e1,e2,List.append_assoc];rfl
theorem yX{ts:List ak}{st:RS}{d:Int}{k k1 k' n:Nat}{m:dU}{l:List dU}(g:cR ts st d k)(e0:ce ts k=29)(h1:∀ st d,cR ts st d (k+1)->∃ st',cL ts st=(st',m)/\cR ts st' d k1/\st'.defs=st.defs)(h2:Ik ts k1 k' l)(hn:l.length<n)(e1:ce ts k'=30) :
  ∃ st',iv ts n st=some (st',my (m::l))/\cR ts st' d (k'+1)/\st'.defs=st.defs:=by
 obtain⟨s1,a1,g1,d1⟩:=h1 (b9 ts st) d g.go;obtain⟨s2,a2,g2,d2⟩:=Mr h2 n hn s1 d [m] g1;refine⟨b9 ts s2,?_,g2.go,?_⟩
 ·unfold iv;rw [g.take e0];dsimp only;rw [a1];dsimp only;rw [a2];dsimp only;rw [g2.take e1];rfl
 show s2.defs=st.defs;rw [d2,d1];rfl
theorem FS{ts:List ak}{st:RS}{k k' n:Nat}{nm:ByteArray}{z a l:Int}{m:dU}(g:cR ts st 0 k)(hd:st.defs=[])(e0:ce ts k=5)(e1:D8 ts (k+1)=(4,nm,z,a,l))(e2:ce ts (k+2)=26)
  (hr:∀ s,cR ts s 0 (k+3)->∃ s',iv ts n s=some (s',m)/\cR ts s' 0 k'/\s'.defs=s.defs) (e3:ce ts k'=27) :
  ∃ st',FP ts n st=some (st',true)/\cR ts st' 0 (k'+1)/\st'.defs=[⟨nm,some m,none⟩]:=by
 have g1:=g.go;obtain⟨tx,_,_,_⟩:=qA g1 e1;dsimp only at tx
 have hnn:bI ts (b9 ts st)=(b9 ts (b9 ts st),nm):=by
  unfold bI;rw [g1.take (aF e1)];dsimp only
  have hnd:j0 (b9 ts (b9 ts st)) (dH ts (b9 ts st)).text=false:=by
   unfold j0;have:(b9 ts (b9 ts st)).defs=[]:=hd;rw [this];rfl
  rw [hnd,tx];rfl
 obtain⟨s',a1,g2,d2⟩:=hr _ g1.go.go;refine⟨ee (b9 ts s') ⟨nm,some m,none⟩,?_,?_,?_⟩
 ·unfold FP;rw [g.kind,aS e0,hnn];dsimp only;rw [g1.go.take e2];dsimp only;rw [a1];dsimp only;rw [g2.take e3]
 ·have g3:=g2.go;exact⟨g3.next,g3.depth,g3.syn,g3.nam,g3.num,g3.t0,g3.page⟩
 show s'.defs++[_]=_;rw [d2];have:(b9 ts (b9 ts (b9 ts st))).defs=[]:=hd;rw [this];rfl
def fH(j:Nat):Pc:=.tk (wd j).data.toList ⟨5+(j:Int),0,wd j,0,0,0⟩
def gN(c:UInt8):Pc:=.tk [c] ⟨ew (c.toNat:Int),0,br [c],0,0,0⟩
def sJ(u:Nat):Pc:=.tk (Lib.decDigits u) ⟨2,0,br (Lib.decDigits u),(u:Int),0,0⟩
def OH(q:oR)(l:Nat):Pc:=.tk (jn q l) ⟨3,0,br (jn q l),0,q.addr,(l:Int)⟩
def r7:Pc:=.tk [115] ⟨4,0,br [115],0,0,0⟩
def wQ(r:List UInt8):Prop:=∀ b,r.head?=some b->fk (b.toNat:Int)=false
def Aq(r:List UInt8):Prop:=∀ b,r.head?=some b->et (b.toNat:Int)=false
theorem cP(l:List UInt8):wQ (32::l)/\Aq (32::l) :=
 ⟨λ b hb=>by rcases kd hb with rfl;decide,λ b hb=>by rcases kd hb with rfl;decide⟩
theorem fB{j:Nat}(hj:j<21){l:List Pc}(h:fY l)(hl:wQ (aD l)):fY (fH j::l):=⟨Ay j hj _ hl,h⟩
theorem jz{c:UInt8}(hc:ew (c.toNat:Int)≠0){l:List Pc}(h:fY l):fY (gN c::l):=⟨Ax c _ hc,h⟩
theorem sy{u:Nat}(hu:u<=4294967295){l:List Pc}(h:fY l)(hl:Aq (aD l)):fY (sJ u::l):=⟨EO u hu _ hl,h⟩
theorem OF{q:oR}{x:Nat}(hq:q.ok)(hx:x<=32)(hn:dX (q.addr,(x:Int))){l:List Pc}(h:fY l)(hl:Aq (aD l)):fY (OH q x::l):=⟨L1 q x hq hx hn _ hl,h⟩
theorem yI{l:List Pc}(h:fY l)(hl:wQ (aD l)):fY (r7::l):=⟨Aw [115] (by simp) (by decide) (by decide +kernel) (by decide) _ hl,h⟩
def wT(j:Nat):ak:=⟨5+(j:Int),0,wd j,0,0,0⟩
def sT(c:UInt8):ak:=⟨ew (c.toNat:Int),0,br [c],0,0,0⟩
def nT(u:Nat):ak:=⟨2,0,br (Lib.decDigits u),(u:Int),0,0⟩
def pT(q:oR)(l:Nat):ak:=⟨3,0,br (jn q l),0,q.addr,(l:Int)⟩
def M4:ak:=⟨4,0,br [115],0,0,0⟩
theorem j6:∀(a b:List Pc),aD (a++b)=aD a++aD b
 | [],_=>rfl
 | .sp::a,b=>by rw [List.cons_append,aD,aD,j6 a b];rfl
 | .tk bs t::a,b=>by rw [List.cons_append,aD,aD,j6 a b,List.append_assoc]
theorem OO:ew ((46:UInt8).toNat:Int)=41:=by decide +kernel
theorem OI:ew ((42:UInt8).toNat:Int)=36:=by decide +kernel
theorem M7:ew ((43:UInt8).toNat:Int)=38:=by decide +kernel
theorem OT:ew ((63:UInt8).toNat:Int)=37:=by decide +kernel
def Nk(k:Int):Prop:=k=2\/k=41\/k=33
def yG(k:Int):Prop:=k≠36/\k≠37/\k≠38
def gK{α:Type}(ts:List ak)(rd:RS->Option (RS×α))(d:Int)(k k':Nat)(m:α):Prop:=∀ st,cR ts st d k->∃ st',rd st=some (st',m)/\cR ts st' d k'/\st'.defs=st.defs
theorem yZ{ts:List ak}{d:Int}{k n:Nat}(A:aP)(h:yG (ce ts k)):gK ts (dY ts (n+1) A) d k k A:=λ st g=>by
 refine⟨st,?_,g,rfl⟩;unfold dY;rw [j7,g.kind,aG h.1,aG h.2.2,aG h.2.1]
 rfl
theorem Bk{ts:List ak}{d:Int}{k n:Nat}(A:aP)(c:UInt8)(hc:c=42\/c=43\/c=63)(h0:ce ts k=ew (c.toNat:Int))(h:yG (ce ts (k+1))):gK ts (dY ts (n+2) A) d k (k+1) (G0 (c != 43) (c != 63) A):=λ st g=>by
 refine⟨b9 ts st,?_,g.go,rfl⟩;unfold dY;rw [j7,g.kind,h0];rcases hc with rfl|rfl|rfl
 ·rw [OI,aS rfl,j7,g.go.kind,aG h.1,aG h.2.2,aG h.2.1];rfl
 ·rw [M7,aG (by decide),aS rfl,j7,g.go.kind,aG h.1,aG h.2.2,aG h.2.1];rfl
 rw [OT,aG (by decide),aG (by decide),aS rfl,j7,g.go.kind,aG h.1,aG h.2.2,aG h.2.1];rfl
theorem BG{ts:List ak}{rd:RS->Option (RS×aP)}{d:Int}{k k':Nat}{m:aP}(h:gK ts rd d k k' m):gK ts (λ st=>ql (rd st)) d k k' (some m):=λ st g=>by
 obtain⟨s,e,g1,d1⟩:=h st g;exact⟨s,by show ql (rd st)=_;rw [e];rfl,g1,d1⟩
theorem Jm{ts:List ak}{n:Nat}{ei:RS->Option (RS×aP)}{d:Int}{k:Nat}(h:¬Nk (ce ts k)):gK ts (iM ts n ei) d k k none:=λ st g=>by
 refine⟨st,?_,g,rfl⟩;unfold iM;rw [g.kind,aG (λ e=>h (inl e)),aG (λ e=>h (inr (inl e))),aG (λ e=>h (inr (inr e)))]
theorem Mt{ts:List ak}{n:Nat}{it:RS->Option (RS×Option aP)}{d:Int}{k k1 k':Nat}{A B:aP}(h1:gK ts it d k k1 (some A))(h2:gK ts it d k1 k' (some B))(h3:gK ts it d k' k' none):gK ts (li ts (n+3) it) d k k' (yg A B):=λ st g=>by
 obtain⟨s1,e1,g1,d1⟩:=h1 st g;obtain⟨s2,e2,g2,d2⟩:=h2 s1 g1;obtain⟨s3,e3,g3,d3⟩:=h3 s2 g2;refine⟨s3,?_,g3,d3.trans (d2.trans d1)⟩;unfold li;rw [cf,e1];dsimp only;rw [cf,e2];dsimp only;rw [cf,e3];dsimp only;rw [aG (by simp)];show some (s3,qh [A,B])=_;rw [J9]
theorem I2{ts:List ak}{n:Nat}{rw_:RS->Option (RS×aP)}{d:Int}{k k':Nat}{A:aP}(h1:gK ts rw_ d k k' A)(h2:ce ts k'≠35):gK ts (oX ts (n+1) rw_) d k k' A:=λ st g=>by
 obtain⟨s1,e1,g1,d1⟩:=h1 st g;refine⟨s1,?_,g1,d1⟩;unfold oX;rw [e1];dsimp only;rw [ou,g1.kind,aG h2];dsimp only;rw [Ix]
def xP:Pc:=.tk [119] ⟨4,0,br [119],0,0,0⟩
def M5:ak:=⟨4,0,br [119],0,0,0⟩
theorem AY{l:List Pc}(h:fY l)(hl:wQ (aD l)):fY (xP::l):=⟨Aw [119] (by simp) (by decide) (by decide +kernel) (by decide) _ hl,h⟩
