/- part -/
import Derived.Test.YtgdeeodifnegiaaGreatDoorRdrR
import Derived.Test.YtgdeeodifnegiaaGreatDoorWayC
set_option maxRecDepth 100000
set_option maxHeartbeats 4000000
namespace Go.Proofs.YtgdeeodifnegiaaGreatDoor
open Go.Proofs.Tryz
open Or
open Go.RowKit
theorem Fv(t:ByteArray):0<=(kg t).2/\(kg t).2<=32:=by
 unfold kg;cases h:kf t with
 | none=>exact⟨Int.le_refl _,by decide⟩
 | some p =>
  unfold kf at h;split at h
  ·split at h
   ·cases h
   split at h
   ·rename_i hb;cases h
    have h2:tJ (_,fR (rH t) 32):=of_decide_eq_true hb.2;exact h2.2.1
   cases h
  cases h
theorem zg(t:ByteArray):0<=(eh t).len/\(eh t).len<=32:=by
 cases h:eS t 4294967295 with
 | true=>rw [eh,aC h];exact(by decide:(0:Int)<=0/\(0:Int)<=32)
 | false =>
  rw [eh,au (by rw [h];decide)];cases h2:(kf t).isSome with
  | true=>rw [aC rfl];exact Fv t
  | false=>rw [au (by decide)];exact(by decide:(0:Int)<=0/\(0:Int)<=32)
theorem tj(s:ByteArray):0<=(eB s).len/\(eB s).len<=32:=by
 cases h:dF (bt s 0)with
 | true=>rw [eB,aC h];exact(by decide:(0:Int)<=0/\(0:Int)<=32)
 | false =>
  rw [eB,au (by rw [h];decide)];cases h2:ff (bt s 0)with
  | true=>rw [aC rfl];exact zg _
  | false=>rw [au (by decide)];exact(by decide:(0:Int)<=0/\(0:Int)<=32)
theorem pU(s:ByteArray):∀ f k,l9 (dh s f k)
 | 0,_,t,h=>by cases h
 | f+1,k,t,h=>by
  rw [dh]at h;split at h
  ·split at h
   ·exact pU s f _ t h
   split at h
   ·rw [List.mem_singleton.1 h];exact tj _
   rcases List.mem_cons.1 h with rfl|h
   ·exact tj _
   exact pU s f _ t h
  rw [List.mem_singleton.1 h];exact⟨Int.le_refl _,by show(0:Int)<=32;decide⟩
theorem yy(s:ByteArray):l9 (cO s):=pU s _ _
def uL(w:World)(A:Nat->Prop)(v:Value):Option aH->Prop
 | none=>jl v
 | some m=>az w A (kB v m)
theorem uL.fnv{w:World}{A:Nat->Prop}{v:Value}{o:Option aH}(h:uL w A v o):jl v:=by
 cases o with
 | none=>exact h
 | some m =>
  obtain⟨K,g,lb,h1,_⟩:=az.now h;exact inl ⟨_,_,_,h1⟩
def JW(pb:Nat)(ts:List aw)(w:World)(D O:Nat->Prop)(r:RS×Option aH)(e:Ending)(w':World):Prop :=
 ∃ v O',e=.returned v/\RA w' pb ts r.1 D O'/\Fr O w O' w'/\uL w' (dk O' D w.heap.size) v r.2/\Ok ts r.1
theorem Tryz.neNilW(w:World):(Sem.run prog (binOp BinOp.neq 305 .nilFunc .nilFunc) w)=.ok (.bool false) w:=by kernel_rfl
theorem Tryz.neFnW(f:Fn)(a b:Array Value)(w:World):(Sem.run prog (binOp BinOp.neq 305 (.func f a b) .nilFunc) w)=.ok (.bool true) w:=by kernel_rfl
theorem CW{pb:Nat}{ts:List aw}(ht:cE ts){w:World}{st:RS}{D O:Nat->Prop}(h:RA w pb ts st D O)(hk:Ok ts st) :
  Calls prog 376 #[ay pb 0] w (JW pb ts w D O (dg ts st)):=by
 have EA:=ae (aN h hk ht 4);have CA:=ae (ch (k:=4) hk ht (by decide));have HW:=ae (show dg ts st=(match dQ (ar ts 4 st).1.defs (ar ts 4 st).2.text with|some s=>((ar ts 4 st).1,some s)|none=>(eU (ar ts 4 st).1 (ar ts 4 st).2.at_,none))from rfl);clear h hk ht;generalize ar ts 4 st=P at *;obtain⟨s1,t⟩:=P;dsimp only at CA HW;generalize dg ts st=RS2 at *;have hbf:=Tryz.neNilW;have hbg:=Tryz.neFnW;go_enter func376,ntmps376;go_wp2_with (go_at_call 213;refine(ab EA).mono ?_;clear EA;rintro e w1 ⟨rfl,O1,hr1,hf1⟩;have HR:=ae (hr1.alloc (aR t));have HF:=ae (hf1.alloc (aR t));have HN:=ae (And.intro (cN w1 (aR t)) (show ¬O1 w1.heap.size from λ ho=>by have:=hr1.lt ho;omega));obtain⟨dv,xs,hc,hd,hl,hrep⟩:=(hr1.alloc (aR t)).defsV;obtain⟨q,c,hq⟩:=hd.form;have HD:=ae hd;have DA:=ae (And.intro hl hrep);clear hr1 hf1 hd hl hrep;dsimp only;subst hq)
 obtain⟨W1,hW1⟩:∃ W1,w1.alloc (aR t)=W1:=⟨_,rfl⟩
 rw [hW1]at HR HF HN HD DA;unfold aR at hW1;rw [hW1];have hln:=(ab HD).len;unfold maxLen at hln;have hwf:=(ab HF).size;have hn1:w1.heap.size<W1.heap.size:=ai (ab HN).1;clear hc;go_loopw [13] (λ i wr=>∃ j:Nat,j<=xs.length/\i=.int .i64 (j:Nat)/\Hid (dQ (s1.defs.drop j) t.text=dQ s1.defs t.text)/\Below W1.heap.size W1 wr) (λ i _=>xs.length-(intOf i).toNat)
 case atStart=>exact⟨0,iL _,rfl,rfl,aX _ _⟩
 case round =>
  obtain⟨j,hj,rfl,BA,hbl⟩:=hrel;have AA:=ae hbl;have hsb:=hbl.size;clear hbl;by_cases hlt:j<xs.length
  ·obtain⟨g,c',hq⟩:=(ab HD).some_ (λ e=>by rw [e]at hlt;simp at hlt)
   injection hq with hq1 hq2 hq3
   subst hq1 hq3;obtain⟨hgl,hcell⟩:=((ab HD).below (ab AA)).cell g c rfl;have hx:xs[j]?=some xs[j]:=iK hlt;have hjd:j<s1.defs.length:=by rw [<-(ab DA).1];exact hlt
   obtain⟨k1,k2,k3⟩:=hcell j _ hx;have hrp:=(ab DA).2 j s1.defs[j] xs[j] (iK hjd) hx;have hfn:=(ab HD).fn xs[j] (nN _);have hdr:s1.defs.drop j=s1.defs[j]::s1.defs.drop (j+1):=List.drop_eq_getElem_cons hjd;have hfs:=ab BA;rw [hdr,dQ]at hfs;have hnk:=((ab AA).block w1.heap.size hn1).trans (ab HN).1;have ct:wr.cell? ⟨w1.heap.size,2,none⟩=some (.string t.text):=af hnk;have lw:w1.heap.size<wr.heap.size:=ai hnk;clear hcell hx hdr BA hnk;generalize s1.defs[j]=dd at *;generalize xs[j]=X at *;obtain⟨n,v1,v2⟩:=X;obtain⟨hp1,_,hp2⟩:=hrp;dsimp only at k1 k2 k3 hfn hp1 hp2;subst hp1;obtain⟨h2,h1⟩:=hfn;cases hE:dd.name.toList==t.text.toList with
   | true =>
    cases hS:dd.way with
    | some m =>
     rw [hS]at hp2 hfs;dsimp only at hp2;rw [hE,aC (by simp)]at hfs;have hR2:RS2=(s1,some m):=by rw [ab HW,<-hfs]
     obtain⟨K0,g0,lb0,hv0,_⟩:=az.now hp2;have GA:=ae hp2;subst hR2;clear hp2 hfs h1;subst hv0;rcases h2 with⟨f',a',b',rfl⟩|rfl <;>
     ·go_wp2_with fail;go_ret;refine⟨_,_,rfl,((ab HR).stay (ab AA)).alloc _,((ab HF).below (ab AA)).alloc _,?_,ab CA⟩;exact az.mono (ab GA) (by simp;omega) (λ k hk ha=>⟨(eW _ _ _ (by omega)).trans ((ab AA).block k hk),ha.1,inl ha.2⟩) (λ _ _ h=>h)
    | none =>
     rw [hS]at hp2 hfs;dsimp only at hp2;rw [au (by simp)]at hfs;have BA:=ae hfs;clear hfs h1;subst hp2;rcases h2 with⟨f',a',b',rfl⟩|rfl <;>
     ·go_wp2_with fail;exact⟨⟨j+1,by omega,by go_num,BA,(ab AA).alloc hsb _⟩,by simp [intOf];omega⟩
   | false =>
    rw [hE,au (by simp)]at hfs;have BA:=ae hfs;clear hfs hp2;rcases h1 with⟨f,a,b,rfl⟩|rfl<;>rcases h2 with⟨f',a',b',rfl⟩|rfl <;>
    ·go_wp2_with fail;exact⟨⟨j+1,by omega,by go_num,BA,(ab AA).alloc hsb _⟩,by simp [intOf];omega⟩
  have hfs:=ab BA;rw [List.drop_eq_nil_of_le (by rw [<-(ab DA).1];omega),dQ]at hfs;have hR2:RS2=(eU s1 t.at_,none):=by rw [ab HW,<-hfs]
  subst hR2;have hnk:=((ab AA).block w1.heap.size hn1).trans (ab HN).1;have ct:wr.cell? ⟨w1.heap.size,1,none⟩=some (.int .i64 t.at_):=af hnk;have IA:=ae (λ q=>mN (((ab HR).stay (ab AA)).drewN q) t.at_);clear hfs BA hnk;go_wp2_with fail;go_region_with (go_at_call 228;refine((ab IA) 1).mono ?_;rintro e w3 ⟨rfl,hr3,hf3⟩)
  all_goals
   have HA:=ae hr3;have FA:=ae ((((ab HF).below (ab AA)).drewN 1).trans hf3);clear hr3 hf3;go_wp2_with fail;go_ret;exact⟨_,_,rfl,ab HA,ab FA,inr rfl,⟨(ab CA).next,(ab CA).page,(ab CA).gap⟩⟩
theorem KU{W:World}{b:Nat}{r:Rt}{pv mv:Value}(h:dK W b r pv mv):gy W pv r.path:=by
 rcases h.path.2 with⟨h1,h0⟩|⟨g,cap,cur,hv,_,hg,hnc,_,hcs,htk⟩
 ·have hnil:r.path=[]:=List.length_eq_zero_iff.mp h0;exact⟨none,0,by rw [h1,hnil];rfl,inl hnil⟩
 refine⟨_,_,hv,inr ⟨g,0,rfl,ai hg,λ j hj=>?_⟩⟩;rw [af hg];have h2:(cur.toList.take (r.path.length*1))[j]?=some (.int .i64 r.path[j]):=by rw [htk];simp [aq,hj]
 rw [List.getElem?_take,aC (by omega)]at h2;simpa using h2
theorem xI(W:World)(b:Nat)(r:Rt)(pv mv:Value)(h:dK W b r pv mv)(va:Value)(ma:aH)(Ka:Nat->Prop)(ha:kB va ma Ka W)(B1:Nat)(c1:W.cell? ⟨B1,0,none⟩=some va) :
  Calls prog 384 (#[ay b 0]++#[ay B1 0]) W λ e W'=>e=.returned (jI (oV ma r))/\Below W.heap.size W W':=by
 have HP:=ae (KU h);have hn:=h.n1;have r2:W.cell? ⟨b,2,none⟩=some pv:=af h.blk;obtain⟨g,lb,rfl,eg,hc⟩:=ha;have HA:=ae (λ(V:World) (hV:Below W.heap.size W V)=>Ij V (.func (.func g) #[] lb) ma Ka ⟨g,lb,rfl,eg,λ U pv l f hU=>hc U pv l f (hV.trans (hU.mono hV.size))⟩ pv r.path ((ab HP).below hV) hn);obtain⟨a,c,hpv⟩:=bi h.path;have EQ:Hid (jI (oV ma r)=.tuple #[.bool (@decide (ma r.path) (Classical.propDecidable _)),.bool true]):=rfl;clear h hc eg hn HP;rw [ab EQ];subst hpv;go_enter func384,ntmps384;go_wp2_with fail;go_region_with (go_at_call 385;refine((ab HA) _ (aX _ _).drew).mono ?_;rintro e w1 ⟨⟨B,rfl,hB⟩,hb1⟩;have AA:=ae (((aX W.heap.size W).drew).trans (hb1.mono (aD _)));have HX:=ae hB;clear hb1 hB)
 all_goals
  go_wp2_with fail
  go_ret2
  refine⟨?_,ab AA⟩
  have hq:B=@decide (ma r.path) (Classical.propDecidable _):=by
   have h:=ab HX;cases B with
   | true=>exact(@decide_eq_true _ (Classical.propDecidable _) (h.1 rfl)).symm
   | false=>exact(@decide_eq_false _ (Classical.propDecidable _) (λ hm=>by have:=h.2 hm;cases this)).symm
  rw [hq];rfl
theorem uZ(w:World)(va:Value)(ha:jl va) :
  Calls prog 375 #[va] w λ e w'=>e=.returned (.func (.func 384) #[] #[ay w.heap.size 0])/\w'=(w.alloc (aF va 305)):=by
 have hmf:∀(fn:Fn) (first cap:Array Value) (w:World),(Instr.makeFunc fn first cap).run prog w=.ok (.func fn first cap) w:=λ _ _ _ _=>rfl
 rcases ha with⟨f,a,b,rfl⟩|rfl <;>
 ·go_enter func375,ntmps375;go_wp2_with fail;go_ret;exact⟨rfl,rfl⟩
theorem Tryz.entPathLike:Enters prog 384:=enters_of func384 (by kernel_rfl) rfl
theorem uL.alloc{w:World}{A:Nat->Prop}{v:Value}{o:Option aH}(h:uL w A v o)(b:Obj):uL (w.alloc b) A v o:=by
 cases o with
 | none=>exact h
 | some m=>exact az.mono h (bK w b A).1 (bK w b A).2 (λ _ _ h=>h)
theorem uL.fr{w w':World}{O O' D:Nat->Prop}{n m:Nat}{v:Value}{o:Option aH}(h:uL w (dk O D n) v o)(hf:Fr O w O' w')(hm:m<=n):uL w' (dk O' D m) v o:=by
 cases o with
 | none=>exact h
 | some x=>exact az.fr h hf hm
theorem xH(w:World)(va:Value)(oa:Option aH)(A:Nat->Prop)(hA:∀ k,w.heap.size<=k->A k)(ha:uL w A va oa) :
  Calls prog 375 #[va] w λ e w'=>∃ v,e=.returned v/\w'=(w.alloc (aF va 305))/\gH w' A v (oa.map oV):=by
 refine(uZ w va ha.fnv).mono ?_;rintro e w' ⟨rfl,rfl⟩;refine⟨_,rfl,rfl,?_⟩;cases oa with
 | none=>exact inl ⟨_,_,_,rfl⟩
 | some ma =>
  have h1:az _ A (kB va ma):=ha.alloc (aF va 305);refine az.one h1 (λ k=>k=w.heap.size) (λ k hk=>⟨by subst hk;simp,hA k (by omega)⟩) (λ K1 _ q1 W hW hk=>?_);exact⟨_,_,rfl,Tryz.entPathLike,λ b r pv mv hr=>xI W b r pv mv hr va ma K1 (q1 W hW (λ k h=>hk k (inl h))) _ (af ((hk _ (inr rfl)).trans (cN w _)))⟩
theorem Gh{pb:Nat}{ts:List aw}(ht:cE ts){w:World}{st:RS}{D O:Nat->Prop}(h:RA w pb ts st D O)(hk:Ok ts st)(e21:am ts st=23) :
  Calls prog 358 #[ay pb 0] w (kW pb ts w D O ((dg ts (ar ts 24 (bg ts st)).1).1,(dg ts (ar ts 24 (bg ts st)).1).2.map oV)):=by
 have HR:=ae h;have HF:=ae (bE O w);have HK:=ae hk;have HT:=ae ht;have HE:=ae e21;have n21:=ae (show am ts st≠21 by rw [e21];decide);have HG:=ae (cu hk ht e21 (by decide));have AA:=ae (ch (k:=24) (ab HG) ht (by decide));clear h hk ht e21;go_enter func358,ntmps358
 go_wp2_with (first
  | (go_at_call 211;refine(aL (ab HR) (ab HK) (ab HT) 21 (ab n21)).mono ?_;rintro e w1 ⟨rfl,hr1,hf1⟩;replace HR:=ae hr1;replace HF:=ae ((ab HF).trans hf1);clear hr1 hf1 n21)
  | (go_at_call 211;refine(bY (ab HR) (ab HK) (ab HT) 23 (ab HE)).mono ?_;rintro e w1 ⟨rfl,O1,hr1,hf1⟩;replace HR:=ae hr1;replace HF:=ae ((ab HF).trans hf1);clear hr1 hf1)
  | (go_at_call 213;refine(aN (ab HR) (ab HG) (ab HT) 24).mono ?_;rintro e w2 ⟨rfl,O2,hr2,hf2⟩;replace HR:=ae hr2;replace HF:=ae ((ab HF).trans hf2);clear hr2 hf2)
  | (go_at_call 376;refine(CW (ab HT) (ab HR) (ab AA)).mono ?_;rintro e w3 ⟨v,O3,rfl,hr3,hf3,hv3,hk3⟩;have HV:=ae (hv3.fr (bE _ _) (ab HF).size);have BA:=ae hk3;have hfv:=hv3.fnv;replace HR:=ae hr3;replace HF:=ae ((ab HF).trans hf3);clear hr3 hf3 hv3 hk3))
 refine(xH _ v _ _ ((ab HR).newFree (ab HF)) (ab HV)).mono ?_;rintro e w4 ⟨v4,rfl,rfl,hv4⟩;have CA:=ae hv4;replace HR:=ae ((ab HR).alloc (aF v 305));replace HF:=ae ((ab HF).alloc (aF v 305));clear hv4;go_wp2_with fail;go_ret;exact⟨_,_,rfl,ab HR,ab HF,ab CA,ab BA⟩
theorem lH(ts:List aw):∀(n:Nat) (st:RS) (z m:Bool) (r:RS×Bool×Bool),repLp ts n st z m=some r->r.1.defs=st.defs
 | 0,_,_,_,_,h=>by cases h
 | n+1,st,z,m,r,h=>by
  rw [repLp]at h;split at h
  ·rw [lH ts n _ _ _ r h];rfl
  split at h
  ·rw [lH ts n _ _ _ r h];rfl
  split at h
  ·rw [lH ts n _ _ _ r h];rfl
  cases h;rfl
theorem vf{ts:List aw}{n:Nat}{A:aH}{st:RS}{r:RS×aH}(h:di ts n A st=some r):r.1.defs=st.defs:=by
 unfold di at h;split at h
 ·cases h
 rename_i s z m hx;cases h
 exact lH ts n st false false _ hx
theorem ot{ts:List aw}{n:Nat}{A:aH}{st:RS}{r:RS×Option aH}(h:someR (di ts n A st)=some r):r.1.defs=st.defs:=by
 unfold someR at h;split at h
 ·cases h
 rename_i s m hx;cases h
 exact vf hx
theorem rh{α:Type}{rd:RS->Option (RS×Option α)}(h0:∀ st r,rd st=some r->r.1.defs=st.defs):∀(n:Nat) (st:RS) (l:List α) (r:RS×List α),bO rd n st l=some r->r.1.defs=st.defs
 | 0,_,_,_,h=>by cases h
 | n+1,st,l,r,h=>by
  rw [bO]at h;split at h
  ·cases h
  ·rename_i s hx;cases h
   exact h0 _ _ hx
  rename_i s x hx;rw [rh h0 n _ _ r h];exact h0 _ _ hx
theorem sK{ts:List aw}{rd:RS->Option (RS×aH)}(h0:∀ st r,rd st=some r->r.1.defs=st.defs):∀(n:Nat) (st:RS) (l:List aH) (r:RS×List aH),altLp ts rd n st l=some r->r.1.defs=st.defs
 | 0,_,_,_,h=>by cases h
 | n+1,st,l,r,h=>by
  rw [altLp]at h;split at h
  ·split at h
   ·cases h
   rename_i s m hx;rw [sK h0 n _ _ r h];exact h0 _ _ hx
  cases h;rfl
theorem qQ(ts:List aw)(n:Nat):∀(f:Nat) (st:RS) (r:RS×aH),eithTw ts n f st=some r->r.1.defs=st.defs
 | 0,_,_,h=>by cases h
 | f+1,st,r,h=>by
  have hi:∀ st r,dM ts n (eithTw ts n f) st=some r->r.1.defs=st.defs:=λ st r h=>by
   unfold dM at h;split at h
   ·rw [ot h,lP]
   split at h
   ·rw [ot h];rfl
   split at h
   ·split at h
    ·cases h
    rename_i s m hx;rw [ot h];show(ar ts 34 s).1.defs=_;have h1:=qQ ts n f _ _ hx;dsimp only at h1;rw [dA,h1];show(ar ts 33 (if st.depth=8 then cC ts st else st)).1.defs=_;rw [dA];split<;>rfl
   cases h;rfl
  have hrw:∀ st r,gw ts n (dM ts n (eithTw ts n f)) st=some r->r.1.defs=st.defs:=λ st r h=>by
   unfold gw at h;split at h
   ·cases h
   rename_i s l hx;cases h
   have h1:=rh hi n st [] _ hx;dsimp only at h1 ⊢;rw [<-h1];split<;>rfl
  rw [eithTw]at h;unfold nU at h;split at h
  ·cases h
  rename_i s m hx;split at h
  ·cases h
  rename_i s2 l hy;cases h
  have h1:=sK hrw n _ _ _ hy;have h2:=hrw _ _ hx;dsimp only at h1 h2 ⊢;rw [h1,h2]
def defW(ts:List aw)(n f:Nat)(st:RS):Option (RS×Bool) :=
 if am ts st=6 then
  (match eithTw ts n f (ar ts 26 (aI ts (bg ts st)).1).1 with
   | none=>none
   | some (s,m)=>some (eQ (ar ts 27 s).1 ⟨(aI ts (bg ts st)).2,none,some m⟩,true))
 else yY ts n st
def defsW(ts:List aw)(n f:Nat):Nat->RS->Option RS
 | 0,st=>some st
 | k+1,st=>match defW ts n f st with
  | none=>none
  | some (s,true)=>defsW ts n f k s
  | some (s,false)=>some s
def policyW(ts:List aw)(n f:Nat)(stmt:RS->Option (RS×Option (Option aM)))(st:RS):Option (RS×List (Option aM)) :=
 match defsW ts n f 8 st with
 | none=>none
 | some s=>i6 ts n stmt s
theorem xM{pb:Nat}{ts:List aw}(ht:cE ts)(hL:l9 ts){tw:RS->Option (RS×Option (Option aM))}(IH:kz pb ts tw)(n f:Nat)(hn:n<=1000)(IE:mP 215 pb ts (eithTw ts n f)){w:World}{st:RS}{r:RS×List (Option aM)}{O:Nat->Prop}(h:RA w pb ts st (λ _=>False) O)(hk:Ok ts st)(hd0:st.defs=[])(hr:policyW ts n f tw st=some r) :
  Calls prog 110 #[ay pb 0] w (wP pb ts w O r):=by
 unfold policyW at hr;cases hs:defsW ts n f 8 st with
 | none=>rw [hs]at hr;cases hr
 | some sF =>
 rw [hs]at hr;dsimp only at hr;unfold i6 at hr;cases h1:bO tw n sF []with
 | none=>rw [h1]at hr;cases hr
 | some p =>
  obtain⟨s1,l⟩:=p;rw [h1]at hr;have hmf:∀(fn:Fn) (first cap:Array Value) (w:World),(Instr.makeFunc fn first cap).run prog w=.ok (.func fn first cap) w:=λ _ _ _ _=>rfl
  have HO:=ae (λ W D O (hW:RA W pb ts sF D O) (hk:Ok ts sF)=>ID ht IH n hn hW hk h1);have HT:=ae ht;have IA:=ae hL;have HA:=ae IE;have hq:r=(if am ts (if l.length=0 then cC ts s1 else s1)=1 then(if l.length=0 then cC ts s1 else s1)else cC ts (if l.length=0 then cC ts s1 else s1),l):=(fZ hr).symm;have HR:=ae h;have HK:=ae hk;have GA:=ae hs;have hdl:st.defs.length=0:=by rw [hd0];rfl
  clear h hk ht IH h1 hr hs hL hd0 IE;generalize (if l.length=0 then cC ts s1 else s1)=s2 at *;go_enter func110,ntmps110;go_wp2_with fail;go_loopg [3] 8 (λ k i wr=>∃(j:Nat) (su:RS) (Dj Oj:Nat->Prop),i=.int .i64 (j:Int)/\j+k=8/\su.defs.length<=j/\RA wr pb ts su Dj Oj/\Fr O w Oj wr/\(∀ q,Dj q->w.heap.size<=q)/\Ok ts su/\defsW ts n f (8-j) su=some sF)
  case atStart=>exact⟨0,st,_,O,rfl,rfl,by omega,ab HR,bE _ _,λ q hq=>hq.elim,ab HK,ab GA⟩
  case round =>
   clear HR HK GA;obtain⟨j,su,Dj,Oj,rfl,hjk,hdj,hr,hf,hDj,hk,hl⟩:=hrel;have HF:=ae hf;have CA:=ae hDj;have HK:=ae hk;have hws:=hf.size;by_cases hj8:j<8
   ·rw [show 8-j=(7-j)+1 by omega,defsW,defW]at hl;by_cases k6:am ts su=6
    ·rw [aC k6]at hl;cases hrg:eithTw ts n f (ar ts 26 (aI ts (bg ts su)).1).1 with
     | none=>rw [hrg]at hl;cases hl
     | some q =>
      obtain⟨sq,mq⟩:=q;rw [hrg]at hl;dsimp only at hl
      have hdd:(ar ts 27 sq).1.defs=su.defs:=by
       rw [dA];have:=qQ ts n f _ _ hrg;dsimp only at this;rw [this,dA,nJ];rfl
      have HD:=ae (xu (ab HT) (ab HA) hr hk k6 (by rw [hdd];omega) hrg);have HL:=ae hl
      have hdn:(eQ (ar ts 27 sq).1 ⟨(aI ts (bg ts su)).2,none,some mq⟩).defs.length<=j+1:=by
       show((ar ts 27 sq).1.defs++[_]).length<=_;rw [hdd];simp;omega
      clear hr hf hDj hk hl k6 hrg hdd;generalize eQ (ar ts 27 sq).1 ⟨(aI ts (bg ts su)).2,none,some mq⟩=sN at *;go_wp2_with (go_at_call 167;refine(ab HD).mono ?_;rintro e w1 ⟨rfl,D1,O1,hr1,hf1,hD1,hk1⟩;have FA:=ae hr1;have EA:=ae hk1;have DA:=ae hD1;replace HF:=ae ((ab HF).trans hf1);clear hr1 hf1 hD1 hk1)
      have hwr:=(ab HF).size;go_roundg (8-(j+1))
      case measure=>omega
      case rel=>exact⟨j+1,sN,D1,O1,by go_num,by omega,hdn,ab FA,ab HF,λ q hq=>((ab DA) q hq).elim ((ab CA) q) (λ h=>by omega),ab EA,by rw [show 8-(j+1)=7-j by omega];exact ab HL⟩
    rw [au k6]at hl;by_cases k5:am ts su=5
    ·rw [yY,aC k5]at hl;cases hrg:gv ts n (ar ts 26 (aI ts (bg ts su)).1).1 with
     | none=>rw [hrg]at hl;cases hl
     | some q =>
      obtain⟨sq,mq⟩:=q;rw [hrg]at hl;dsimp only at hl
      have hdd:(ar ts 27 sq).1.defs=su.defs:=by
       rw [dA];have:=xR hrg;dsimp only at this;rw [this,dA,nJ];rfl
      have HD:=ae (xt (ab HT) (ab IA) n hn hr hk k5 (by rw [hdd];omega) hrg);have HL:=ae hl
      have hdn:(eQ (ar ts 27 sq).1 ⟨(aI ts (bg ts su)).2,some mq,none⟩).defs.length<=j+1:=by
       show((ar ts 27 sq).1.defs++[_]).length<=_;rw [hdd];simp;omega
      clear hr hf hDj hk hl k5 k6 hrg hdd;generalize eQ (ar ts 27 sq).1 ⟨(aI ts (bg ts su)).2,some mq,none⟩=sN at *;go_wp2_with (go_at_call 167;refine(ab HD).mono ?_;rintro e w1 ⟨rfl,D1,O1,hr1,hf1,hD1,hk1⟩;have FA:=ae hr1;have EA:=ae hk1;have DA:=ae hD1;replace HF:=ae ((ab HF).trans hf1);clear hr1 hf1 hD1 hk1)
      have hwr:=(ab HF).size;go_roundg (8-(j+1))
      case measure=>omega
      case rel=>exact⟨j+1,sN,D1,O1,by go_num,by omega,hdn,ab FA,ab HF,λ q hq=>((ab DA) q hq).elim ((ab CA) q) (λ h=>by omega),ab EA,by rw [show 8-(j+1)=7-j by omega];exact ab HL⟩
    rw [yY,au k5,au k6]at hl;dsimp only at hl;obtain rfl:su=sF:=fZ hl;have HD:=ae (Ma (ab HT) hr hk k5 k6);clear hr hf hDj hk hl k5 k6;by_cases e1:am ts s2=1
    ·rw [aC e1]at hq;have HQ:=ae hq;have HE:=ae e1;clear hq e1
     go_wp2_with (first
      | (go_at_call 167;refine(ab HD).mono ?_;clear HD;rintro e w1 ⟨rfl,hr1,hf1⟩;have HR:=ae hr1;replace HF:=ae ((ab HF).trans hf1);clear hr1 hf1))
     refine((ab HO) _ _ _ (ab HR) (ab HK)).mono ?_;rintro e w2 ⟨v,O2,rfl,hr2,hf2,hs2,hk2,⟨va,vc,rfl⟩,hl2⟩;have HS:=ae (hs2.fr (bE _ _) (ab HF).size);have AA:=ae hk2;have BA:=ae hl2;replace HR:=ae hr2;replace HF:=ae ((ab HF).trans hf2);clear hr2 hf2 hs2 hk2 hl2
     go_wp2_with (first
      | (go_at_call 170;refine(dR (ab HR) (ab AA) (ab HT) (ab HE)).mono ?_;rintro e w1 ⟨rfl,hr1,hf1⟩;replace HR:=ae hr1;replace HS:=ae ((ab HS).fr hf1 (aD _));replace HF:=ae ((ab HF).trans hf1);clear hr1 hf1)
      | fail)
     go_ret;rw [ab HQ];exact⟨_,_,_,rfl,ab HR,ab HF,(ab HS).allow (λ k _ ha=>⟨ha.1,inr (ha.2.elim ((ab CA) k) id)⟩),ab AA,⟨_,_,rfl⟩,ab BA⟩
    rw [au e1]at hq;have HQ:=ae hq;have b1:(am ts s2 != 1)=true:=by simpa using e1
    clear hq e1
    go_wp2_with (first
     | (go_at_call 167;refine(ab HD).mono ?_;clear HD;rintro e w1 ⟨rfl,hr1,hf1⟩;have HR:=ae hr1;replace HF:=ae ((ab HF).trans hf1);clear hr1 hf1))
    refine((ab HO) _ _ _ (ab HR) (ab HK)).mono ?_;rintro e w2 ⟨v,O2,rfl,hr2,hf2,hs2,hk2,⟨va,vc,rfl⟩,hl2⟩;have HS:=ae (hs2.fr (bE _ _) (ab HF).size);have AA:=ae hk2;have BA:=ae hl2;replace HR:=ae hr2;replace HF:=ae ((ab HF).trans hf2);clear hr2 hf2 hs2 hk2 hl2
    go_wp2_with (first
     | (go_at_call 170;refine(dR (ab HR) (ab AA) (ab HT) rfl).mono ?_;rintro e w1 ⟨rfl,hr1,hf1⟩;replace HR:=ae hr1;replace HS:=ae ((ab HS).fr hf1 (aD _));replace HF:=ae ((ab HF).trans hf1);clear hr1 hf1)
     | (go_at_call 171;refine(gb (ab HR) (ab AA).next (ab HT).n1).mono ?_;rintro e w1 ⟨rfl,hr1,hf1⟩;replace HR:=ae hr1;replace HS:=ae ((ab HS).fr hf1 (aD _));replace HF:=ae ((ab HF).trans hf1);clear hr1 hf1))
    go_ret;rw [ab HQ];exact⟨_,_,_,rfl,ab HR,ab HF,(ab HS).allow (λ k _ ha=>⟨ha.1,inr (ha.2.elim ((ab CA) k) id)⟩),iV (ab AA),⟨_,_,rfl⟩,ab BA⟩
   obtain rfl:j=8:=by omega
   obtain rfl:su=sF:=fZ hl;have HR:=ae hr;clear hr hf hDj hk hl;by_cases e1:am ts s2=1
   ·rw [aC e1]at hq;have HQ:=ae hq;have HE:=ae e1;clear hq e1;go_wp2_with fail;refine((ab HO) _ _ _ (ab HR) (ab HK)).mono ?_;rintro e w2 ⟨v,O2,rfl,hr2,hf2,hs2,hk2,⟨va,vc,rfl⟩,hl2⟩;have HS:=ae (hs2.fr (bE _ _) (ab HF).size);have AA:=ae hk2;have BA:=ae hl2;replace HR:=ae hr2;replace HF:=ae ((ab HF).trans hf2);clear hr2 hf2 hs2 hk2 hl2
    go_wp2_with (first
     | (go_at_call 170;refine(dR (ab HR) (ab AA) (ab HT) (ab HE)).mono ?_;rintro e w1 ⟨rfl,hr1,hf1⟩;replace HR:=ae hr1;replace HS:=ae ((ab HS).fr hf1 (aD _));replace HF:=ae ((ab HF).trans hf1);clear hr1 hf1)
     | fail)
    go_ret;rw [ab HQ];exact⟨_,_,_,rfl,ab HR,ab HF,(ab HS).allow (λ k _ ha=>⟨ha.1,inr (ha.2.elim ((ab CA) k) id)⟩),ab AA,⟨_,_,rfl⟩,ab BA⟩
   rw [au e1]at hq;have HQ:=ae hq;have b1:(am ts s2 != 1)=true:=by simpa using e1
   clear hq e1;go_wp2_with fail;refine((ab HO) _ _ _ (ab HR) (ab HK)).mono ?_;rintro e w2 ⟨v,O2,rfl,hr2,hf2,hs2,hk2,⟨va,vc,rfl⟩,hl2⟩;have HS:=ae (hs2.fr (bE _ _) (ab HF).size);have AA:=ae hk2;have BA:=ae hl2;replace HR:=ae hr2;replace HF:=ae ((ab HF).trans hf2);clear hr2 hf2 hs2 hk2 hl2
   go_wp2_with (first
    | (go_at_call 170;refine(dR (ab HR) (ab AA) (ab HT) rfl).mono ?_;rintro e w1 ⟨rfl,hr1,hf1⟩;replace HR:=ae hr1;replace HS:=ae ((ab HS).fr hf1 (aD _));replace HF:=ae ((ab HF).trans hf1);clear hr1 hf1)
    | (go_at_call 171;refine(gb (ab HR) (ab AA).next (ab HT).n1).mono ?_;rintro e w1 ⟨rfl,hr1,hf1⟩;replace HR:=ae hr1;replace HS:=ae ((ab HS).fr hf1 (aD _));replace HF:=ae ((ab HF).trans hf1);clear hr1 hf1))
   go_ret;rw [ab HQ];exact⟨_,_,_,rfl,ab HR,ab HF,(ab HS).allow (λ k _ ha=>⟨ha.1,inr (ha.2.elim ((ab CA) k) id)⟩),iV (ab AA),⟨_,_,rfl⟩,ab BA⟩
theorem qf(c:UInt8)(y:List UInt8):∀(x:List UInt8),c ∉ x->Lib.index (x++c::y) [c]=(x.length:Int)
 | [],_=>by simp [Lib.index,List.isPrefixOf]
 | b::x,h=>by
  have hb:c≠b:=λ e=>h (by rw [e];exact List.mem_cons_self)
  have ih:=qf c y x (λ e=>h (List.mem_cons_of_mem _ e));rw [List.cons_append,Lib.index,au (by simp [List.isPrefixOf,hb]),ih,au (by simp<;>omega)];simp
theorem nW(c:UInt8):∀(x:List UInt8),c ∉ x->Lib.index x [c] = -1
 | [],_=>by simp [Lib.index]
 | b::x,h=>by
  have hb:c≠b:=λ e=>h (by rw [e];exact List.mem_cons_self)
  have ih:=nW c x (λ e=>h (List.mem_cons_of_mem _ e));rw [Lib.index,au (by simp [List.isPrefixOf,hb]),ih];rfl
theorem oL(c:UInt8)(x y:List UInt8)(h:c ∉ x):Lib.cut (x++c::y) [c]=(x,y,true):=by
 have hi:=qf c y x h;unfold Lib.cut;rw [hi,aC (by omega),Int.toNat_natCast,List.take_left,show x.length+[c].length=x.length+1 from rfl,<-List.drop_drop,List.drop_left];rfl
theorem Cv(c:UInt8)(x y:List UInt8)(h:c ∉ x)(k:Nat):Lib.splitK [c] 0 (k+1) (x++c::y)=x::Lib.splitK [c] 0 k y:=by
 have hi:=qf c y x h;rw [Lib.splitK,hi,au (by simp<;>omega),Int.toNat_natCast,Nat.add_zero,List.take_left,show x.length+[c].length=x.length+1 from rfl,<-List.drop_drop,List.drop_left];rfl
theorem Aj(c:UInt8)(x:List UInt8)(h:c ∉ x)(k:Nat):Lib.splitK [c] 0 k x=[x]:=by
 cases k with
 | zero=>rfl
 | succ k=>rw [Lib.splitK,nW c x h];rfl
theorem yV:∀{a b:List ByteArray},a.map (·.data.toList)=b.map (·.data.toList)->a=b
 | [],[],_=>rfl
 | [],_::_,h=>by cases h
 | _::_,[],h=>by cases h
 | x::a,y::b,h=>by
  simp only [List.map_cons,List.cons.injEq]at h;rw [yV h.2];obtain⟨dx⟩:=x;obtain⟨dy⟩:=y
  have:dx=dy:=by
   have:=pP List.toArray h.1;simpa using this
  rw [this]
theorem zZ{p:Int->Bool}{s:ByteArray}:∀(f i:Nat),i<=s.size->∀ k,i<=k->k<ny p s f i->p (bt s k)=true
 | 0,i,_,k,h1,h2=>by rw [ny]at h2;omega
 | f+1,i,hi,k,h1,h2=>by
  rw [ny]at h2;split at h2
  ·rename_i hc;rcases Nat.lt_or_ge i k with h3|h3
   ·exact zZ f (i+1) (by omega) k h3 h2
   obtain rfl:i=k:=by omega
   exact hc.2
  omega
theorem Cp{p:Int->Bool}{s:ByteArray}{b:UInt8}(hb:b∈s.data.toList.take (aG p s 0)):p (b.toNat:Int)=true:=by
 obtain⟨k,hk,he⟩:=List.mem_iff_getElem.1 hb;have hlen:s.data.toList.length=s.size:=by simp
 rw [List.length_take]at hk;have hks:k<s.size:=by omega
 have h:=zZ (p:=p) (s:=s) (s.size-0) 0 (iL _) k (iL _) (show k<aG p s 0 by omega)
 have hb2:bt s k=(b.toNat:Int):=by
  rw [List.getElem_take]at he;have:bt (gA s.data.toList) k=(b.toNat:Int):=sV (by rw [iK (by omega),he])
  rwa [gI]at this
 rw [<-hb2];exact h
theorem zm(s:ByteArray)(n:Nat):s.extract 0 n=gA (s.data.toList.take n):=by
 have h:(s.extract 0 n).data=(gA (s.data.toList.take n)).data:=by
  rw [ByteArray.data_extract];apply Array.ext';simp
 cases hx:s.extract 0 n with
 | mk d=>rw [hx]at h;simp only at h;rw [h]
abbrev Gp:=List UInt8×aw
def Cm(l:List Gp):List UInt8:=l.flatMap λ x=>x.1++x.2.text.data.toList
def tp(g:List UInt8):Prop:=g=[32]\/g=[10]
def Jj(x:Gp):Prop:=tp x.1\/(x.1=[]/\(x.2.kind=27\/x.2.kind=28))
