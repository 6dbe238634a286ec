/- part -/
import Derived.Test.YtgdeeodifnegiaaGreatDoorSetA
import Derived.Laws.EntriesVeiled
set_option maxRecDepth 100000
set_option maxHeartbeats 4000000
namespace Go.Proofs.YtgdeeodifnegiaaGreatDoor
open Go.Proofs.Tryz
open Or
open Go.RowKit
theorem rk{ts:List aw}{st:RS}(h:Ok ts st)(ht:cE ts):Ok ts (aI ts st).1:=by
 have h1:=ch (k:=4) h ht (by decide);unfold aI;dsimp only;split
 ·exact⟨h1.next,h1.page,h1.gap⟩
 exact h1
theorem rm{pb:Nat}{ts:List aw}(ht:cE ts){w:World}{st:RS}{D O:Nat->Prop}(h:RA w pb ts st D O)(hk:Ok ts st) :
  Calls prog 212 #[ay pb 0] w λ e w'=>e=.returned (.string (aI ts st).2)/\∃ O',RA w' pb ts (aI ts st).1 D O'/\Fr O w O' w':=by
 have HT:=ae (aN h hk ht 4);have HW:=ae (show aI ts st=(if nY (ar ts 4 st).1 (ar ts 4 st).2.text then eU (ar ts 4 st).1 (ar ts 4 st).2.at_ else(ar ts 4 st).1,(ar ts 4 st).2.text)from rfl);clear h hk ht;generalize ar ts 4 st=P at *;obtain⟨s1,t⟩:=P;cases hd:nY s1 t.text with
 | true =>
  have EQ:Hid (aI ts st=(eU s1 t.at_,t.text)):=by unfold Hid;rw [ab HW,hd];rfl
  clear HW;go_enter func212,ntmps212
  go_wp2_with (first
   | (go_at_call 213;refine(ab HT).mono ?_;clear HT;rintro e w1 ⟨rfl,O1,hr1,hf1⟩;have HR:=ae (hr1.alloc (aR t));have HF:=ae (hf1.alloc (aR t));have HN:=ae (And.intro (cN w1 (aR t)) (show ¬O1 w1.heap.size from λ ho=>by have:=hr1.lt ho;omega));clear hr1 hf1;dsimp only)
   | (go_at_call 258;refine(nE (ab HR) t.text).mono ?_;rw [hd];rintro e w2 ⟨rfl,hb2⟩;replace HN:=ae (bD (Fr.of_below hb2) (ab HN).1 (ab HN).2);replace HR:=ae ((ab HR).stay hb2);replace HF:=ae ((ab HF).below hb2);clear hb2))
  have c1:w2.cell? ⟨w1.heap.size,1,none⟩=some (.int .i64 t.at_):=af (ab HN).1;have CA:=ae (λ q=>mN ((ab HR).drewN q) t.at_);go_region_with (go_at_call 228;refine((ab CA) 1).mono ?_;rintro e w3 ⟨rfl,hr3,hf3⟩)
  all_goals
   have g3:=bD ((((bE _ _).drewN 1).trans hf3)) (ab HN).1 (ab HN).2;have c3:w3.cell? ⟨w1.heap.size,2,none⟩=some (.string t.text):=af g3.1;have BA:=ae hr3;have AA:=ae (((ab HF).drewN 1).trans hf3);clear hr3 hf3 g3;go_wp2_with fail;go_ret;rw [ab EQ];exact⟨rfl,_,ab BA,ab AA⟩
 | false =>
  have EQ:Hid (aI ts st=(s1,t.text)):=by unfold Hid;rw [ab HW,hd];rfl
  clear HW;go_enter func212,ntmps212
  go_wp2_with (first
   | (go_at_call 213;refine(ab HT).mono ?_;clear HT;rintro e w1 ⟨rfl,O1,hr1,hf1⟩;have HR:=ae (hr1.alloc (aR t));have HF:=ae (hf1.alloc (aR t));have HN:=ae (And.intro (cN w1 (aR t)) (show ¬O1 w1.heap.size from λ ho=>by have:=hr1.lt ho;omega));clear hr1 hf1;dsimp only)
   | (go_at_call 258;refine(nE (ab HR) t.text).mono ?_;rw [hd];rintro e w2 ⟨rfl,hb2⟩;replace HN:=ae (bD (Fr.of_below hb2) (ab HN).1 (ab HN).2);have c2:w2.cell? ⟨w1.heap.size,2,none⟩=some (.string t.text):=af (ab HN).1;replace HR:=ae ((ab HR).stay hb2);replace HF:=ae ((ab HF).below hb2);clear hb2))
  go_ret;rw [ab EQ];exact⟨rfl,_,ab HR,ab HF⟩
def uI(w:World)(A:Nat->Prop)(v:Value):Option dU->Prop
 | none=>jl v
 | some m=>az w A (rE v m)
theorem uI.fnv{w:World}{A:Nat->Prop}{v:Value}{o:Option dU}(h:uI w A v o):jl v:=by
 cases o with
 | none=>exact h
 | some m =>
  obtain⟨K,g,lb,h1,_⟩:=az.now h;exact inl ⟨_,_,_,h1⟩
def JU(pb:Nat)(ts:List aw)(w:World)(D O:Nat->Prop)(r:RS×Option dU)(e:Ending)(w':World):Prop :=
 ∃ v O',e=.returned v/\RA w' pb ts r.1 D O'/\Fr O w O' w'/\uI w' (dk O' D w.heap.size) v r.2/\Ok ts r.1
theorem Tryz.neNil(w:World):(Sem.run prog (binOp BinOp.neq 303 .nilFunc .nilFunc) w)=.ok (.bool false) w:=by kernel_rfl
theorem Tryz.neFn(f:Fn)(a b:Array Value)(w:World):(Sem.run prog (binOp BinOp.neq 303 (.func f a b) .nilFunc) w)=.ok (.bool true) w:=by kernel_rfl
theorem CU{pb:Nat}{ts:List aw}(ht:cE ts){w:World}{st:RS}{D O:Nat->Prop}(h:RA w pb ts st D O)(hk:Ok ts st) :
  Calls prog 374 #[ay pb 0] w (JU pb ts w D O (de ts st)):=by
 have EA:=ae (aN h hk ht 4);have CA:=ae (ch (k:=4) hk ht (by decide));have HW:=ae (show de ts st=(match dP (ar ts 4 st).1.defs (ar ts 4 st).2.text with|some s=>((ar ts 4 st).1,some s)|none=>(eU (ar ts 4 st).1 (ar ts 4 st).2.at_,none))from rfl);clear h hk ht;generalize ar ts 4 st=P at *;obtain⟨s1,t⟩:=P;dsimp only at CA HW;generalize de ts st=RS2 at *;have hbf:=Tryz.neNil;have hbg:=Tryz.neFn;go_enter func374,ntmps374;go_wp2_with (go_at_call 213;refine(ab EA).mono ?_;clear EA;rintro e w1 ⟨rfl,O1,hr1,hf1⟩;have HR:=ae (hr1.alloc (aR t));have HF:=ae (hf1.alloc (aR t));have HN:=ae (And.intro (cN w1 (aR t)) (show ¬O1 w1.heap.size from λ ho=>by have:=hr1.lt ho;omega));obtain⟨dv,xs,hc,hd,hl,hrep⟩:=(hr1.alloc (aR t)).defsV;obtain⟨q,c,hq⟩:=hd.form;have HD:=ae hd;have DA:=ae (And.intro hl hrep);clear hr1 hf1 hd hl hrep;dsimp only;subst hq)
 obtain⟨W1,hW1⟩:∃ W1,w1.alloc (aR t)=W1:=⟨_,rfl⟩
 rw [hW1]at HR HF HN HD DA;unfold aR at hW1;rw [hW1];have hln:=(ab HD).len;unfold maxLen at hln;have hwf:=(ab HF).size;have hn1:w1.heap.size<W1.heap.size:=ai (ab HN).1;clear hc;go_loopw [13] (λ i wr=>∃ j:Nat,j<=xs.length/\i=.int .i64 (j:Nat)/\Hid (dP (s1.defs.drop j) t.text=dP s1.defs t.text)/\Below W1.heap.size W1 wr) (λ i _=>xs.length-(intOf i).toNat)
 case atStart=>exact⟨0,iL _,rfl,rfl,aX _ _⟩
 case round =>
  obtain⟨j,hj,rfl,BA,hbl⟩:=hrel;have AA:=ae hbl;have hsb:=hbl.size;clear hbl;by_cases hlt:j<xs.length
  ·obtain⟨g,c',hq⟩:=(ab HD).some_ (λ e=>by rw [e]at hlt;simp at hlt)
   injection hq with hq1 hq2 hq3
   subst hq1 hq3;obtain⟨hgl,hcell⟩:=((ab HD).below (ab AA)).cell g c rfl;have hx:xs[j]?=some xs[j]:=iK hlt;have hjd:j<s1.defs.length:=by rw [<-(ab DA).1];exact hlt
   obtain⟨k1,k2,k3⟩:=hcell j _ hx;have hrp:=(ab DA).2 j s1.defs[j] xs[j] (iK hjd) hx;have hfn:=(ab HD).fn xs[j] (nN _);have hdr:s1.defs.drop j=s1.defs[j]::s1.defs.drop (j+1):=List.drop_eq_getElem_cons hjd;have hfs:=ab BA;rw [hdr,dP]at hfs;have hnk:=((ab AA).block w1.heap.size hn1).trans (ab HN).1;have ct:wr.cell? ⟨w1.heap.size,2,none⟩=some (.string t.text):=af hnk;have lw:w1.heap.size<wr.heap.size:=ai hnk;clear hcell hx hdr BA hnk;generalize s1.defs[j]=dd at *;generalize xs[j]=X at *;obtain⟨n,v1,v2⟩:=X;obtain⟨hp1,hp2,_⟩:=hrp;dsimp only at k1 k2 k3 hfn hp1 hp2;subst hp1;obtain⟨h1,h2⟩:=hfn;cases hE:dd.name.toList==t.text.toList with
   | true =>
    cases hS:dd.set with
    | some m =>
     rw [hS]at hp2 hfs;dsimp only at hp2;rw [hE,aC (by simp)]at hfs;have hR2:RS2=(s1,some m):=by rw [ab HW,<-hfs]
     obtain⟨K0,g0,lb0,hv0,_⟩:=az.now hp2;have GA:=ae hp2;subst hR2;clear hp2 hfs h1;subst hv0;rcases h2 with⟨f',a',b',rfl⟩|rfl <;>
     ·go_wp2_with fail;go_ret;refine⟨_,_,rfl,((ab HR).stay (ab AA)).alloc _,((ab HF).below (ab AA)).alloc _,?_,ab CA⟩;exact az.mono (ab GA) (by simp;omega) (λ k hk ha=>⟨(eW _ _ _ (by omega)).trans ((ab AA).block k hk),ha.1,inl ha.2⟩) (λ _ _ h=>h)
    | none =>
     rw [hS]at hp2 hfs;dsimp only at hp2;rw [au (by simp)]at hfs;have BA:=ae hfs;clear hfs h1;subst hp2;rcases h2 with⟨f',a',b',rfl⟩|rfl <;>
     ·go_wp2_with fail;exact⟨⟨j+1,by omega,by go_num,BA,(ab AA).alloc hsb _⟩,by simp [intOf];omega⟩
   | false =>
    rw [hE,au (by simp)]at hfs;have BA:=ae hfs;clear hfs hp2;rcases h1 with⟨f,a,b,rfl⟩|rfl<;>rcases h2 with⟨f',a',b',rfl⟩|rfl <;>
    ·go_wp2_with fail;exact⟨⟨j+1,by omega,by go_num,BA,(ab AA).alloc hsb _⟩,by simp [intOf];omega⟩
  have hfs:=ab BA;rw [List.drop_eq_nil_of_le (by rw [<-(ab DA).1];omega),dP]at hfs;have hR2:RS2=(eU s1 t.at_,none):=by rw [ab HW,<-hfs]
  subst hR2;have hnk:=((ab AA).block w1.heap.size hn1).trans (ab HN).1;have ct:wr.cell? ⟨w1.heap.size,1,none⟩=some (.int .i64 t.at_):=af hnk;have IA:=ae (λ q=>mN (((ab HR).stay (ab AA)).drewN q) t.at_);clear hfs BA hnk;go_wp2_with fail;go_region_with (go_at_call 228;refine((ab IA) 1).mono ?_;rintro e w3 ⟨rfl,hr3,hf3⟩)
  all_goals
   have HA:=ae hr3;have FA:=ae ((((ab HF).below (ab AA)).drewN 1).trans hf3);clear hr3 hf3;go_wp2_with fail;go_ret;exact⟨_,_,rfl,ab HA,ab FA,inr rfl,⟨(ab CA).next,(ab CA).page,(ab CA).gap⟩⟩
theorem E8(W:World)(b:Nat)(r:Rt)(pv mv:Value)(h:dK W b r pv mv)(va:Value)(ma:dU)(Ka:Nat->Prop)(ha:rE va ma Ka W)(B1:Nat)(c1:W.cell? ⟨B1,0,none⟩=some va) :
  Calls prog 383 (#[ay b 0]++#[ay B1 0]) W λ e W'=>e=.returned (jI (nZ ma r))/\Below W.heap.size W W':=by
 obtain⟨g,lb,rfl,eg,hc⟩:=ha;have e1:=cL eg;have HA:=ae (λ(V:World) (hV:Below W.heap.size W V)=>hc V r.addr r.len hV);have r0:W.cell? ⟨b,0,none⟩=some (.int .i64 r.addr):=af h.blk;have r1:W.cell? ⟨b,1,none⟩=some (.int .i64 r.len):=af h.blk;have EQ:Hid (jI (nZ ma r)=.tuple #[.bool (ma r.addr r.len),.bool true]):=rfl;clear hc h eg;rw [ab EQ];generalize ma r.addr r.len=M at *;go_enter func383,ntmps383;go_wp2_with fail;go_region_with (go_at_fn g;refine((ab HA) _ (aX _ _).drew).mono ?_;rintro e w1 ⟨rfl,hb1⟩;have AA:=ae (((aX W.heap.size W).drew).trans (hb1.mono (aD _)));clear hb1)
 all_goals
  go_wp2_with fail
  go_ret2
  exact⟨rfl,ab AA⟩
theorem B6(w:World)(va:Value)(ha:jl va) :
  Calls prog 373 #[va] w λ e w'=>e=.returned (.func (.func 383) #[] #[ay w.heap.size 0])/\w'=(w.alloc (aF va 303)):=by
 have hmf:∀(fn:Fn) (first cap:Array Value) (w:World),(Instr.makeFunc fn first cap).run prog w=.ok (.func fn first cap) w:=λ _ _ _ _=>rfl
 rcases ha with⟨f,a,b,rfl⟩|rfl <;>
 ·go_enter func373,ntmps373;go_wp2_with fail;go_ret;exact⟨rfl,rfl⟩
theorem Tryz.entNetIn:Enters prog 383:=enters_of func383 (by kernel_rfl) rfl
theorem uI.alloc{w:World}{A:Nat->Prop}{v:Value}{o:Option dU}(h:uI w A v o)(b:Obj):uI (w.alloc b) A v o:=by
 cases o with
 | none=>exact h
 | some m=>exact az.mono h (bK w b A).1 (bK w b A).2 (λ _ _ h=>h)
theorem uI.fr{w w':World}{O O' D:Nat->Prop}{n m:Nat}{v:Value}{o:Option dU}(h:uI w (dk O D n) v o)(hf:Fr O w O' w')(hm:m<=n):uI w' (dk O' D m) v o:=by
 cases o with
 | none=>exact h
 | some x=>exact az.fr h hf hm
theorem E7(w:World)(va:Value)(oa:Option dU)(A:Nat->Prop)(hA:∀ k,w.heap.size<=k->A k)(ha:uI w A va oa) :
  Calls prog 373 #[va] w λ e w'=>∃ v,e=.returned v/\w'=(w.alloc (aF va 303))/\gH w' A v (oa.map nZ):=by
 refine(B6 w va ha.fnv).mono ?_;rintro e w' ⟨rfl,rfl⟩;refine⟨_,rfl,rfl,?_⟩;cases oa with
 | none=>exact inl ⟨_,_,_,rfl⟩
 | some ma =>
  have h1:az _ A (rE va ma):=ha.alloc (aF va 303);refine az.one h1 (λ k=>k=w.heap.size) (λ k hk=>⟨by subst hk;simp,hA k (by omega)⟩) (λ K1 _ q1 W hW hk=>?_);exact⟨_,_,rfl,Tryz.entNetIn,λ b r pv mv hr=>E8 W b r pv mv hr va ma K1 (q1 W hW (λ k h=>hk k (inl h))) _ (af ((hk _ (inr rfl)).trans (cN w _)))⟩
theorem JJ{pb:Nat}{ts:List aw}(ht:cE ts){w:World}{st:RS}{D O:Nat->Prop}(h:RA w pb ts st D O)(hk:Ok ts st)(e21:am ts st=21) :
  Calls prog 358 #[ay pb 0] w (kW pb ts w D O ((de ts (ar ts 22 (bg ts st)).1).1,(de ts (ar ts 22 (bg ts st)).1).2.map nZ)):=by
 have HR:=ae h;have HF:=ae (bE O w);have HK:=ae hk;have HT:=ae ht;have HE:=ae e21;have HG:=ae (cu hk ht e21 (by decide));have AA:=ae (ch (k:=22) (ab HG) ht (by decide));clear h hk ht e21;go_enter func358,ntmps358
 go_wp2_with (first
  | (go_at_call 211;refine(bY (ab HR) (ab HK) (ab HT) 21 (ab HE)).mono ?_;rintro e w1 ⟨rfl,O1,hr1,hf1⟩;replace HR:=ae hr1;replace HF:=ae ((ab HF).trans hf1);clear hr1 hf1)
  | (go_at_call 213;refine(aN (ab HR) (ab HG) (ab HT) 22).mono ?_;rintro e w2 ⟨rfl,O2,hr2,hf2⟩;replace HR:=ae hr2;replace HF:=ae ((ab HF).trans hf2);clear hr2 hf2)
  | (go_at_call 374;refine(CU (ab HT) (ab HR) (ab AA)).mono ?_;rintro e w3 ⟨v,O3,rfl,hr3,hf3,hv3,hk3⟩;have HV:=ae (hv3.fr (bE _ _) (ab HF).size);have BA:=ae hk3;have hfv:=hv3.fnv;replace HR:=ae hr3;replace HF:=ae ((ab HF).trans hf3);clear hr3 hf3 hv3 hk3))
 refine(E7 _ v _ _ ((ab HR).newFree (ab HF)) (ab HV)).mono ?_;rintro e w4 ⟨v4,rfl,rfl,hv4⟩;have CA:=ae hv4;replace HR:=ae ((ab HR).alloc (aF v 303));replace HF:=ae ((ab HF).alloc (aF v 303));clear hv4;go_wp2_with fail;go_ret;exact⟨_,_,rfl,ab HR,ab HF,ab CA,ab BA⟩
def eQ(st:RS)(d:fe):RS:={ st with defs:=st.defs++[d] }
def yY(ts:List aw)(n:Nat)(st:RS):Option (RS×Bool) :=
 if am ts st=5 then
  (match gv ts n (ar ts 26 (aI ts (bg ts st)).1).1 with
   | none=>none
   | some (s,m)=>some (eQ (ar ts 27 s).1 ⟨(aI ts (bg ts st)).2,some m,none⟩,true))
 else if am ts st=6 then none
 else some (st,false)
theorem nA.addDef{w w1 w2:World}{pb:Nat}{ts:List aw}{st:RS}{D:Nat->Prop}{tb tc:Nat}{dv av bv:Value}(h:nA w pb ts st D tb tc dv av bv)(hb:Below w.heap.size w w1){g cap n0:Nat}{name:ByteArray}{v:Value}{m:dU}
  (hv:az w (dk (dS pb tb dv bv) D n0) (rE v m)) {xs:List (ByteArray×Value×Value)} (hx2:xs.length=st.defs.length) (hx3:∀(i:Nat) (d:fe) (x:ByteArray×Value×Value),st.defs[i]?=some d->xs[i]?=some x->kX w (λ k=>¬dS pb tb dv bv k/\D k) d x)
  (hown:w2.ownsRow 0 307 3 (.slice (some ⟨g,0,none⟩) (st.defs.length+1) cap) (st.defs.length+1) (bI xs++[.string name,v,.nilFunc])) (hg:w1.grownBy w2 dv.ownBlock) (hat:dv.ownBlock=some g\/g=w1.heap.size) :
  ∃ D',(∀ k,D' k->D k\/n0<=k)/\RA (w2.setCell ⟨pb,3,none⟩ (.slice (some ⟨g,0,none⟩) (st.defs.length+1) cap)) pb ts (eQ st ⟨name,some m,none⟩) D' (dS pb tb (.slice (some ⟨g,0,none⟩) (st.defs.length+1) cap) bv) /\
   Fr (dS pb tb dv bv) w (dS pb tb (.slice (some ⟨g,0,none⟩) (st.defs.length+1) cap) bv) (w2.setCell ⟨pb,3,none⟩ (.slice (some ⟨g,0,none⟩) (st.defs.length+1) cap)):=by
 obtain⟨K,hK,hQ⟩:=hv;have hpl:=ai h.blk;have hs1:=hb.size;have hs2:=hg.size
 have hag:∀ k,k<w.heap.size->k≠pb->dv.ownBlock≠some k->(w2.setCell ⟨pb,3,none⟩ (.slice (some ⟨g,0,none⟩) (st.defs.length+1) cap)).heap[k]?=w.heap[k]?:=λ k hk hne hd =>
  (ah hne).trans ((hg.block k (by omega) (λ e=>hd e.symm)).trans (hb.block k hk))
 have hpb:w2.heap[pb]?=w.heap[pb]?:=(hg.block pb (by omega) (λ e=>h.ne4 e.symm)).trans (hb.block pb hpl)
 have hgp:g≠pb:=λ e=>by
  rcases hat with h1|h1
  ·exact h.ne4 (by rw [h1,e])
  omega
 have hss:(w2.setCell ⟨pb,3,none⟩ (.slice (some ⟨g,0,none⟩) (st.defs.length+1) cap)).heap.size=w2.heap.size:=by simp [World.setCell]
 have hgo:∀ k,k<w.heap.size->dv.ownBlock≠some k->g≠k:=λ k hk hd e=>by
  rcases hat with h1|h1
  ·exact hd (by rw [h1,e])
  omega
 have hno:∀ k,k<w.heap.size->¬dS pb tb dv bv k->¬dS pb tb (.slice (some ⟨g,0,none⟩) (st.defs.length+1) cap) bv k:=λ k hk hn ho=>by
  rcases ho with e|e|e|e
  ·exact hn (inl e)
  ·exact hn (inr (inl e))
  ·exact hn (inr (inr (inl e)))
  have e':g=k:=by simpa [Value.ownBlock]using e
  exact hgo k hk (λ e2=>hn (inr (inr (inr e2)))) e'
 have hagn:∀ k,k<w.heap.size->¬dS pb tb dv bv k->(w2.setCell ⟨pb,3,none⟩ (.slice (some ⟨g,0,none⟩) (st.defs.length+1) cap)).heap[k]?=w.heap[k]?:=λ k hk hn =>
  hag k hk (λ e=>hn (inl e)) (λ e=>hn (inr (inr (inr e))))
 refine⟨λ k=>D k\/K k,λ k hk=>hk.elim inl (λ h1=>(hK k h1).2.2),⟨tb,tc,_,av,bv,⟨?_,?_,?_,h.used,?_,h.ne1,h.ne2,h.ne3,?_,?_,?_,?_⟩,rfl⟩,?_⟩
 ·rw [aB (hpb.trans h.blk)];rfl
 ·exact ap h.toks (λ k e=>by
   have e':tb=k:=by simpa [Value.ownBlock]using e
   subst e';exact hag tb (h.lt (inr (inl rfl))) h.ne1 h.ne5)
 ·exact ap h.page (λ k e=>hag k (h.lt (inr (inr (inl e)))) (λ e2=>h.ne2 (by rw [e,e2])) (λ e2=>by
   rcases h.ne6 with h1|h1
   ·rw [h1]at e;cases e
   ·exact h1 (e.trans e2.symm)))
 ·refine⟨xs++[(name,v,.nilFunc)],?_,by simp [eQ,hx2],λ i d x hd hx=>?_⟩
  ·have e1:bI (xs++[(name,v,.nilFunc)])=bI xs++[.string name,v,.nilFunc]:=by simp [bI]
   rw [e1];have e2:(eQ st ⟨name,some m,none⟩).defs.length=st.defs.length+1:=by simp [eQ]
   rw [e2]
   exact ap hown (λ k e=>by
    have e':g=k:=by simpa [Value.ownBlock]using e
    subst e';exact ah hgp)
  have hd':(st.defs++[(⟨name,some m,none⟩:fe)])[i]?=some d:=hd;rcases Nat.lt_or_ge i st.defs.length with hi|hi
  ·rw [List.getElem?_append_left hi]at hd';rw [List.getElem?_append_left (by omega)]at hx;exact(hx3 i d x hd' hx).mono (by omega) (λ k hk ha=>⟨hagn k hk ha.1,hno k hk ha.1,inl ha.2⟩)
  rw [List.getElem?_append_right hi]at hd';rw [List.getElem?_append_right (by omega)]at hx
  have hi0:i-st.defs.length=0:=by
   rcases yj (i-st.defs.length)with h1|h1
   ·exact h1
   rw [List.getElem?_eq_none (by simp;omega)]at hd';cases hd'
  rw [hi0]at hd';rw [hx2,hi0]at hx;simp at hd' hx;subst hd' hx;refine⟨rfl,⟨K,λ k hk=>⟨by have:=(hK k hk).1;omega,hno k (hK k hk).1 (hK k hk).2.1,inr hk⟩,λ V hV hk=>hQ V (by omega) (λ k h1=>(hk k h1).trans (hagn k (hK k h1).1 (hK k h1).2.1))⟩,rfl⟩
 ·intro e;have e':g=pb:=by simpa [Value.ownBlock]using e
  exact hgp e'
 ·intro e;have e':g=tb:=by simpa [Value.ownBlock]using e
  exact hgo tb (h.lt (inr (inl rfl))) h.ne5 e'
 ·cases hbo:bv.ownBlock with
  | none=>exact inl rfl
  | some k =>
   right;intro e;have e':k=g:=by simpa [Value.ownBlock]using e
   have hkl:=h.lt (inr (inr (inl hbo)));refine hgo k hkl (λ e2=>?_) e'.symm;rcases h.ne6 with h1|h1
   ·rw [h1]at hbo;cases hbo
   exact h1 (hbo.trans e2.symm)
 ·intro k hk;rcases hk with h1|h1
  ·exact⟨by have:=(h.free k h1).1;omega,hno k (h.free k h1).1 (h.free k h1).2⟩
  exact⟨by have:=(hK k h1).1;omega,hno k (hK k h1).1 (hK k h1).2.1⟩
 have hF:Fr (dS pb tb dv bv) w (dS pb tb dv bv) w2:=(Fr.of_below hb).grown hg (λ k e=>inl (inr (inr (inr e))));refine(hF.reown (O2:=dS pb tb (.slice (some ⟨g,0,none⟩) (st.defs.length+1) cap) bv) (λ k hk=>?_)).setCell (inl (inl rfl)) _;rcases hk with e|e|e|e
 ·exact inl (inl e)
 ·exact inl (inr (inl e))
 ·exact inl (inr (inr (inl e)))
 have e':g=k:=by simpa [Value.ownBlock]using e
 rcases hat with h1|h1
 ·exact inl (inr (inr (inr (by rw [h1,e']))))
 exact inr (by omega)
def Gt(pb:Nat)(ts:List aw)(w:World)(D O:Nat->Prop)(r:RS×Bool)(e:Ending)(w':World):Prop :=
 e=.returned (.bool r.2)/\∃ D' O',RA w' pb ts r.1 D' O'/\Fr O w O' w'/\(∀ k,D' k->D k\/w.heap.size<=k)/\Ok ts r.1
abbrev jf(s:ByteArray)(a b:Value):Obj:=.cells #[.string s,a,b] 307
theorem Tryz.infoDef:(prog.info? 307).map (λ i=>(i.zero,i.size,i.bytes))=some (some (.agg #[.string ⟨#[]⟩,.nilFunc,.nilFunc]),3,32):=by kernel_rfl
theorem xt{pb:Nat}{ts:List aw}(ht:cE ts)(hL:l9 ts)(n:Nat)(hn:n<=1000){w:World}{st:RS}{D O:Nat->Prop}(h:RA w pb ts st D O)(hk:Ok ts st)(e5:am ts st=5){s:RS}{m:dU}(hdl:(ar ts 27 s).1.defs.length<=1000)
  (hr:gv ts n (ar ts 26 (aI ts (bg ts st)).1).1=some (s,m)) :
  Calls prog 167 #[ay pb 0] w (Gt pb ts w D O (eQ (ar ts 27 s).1 ⟨(aI ts (bg ts st)).2,some m,none⟩,true)):=by
 have HT:=ae ht;have HK:=ae hk;have HE:=ae e5;have HA:=ae (λ(W:World) (D O:Nat->Prop) (su:RS) (r:RS×dU) (h:RA W pb ts su D O) (hk:Ok ts su) (hr:gv ts n su=some r)=>zR ht hL n hn h hk hr);have HG:=ae (cu hk ht e5 (by decide));have AA:=ae (rk (ab HG) ht);have FA:=ae (ch (k:=26) (ab AA) ht (by decide));have HS:=ae hr;have HF:=ae ((bE O w).alloc (jf ⟨#[]⟩ .nilFunc .nilFunc));have HR:=ae (h.alloc (jf ⟨#[]⟩ .nilFunc .nilFunc));have DA:Hid (¬D w.heap.size):=λ hd=>by have:=(h.free hd).1;omega
 have HB:=ae (And.intro (cN w (jf ⟨#[]⟩ .nilFunc .nilFunc)) (show ¬O w.heap.size from λ ho=>by have:=h.lt ho;omega));clear h hk ht e5 hL hr;generalize hNN:aI ts (bg ts st)=NN at *;obtain⟨s2,nm⟩:=NN;dsimp only at AA FA HS ⊢;go_enter func167,ntmps167
 go_wp2_with (first
  | (go_at_call 211;refine(bY (ab HR) (ab HK) (ab HT) 5 (ab HE)).mono ?_;clear HE;rintro e w1 ⟨rfl,O1,hr1,hf1⟩;replace HB:=ae (bD hf1 (ab HB).1 (ab HB).2);replace HR:=ae hr1;replace HF:=ae ((ab HF).trans hf1);clear hr1 hf1)
  | (go_at_call 212;refine(rm (ab HT) (ab HR) (ab HG)).mono ?_;rw [hNN];rintro e w2 ⟨rfl,O2,hr2,hf2⟩;dsimp only;replace HB:=ae (bD hf2 (ab HB).1 (ab HB).2);have c0:w2.cell? ⟨w.heap.size,0,none⟩=some (.string ⟨#[]⟩):=af (ab HB).1;have z0:w2.frozen? ⟨w.heap.size,0,none⟩=false:=ak (ab HB).1;replace HR:=ae (hr2.other ⟨(ab HB).2,ab DA⟩ 0 (.string nm));replace HF:=ae (((ab HF).trans hf2).setCell (p:=⟨w.heap.size,0,none⟩) (inr (aD _)) (.string nm));replace HB:=ae (And.intro (show(w2.setCell ⟨w.heap.size,0,none⟩ (.string nm)).heap[w.heap.size]?=some (jf nm .nilFunc .nilFunc)from(aB (ab HB).1).trans rfl) (ab HB).2);clear hr2 hf2)
  | (go_at_call 213;refine(aN (ab HR) (ab AA) (ab HT) 26).mono ?_;clear AA;rintro e w3 ⟨rfl,O3,hr3,hf3⟩;replace HB:=ae (bD hf3 (ab HB).1 (ab HB).2);replace HR:=ae hr3;replace HF:=ae ((ab HF).trans hf3);clear hr3 hf3 c0 z0)
  | (go_at_call 214;refine((ab HA) _ _ _ _ _ (ab HR) (ab FA) (ab HS)).mono ?_;clear HA;rintro e w4 ⟨v,O4,rfl,hr4,hf4,hfv,hv,hk4⟩;have hbd:w.heap.size<w3.heap.size:=ai (ab HB).1;obtain⟨K1,g1,lb1,hv1,_⟩:=az.now hv;replace HB:=ae (bD hf4 (ab HB).1 (ab HB).2);have c1:w4.cell? ⟨w.heap.size,1,none⟩=some .nilFunc:=af (ab HB).1;have z1:w4.frozen? ⟨w.heap.size,1,none⟩=false:=ak (ab HB).1;have HV:=ae (show az (w4.setCell ⟨w.heap.size,1,none⟩ v) (dk O4 D w3.heap.size) (rE v m)from hv.mono (by simp [World.setCell]) (λ k hk ha=>⟨ah (λ e=>by(have e':k=w.heap.size:=e);subst e';(rcases ha.2 with h1|h1);(exact(ab DA) h1);omega),ha⟩) (λ _ _ h=>h));replace HR:=ae (hr4.other ⟨(ab HB).2,ab DA⟩ 1 v);replace HF:=ae (((ab HF).trans hf4).setCell (p:=⟨w.heap.size,1,none⟩) (inr (aD _)) v);replace HB:=ae (And.intro (show(w4.setCell ⟨w.heap.size,1,none⟩ v).heap[w.heap.size]?=some (jf nm v .nilFunc)from(aB (ab HB).1).trans rfl) (ab HB).2);have GA:=ae hk4;clear hr4 hf4 hv hk4 hfv;subst hv1)
  | (go_at_call 213;refine(aN (ab HR) (ab GA) (ab HT) 27).mono ?_;rintro e w5 ⟨rfl,O5,hr5,hf5⟩;replace HB:=ae (bD hf5 (ab HB).1 (ab HB).2);replace HV:=ae (az.fr (ab HV) hf5 (aD _));replace HR:=ae hr5;replace HF:=ae ((ab HF).trans hf5);clear hr5 hf5 c1 z1))
 have BA:=ae (ch (k:=27) (ab GA) (ab HT) (by decide));generalize ar ts 27 s=P5 at *;obtain⟨s5,t5⟩:=P5;dsimp only at BA hdl HR ⊢;obtain⟨tb,tc,dv,av,bv,hrt,hO5⟩:=ab HR;subst hO5;obtain⟨xs,hx1,hx2,hx3⟩:=hrt.defs;obtain⟨i0,hi0,hz0,hz1,hz2⟩:=info_parts Tryz.infoDef;obtain⟨da,dc,hdv⟩:=bi hx1;have hbe:Below w5.heap.size w5 (w5.alloc (jf nm (.func (.func g1) #[] lb1) .nilFunc)).drew:=((aX _ _).alloc (aD _) _).drew;have cdv:w5.cell? ⟨pb,3,none⟩=some dv:=af hrt.blk;have hpl:=ai hrt.blk;have d0:w5.cell? ⟨w.heap.size,0,none⟩=some (.string nm):=af (ab HB).1;have d1:w5.cell? ⟨w.heap.size,1,none⟩=some (.func (.func g1) #[] lb1):=af (ab HB).1;have d2:w5.cell? ⟨w.heap.size,2,none⟩=some .nilFunc:=af (ab HB).1;have ld:=ai (ab HB).1;have LA:=ae hx1;have MA:=ae hx2;have NA:=ae hx3;have EA:=ae hrt;have CA:=ae hbe;clear hbe hx1 hx2 hx3 hrt HR HB;subst hdv
 go_region_law ((refine step_append_lies _ (by rfl) _ _ _ (by rfl) 0 307 i0 _ 3 32 underlying201 hi0 hz0 hz1 hz2 rfl (by omega) (.slice da s5.defs.length dc) s5.defs.length (bI xs) (by rfl) (((ab LA).alloc _).drew) ⟨w5.heap.size,0,none⟩ 1 1 [.string nm,.func (.func g1) #[] lb1,.nilFunc] (by rfl) rfl (World.news_of_block (cs:=#[.string nm,.func (.func g1) #[] lb1,.nilFunc]) (t:=307) (fr:=(0,0)) (cN w5 _)) (by simp [Value.oneCell']) (by omega) (by unfold maxLen;omega) (by omega) (iL _) _ rfl ?_);(intro g cap w7 hown hg hat hgl;obtain⟨D',hDD,hra,hfr⟩:=(ab EA).addDef (ab CA) (ab HV) (ab MA) (ab NA) hown hg hat;have hp7:w7.heap[pb]?=w5.heap[pb]?:=(hg.block pb (eV hpl (ab CA).size) (λ e=>(ab EA).ne4 e.symm)).trans ((ab CA).block pb hpl);have cd7:w7.cell? ⟨pb,3,none⟩=some (.slice da s5.defs.length dc):=(World.cell?_of_block (a:=⟨pb,3,none⟩) hp7).trans cdv;have zd7:w7.frozen? ⟨pb,3,none⟩=false:=(World.frozen?_of_block (a:=⟨pb,3,none⟩) hp7).trans (ak (ab EA).blk);have IA:=ae hDD;have KA:=ae hra;have JA:=ae hfr;clear hDD hra hfr hown hg hat hp7))
 all_goals
  go_wp2_with fail;go_ret;exact⟨rfl,_,_,ab KA,(ab HF).trans (ab JA),λ k hk=>((ab IA) k hk).imp id (λ h=>by omega),⟨(ab BA).next,(ab BA).page,(ab BA).gap⟩⟩
