/- part -/
import Derived.Test.YtphhnjljlllnlaaGreatDoorSetA
import Derived.Laws.EntriesVeiled
set_option maxRecDepth 100000
set_option maxHeartbeats 4000000
namespace Go.Proofs.YtphhnjljlllnlaaGreatDoor
open Go.Proofs.Tryz
open Or
open Go.RowKit
theorem rR{ts:List ak}{st:RS}(h:Ok ts st)(ht:bY ts):Ok ts (bI ts st).1:=by
 have h1:=bT (k:=4) h ht (by decide);unfold bI;dsimp only;split
 ·exact⟨h1.next,h1.page,h1.gap⟩
 exact h1
theorem rS{pb:Nat}{ts:List ak}(ht:bY ts){w:World}{st:RS}{D O:Nat->Prop}(h:RA w pb ts st D O)(hk:Ok ts st) :
  Calls prog 138 #[au pb 0] w λ e w'=>e=.returned (.string (bI ts st).2)/\∃ O',RA w' pb ts (bI ts st).1 D O'/\Fr O w O' w':=by
 have HT:=af (bL h hk ht 4);have HW:=af (show bI ts st=(if j0 (aC ts 4 st).1 (aC ts 4 st).2.text then eJ (aC ts 4 st).1 (aC ts 4 st).2.at_ else(aC ts 4 st).1,(aC ts 4 st).2.text)from rfl);clear h hk ht;generalize aC ts 4 st=P at *;obtain⟨s1,t⟩:=P;cases hd:j0 s1 t.text with
 | true =>
  have EQ:Hid (bI ts st=(eJ s1 t.at_,t.text)):=by unfold Hid;rw [ae HW,hd];rfl
  clear HW;go_enter func138,ntmps138
  go_wp2_with (first
   | (go_at_call 139;refine(ae HT).mono ?_;clear HT;rintro e w1 ⟨rfl,O1,hr1,hf1⟩;have HR:=af (hr1.alloc (aQ t));have HF:=af (hf1.alloc (aQ t));have HN:=af (And.intro (cM w1 (aQ t)) (show ¬O1 w1.heap.size from λ ho=>by have:=hr1.lt ho;omega));clear hr1 hf1;dsimp only)
   | (go_at_call 179;refine(oD (ae HR) t.text).mono ?_;rw [hd];rintro e w2 ⟨rfl,hb2⟩;replace HN:=af (bH (Fr.of_below hb2) (ae HN).1 (ae HN).2);replace HR:=af ((ae HR).stay hb2);replace HF:=af ((ae HF).below hb2);clear hb2))
  have c1:w2.cell? ⟨w1.heap.size,1,none⟩=some (.int .i64 t.at_):=ag (ae HN).1;have CA:=af (λ q=>nC ((ae HR).drewN q) t.at_);go_region_with (go_at_call 154;refine((ae CA) 1).mono ?_;rintro e w3 ⟨rfl,hr3,hf3⟩)
  all_goals
   have g3:=bH ((((dw _ _).drewN 1).trans hf3)) (ae HN).1 (ae HN).2;have c3:w3.cell? ⟨w1.heap.size,2,none⟩=some (.string t.text):=ag g3.1;have BA:=af hr3;have AA:=af (((ae HF).drewN 1).trans hf3);clear hr3 hf3 g3;go_wp2_with fail;go_ret;rw [ae EQ];exact⟨rfl,_,ae BA,ae AA⟩
 | false =>
  have EQ:Hid (bI ts st=(s1,t.text)):=by unfold Hid;rw [ae HW,hd];rfl
  clear HW;go_enter func138,ntmps138
  go_wp2_with (first
   | (go_at_call 139;refine(ae HT).mono ?_;clear HT;rintro e w1 ⟨rfl,O1,hr1,hf1⟩;have HR:=af (hr1.alloc (aQ t));have HF:=af (hf1.alloc (aQ t));have HN:=af (And.intro (cM w1 (aQ t)) (show ¬O1 w1.heap.size from λ ho=>by have:=hr1.lt ho;omega));clear hr1 hf1;dsimp only)
   | (go_at_call 179;refine(oD (ae HR) t.text).mono ?_;rw [hd];rintro e w2 ⟨rfl,hb2⟩;replace HN:=af (bH (Fr.of_below hb2) (ae HN).1 (ae HN).2);have c2:w2.cell? ⟨w1.heap.size,2,none⟩=some (.string t.text):=ag (ae HN).1;replace HR:=af ((ae HR).stay hb2);replace HF:=af ((ae HF).below hb2);clear hb2))
  go_ret;rw [ae EQ];exact⟨rfl,_,ae HR,ae HF⟩
def vF(w:World)(A:Nat->Prop)(v:Value):Option dU->Prop
 | none=>jD v
 | some m=>ax w A (sj v m)
theorem vF.fnv{w:World}{A:Nat->Prop}{v:Value}{o:Option dU}(h:vF w A v o):jD v:=by
 cases o with
 | none=>exact h
 | some m =>
  obtain⟨K,g,lb,h1,_⟩:=ax.now h;exact inl ⟨_,_,_,h1⟩
def KY(pb:Nat)(ts:List ak)(w:World)(D O:Nat->Prop)(r:RS×Option dU)(e:Ending)(w':World):Prop :=
 ∃ v O',e=.returned v/\RA w' pb ts r.1 D O'/\Fr O w O' w'/\vF w' (cW O' D w.heap.size) v r.2/\Ok ts r.1
theorem Tryz.neNil(w:World):(Sem.run prog (binOp BinOp.neq 218 .nilFunc .nilFunc) w)=.ok (.bool false) w:=by kernel_rfl
theorem Tryz.neFn(f:Fn)(a b:Array Value)(w:World):(Sem.run prog (binOp BinOp.neq 218 (.func f a b) .nilFunc) w)=.ok (.bool true) w:=by kernel_rfl
theorem Eg{pb:Nat}{ts:List ak}(ht:bY ts){w:World}{st:RS}{D O:Nat->Prop}(h:RA w pb ts st D O)(hk:Ok ts st) :
  Calls prog 277 #[au pb 0] w (KY pb ts w D O (gE ts st)):=by
 have EA:=af (bL h hk ht 4);have CA:=af (bT (k:=4) hk ht (by decide));have HW:=af (show gE ts st=(match fW (aC ts 4 st).1.defs (aC ts 4 st).2.text with|some s=>((aC ts 4 st).1,some s)|none=>(eJ (aC ts 4 st).1 (aC ts 4 st).2.at_,none))from rfl);clear h hk ht;generalize aC ts 4 st=P at *;obtain⟨s1,t⟩:=P;dsimp only at CA HW;generalize gE ts st=RS2 at *;have hbf:=Tryz.neNil;have hbg:=Tryz.neFn;go_enter func277,ntmps277;go_wp2_with (go_at_call 139;refine(ae EA).mono ?_;clear EA;rintro e w1 ⟨rfl,O1,hr1,hf1⟩;have HR:=af (hr1.alloc (aQ t));have HF:=af (hf1.alloc (aQ t));have HN:=af (And.intro (cM w1 (aQ t)) (show ¬O1 w1.heap.size from λ ho=>by have:=hr1.lt ho;omega));obtain⟨dv,xs,hc,hd,hl,hrep⟩:=(hr1.alloc (aQ t)).defsV;obtain⟨q,c,hq⟩:=hd.form;have HD:=af hd;have DA:=af (And.intro hl hrep);clear hr1 hf1 hd hl hrep;dsimp only;subst hq)
 obtain⟨W1,hW1⟩:∃ W1,w1.alloc (aQ t)=W1:=⟨_,rfl⟩
 rw [hW1]at HR HF HN HD DA;unfold aQ at hW1;rw [hW1];have hln:=(ae HD).len;unfold maxLen at hln;have hwf:=(ae HF).size;have hn1:w1.heap.size<W1.heap.size:=ah (ae HN).1;clear hc;go_loopw [13] (λ i wr=>∃ j:Nat,j<=xs.length/\i=.int .i64 (j:Nat)/\Hid (fW (s1.defs.drop j) t.text=fW s1.defs t.text)/\Below W1.heap.size W1 wr) (λ i _=>xs.length-(intOf i).toNat)
 case atStart=>exact⟨0,dG _,rfl,rfl,aY _ _⟩
 case round =>
  obtain⟨j,hj,rfl,BA,hbl⟩:=hrel;have AA:=af hbl;have hsb:=hbl.size;clear hbl;by_cases hlt:j<xs.length
  ·obtain⟨g,c',hq⟩:=(ae HD).some_ (λ e=>by rw [e]at hlt;simp at hlt)
   injection hq with hq1 hq2 hq3
   subst hq1 hq3;obtain⟨hgl,hcell⟩:=((ae HD).below (ae AA)).cell g c rfl;have hx:xs[j]?=some xs[j]:=gW hlt;have hjd:j<s1.defs.length:=by rw [<-(ae DA).1];exact hlt
   obtain⟨k1,k2,k3⟩:=hcell j _ hx;have hrp:=(ae DA).2 j s1.defs[j] xs[j] (gW hjd) hx;have hfn:=(ae HD).fn xs[j] (ej _);have hdr:s1.defs.drop j=s1.defs[j]::s1.defs.drop (j+1):=List.drop_eq_getElem_cons hjd;have hfs:=ae BA;rw [hdr,fW]at hfs;have hnk:=((ae AA).block w1.heap.size hn1).trans (ae HN).1;have ct:wr.cell? ⟨w1.heap.size,2,none⟩=some (.string t.text):=ag hnk;have lw:w1.heap.size<wr.heap.size:=ah hnk;clear hcell hx hdr BA hnk;generalize s1.defs[j]=dd at *;generalize xs[j]=X at *;obtain⟨n,v1,v2⟩:=X;obtain⟨hp1,hp2,_⟩:=hrp;dsimp only at k1 k2 k3 hfn hp1 hp2;subst hp1;obtain⟨h1,h2⟩:=hfn;cases hE:dd.name.toList==t.text.toList with
   | true =>
    cases hS:dd.set with
    | some m =>
     rw [hS]at hp2 hfs;dsimp only at hp2;rw [hE,aS (by simp)]at hfs;have hR2:RS2=(s1,some m):=by rw [ae HW,<-hfs]
     obtain⟨K0,g0,lb0,hv0,_⟩:=ax.now hp2;have GA:=af hp2;subst hR2;clear hp2 hfs h1;subst hv0;rcases h2 with⟨f',a',b',rfl⟩|rfl <;>
     ·go_wp2_with fail;go_ret;refine⟨_,_,rfl,((ae HR).stay (ae AA)).alloc _,((ae HF).below (ae AA)).alloc _,?_,ae CA⟩;exact ax.mono (ae GA) (by simp;omega) (λ k hk ha=>⟨(mC _ _ _ (by omega)).trans ((ae AA).block k hk),ha.1,inl ha.2⟩) (λ _ _ h=>h)
    | none =>
     rw [hS]at hp2 hfs;dsimp only at hp2;rw [aG (by simp)]at hfs;have BA:=af hfs;clear hfs h1;subst hp2;rcases h2 with⟨f',a',b',rfl⟩|rfl <;>
     ·go_wp2_with fail;exact⟨⟨j+1,by omega,by go_num,BA,(ae AA).alloc hsb _⟩,by simp [intOf];omega⟩
   | false =>
    rw [hE,aG (by simp)]at hfs;have BA:=af hfs;clear hfs hp2;rcases h1 with⟨f,a,b,rfl⟩|rfl<;>rcases h2 with⟨f',a',b',rfl⟩|rfl <;>
    ·go_wp2_with fail;exact⟨⟨j+1,by omega,by go_num,BA,(ae AA).alloc hsb _⟩,by simp [intOf];omega⟩
  have hfs:=ae BA;rw [List.drop_eq_nil_of_le (by rw [<-(ae DA).1];omega),fW]at hfs;have hR2:RS2=(eJ s1 t.at_,none):=by rw [ae HW,<-hfs]
  subst hR2;have hnk:=((ae AA).block w1.heap.size hn1).trans (ae HN).1;have ct:wr.cell? ⟨w1.heap.size,1,none⟩=some (.int .i64 t.at_):=ag hnk;have IA:=af (λ q=>nC (((ae HR).stay (ae AA)).drewN q) t.at_);clear hfs BA hnk;go_wp2_with fail;go_region_with (go_at_call 154;refine((ae IA) 1).mono ?_;rintro e w3 ⟨rfl,hr3,hf3⟩)
  all_goals
   have HA:=af hr3;have FA:=af ((((ae HF).below (ae AA)).drewN 1).trans hf3);clear hr3 hf3;go_wp2_with fail;go_ret;exact⟨_,_,rfl,ae HA,ae FA,inr rfl,⟨(ae CA).next,(ae CA).page,(ae CA).gap⟩⟩
theorem Gx(W:World)(b:Nat)(r:Rt)(pv mv:Value)(h:dp W b r pv mv)(va:Value)(ma:dU)(Ka:Nat->Prop)(ha:sj va ma Ka W)(B1:Nat)(c1:W.cell? ⟨B1,0,none⟩=some va) :
  Calls prog 286 (#[au b 0]++#[au B1 0]) W λ e W'=>e=.returned (jX (qW ma r))/\Below W.heap.size W W':=by
 obtain⟨g,lb,rfl,eg,hc⟩:=ha;have e1:=cj eg;have HA:=af (λ(V:World) (hV:Below W.heap.size W V)=>hc V r.addr r.len hV);have r0:W.cell? ⟨b,0,none⟩=some (.int .i64 r.addr):=ag h.blk;have r1:W.cell? ⟨b,1,none⟩=some (.int .i64 r.len):=ag h.blk;have EQ:Hid (jX (qW ma r)=.tuple #[.bool (ma r.addr r.len),.bool true]):=rfl;clear hc h eg;rw [ae EQ];generalize ma r.addr r.len=M at *;go_enter func286,ntmps286;go_wp2_with fail;go_region_with (go_at_fn g;refine((ae HA) _ (aY _ _).drew).mono ?_;rintro e w1 ⟨rfl,hb1⟩;have AA:=af (((aY W.heap.size W).drew).trans (hb1.mono (aL _)));clear hb1)
 all_goals
  go_wp2_with fail
  go_ret2
  exact⟨rfl,ae AA⟩
theorem Dq(w:World)(va:Value)(ha:jD va) :
  Calls prog 276 #[va] w λ e w'=>e=.returned (.func (.func 286) #[] #[au w.heap.size 0])/\w'=(w.alloc (aE va 218)):=by
 have hmf:∀(fn:Fn) (first cap:Array Value) (w:World),(Instr.makeFunc fn first cap).run prog w=.ok (.func fn first cap) w:=λ _ _ _ _=>rfl
 rcases ha with⟨f,a,b,rfl⟩|rfl <;>
 ·go_enter func276,ntmps276;go_wp2_with fail;go_ret;exact⟨rfl,rfl⟩
theorem Tryz.entNetIn:Enters prog 286:=enters_of func286 (by kernel_rfl) rfl
theorem vF.alloc{w:World}{A:Nat->Prop}{v:Value}{o:Option dU}(h:vF w A v o)(b:Obj):vF (w.alloc b) A v o:=by
 cases o with
 | none=>exact h
 | some m=>exact ax.mono h (bE w b A).1 (bE w b A).2 (λ _ _ h=>h)
theorem vF.fr{w w':World}{O O' D:Nat->Prop}{n m:Nat}{v:Value}{o:Option dU}(h:vF w (cW O D n) v o)(hf:Fr O w O' w')(hm:m<=n):vF w' (cW O' D m) v o:=by
 cases o with
 | none=>exact h
 | some x=>exact ax.fr h hf hm
theorem Gw(w:World)(va:Value)(oa:Option dU)(A:Nat->Prop)(hA:∀ k,w.heap.size<=k->A k)(ha:vF w A va oa) :
  Calls prog 276 #[va] w λ e w'=>∃ v,e=.returned v/\w'=(w.alloc (aE va 218))/\gJ w' A v (oa.map qW):=by
 refine(Dq w va ha.fnv).mono ?_;rintro e w' ⟨rfl,rfl⟩;refine⟨_,rfl,rfl,?_⟩;cases oa with
 | none=>exact inl ⟨_,_,_,rfl⟩
 | some ma =>
  have h1:ax _ A (sj va ma):=ha.alloc (aE va 218);refine ax.one h1 (λ k=>k=w.heap.size) (λ k hk=>⟨by subst hk;simp,hA k (by omega)⟩) (λ K1 _ q1 W hW hk=>?_);exact⟨_,_,rfl,Tryz.entNetIn,λ b r pv mv hr=>Gx W b r pv mv hr va ma K1 (q1 W hW (λ k h=>hk k (inl h))) _ (ag ((hk _ (inr rfl)).trans (cM w _)))⟩
theorem KD{pb:Nat}{ts:List ak}(ht:bY ts){w:World}{st:RS}{D O:Nat->Prop}(h:RA w pb ts st D O)(hk:Ok ts st)(e21:an ts st=21) :
  Calls prog 262 #[au pb 0] w (lF pb ts w D O ((gE ts (aC ts 22 (b9 ts st)).1).1,(gE ts (aC ts 22 (b9 ts st)).1).2.map qW)):=by
 have HR:=af h;have HF:=af (dw O w);have HK:=af hk;have HT:=af ht;have HE:=af e21;have HG:=af (bV hk ht e21 (by decide));have AA:=af (bT (k:=22) (ae HG) ht (by decide));clear h hk ht e21;go_enter func262,ntmps262
 go_wp2_with (first
  | (go_at_call 137;refine(bP (ae HR) (ae HK) (ae HT) 21 (ae HE)).mono ?_;rintro e w1 ⟨rfl,O1,hr1,hf1⟩;replace HR:=af hr1;replace HF:=af ((ae HF).trans hf1);clear hr1 hf1)
  | (go_at_call 139;refine(bL (ae HR) (ae HG) (ae HT) 22).mono ?_;rintro e w2 ⟨rfl,O2,hr2,hf2⟩;replace HR:=af hr2;replace HF:=af ((ae HF).trans hf2);clear hr2 hf2)
  | (go_at_call 277;refine(Eg (ae HT) (ae HR) (ae AA)).mono ?_;rintro e w3 ⟨v,O3,rfl,hr3,hf3,hv3,hk3⟩;have HV:=af (hv3.fr (dw _ _) (ae HF).size);have BA:=af hk3;have hfv:=hv3.fnv;replace HR:=af hr3;replace HF:=af ((ae HF).trans hf3);clear hr3 hf3 hv3 hk3))
 refine(Gw _ v _ _ ((ae HR).newFree (ae HF)) (ae HV)).mono ?_;rintro e w4 ⟨v4,rfl,rfl,hv4⟩;have CA:=af hv4;replace HR:=af ((ae HR).alloc (aE v 218));replace HF:=af ((ae HF).alloc (aE v 218));clear hv4;go_wp2_with fail;go_ret;exact⟨_,_,rfl,ae HR,ae HF,ae CA,ae BA⟩
def ee(st:RS)(d:i8):RS:={ st with defs:=st.defs++[d] }
def FP(ts:List ak)(n:Nat)(st:RS):Option (RS×Bool) :=
 if an ts st=5 then
  (match iv ts n (aC ts 26 (bI ts (b9 ts st)).1).1 with
   | none=>none
   | some (s,m)=>some (ee (aC ts 27 s).1 ⟨(bI ts (b9 ts st)).2,some m,none⟩,true))
 else if an ts st=6 then none
 else some (st,false)
theorem oS.addDef{w w1 w2:World}{pb:Nat}{ts:List ak}{st:RS}{D:Nat->Prop}{tb tc:Nat}{dv av bv:Value}(h:oS w pb ts st D tb tc dv av bv)(hb:Below w.heap.size w w1){g cap n0:Nat}{name:ByteArray}{v:Value}{m:dU}
  (hv:ax w (cW (dV pb tb dv bv) D n0) (sj v m)) {xs:List (ByteArray×Value×Value)} (hx2:xs.length=st.defs.length) (hx3:∀(i:Nat) (d:i8) (x:ByteArray×Value×Value),st.defs[i]?=some d->xs[i]?=some x->lG w (λ k=>¬dV pb tb dv bv k/\D k) d x)
  (hown:w2.ownsRow 0 222 3 (.slice (some ⟨g,0,none⟩) (st.defs.length+1) cap) (st.defs.length+1) (dr xs++[.string name,v,.nilFunc])) (hg:w1.grownBy w2 dv.ownBlock) (hat:dv.ownBlock=some g\/g=w1.heap.size) :
  ∃ D',(∀ k,D' k->D k\/n0<=k)/\RA (w2.setCell ⟨pb,3,none⟩ (.slice (some ⟨g,0,none⟩) (st.defs.length+1) cap)) pb ts (ee st ⟨name,some m,none⟩) D' (dV pb tb (.slice (some ⟨g,0,none⟩) (st.defs.length+1) cap) bv) /\
   Fr (dV pb tb dv bv) w (dV pb tb (.slice (some ⟨g,0,none⟩) (st.defs.length+1) cap) bv) (w2.setCell ⟨pb,3,none⟩ (.slice (some ⟨g,0,none⟩) (st.defs.length+1) cap)):=by
 obtain⟨K,hK,hQ⟩:=hv;have hpl:=ah h.blk;have hs1:=hb.size;have hs2:=hg.size
 have hag:∀ k,k<w.heap.size->k≠pb->dv.ownBlock≠some k->(w2.setCell ⟨pb,3,none⟩ (.slice (some ⟨g,0,none⟩) (st.defs.length+1) cap)).heap[k]?=w.heap[k]?:=λ k hk hne hd =>
  (ai hne).trans ((hg.block k (by omega) (λ e=>hd e.symm)).trans (hb.block k hk))
 have hpb:w2.heap[pb]?=w.heap[pb]?:=(hg.block pb (by omega) (λ e=>h.ne4 e.symm)).trans (hb.block pb hpl)
 have hgp:g≠pb:=λ e=>by
  rcases hat with h1|h1
  ·exact h.ne4 (by rw [h1,e])
  omega
 have hss:(w2.setCell ⟨pb,3,none⟩ (.slice (some ⟨g,0,none⟩) (st.defs.length+1) cap)).heap.size=w2.heap.size:=by simp [World.setCell]
 have hgo:∀ k,k<w.heap.size->dv.ownBlock≠some k->g≠k:=λ k hk hd e=>by
  rcases hat with h1|h1
  ·exact hd (by rw [h1,e])
  omega
 have hno:∀ k,k<w.heap.size->¬dV pb tb dv bv k->¬dV pb tb (.slice (some ⟨g,0,none⟩) (st.defs.length+1) cap) bv k:=λ k hk hn ho=>by
  rcases ho with e|e|e|e
  ·exact hn (inl e)
  ·exact hn (inr (inl e))
  ·exact hn (inr (inr (inl e)))
  have e':g=k:=by simpa [Value.ownBlock]using e
  exact hgo k hk (λ e2=>hn (inr (inr (inr e2)))) e'
 have hagn:∀ k,k<w.heap.size->¬dV pb tb dv bv k->(w2.setCell ⟨pb,3,none⟩ (.slice (some ⟨g,0,none⟩) (st.defs.length+1) cap)).heap[k]?=w.heap[k]?:=λ k hk hn =>
  hag k hk (λ e=>hn (inl e)) (λ e=>hn (inr (inr (inr e))))
 refine⟨λ k=>D k\/K k,λ k hk=>hk.elim inl (λ h1=>(hK k h1).2.2),⟨tb,tc,_,av,bv,⟨?_,?_,?_,h.used,?_,h.ne1,h.ne2,h.ne3,?_,?_,?_,?_⟩,rfl⟩,?_⟩
 ·rw [aV (hpb.trans h.blk)];rfl
 ·exact ay h.toks (λ k e=>by
   have e':tb=k:=by simpa [Value.ownBlock]using e
   subst e';exact hag tb (h.lt (inr (inl rfl))) h.ne1 h.ne5)
 ·exact ay h.page (λ k e=>hag k (h.lt (inr (inr (inl e)))) (λ e2=>h.ne2 (by rw [e,e2])) (λ e2=>by
   rcases h.ne6 with h1|h1
   ·rw [h1]at e;cases e
   ·exact h1 (e.trans e2.symm)))
 ·refine⟨xs++[(name,v,.nilFunc)],?_,by simp [ee,hx2],λ i d x hd hx=>?_⟩
  ·have e1:dr (xs++[(name,v,.nilFunc)])=dr xs++[.string name,v,.nilFunc]:=by simp [dr]
   rw [e1];have e2:(ee st ⟨name,some m,none⟩).defs.length=st.defs.length+1:=by simp [ee]
   rw [e2]
   exact ay hown (λ k e=>by
    have e':g=k:=by simpa [Value.ownBlock]using e
    subst e';exact ai hgp)
  have hd':(st.defs++[(⟨name,some m,none⟩:i8)])[i]?=some d:=hd;rcases Nat.lt_or_ge i st.defs.length with hi|hi
  ·rw [List.getElem?_append_left hi]at hd';rw [List.getElem?_append_left (by omega)]at hx;exact(hx3 i d x hd' hx).mono (by omega) (λ k hk ha=>⟨hagn k hk ha.1,hno k hk ha.1,inl ha.2⟩)
  rw [List.getElem?_append_right hi]at hd';rw [List.getElem?_append_right (by omega)]at hx
  have hi0:i-st.defs.length=0:=by
   rcases Ic (i-st.defs.length)with h1|h1
   ·exact h1
   rw [List.getElem?_eq_none (by simp;omega)]at hd';cases hd'
  rw [hi0]at hd';rw [hx2,hi0]at hx;simp at hd' hx;subst hd' hx;refine⟨rfl,⟨K,λ k hk=>⟨by have:=(hK k hk).1;omega,hno k (hK k hk).1 (hK k hk).2.1,inr hk⟩,λ V hV hk=>hQ V (by omega) (λ k h1=>(hk k h1).trans (hagn k (hK k h1).1 (hK k h1).2.1))⟩,rfl⟩
 ·intro e;have e':g=pb:=by simpa [Value.ownBlock]using e
  exact hgp e'
 ·intro e;have e':g=tb:=by simpa [Value.ownBlock]using e
  exact hgo tb (h.lt (inr (inl rfl))) h.ne5 e'
 ·cases hbo:bv.ownBlock with
  | none=>exact inl rfl
  | some k =>
   right;intro e;have e':k=g:=by simpa [Value.ownBlock]using e
   have hkl:=h.lt (inr (inr (inl hbo)));refine hgo k hkl (λ e2=>?_) e'.symm;rcases h.ne6 with h1|h1
   ·rw [h1]at hbo;cases hbo
   exact h1 (hbo.trans e2.symm)
 ·intro k hk;rcases hk with h1|h1
  ·exact⟨by have:=(h.free k h1).1;omega,hno k (h.free k h1).1 (h.free k h1).2⟩
  exact⟨by have:=(hK k h1).1;omega,hno k (hK k h1).1 (hK k h1).2.1⟩
 have hF:Fr (dV pb tb dv bv) w (dV pb tb dv bv) w2:=(Fr.of_below hb).grown hg (λ k e=>inl (inr (inr (inr e))));refine(hF.reown (O2:=dV pb tb (.slice (some ⟨g,0,none⟩) (st.defs.length+1) cap) bv) (λ k hk=>?_)).setCell (inl (inl rfl)) _;rcases hk with e|e|e|e
 ·exact inl (inl e)
 ·exact inl (inr (inl e))
 ·exact inl (inr (inr (inl e)))
 have e':g=k:=by simpa [Value.ownBlock]using e
 rcases hat with h1|h1
 ·exact inl (inr (inr (inr (by rw [h1,e']))))
 exact inr (by omega)
def If(pb:Nat)(ts:List ak)(w:World)(D O:Nat->Prop)(r:RS×Bool)(e:Ending)(w':World):Prop :=
 e=.returned (.bool r.2)/\∃ D' O',RA w' pb ts r.1 D' O'/\Fr O w O' w'/\(∀ k,D' k->D k\/w.heap.size<=k)/\Ok ts r.1
abbrev ju(s:ByteArray)(a b:Value):Obj:=.cells #[.string s,a,b] 222
theorem Tryz.infoDef:(prog.info? 222).map (λ i=>(i.zero,i.size,i.bytes))=some (some (.agg #[.string ⟨#[]⟩,.nilFunc,.nilFunc]),3,32):=by kernel_rfl
theorem Ls{pb:Nat}{ts:List ak}(ht:bY ts)(hL:sZ ts)(n:Nat)(hn:n<=1000){w:World}{st:RS}{D O:Nat->Prop}(h:RA w pb ts st D O)(hk:Ok ts st)(e5:an ts st=5){s:RS}{m:dU}(hdl:(aC ts 27 s).1.defs.length<=1000)
  (hr:iv ts n (aC ts 26 (bI ts (b9 ts st)).1).1=some (s,m)) :
  Calls prog 87 #[au pb 0] w (If pb ts w D O (ee (aC ts 27 s).1 ⟨(bI ts (b9 ts st)).2,some m,none⟩,true)):=by
 have HT:=af ht;have HK:=af hk;have HE:=af e5;have HA:=af (λ(W:World) (D O:Nat->Prop) (su:RS) (r:RS×dU) (h:RA W pb ts su D O) (hk:Ok ts su) (hr:iv ts n su=some r)=>Bf ht hL n hn h hk hr);have HG:=af (bV hk ht e5 (by decide));have AA:=af (rR (ae HG) ht);have FA:=af (bT (k:=26) (ae AA) ht (by decide));have HS:=af hr;have HF:=af ((dw O w).alloc (ju ⟨#[]⟩ .nilFunc .nilFunc));have HR:=af (h.alloc (ju ⟨#[]⟩ .nilFunc .nilFunc));have DA:Hid (¬D w.heap.size):=λ hd=>by have:=(h.free hd).1;omega
 have HB:=af (And.intro (cM w (ju ⟨#[]⟩ .nilFunc .nilFunc)) (show ¬O w.heap.size from λ ho=>by have:=h.lt ho;omega));clear h hk ht e5 hL hr;generalize hNN:bI ts (b9 ts st)=NN at *;obtain⟨s2,nm⟩:=NN;dsimp only at AA FA HS ⊢;go_enter func87,ntmps87
 go_wp2_with (first
  | (go_at_call 137;refine(bP (ae HR) (ae HK) (ae HT) 5 (ae HE)).mono ?_;clear HE;rintro e w1 ⟨rfl,O1,hr1,hf1⟩;replace HB:=af (bH hf1 (ae HB).1 (ae HB).2);replace HR:=af hr1;replace HF:=af ((ae HF).trans hf1);clear hr1 hf1)
  | (go_at_call 138;refine(rS (ae HT) (ae HR) (ae HG)).mono ?_;rw [hNN];rintro e w2 ⟨rfl,O2,hr2,hf2⟩;dsimp only;replace HB:=af (bH hf2 (ae HB).1 (ae HB).2);have c0:w2.cell? ⟨w.heap.size,0,none⟩=some (.string ⟨#[]⟩):=ag (ae HB).1;have z0:w2.frozen? ⟨w.heap.size,0,none⟩=false:=aj (ae HB).1;replace HR:=af (hr2.other ⟨(ae HB).2,ae DA⟩ 0 (.string nm));replace HF:=af (((ae HF).trans hf2).setCell (p:=⟨w.heap.size,0,none⟩) (inr (aL _)) (.string nm));replace HB:=af (And.intro (show(w2.setCell ⟨w.heap.size,0,none⟩ (.string nm)).heap[w.heap.size]?=some (ju nm .nilFunc .nilFunc)from(aV (ae HB).1).trans rfl) (ae HB).2);clear hr2 hf2)
  | (go_at_call 139;refine(bL (ae HR) (ae AA) (ae HT) 26).mono ?_;clear AA;rintro e w3 ⟨rfl,O3,hr3,hf3⟩;replace HB:=af (bH hf3 (ae HB).1 (ae HB).2);replace HR:=af hr3;replace HF:=af ((ae HF).trans hf3);clear hr3 hf3 c0 z0)
  | (go_at_call 140;refine((ae HA) _ _ _ _ _ (ae HR) (ae FA) (ae HS)).mono ?_;clear HA;rintro e w4 ⟨v,O4,rfl,hr4,hf4,hfv,hv,hk4⟩;have hbd:w.heap.size<w3.heap.size:=ah (ae HB).1;obtain⟨K1,g1,lb1,hv1,_⟩:=ax.now hv;replace HB:=af (bH hf4 (ae HB).1 (ae HB).2);have c1:w4.cell? ⟨w.heap.size,1,none⟩=some .nilFunc:=ag (ae HB).1;have z1:w4.frozen? ⟨w.heap.size,1,none⟩=false:=aj (ae HB).1;have HV:=af (show ax (w4.setCell ⟨w.heap.size,1,none⟩ v) (cW O4 D w3.heap.size) (sj v m)from hv.mono (by simp [World.setCell]) (λ k hk ha=>⟨ai (λ e=>by(have e':k=w.heap.size:=e);subst e';(rcases ha.2 with h1|h1);(exact(ae DA) h1);omega),ha⟩) (λ _ _ h=>h));replace HR:=af (hr4.other ⟨(ae HB).2,ae DA⟩ 1 v);replace HF:=af (((ae HF).trans hf4).setCell (p:=⟨w.heap.size,1,none⟩) (inr (aL _)) v);replace HB:=af (And.intro (show(w4.setCell ⟨w.heap.size,1,none⟩ v).heap[w.heap.size]?=some (ju nm v .nilFunc)from(aV (ae HB).1).trans rfl) (ae HB).2);have GA:=af hk4;clear hr4 hf4 hv hk4 hfv;subst hv1)
  | (go_at_call 139;refine(bL (ae HR) (ae GA) (ae HT) 27).mono ?_;rintro e w5 ⟨rfl,O5,hr5,hf5⟩;replace HB:=af (bH hf5 (ae HB).1 (ae HB).2);replace HV:=af (ax.fr (ae HV) hf5 (aL _));replace HR:=af hr5;replace HF:=af ((ae HF).trans hf5);clear hr5 hf5 c1 z1))
 have BA:=af (bT (k:=27) (ae GA) (ae HT) (by decide));generalize aC ts 27 s=P5 at *;obtain⟨s5,t5⟩:=P5;dsimp only at BA hdl HR ⊢;obtain⟨tb,tc,dv,av,bv,hrt,hO5⟩:=ae HR;subst hO5;obtain⟨xs,hx1,hx2,hx3⟩:=hrt.defs;obtain⟨i0,hi0,hz0,hz1,hz2⟩:=info_parts Tryz.infoDef;obtain⟨da,dc,hdv⟩:=al hx1;have hbe:Below w5.heap.size w5 (w5.alloc (ju nm (.func (.func g1) #[] lb1) .nilFunc)).drew:=((aY _ _).alloc (aL _) _).drew;have cdv:w5.cell? ⟨pb,3,none⟩=some dv:=ag hrt.blk;have hpl:=ah hrt.blk;have d0:w5.cell? ⟨w.heap.size,0,none⟩=some (.string nm):=ag (ae HB).1;have d1:w5.cell? ⟨w.heap.size,1,none⟩=some (.func (.func g1) #[] lb1):=ag (ae HB).1;have d2:w5.cell? ⟨w.heap.size,2,none⟩=some .nilFunc:=ag (ae HB).1;have ld:=ah (ae HB).1;have LA:=af hx1;have MA:=af hx2;have NA:=af hx3;have EA:=af hrt;have CA:=af hbe;clear hbe hx1 hx2 hx3 hrt HR HB;subst hdv
 go_region_law ((refine step_append_lies _ (by rfl) _ _ _ (by rfl) 0 222 i0 _ 3 32 underlying125 hi0 hz0 hz1 hz2 rfl (by omega) (.slice da s5.defs.length dc) s5.defs.length (dr xs) (by rfl) (((ae LA).alloc _).drew) ⟨w5.heap.size,0,none⟩ 1 1 [.string nm,.func (.func g1) #[] lb1,.nilFunc] (by rfl) rfl (World.news_of_block (cs:=#[.string nm,.func (.func g1) #[] lb1,.nilFunc]) (t:=222) (fr:=(0,0)) (cM w5 _)) (by simp [Value.oneCell']) (by omega) (by unfold maxLen;omega) (by omega) (dG _) _ rfl ?_);(intro g cap w7 hown hg hat hgl;obtain⟨D',hDD,hra,hfr⟩:=(ae EA).addDef (ae CA) (ae HV) (ae MA) (ae NA) hown hg hat;have hp7:w7.heap[pb]?=w5.heap[pb]?:=(hg.block pb (gY hpl (ae CA).size) (λ e=>(ae EA).ne4 e.symm)).trans ((ae CA).block pb hpl);have cd7:w7.cell? ⟨pb,3,none⟩=some (.slice da s5.defs.length dc):=(World.cell?_of_block (a:=⟨pb,3,none⟩) hp7).trans cdv;have zd7:w7.frozen? ⟨pb,3,none⟩=false:=(World.frozen?_of_block (a:=⟨pb,3,none⟩) hp7).trans (aj (ae EA).blk);have IA:=af hDD;have KA:=af hra;have JA:=af hfr;clear hDD hra hfr hown hg hat hp7))
 all_goals
  go_wp2_with fail;go_ret;exact⟨rfl,_,_,ae KA,(ae HF).trans (ae JA),λ k hk=>((ae IA) k hk).imp id (λ h=>by omega),⟨(ae BA).next,(ae BA).page,(ae BA).gap⟩⟩
