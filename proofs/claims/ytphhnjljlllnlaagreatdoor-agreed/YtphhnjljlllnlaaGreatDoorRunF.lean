/- part -/
import Derived.Test.YtphhnjljlllnlaaGreatDoorRunD
set_option maxRecDepth 100000
set_option maxHeartbeats 4000000
namespace Go.Proofs.YtphhnjljlllnlaaGreatDoor
open Go.Proofs.Tryz
open Or
open Go.RowKit
abbrev kd:=@Option.some.inj
theorem Fp.mono{v:Value}{m:aJ}{K K':Nat->Prop}{W:World}(h:Fp v m K W)(hk:∀ k,K k->K' k):Fp v m K' W:=by
 obtain⟨g,lb,h1,h2,h3⟩:=h;exact⟨g,lb,h1,h2,λ b r pv mv hr hd=>h3 b r pv mv hr (λ k ho hK=>hd k ho (hk k hK))⟩
def eT(w:World)(A:Nat->Prop)(sv:Value)(l:List (Option aJ)):Prop:=(∃ a n c,sv=.slice a n c)/\∀ ms,kQ l=some ms->ax w A (iG sv ms)
theorem eT.mono{w w':World}{A A':Nat->Prop}{sv:Value}{l:List (Option aJ)}(h:eT w A sv l)(hs:w.heap.size<=w'.heap.size)(hb:∀ k,k<w.heap.size->A k->w'.heap[k]?=w.heap[k]?/\A' k):eT w' A' sv l :=
 ⟨h.1,λ ms hm=>(h.2 ms hm).mono hs hb (λ _ _ h=>h)⟩
theorem eT.alloc{w:World}{A:Nat->Prop}{sv:Value}{l:List (Option aJ)}(h:eT w A sv l)(b:Obj):eT (w.alloc b) A sv l:=h.mono (bE w b A).1 (bE w b A).2
theorem eT.fr{w w':World}{O O' D:Nat->Prop}{n m:Nat}{sv:Value}{l:List (Option aJ)}(h:eT w (cW O D n) sv l)(hf:Fr O w O' w')(hm:m<=n):eT w' (cW O' D m) sv l :=
 ⟨h.1,λ ms h1=>ax.fr (h.2 ms h1) hf hm⟩
theorem zM{l:List (Option aJ)}{ms:List aJ}(h:kQ l=some ms):ms.length=l.length:=by
 induction l generalizing ms with
 | nil=>rw [kQ]at h;cases h;rfl
 | cons a l ih =>
  cases a with
  | none=>rw [kQ]at h;cases h
  | some x =>
   rw [kQ]at h;cases hl:kQ l with
   | none=>rw [hl]at h;cases h
   | some t=>rw [hl]at h;cases h;simp [ih hl]
theorem Ir{l:List (Option aJ)}{ms:List aJ}(h:kQ l=some ms){i:Nat}{m:aJ}(hi:ms[i]?=some m):l[i]?=some (some m):=by
 induction l generalizing ms i with
 | nil=>rw [kQ]at h;cases h;simp at hi
 | cons a l ih =>
  cases a with
  | none=>rw [kQ]at h;cases h
  | some x =>
   rw [kQ]at h;cases hl:kQ l with
   | none=>rw [hl]at h;cases h
   | some t =>
    rw [hl]at h;cases h;cases i with
    | zero=>simpa using hi
    | succ i=>exact ih hl (by simpa using hi)
theorem xG{w:World}{A:Nat->Prop}{sv:Value}{l:List (Option aJ)}{vs:List Value}(ho:w.ownsRow 0 169 1 sv l.length vs)(hl:l.length<=1000000)(hA:∀ k,sv.ownBlock=some k->A k)
  (hv:∀(i:Nat) (v:Value) (o:Option aJ),vs[i]?=some v->l[i]?=some o->jG w A v o):eT w A sv l:=by
 obtain⟨a,n,c,hsv⟩:∃ a n c,sv=.slice a n c:=by
  rcases ho.2 with⟨h1,_⟩|⟨g,cap,cur,h1,_⟩
  ·exact⟨_,_,_,h1⟩
  exact⟨_,_,_,h1⟩
 refine⟨⟨a,n,c,hsv⟩,λ ms hms=>?_⟩;have hvl:vs.length=l.length:=by simpa using ho.1
 have hml:=zM hms
 have hlast:∀ i:Fin ms.length,ax w A (Fp (vs[i.1]'(by omega)) ms[i.1]):=λ i=>by
  have h1:ms[i.1]?=some ms[i.1]:=gW i.2;exact hv i.1 _ _ (gW (by omega)) (Ir hms h1)
 rcases ho.2 with⟨h1,h0⟩|⟨g,cap,cur,h1,hb,hg,hn,hm,hs,ht⟩
 ·refine ax.new (λ _=>False) (λ _ h=>h.elim) (λ W _ _=>⟨by omega,vs,by omega,inl ⟨List.eq_nil_of_length_eq_zero (by omega),h1⟩,λ i v m hi hm=>?_⟩);have hnil:ms=[]:=List.eq_nil_of_length_eq_zero (by omega);rw [hnil]at hm;simp at hm
 have hcell:∀(W:World),W.heap[g]?=w.heap[g]?->∀ i v,vs[i]?=some v->W.cell? ⟨g,i,none⟩=some v:=λ W hW i v hi=>by
  rw [ag (hW.trans hg),<-Array.getElem?_toList];rw [<-ht,List.getElem?_take]at hi;split at hi
  ·exact hi
  cases hi
 refine⟨λ k=>k=g\/∃ i:Fin ms.length,Classical.choose (hlast i) k,λ k hk=>?_,λ W hW hk=>?_⟩
 ·rcases hk with rfl|⟨i,hi⟩
  ·exact⟨ah hg,hA k (by rw [h1];rfl)⟩
  exact(Classical.choose_spec (hlast i)).1 k hi
 refine⟨by omega,vs,by omega,inr ⟨g,cap,by rw [h1,hvl],inl rfl,hcell W (hk g (inl rfl))⟩,λ i v m hi hm=>?_⟩
 have hi':i<ms.length:=by
  rcases Nat.lt_or_ge i ms.length with h|h
  ·exact h
  rw [List.getElem?_eq_none h]at hm;cases hm
 have e1:v=vs[i]:=by rw [gW (by omega)]at hi;exact(kd hi).symm
 have e2:m=ms[i]:=by rw [gW hi']at hm;exact(kd hm).symm
 have h3:=(Classical.choose_spec (hlast ⟨i,hi'⟩)).2 W hW (λ k h=>hk k (inr ⟨⟨i,hi'⟩,h⟩));rw [e1,e2];exact h3.mono (λ k h=>inr ⟨⟨i,hi'⟩,h⟩)
theorem CI(W:World)(b:Nat)(r:Rt)(pv mv:Value)(h:dp W b r pv mv)(vc yv nv:Value)(mc:aR)(ys ns:List aJ)(Kc:Nat->Prop)(hc:qG vc mc Kc W)
  (hyf:∃ a n c,yv=.slice a n c) (hnf:∃ a n c,nv=.slice a n c)
  (hy:∀ V,Below W.heap.size W V->dp V b r pv mv->Calls prog 61 #[yv,au b 0] V (ic b pv mv V (bd ys r)))
  (hn:∀ V,Below W.heap.size W V->dp V b r pv mv->Calls prog 61 #[nv,au b 0] V (ic b pv mv V (bd ns r)))
  (B1 B2 B3:Nat) (c1:W.cell? ⟨B1,0,none⟩=some vc) (c2:W.cell? ⟨B2,0,none⟩=some yv) (c3:W.cell? ⟨B3,0,none⟩=some nv) :
  Calls prog 225 (#[au b 0]++#[au B1 0,au B2 0,au B3 0]) W (ic b pv mv W (gD mc ys ns r)):=by
 have l2:=cS c2;have l3:=cS c3;obtain⟨g,lb,rfl,eg,hc⟩:=hc;obtain⟨a1,a2,a3,rfl⟩:=hyf;obtain⟨d1,d2,d3,rfl⟩:=hnf;have e1:=cj eg;have HA:=af (hc b r pv mv h);have HR:=af h;have HY:=af hy;have HN:=af hn;clear hc h eg hy hn;have EQ:=af (show gD mc ys ns r=(match mc r with|none=>(r,3)|some true=>bd ys r|some false=>bd ns r)from rfl);cases hx:mc r with
 | none =>
  rw [hx]at HA EQ;have AA:Hid (Calls prog g (#[au b 0]++lb) W λ e W'=>e=.returned (.tuple #[.bool false,.bool false])/\Below W.heap.size W W'):=HA;clear HA HY HN;go_enter func225,ntmps225;go_wp2_with (go_at_fn g;refine(ae AA).mono ?_;rintro e w1 ⟨rfl,hw⟩)
  go_ret;rw [ae EQ];exact⟨rfl,pv,mv,(ae HR).below hw,Fr.of_below hw⟩
 | some x =>
  rw [hx]at HA EQ;have AA:Hid (Calls prog g (#[au b 0]++lb) W λ e W'=>e=.returned (.tuple #[.bool x,.bool true])/\Below W.heap.size W W'):=HA;cases x with
  | true =>
   clear HA HN;go_enter func225,ntmps225;go_wp2_with (go_at_fn g;refine(ae AA).mono ?_;rintro e w1 ⟨rfl,hw⟩;have c2':=(hw.cell (p:=⟨B2,0,none⟩) l2).trans c2;have HW:=af hw;clear hw)
   refine((ae HY) w1 (ae HW) ((ae HR).below (ae HW))).mono ?_;rintro e w2 ⟨rfl,pv2,mv2,h2,f2⟩;have H2:=af h2;have F2:=af f2;clear h2 f2;go_wp2_with fail;go_ret;rw [ae EQ];exact⟨rfl,pv2,mv2,ae H2,(Fr.of_below (ae HW)).trans (ae F2)⟩
  | false =>
   clear HA HY;go_enter func225,ntmps225;go_wp2_with (go_at_fn g;refine(ae AA).mono ?_;rintro e w1 ⟨rfl,hw⟩;have c3':=(hw.cell (p:=⟨B3,0,none⟩) l3).trans c3;have HW:=af hw;clear hw)
   refine((ae HN) w1 (ae HW) ((ae HR).below (ae HW))).mono ?_;rintro e w2 ⟨rfl,pv2,mv2,h2,f2⟩;have H2:=af h2;have F2:=af f2;clear h2 f2;go_wp2_with fail;go_ret;rw [ae EQ];exact⟨rfl,pv2,mv2,ae H2,(Fr.of_below (ae HW)).trans (ae F2)⟩
theorem zX(w:World)(vc yv nv:Value)(hc:jD vc)(hyf:∃ a n c,yv=.slice a n c)(hnf:∃ a n c,nv=.slice a n c) :
  Calls prog 189 #[vc,yv,nv] w λ e w'=>e=.returned (.func (.func 225) #[] #[au w.heap.size 0,au (w.heap.size+1) 0,au (w.heap.size+1+1) 0])/\w'=((w.alloc (aE vc 276)).alloc (aE yv 79)).alloc (aE nv 79):=by
 have hmf:∀(fn:Fn) (first cap:Array Value) (w:World),(Instr.makeFunc fn first cap).run prog w=.ok (.func fn first cap) w:=λ _ _ _ _=>rfl
 obtain⟨a1,a2,a3,rfl⟩:=hyf;obtain⟨d1,d2,d3,rfl⟩:=hnf;rcases hc with⟨f,a,b,rfl⟩|rfl <;>
 ·go_enter func189,ntmps189;go_wp2_with fail;go_ret;exact⟨rfl,rfl⟩
theorem Tryz.entChoose:Enters prog 225:=enters_of func225 (by kernel_rfl) rfl
theorem ax.three{w:World}{A:Nat->Prop}{Q1 Q2 Q3 Q:(Nat->Prop)->World->Prop}(h1:ax w A Q1)(h2:ax w A Q2)(h3:ax w A Q3)(B:Nat->Prop)(hB:∀ k,B k->k<w.heap.size/\A k)
  (hq:∀ K1 K2 K3,(∀ k,K1 k->k<w.heap.size/\A k)->(∀ k,K2 k->k<w.heap.size/\A k)->(∀ k,K3 k->k<w.heap.size/\A k)->(∀ W,w.heap.size<=W.heap.size->(∀ k,K1 k->W.heap[k]?=w.heap[k]?)->Q1 K1 W)->(∀ W,w.heap.size<=W.heap.size->(∀ k,K2 k->W.heap[k]?=w.heap[k]?)->Q2 K2 W)->(∀ W,w.heap.size<=W.heap.size->(∀ k,K3 k->W.heap[k]?=w.heap[k]?)->Q3 K3 W) ->
   ∀ W,w.heap.size<=W.heap.size->(∀ k,K1 k\/K2 k\/K3 k\/B k->W.heap[k]?=w.heap[k]?)->Q (λ k=>K1 k\/K2 k\/K3 k\/B k) W):ax w A Q:=by
 obtain⟨K1,a1,b1⟩:=h1;obtain⟨K2,a2,b2⟩:=h2;obtain⟨K3,a3,b3⟩:=h3;refine⟨λ k=>K1 k\/K2 k\/K3 k\/B k,λ k hk=>?_,λ W hW hk=>hq K1 K2 K3 a1 a2 a3 b1 b2 b3 W hW hk⟩;rcases hk with h|h|h|h
 ·exact a1 k h
 ·exact a2 k h
 ·exact a3 k h
 exact hB k h
theorem tK(w:World)(vc yv nv:Value)(oc:Option aR)(yes no:List (Option aJ))(A:Nat->Prop)(hA:∀ k,w.heap.size<=k->A k)(hc:gJ w A vc oc)(hy:eT w A yv yes)(hn:eT w A nv no) :
  Calls prog 189 #[vc,yv,nv] w λ e w'=>∃ v,e=.returned v/\w'=((w.alloc (aE vc 276)).alloc (aE yv 79)).alloc (aE nv 79)/\jG w' A v (ks oc yes no):=by
 refine(zX w vc yv nv hc.fnv hy.1 hn.1).mono ?_;rintro e w' ⟨rfl,rfl⟩;refine⟨_,rfl,rfl,?_⟩;unfold ks;cases oc with
 | none=>exact inl ⟨_,_,_,rfl⟩
 | some mc =>
  dsimp only;cases hys:kQ yes with
  | none=>exact inl ⟨_,_,_,rfl⟩
  | some ys =>
   dsimp only;cases hns:kQ no with
   | none=>exact inl ⟨_,_,_,rfl⟩
   | some ns =>
    have h1:ax _ A (qG vc mc):=((hc.alloc (aE vc 276)).alloc (aE yv 79)).alloc (aE nv 79);have h2:=(((hy.alloc (aE vc 276)).alloc (aE yv 79)).alloc (aE nv 79)).2 ys hys;have h3:=(((hn.alloc (aE vc 276)).alloc (aE yv 79)).alloc (aE nv 79)).2 ns hns;obtain⟨n1,n2,n3,sz⟩:=iR w (aE vc 276) (aE yv 79) (aE nv 79);refine ax.three h1 h2 h3 (λ k=>k=w.heap.size\/k=w.heap.size+1\/k=w.heap.size+1+1) (λ k hk=>⟨by omega,hA k (by omega)⟩) (λ K1 K2 K3 a1 a2 a3 q1 q2 q3 W hW hk=>?_);refine⟨_,_,rfl,Tryz.entChoose,λ b r pv mv hr hd=>?_⟩
    refine CI W b r pv mv hr vc yv nv mc ys ns K1 (q1 W hW (λ k h=>hk k (inl h))) hy.1 hn.1 (λ V hV hrV=>?_) (λ V hV hrV=>?_) _ _ _
     (mF (hk _ (inr (inr (inr (inl rfl))))) n1) (mF (hk _ (inr (inr (inr (inr (inl rfl)))))) n2) (mF (hk _ (inr (inr (inr (inr (inr rfl)))))) n3)
    ·exact kz _ K2 yv ys (λ k h=>(a2 k h).1) q2 V (gG hW hV.size) (λ k h=>(hV.block k (gY (a2 k h).1 hW)).trans (hk k (inr (inl h)))) b r pv mv hrV (λ k ho h=>hd k ho (inr (inl h)))
    exact kz _ K3 nv ns (λ k h=>(a3 k h).1) q3 V (gG hW hV.size) (λ k h=>(hV.block k (gY (a3 k h).1 hW)).trans (hk k (inr (inr (inl h))))) b r pv mv hrV (λ k ho h=>hd k ho (inr (inr (inl h))))
def iT(pb:Nat)(ts:List ak)(w:World)(D O:Nat->Prop)(r:RS×Option (Option aJ))(e:Ending)(w':World):Prop :=
 ∃ v O',e=.returned (.tuple #[v,.bool r.2.isSome])/\RA w' pb ts r.1 D O'/\Fr O w O' w'/\jD v/\(∀ o,r.2=some o->jG w' (cW O' D w.heap.size) v o)/\Ok ts r.1
def ib(pb:Nat)(ts:List ak)(tw:RS->Option (RS×Option (Option aJ))):Prop:=∀(w:World) (st:RS) (D O:Nat->Prop) (r:RS×Option (Option aJ)),RA w pb ts st D O->Ok ts st->tw st=some r->Calls prog 89 #[au pb 0] w (iT pb ts w D O r)
def pz(pb:Nat)(ts:List ak)(w:World)(D O:Nat->Prop)(r:RS×List (Option aJ))(e:Ending)(w':World):Prop :=
 ∃ v O',e=.returned v/\RA w' pb ts r.1 D O'/\Fr O w O' w'/\eT w' (cW O' D w.heap.size) v r.2/\Ok ts r.1/\(∃ a c,v=.slice a r.2.length c)/\r.2.length<=1000000
structure mD(wr:World)(n0:Nat)(Ou D:Nat->Prop)(sv:Value)(acc:List (Option aJ))(vs:List Value):Prop where
 own:wr.ownsRow 0 169 1 sv acc.length vs
 new:∀ k,sv.ownBlock=some k->n0<=k/\¬Ou k
 elt:∀(i:Nat) (v:Value) (o:Option aJ),vs[i]?=some v->acc[i]?=some o->jG wr (λ k=>cW Ou D n0 k/\sv.ownBlock≠some k) v o
theorem jG.mono{w w':World}{A A':Nat->Prop}{v:Value}{o:Option aJ}(h:jG w A v o)(hs:w.heap.size<=w'.heap.size)(hb:∀ k,k<w.heap.size->A k->w'.heap[k]?=w.heap[k]?/\A' k):jG w' A' v o:=by
 cases o with
 | none=>exact h
 | some m=>exact ax.mono h hs hb (λ _ _ h=>h)
theorem mD.fr{wr w1:World}{n0:Nat}{Ou O1 D:Nat->Prop}{sv:Value}{acc:List (Option aJ)}{vs:List Value}(h:mD wr n0 Ou D sv acc vs)(hf:Fr Ou wr O1 w1):mD w1 n0 O1 D sv acc vs:=by
 have hO:∀ k,k<wr.heap.size->¬Ou k->¬O1 k:=λ k hk hn ho=>by
  rcases hf.own k ho with h1|h1
  ·exact hn h1
  omega
 refine⟨ay h.own (λ k e=>hf.block k (h.own.lt k e).2 (h.new k e).2),λ k e=>⟨(h.new k e).1,hO k (h.own.lt k e).2 (h.new k e).2⟩,λ i v o hv ho=>?_⟩;exact(h.elt i v o hv ho).mono hf.size (λ k hk ha=>⟨hf.block k hk ha.1.1,⟨hO k hk ha.1.1,ha.1.2⟩,ha.2⟩)
theorem mD.snoc{w1 w2:World}{n0 g cap:Nat}{O1 D:Nat->Prop}{sv v:Value}{acc:List (Option aJ)}{vs:List Value}{o:Option aJ}(h:mD w1 n0 O1 D sv acc vs)(hO:∀ k,O1 k->k<w1.heap.size)(hn0:n0<=w1.heap.size)
  (hv:jG w1 (λ k=>cW O1 D n0 k/\sv.ownBlock≠some k) v o) (hg:w1.grownBy w2 sv.ownBlock) (hat:sv.ownBlock=some g\/w1.heap.size<=g)
  (hown:w2.ownsRow 0 169 1 (.slice (some ⟨g,0,none⟩) (acc.length+1) cap) (acc.length+1) (vs++[v])) :
  mD w2 n0 O1 D (.slice (some ⟨g,0,none⟩) (acc.length+1) cap) (acc++[o]) (vs++[v]):=by
 have hvl:vs.length=acc.length:=by simpa using h.own.1
 have hmono:∀(x:Value) (p:Option aJ),jG w1 (λ k=>cW O1 D n0 k/\sv.ownBlock≠some k) x p->jG w2 (λ k=>cW O1 D n0 k/\(Value.slice (some ⟨g,0,none⟩) (acc.length+1) cap).ownBlock≠some k) x p:=λ x p hx=>by
  refine hx.mono hg.size (λ k hk ha=>⟨hg.block k hk (λ e=>ha.2 e.symm),ha.1,λ e=>?_⟩);have e':g=k:=by simpa [Value.ownBlock]using e
  rcases hat with h1|h1
  ·exact ha.2 (by rw [h1,e'])
  omega
 refine⟨by rw [List.length_append];exact hown,λ k e=>?_,λ i x p hx hp=>?_⟩
 ·have e':g=k:=by simpa [Value.ownBlock]using e
  subst e';rcases hat with h1|h1
  ·exact h.new g h1
  exact⟨by omega,λ ho=>by have:=hO g ho;omega⟩
 rcases Nat.lt_or_ge i acc.length with hi|hi
 ·rw [List.getElem?_append_left (by omega)]at hx;rw [List.getElem?_append_left hi]at hp;exact hmono x p (h.elt i x p hx hp)
 rw [List.getElem?_append_right (by omega)]at hx;rw [List.getElem?_append_right hi]at hp
 have hi0:i-acc.length=0:=by
  rcases Ic (i-acc.length)with h1|h1
  ·exact h1
  rw [List.getElem?_eq_none (by simp;omega)]at hp;cases hp
 rw [hi0]at hp;rw [hvl,hi0]at hx;simp at hx hp;subst hx hp;exact hmono _ _ hv
theorem uu{tw:RS->Option (RS×Option (Option aJ))}{k:Nat}{st:RS}{l:List (Option aJ)}{r:RS×List (Option aJ)}(h:cf tw k st l=some r):∃ g,k=g+1:=by
 cases k with
 | zero=>rw [cf]at h;cases h
 | succ g=>exact⟨g,rfl⟩
def M2(tw:RS->Option (RS×Option (Option aJ)))(k:Nat)(su:RS)(x:Option (Option aJ))(l:List (Option aJ)):Option (RS×List (Option aJ)) :=
 match x with
 | none=>some (su,l)
 | some y=>cf tw k su (l++[y])
theorem rO{tw:RS->Option (RS×Option (Option aJ))}{k:Nat}{st:RS}{l:List (Option aJ)}{r:RS×List (Option aJ)}(h:cf tw (k+1) st l=some r) :
  ∃ su x,tw st=some (su,x)/\M2 tw k su x l=some r:=by
 rw [cf]at h;cases h1:tw st with
 | none=>rw [h1]at h;cases h
 | some p =>
  obtain⟨su,x⟩:=p;rw [h1]at h;refine⟨su,x,rfl,?_⟩;cases x with
  | none=>exact h
  | some y=>exact h
theorem Tryz.infoStep:(prog.info? 169).map (λ i=>(i.zero,i.size,i.bytes))=some (some .nilFunc,1,8):=by kernel_rfl
theorem RA.grown{w w2:World}{pb:Nat}{ts:List ak}{st:RS}{D O:Nat->Prop}{row:Option Nat}(h:RA w pb ts st D O)(hg:w.grownBy w2 row)(hr:∀ k,row=some k->¬O k/\¬D k):RA w2 pb ts st D O:=by
 obtain⟨tb,tc,dv,av,bv,h,rfl⟩:=h;refine⟨tb,tc,dv,av,bv,h.keep hg.size (λ k hl hk=>hg.block k hl (λ e=>?_)),rfl⟩;rcases hk with h1|h1
 ·exact(hr k e.symm).1 h1
 exact(hr k e.symm).2 h1
theorem mD.alloc{wr:World}{n0:Nat}{Ou D:Nat->Prop}{sv:Value}{acc:List (Option aJ)}{vs:List Value}(h:mD wr n0 Ou D sv acc vs)(o:Obj):mD (wr.alloc o) n0 Ou D sv acc vs:=h.fr ((dw _ _).alloc o)
theorem w8{pb:Nat}{ts:List ak}{tw:RS->Option (RS×Option (Option aJ))}(IH:ib pb ts tw)(n:Nat)(hn:n<=1000){w:World}{st:RS}{D O:Nat->Prop}{r:RS×List (Option aJ)}(h:RA w pb ts st D O)(hk:Ok ts st)(hr:cf tw n st []=some r) :
  Calls prog 142 #[.func (.func 89) #[au pb 0] #[]] w (pz pb ts w D O r):=by
 obtain⟨n,rfl⟩:=uu hr;obtain⟨su,x,h1,h2⟩:=rO hr;obtain⟨i0,hi0,hz0,hz1,hz2⟩:=info_parts Tryz.infoStep;have OA:=af IH;have H1:=af (IH w st D O (su,x) h hk h1);have HL:=af h2;have HH:=af h;clear hr h hk h1 h2 IH;go_enter func142,ntmps142;go_wp2_with fail;refine(ae H1).mono ?_;rintro e w1 ⟨v,O1,rfl,hr1,hf1,hfv,hv1,hk1⟩;have HR:=af hr1;have HF:=af hf1;have HV:=af hv1;have HK:=af hk1;have JA:=af hfv;clear hr1 hf1 hv1 hk1 H1 hfv;go_wp2_with fail;go_loopg [3,4,5] n (λ k s3 v4 b5 wr=>∃(su:RS) (x:Option (Option aJ)) (acc:List (Option aJ)) (vs:List Value) (Ou:Nat->Prop),b5=.bool x.isSome/\acc.length+k<=n/\RA wr pb ts su D Ou/\Fr O w Ou wr/\mD wr w.heap.size Ou D s3 acc vs/\jD v4/\(∀ o,x=some o->jG wr (λ k=>cW Ou D w.heap.size k/\s3.ownBlock≠some k) v4 o)/\Ok ts su/\M2 tw k su x acc=some r)
 case atStart =>
  refine⟨su,x,[],[],O1,rfl,by simp,ae HR,ae HF,⟨i7 _ _ _ _,λ k e=>by simp [Value.ownBlock]at e,λ i v o hv=>by simp at hv⟩,ae JA,λ o ho=>?_,ae HK,ae HL⟩;exact((ae HV) o ho).mono (aL _) (λ k _ ha=>⟨rfl,ha,by simp [Value.ownBlock]⟩)
 case round =>
  clear HR HF HV HK HL JA;obtain⟨su,x,acc,vs,Ou,rfl,hlen,hr,hf,hacc,hfv,hv,hk,hl⟩:=hrel;have HR:=af hr;have HF:=af hf;have HA:=af hacc;have HK:=af hk;obtain⟨sa,sc,hsv⟩:=al hacc.own;subst hsv;cases x with
  | none =>
   cases hl
   clear hr hf hacc hk hv;go_wp2_with fail;go_ret;refine⟨_,_,rfl,ae HR,ae HF,xG (ae HA).own (show acc.length<=1000000 by omega) (λ k e=>⟨((ae HA).new k e).2,inr ((ae HA).new k e).1⟩) (λ i v o h1 h2=>((ae HA).elt i v o h1 h2).mono (aL _) (λ k _ ha=>⟨rfl,ha.1⟩)),ae HK,⟨_,_,rfl⟩,by show acc.length<=_;omega⟩
  | some y =>
   have hl':cf tw _ su (acc++[y])=some r:=hl;obtain⟨g,rfl⟩:=uu hl';obtain⟨su2,x2,h3,h4⟩:=rO hl';have HS:=af h3;have HL:=af h4;have HV:=af (hv y rfl);have JA:=af hfv;have hln:acc.length<=1000:=by omega
   clear hr hf hacc hk hv hl hl' h3 h4;have DA:=af ((ae HR).alloc (aE u4 169));have AA:=af ((ae HA).alloc (aE u4 169));have FA:=af ((ae HV).mono (bE wr (aE u4 169) (λ k=>cW Ou D w.heap.size k/\(Value.slice sa acc.length sc).ownBlock≠some k)).1 (bE wr (aE u4 169) _).2);rcases hfv with⟨f1,f2,f3,rfl⟩|rfl
   ·
    go_wp2_with (at_builtin;refine wpList_append_lies _ rfl _ _ _ rfl 0 169 i0 _ 1 8 underlying79 hi0 hz0 hz1 hz2 rfl (by omega) (.slice sa acc.length sc) acc.length vs rfl (ae AA).own ⟨wr.heap.size,0,none⟩ 1 1 [.func f1 f2 f3] rfl rfl (World.news_of_block (cs:=#[.func f1 f2 f3]) (t:=169) (fr:=(0,0)) (cM _ _)) (by simp [Value.oneCell']) (by omega) (by simp [maxLen];omega) (by omega) (dG _) (wr.heap.size+1) (by simp) ?_;intro gg cap w2 hown hgrow hat hltg)
    have LA:=af ((ae DA).grown hgrow (λ k e=>⟨((ae AA).new k e).2,λ hd=>by have h1:=((ae AA).new k e).1;have h2:=((ae HH).free hd).1;omega⟩));have EA:=af (((ae HF).alloc (aE (.func f1 f2 f3) 169)).grown hgrow (λ k e=>inr ((ae AA).new k e).1));have BA:=af (mD.snoc (ae AA) (λ k ho=>(ae DA).lt ho) (by have:=(ae HF).size;simp;omega) (ae FA) hgrow (hat.imp id (λ h=>by simp;omega)) hown);have hs2:=hgrow.size;clear hown hgrow hat hltg DA AA FA HV HA;refine((ae OA) _ _ _ _ _ (ae LA) (ae HK) (ae HS)).mono ?_;rintro e w3 ⟨v3,O3,rfl,hr3,hf3,hfv3,hv3,hk3⟩;have MA:=af hr3;have IA:=af ((ae EA).trans hf3);have GA:=af ((ae BA).fr hf3);have KA:=af hk3;have CA:=af hfv3
    have NA:Hid (∀ o,x2=some o->jG w3 (λ k=>cW O3 D w.heap.size k/\(Value.slice (some ⟨gg,0,none⟩) (acc.length+1) cap).ownBlock≠some k) v3 o):=by
     intro o ho;refine(hv3 o ho).mono (aL _) (λ k _ ha=>⟨rfl,⟨ha.1,?_⟩,λ e=>?_⟩)
     ·rcases ha.2 with h1|h1
      ·exact inl h1
      exact inr (by have:=(ae EA).size;omega)
     have e':gg=k:=by simpa [Value.ownBlock]using e
     have hl2:=((ae BA).own.lt gg rfl).2;rcases ha.2 with h1|h1
     ·have h2:=((ae BA).new gg rfl).1;have h3:=((ae HH).free h1).1;omega
     omega
    clear hr3 hf3 hv3 hk3 hfv3;go_wp2_with fail;go_roundg g
    case measure=>omega
    case rel=>exact⟨su2,x2,acc++[y],_,O3,rfl,by rw [List.length_append,List.length_singleton];omega,ae MA,ae IA,ae GA,ae CA,ae NA,ae KA,ae HL⟩
   ·
    go_wp2_with (at_builtin;refine wpList_append_lies _ rfl _ _ _ rfl 0 169 i0 _ 1 8 underlying79 hi0 hz0 hz1 hz2 rfl (by omega) (.slice sa acc.length sc) acc.length vs rfl (ae AA).own ⟨wr.heap.size,0,none⟩ 1 1 [.nilFunc] rfl rfl (World.news_of_block (cs:=#[.nilFunc]) (t:=169) (fr:=(0,0)) (cM _ _)) (by simp [Value.oneCell']) (by omega) (by simp [maxLen];omega) (by omega) (dG _) (wr.heap.size+1) (by simp) ?_;intro gg cap w2 hown hgrow hat hltg)
    have LA:=af ((ae DA).grown hgrow (λ k e=>⟨((ae AA).new k e).2,λ hd=>by have h1:=((ae AA).new k e).1;have h2:=((ae HH).free hd).1;omega⟩));have EA:=af (((ae HF).alloc (aE (.nilFunc) 169)).grown hgrow (λ k e=>inr ((ae AA).new k e).1));have BA:=af (mD.snoc (ae AA) (λ k ho=>(ae DA).lt ho) (by have:=(ae HF).size;simp;omega) (ae FA) hgrow (hat.imp id (λ h=>by simp;omega)) hown);have hs2:=hgrow.size;clear hown hgrow hat hltg DA AA FA HV HA;refine((ae OA) _ _ _ _ _ (ae LA) (ae HK) (ae HS)).mono ?_;rintro e w3 ⟨v3,O3,rfl,hr3,hf3,hfv3,hv3,hk3⟩;have MA:=af hr3;have IA:=af ((ae EA).trans hf3);have GA:=af ((ae BA).fr hf3);have KA:=af hk3;have CA:=af hfv3
    have NA:Hid (∀ o,x2=some o->jG w3 (λ k=>cW O3 D w.heap.size k/\(Value.slice (some ⟨gg,0,none⟩) (acc.length+1) cap).ownBlock≠some k) v3 o):=by
     intro o ho;refine(hv3 o ho).mono (aL _) (λ k _ ha=>⟨rfl,⟨ha.1,?_⟩,λ e=>?_⟩)
     ·rcases ha.2 with h1|h1
      ·exact inl h1
      exact inr (by have:=(ae EA).size;omega)
     have e':gg=k:=by simpa [Value.ownBlock]using e
     have hl2:=((ae BA).own.lt gg rfl).2;rcases ha.2 with h1|h1
     ·have h2:=((ae BA).new gg rfl).1;have h3:=((ae HH).free h1).1;omega
     omega
    clear hr3 hf3 hv3 hk3 hfv3;go_wp2_with fail;go_roundg g
    case measure=>omega
    case rel=>exact⟨su2,x2,acc++[y],_,O3,rfl,by rw [List.length_append,List.length_singleton];omega,ae MA,ae IA,ae GA,ae CA,ae NA,ae KA,ae HL⟩
theorem se{w:World}{pb:Nat}{ts:List ak}{st:RS}{D O:Nat->Prop}(h:RA w pb ts st D O)(x:Int) :
  Calls prog 154 #[au pb 11,.int .i64 x] w λ e w'=>e=.returned (.tuple #[])/\RA w' pb ts (jN st x) D O/\Fr O w O w':=by
 obtain⟨tb,tc,dv,av,bv,h,rfl⟩:=h;refine(vu w pb 11 st.num x _ h.blk rfl rfl).mono ?_;rintro e w' ⟨rfl,rfl⟩;refine⟨rfl,?_⟩;cases hs:st.num with
 | none =>
  refine⟨⟨tb,tc,dv,av,bv,h.synSet (o:=11) _ (jN st x) rfl rfl ?_,rfl⟩,((dw _ _).setCell (inl (inl rfl)) _).setCell (inl (inl rfl)) _⟩;simp [iw,jN,hs,qw,sB,A0]
 | some y =>
  have e:jN st x=st:=by simp [jN,hs,qw];rw [<-hs]
  rw [e];exact⟨⟨tb,tc,dv,av,bv,h,rfl⟩,dw _ _⟩
theorem pd{pb:Nat}{ts:List ak}(ht:bY ts){w:World}{st:RS}{D O:Nat->Prop}(h:RA w pb ts st D O)(hk:Ok ts st)(lo hi:Int) :
  Calls prog 196 #[au pb 0,.int .i64 lo,.int .i64 hi] w λ e w'=>e=.returned (.int .i64 (aM ts lo hi st).2)/\∃ O',RA w' pb ts (aM ts lo hi st).1 D O'/\Fr O w O' w':=by
 have HT:=af (bL h hk ht 2);have HW:=af (show aM ts lo hi st=(if(aC ts 2 st).2.number<lo\/hi<(aC ts 2 st).2.number then jN (aC ts 2 st).1 (aC ts 2 st).2.at_ else(aC ts 2 st).1,(aC ts 2 st).2.number)from rfl);clear h hk ht;generalize aC ts 2 st=P at *;obtain⟨s1,t⟩:=P;by_cases h1:t.number<lo
 ·have EQ:Hid (aM ts lo hi st=(jN s1 t.at_,t.number)):=by unfold Hid;rw [ae HW,aS (inl h1)]
  clear HW;go_enter func196,ntmps196;go_wp2_with (go_at_call 139;refine(ae HT).mono ?_;rintro e w1 ⟨rfl,O1,hr1,hf1⟩;have HR:=af hr1;have HF:=af hf1;clear hr1 hf1;dsimp only)
  have cb:=fL w1 #[.int .i64 t.kind,.int .i64 t.at_,.string t.text,.int .i64 t.number,.int .i64 t.addr,.int .i64 t.len] 140;have HB:=af cb;have c1:(w1.alloc (aQ t)).cell? ⟨w1.heap.size,1,none⟩=some (.int .i64 t.at_):=ag cb;have CA:=af (λ q=>se (((ae HR).alloc (aQ t)).drewN q) t.at_);clear cb;go_region_with (go_at_call 154;refine((ae CA) 1).mono ?_;rintro e w2 ⟨rfl,hr2,hf2⟩)
  all_goals
   have g2:=bH ((((dw _ _).drewN 1).trans hf2)) (ae HB) (λ ho=>by have:=(ae HR).lt ho;omega);have c3:w2.cell? ⟨w1.heap.size,3,none⟩=some (.int .i64 t.number):=ag g2.1;have BA:=af hr2;have AA:=af ((((ae HF).alloc (aQ t)).drewN 1).trans hf2);clear hr2 hf2 g2;go_wp2_with fail;go_ret;rw [ae EQ];exact⟨rfl,_,ae BA,ae AA⟩
 by_cases h2:hi<t.number
 ·have EQ:Hid (aM ts lo hi st=(jN s1 t.at_,t.number)):=by unfold Hid;rw [ae HW,aS (inr h2)]
  clear HW;go_enter func196,ntmps196;go_wp2_with (go_at_call 139;refine(ae HT).mono ?_;rintro e w1 ⟨rfl,O1,hr1,hf1⟩;have HR:=af hr1;have HF:=af hf1;clear hr1 hf1;dsimp only)
  have cb:=fL w1 #[.int .i64 t.kind,.int .i64 t.at_,.string t.text,.int .i64 t.number,.int .i64 t.addr,.int .i64 t.len] 140;have HB:=af cb;have c1:(w1.alloc (aQ t)).cell? ⟨w1.heap.size,1,none⟩=some (.int .i64 t.at_):=ag cb;have CA:=af (λ q=>se (((ae HR).alloc (aQ t)).drewN q) t.at_);clear cb;go_region_with (go_at_call 154;refine((ae CA) 1).mono ?_;rintro e w2 ⟨rfl,hr2,hf2⟩)
  all_goals
   have g2:=bH ((((dw _ _).drewN 1).trans hf2)) (ae HB) (λ ho=>by have:=(ae HR).lt ho;omega);have c3:w2.cell? ⟨w1.heap.size,3,none⟩=some (.int .i64 t.number):=ag g2.1;have BA:=af hr2;have AA:=af ((((ae HF).alloc (aQ t)).drewN 1).trans hf2);clear hr2 hf2 g2;go_wp2_with fail;go_ret;rw [ae EQ];exact⟨rfl,_,ae BA,ae AA⟩
 have EQ:Hid (aM ts lo hi st=(s1,t.number)):=by unfold Hid;rw [ae HW,aG (λ h=>h.elim h1 h2)]
 clear HW;go_enter func196,ntmps196;go_wp2_with (go_at_call 139;refine(ae HT).mono ?_;rintro e w1 ⟨rfl,O1,hr1,hf1⟩;have HR:=af hr1;have HF:=af hf1;clear hr1 hf1;dsimp only)
 go_ret;rw [ae EQ];exact⟨rfl,_,(ae HR).alloc _,(ae HF).alloc _⟩
theorem vj{pb:Nat}{ts:List ak}(ht:bY ts){w:World}{st:RS}{D O:Nat->Prop}(h:RA w pb ts st D O)(hk:Ok ts st) :
  Calls prog 153 #[au pb 0] w λ e w'=>e=.returned (.int .i64 (aM ts 1 65535 st).2)/\∃ O',RA w' pb ts (aM ts 1 65535 st).1 D O'/\Fr O w O' w':=by
 have HW:=af (pd ht h hk 1 65535);clear h hk ht;go_enter func153,ntmps153;go_wp2_with (go_at_call 196;refine(ae HW).mono ?_;rintro e w1 ⟨rfl,O1,hr1,hf1⟩;have HR:=af hr1;have HF:=af hf1;clear hr1 hf1)
 go_ret;exact⟨rfl,_,ae HR,ae HF⟩
theorem uo{pb:Nat}{ts:List ak}(ht:bY ts){w:World}{st:RS}{D O:Nat->Prop}(h:RA w pb ts st D O)(hk:Ok ts st) :
  Calls prog 150 #[au pb 0] w λ e w'=>e=.returned (.int .i64 (aM ts 0 65535 st).2)/\∃ O',RA w' pb ts (aM ts 0 65535 st).1 D O'/\Fr O w O' w':=by
 have HW:=af (pd ht h hk 0 65535);clear h hk ht;go_enter func150,ntmps150;go_wp2_with (go_at_call 196;refine(ae HW).mono ?_;rintro e w1 ⟨rfl,O1,hr1,hf1⟩;have HR:=af hr1;have HF:=af hf1;clear hr1 hf1)
 go_ret;exact⟨rfl,_,ae HR,ae HF⟩
def qF(pb:Nat)(ts:List ak)(tw:RS->Option (RS×List (Option aJ))):Prop:=∀(w:World) (st:RS) (D O:Nat->Prop) (r:RS×List (Option aJ)),RA w pb ts st D O->Ok ts st->tw st=some r->Calls prog 188 #[au pb 0] w (pz pb ts w D O r)
theorem CD{pb:Nat}{ts:List ak}(ht:bY ts){tw:RS->Option (RS×Option (Option aJ))}(IH:ib pb ts tw)(n:Nat)(hn:n<=1000):qF pb ts (ef ts tw n):=by
 intro w st D O r h hk hr;unfold ef at hr;cases h1:cf tw n (ii (ft ts 29 st)) []with
 | none=>rw [h1]at hr;cases hr
 | some p =>
  obtain⟨s1,l⟩:=p;rw [h1]at hr;cases hr
  have hmf:∀(fn:Fn) (first cap:Array Value) (w:World),(Instr.makeFunc fn first cap).run prog w=.ok (.func fn first cap) w:=λ _ _ _ _=>rfl
  have AA:=af (nj (k:=29) hk ht (by decide));have HR:=af h;have HK:=af hk;have HT:=af ht;have HF:=af (dw O w);have HM:=af (λ W O1 (hW:RA W pb ts (ii (ft ts 29 st)) D O1)=>w8 IH n hn hW (rE (ae AA)) h1);clear h hk ht IH h1;go_enter func188,ntmps188
  go_wp2_with (first
   | (go_at_call 220;refine(nk (ae HR) (ae HK) (ae HT) 29).mono ?_;rintro e w1 ⟨rfl,O1,hr1,hf1⟩;replace HR:=af hr1;replace HF:=af ((ae HF).trans hf1);clear hr1 hf1)
   | (go_at_call 211;refine(mZ (ae HR)).mono ?_;rintro e w1 ⟨rfl,hr1,hf1⟩;replace HR:=af hr1;replace HF:=af ((ae HF).trans hf1);clear hr1 hf1))
  refine((ae HM) _ _ (ae HR)).mono ?_;rintro e w2 ⟨v,O2,rfl,hr2,hf2,hs2,hk2,⟨va,vc,rfl⟩,hl2⟩;have HS:=af (hs2.fr (dw _ _) (ae HF).size);have BA:=af hk2;have CA:=af hl2;replace HR:=af hr2;replace HF:=af ((ae HF).trans hf2);clear hr2 hf2 hs2 hk2 hl2 HM
  go_wp2_with (first
   | (go_at_call 221;refine(qk (ae HR) (ae BA) (ae HT) 30).mono ?_;rintro e w1 ⟨rfl,O1,hr1,hf1⟩;replace HR:=af hr1;replace HS:=af ((ae HS).fr hf1 (aL _));replace HF:=af ((ae HF).trans hf1);clear hr1 hf1)
   | (go_at_call 211;refine(mZ (ae HR)).mono ?_;rintro e w1 ⟨rfl,hr1,hf1⟩;replace HR:=af hr1;replace HS:=af ((ae HS).fr hf1 (aL _));replace HF:=af ((ae HF).trans hf1);clear hr1 hf1))
  go_ret;exact⟨_,_,rfl,ae HR,ae HF,ae HS,rE (qj (ae BA) (ae HT) (by decide)),⟨_,_,rfl⟩,ae CA⟩
theorem pX{pb:Nat}{ts:List ak}(ht:bY ts){sum:RS->Option (RS×Option bh)}(IH:gA pb ts sum){w:World}{st:RS}{D O:Nat->Prop}{r:RS×Option bh}(h:RA w pb ts st D O)(hk:Ok ts st)(hr:sum (aC ts 26 st).1=some r) :
  Calls prog 146 #[au pb 0] w (lE pb ts w D O r):=by
 have HR:=af h;have HF:=af (dw O w);have HK:=af hk;have HT:=af ht;have HI:=af IH;have HS:=af hr;clear h hk ht IH hr;go_enter func146,ntmps146;go_wp2_with (go_at_call 139;refine(bL (ae HR) (ae HK) (ae HT) 26).mono ?_;rintro e w1 ⟨rfl,O1,hr1,hf1⟩;replace HR:=af hr1;replace HF:=af ((ae HF).trans hf1);clear hr1 hf1)
 refine((ae HI) _ _ _ _ _ (ae HR) (bT (ae HK) (ae HT) (by decide)) (ae HS)).mono ?_;rintro e w2 ⟨v,O2,rfl,hr2,hf2,hv2,hk2⟩;have HV:=af (hv2.fr (dw _ _) (ae HF).size);have AA:=af hk2;replace HR:=af hr2;replace HF:=af ((ae HF).trans hf2);clear hr2 hf2 hv2 hk2;go_wp2_with fail;go_ret;exact⟨_,_,rfl,ae HR,ae HF,ae HV,ae AA⟩
def xZ(pb:Nat)(ts:List ak)(w:World)(D O:Nat->Prop)(r:RS×Option aJ)(e:Ending)(w':World):Prop :=
 ∃ v O',e=.returned v/\RA w' pb ts r.1 D O'/\Fr O w O' w'/\jG w' (cW O' D w.heap.size) v r.2/\Ok ts r.1
theorem eT.nil(w:World)(A:Nat->Prop):eT w A (.slice none 0 0) [] :=
 xG (vs:=[]) (i7 _ _ _ _) (by simp) (λ k e=>by simp [Value.ownBlock]at e) (λ i v o hv=>by simp at hv)
theorem CF{pb:Nat}{ts:List ak}(ht:bY ts){cnd:RS->Option (RS×Option aR)}(IC:fi 187 pb ts cnd){blk:RS->Option (RS×List (Option aJ))}(IB:qF pb ts blk){w:World}{st s1 s2:RS}{D O:Nat->Prop}{c:Option aR}{yes:List (Option aJ)}
  (h:RA w pb ts st D O) (hk:Ok ts st) (hc:cnd st=some (s1,c)) (hb:blk (aC ts 15 s1).1=some (s2,yes)) (e16:an ts s2≠16) :
  Calls prog 143 #[au pb 0] w (xZ pb ts w D O (s2,ks c yes [])):=by
 have HT:=af ht;have HC:=af (IC w st D O (s1,c) h hk hc);have BA:=af IB;have HB:=af hb;have HE:=af e16;clear h hk ht IC IB hc hb e16;go_enter func143,ntmps143;go_wp2_with fail;refine(ae HC).mono ?_;rintro e w1 ⟨v,O1,rfl,hr1,hf1,hv1,hk1⟩;have HR:=af hr1;have HF:=af hf1;have HV:=af hv1;have HK:=af hk1;clear hr1 hf1 hv1 hk1 HC;go_wp2_with (go_at_call 139;refine(bL (ae HR) (ae HK) (ae HT) 15).mono ?_;rintro e w1 ⟨rfl,O1,hr1,hf1⟩;replace HR:=af hr1;replace HV:=af ((ae HV).fr hf1 (aL _));replace HF:=af ((ae HF).trans hf1);clear hr1 hf1)
 refine((ae BA) _ _ _ _ _ (ae HR) (bT (ae HK) (ae HT) (by decide)) (ae HB)).mono ?_;rintro e w2 ⟨v2,O2,rfl,hr2,hf2,hs2,hk2,⟨va,vc,rfl⟩,hl2⟩;have HS:=af (hs2.fr (dw _ _) (ae HF).size);have AA:=af hk2;replace HR:=af hr2;replace HV:=af ((ae HV).fr hf2 (aL _));replace HF:=af ((ae HF).trans hf2);clear hr2 hf2 hs2 hk2 hl2
 go_wp2_with (first
  | (go_at_call 137;refine(aH (ae HR) (ae AA) (ae HT) 16 (ae HE)).mono ?_;rintro e w1 ⟨rfl,hr1,hf1⟩;replace HR:=af hr1;replace HV:=af ((ae HV).fr hf1 (aL _));replace HS:=af ((ae HS).fr hf1 (aL _));replace HF:=af ((ae HF).trans hf1);clear hr1 hf1)
  | (go_at_call 189;refine(tK _ _ _ _ _ _ _ _ ((ae HR).newFree (ae HF)) (ae HV) (ae HS) (eT.nil _ _)).mono ?_;rintro e w4 ⟨v4,rfl,rfl,hv4⟩;have CA:=af hv4;clear hv4))
 go_ret;exact⟨_,_,rfl,(((ae HR).alloc _).alloc _).alloc _,(((ae HF).alloc _).alloc _).alloc _,ae CA,ae AA⟩
theorem CG{pb:Nat}{ts:List ak}(ht:bY ts){cnd:RS->Option (RS×Option aR)}(IC:fi 187 pb ts cnd){blk:RS->Option (RS×List (Option aJ))}(IB:qF pb ts blk){w:World}{st s1 s2 s3:RS}{D O:Nat->Prop}{c:Option aR}{yes no:List (Option aJ)}
  (h:RA w pb ts st D O) (hk:Ok ts st) (hc:cnd st=some (s1,c)) (hb:blk (aC ts 15 s1).1=some (s2,yes)) (e16:an ts s2=16) (hn:blk (b9 ts s2)=some (s3,no)) :
  Calls prog 143 #[au pb 0] w (xZ pb ts w D O (s3,ks c yes no)):=by
 have HT:=af ht;have HC:=af (IC w st D O (s1,c) h hk hc);have AA:=af IB;have HB:=af hb;have HN:=af hn;have HE:=af e16;clear h hk ht IC IB hc hb e16 hn;go_enter func143,ntmps143;go_wp2_with fail;refine(ae HC).mono ?_;rintro e w1 ⟨v,O1,rfl,hr1,hf1,hv1,hk1⟩;have HR:=af hr1;have HF:=af hf1;have HV:=af hv1;have HK:=af hk1;clear hr1 hf1 hv1 hk1 HC;go_wp2_with (go_at_call 139;refine(bL (ae HR) (ae HK) (ae HT) 15).mono ?_;rintro e w1 ⟨rfl,O1,hr1,hf1⟩;replace HR:=af hr1;replace HV:=af ((ae HV).fr hf1 (aL _));replace HF:=af ((ae HF).trans hf1);clear hr1 hf1)
 refine((ae AA) _ _ _ _ _ (ae HR) (bT (ae HK) (ae HT) (by decide)) (ae HB)).mono ?_;rintro e w2 ⟨v2,O2,rfl,hr2,hf2,hs2,hk2,⟨va,vc,rfl⟩,hl2⟩;have HS:=af (hs2.fr (dw _ _) (ae HF).size);have BA:=af hk2;replace HR:=af hr2;replace HV:=af ((ae HV).fr hf2 (aL _));replace HF:=af ((ae HF).trans hf2);clear hr2 hf2 hs2 hk2 hl2;go_wp2_with (go_at_call 137;refine(bP (ae HR) (ae BA) (ae HT) 16 (ae HE)).mono ?_;rintro e w1 ⟨rfl,O1,hr1,hf1⟩;replace HR:=af hr1;replace HV:=af ((ae HV).fr hf1 (aL _));replace HS:=af ((ae HS).fr hf1 (aL _));replace HF:=af ((ae HF).trans hf1);clear hr1 hf1)
 refine((ae AA) _ _ _ _ _ (ae HR) (bV (ae BA) (ae HT) (ae HE) (by decide)) (ae HN)).mono ?_;rintro e w2 ⟨v2,O2,rfl,hr2,hf2,hs2,hk2,⟨na,nc,rfl⟩,hl2⟩;have DA:=af (hs2.fr (dw _ _) (ae HF).size);have CA:=af hk2;replace HR:=af hr2;replace HV:=af ((ae HV).fr hf2 (aL _));replace HS:=af ((ae HS).fr hf2 (aL _));replace HF:=af ((ae HF).trans hf2);clear hr2 hf2 hs2 hk2 hl2;go_wp2_with (go_at_call 189;refine(tK _ _ _ _ _ _ _ _ ((ae HR).newFree (ae HF)) (ae HV) (ae HS) (ae DA)).mono ?_;rintro e w4 ⟨v4,rfl,rfl,hv4⟩;have EA:=af hv4;clear hv4)
 go_ret;exact⟨_,_,rfl,(((ae HR).alloc _).alloc _).alloc _,(((ae HF).alloc _).alloc _).alloc _,ae EA,ae CA⟩
