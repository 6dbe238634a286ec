/- part -/
import Derived.Test.YtgdeeodifnegiaaGreatDoorRdrH
set_option maxRecDepth 100000
set_option maxHeartbeats 4000000
namespace Go.Proofs.YtgdeeodifnegiaaGreatDoor
open Go.Proofs.Tryz
open Or
open Go.RowKit
theorem D9.mono{v:Value}{m:aM}{K K':Nat->Prop}{W:World}(h:D9 v m K W)(hk:∀ k,K k->K' k):D9 v m K' W:=by
 obtain⟨g,lb,h1,h2,h3⟩:=h;exact⟨g,lb,h1,h2,λ b r pv mv hr hd=>h3 b r pv mv hr (λ k ho hK=>hd k ho (hk k hK))⟩
def fk(w:World)(A:Nat->Prop)(sv:Value)(l:List (Option aM)):Prop:=(∃ a n c,sv=.slice a n c)/\∀ ms,iz l=some ms->az w A (jE sv ms)
theorem fk.mono{w w':World}{A A':Nat->Prop}{sv:Value}{l:List (Option aM)}(h:fk w A sv l)(hs:w.heap.size<=w'.heap.size)(hb:∀ k,k<w.heap.size->A k->w'.heap[k]?=w.heap[k]?/\A' k):fk w' A' sv l :=
 ⟨h.1,λ ms hm=>(h.2 ms hm).mono hs hb (λ _ _ h=>h)⟩
theorem fk.alloc{w:World}{A:Nat->Prop}{sv:Value}{l:List (Option aM)}(h:fk w A sv l)(b:Obj):fk (w.alloc b) A sv l:=h.mono (bK w b A).1 (bK w b A).2
theorem fk.fr{w w':World}{O O' D:Nat->Prop}{n m:Nat}{sv:Value}{l:List (Option aM)}(h:fk w (dk O D n) sv l)(hf:Fr O w O' w')(hm:m<=n):fk w' (dk O' D m) sv l :=
 ⟨h.1,λ ms h1=>az.fr (h.2 ms h1) hf hm⟩
theorem yx{l:List (Option aM)}{ms:List aM}(h:iz l=some ms):ms.length=l.length:=by
 induction l generalizing ms with
 | nil=>rw [iz]at h;cases h;rfl
 | cons a l ih =>
  cases a with
  | none=>rw [iz]at h;cases h
  | some x =>
   rw [iz]at h;cases hl:iz l with
   | none=>rw [hl]at h;cases h
   | some t=>rw [hl]at h;cases h;simp [ih hl]
theorem GM{l:List (Option aM)}{ms:List aM}(h:iz l=some ms){i:Nat}{m:aM}(hi:ms[i]?=some m):l[i]?=some (some m):=by
 induction l generalizing ms i with
 | nil=>rw [iz]at h;cases h;simp at hi
 | cons a l ih =>
  cases a with
  | none=>rw [iz]at h;cases h
  | some x =>
   rw [iz]at h;cases hl:iz l with
   | none=>rw [hl]at h;cases h
   | some t =>
    rw [hl]at h;cases h;cases i with
    | zero=>simpa using hi
    | succ i=>exact ih hl (by simpa using hi)
theorem wB{w:World}{A:Nat->Prop}{sv:Value}{l:List (Option aM)}{vs:List Value}(ho:w.ownsRow 0 272 1 sv l.length vs)(hl:l.length<=1000000)(hA:∀ k,sv.ownBlock=some k->A k)
  (hv:∀(i:Nat) (v:Value) (o:Option aM),vs[i]?=some v->l[i]?=some o->jr w A v o):fk w A sv l:=by
 obtain⟨a,n,c,hsv⟩:∃ a n c,sv=.slice a n c:=by
  rcases ho.2 with⟨h1,_⟩|⟨g,cap,cur,h1,_⟩
  ·exact⟨_,_,_,h1⟩
  exact⟨_,_,_,h1⟩
 refine⟨⟨a,n,c,hsv⟩,λ ms hms=>?_⟩;have hvl:vs.length=l.length:=by simpa using ho.1
 have hml:=yx hms
 have hlast:∀ i:Fin ms.length,az w A (D9 (vs[i.1]'(by omega)) ms[i.1]):=λ i=>by
  have h1:ms[i.1]?=some ms[i.1]:=iK i.2;exact hv i.1 _ _ (iK (by omega)) (GM hms h1)
 rcases ho.2 with⟨h1,h0⟩|⟨g,cap,cur,h1,hb,hg,hn,hm,hs,ht⟩
 ·refine az.new (λ _=>False) (λ _ h=>h.elim) (λ W _ _=>⟨by omega,vs,by omega,inl ⟨List.eq_nil_of_length_eq_zero (by omega),h1⟩,λ i v m hi hm=>?_⟩);have hnil:ms=[]:=List.eq_nil_of_length_eq_zero (by omega);rw [hnil]at hm;simp at hm
 have hcell:∀(W:World),W.heap[g]?=w.heap[g]?->∀ i v,vs[i]?=some v->W.cell? ⟨g,i,none⟩=some v:=λ W hW i v hi=>by
  rw [af (hW.trans hg),<-Array.getElem?_toList];rw [<-ht,List.getElem?_take]at hi;split at hi
  ·exact hi
  cases hi
 refine⟨λ k=>k=g\/∃ i:Fin ms.length,Classical.choose (hlast i) k,λ k hk=>?_,λ W hW hk=>?_⟩
 ·rcases hk with rfl|⟨i,hi⟩
  ·exact⟨ai hg,hA k (by rw [h1];rfl)⟩
  exact(Classical.choose_spec (hlast i)).1 k hi
 refine⟨by omega,vs,by omega,inr ⟨g,cap,by rw [h1,hvl],inl rfl,hcell W (hk g (inl rfl))⟩,λ i v m hi hm=>?_⟩
 have hi':i<ms.length:=by
  rcases Nat.lt_or_ge i ms.length with h|h
  ·exact h
  rw [List.getElem?_eq_none h]at hm;cases hm
 have e1:v=vs[i]:=by rw [iK (by omega)]at hi;exact(fZ hi).symm
 have e2:m=ms[i]:=by rw [iK hi']at hm;exact(fZ hm).symm
 have h3:=(Classical.choose_spec (hlast ⟨i,hi'⟩)).2 W hW (λ k h=>hk k (inr ⟨⟨i,hi'⟩,h⟩));rw [e1,e2];exact h3.mono (λ k h=>inr ⟨⟨i,hi'⟩,h⟩)
theorem Be(W:World)(b:Nat)(r:Rt)(pv mv:Value)(h:dK W b r pv mv)(vc yv nv:Value)(mc:aQ)(ys ns:List aM)(Kc:Nat->Prop)(hc:pS vc mc Kc W)
  (hyf:∃ a n c,yv=.slice a n c) (hnf:∃ a n c,nv=.slice a n c)
  (hy:∀ V,Below W.heap.size W V->dK V b r pv mv->Calls prog 149 #[yv,ay b 0] V (ic b pv mv V (aK ys r)))
  (hn:∀ V,Below W.heap.size W V->dK V b r pv mv->Calls prog 149 #[nv,ay b 0] V (ic b pv mv V (aK ns r)))
  (B1 B2 B3:Nat) (c1:W.cell? ⟨B1,0,none⟩=some vc) (c2:W.cell? ⟨B2,0,none⟩=some yv) (c3:W.cell? ⟨B3,0,none⟩=some nv) :
  Calls prog 314 (#[ay b 0]++#[ay B1 0,ay B2 0,ay B3 0]) W (ic b pv mv W (eR mc ys ns r)):=by
 have l2:=dD c2;have l3:=dD c3;obtain⟨g,lb,rfl,eg,hc⟩:=hc;obtain⟨a1,a2,a3,rfl⟩:=hyf;obtain⟨d1,d2,d3,rfl⟩:=hnf;have e1:=cL eg;have HA:=ae (hc b r pv mv h);have HR:=ae h;have HY:=ae hy;have HN:=ae hn;clear hc h eg hy hn;have EQ:=ae (show eR mc ys ns r=(match mc r with|none=>(r,3)|some true=>aK ys r|some false=>aK ns r)from rfl);cases hx:mc r with
 | none =>
  rw [hx]at HA EQ;have AA:Hid (Calls prog g (#[ay b 0]++lb) W λ e W'=>e=.returned (.tuple #[.bool false,.bool false])/\Below W.heap.size W W'):=HA;clear HA HY HN;go_enter func314,ntmps314;go_wp2_with (go_at_fn g;refine(ab AA).mono ?_;rintro e w1 ⟨rfl,hw⟩)
  go_ret;rw [ab EQ];exact⟨rfl,pv,mv,(ab HR).below hw,Fr.of_below hw⟩
 | some x =>
  rw [hx]at HA EQ;have AA:Hid (Calls prog g (#[ay b 0]++lb) W λ e W'=>e=.returned (.tuple #[.bool x,.bool true])/\Below W.heap.size W W'):=HA;cases x with
  | true =>
   clear HA HN;go_enter func314,ntmps314;go_wp2_with (go_at_fn g;refine(ab AA).mono ?_;rintro e w1 ⟨rfl,hw⟩;have c2':=(hw.cell (p:=⟨B2,0,none⟩) l2).trans c2;have HW:=ae hw;clear hw)
   refine((ab HY) w1 (ab HW) ((ab HR).below (ab HW))).mono ?_;rintro e w2 ⟨rfl,pv2,mv2,h2,f2⟩;have H2:=ae h2;have F2:=ae f2;clear h2 f2;go_wp2_with fail;go_ret;rw [ab EQ];exact⟨rfl,pv2,mv2,ab H2,(Fr.of_below (ab HW)).trans (ab F2)⟩
  | false =>
   clear HA HY;go_enter func314,ntmps314;go_wp2_with (go_at_fn g;refine(ab AA).mono ?_;rintro e w1 ⟨rfl,hw⟩;have c3':=(hw.cell (p:=⟨B3,0,none⟩) l3).trans c3;have HW:=ae hw;clear hw)
   refine((ab HN) w1 (ab HW) ((ab HR).below (ab HW))).mono ?_;rintro e w2 ⟨rfl,pv2,mv2,h2,f2⟩;have H2:=ae h2;have F2:=ae f2;clear h2 f2;go_wp2_with fail;go_ret;rw [ab EQ];exact⟨rfl,pv2,mv2,ab H2,(Fr.of_below (ab HW)).trans (ab F2)⟩
theorem yO(w:World)(vc yv nv:Value)(hc:jl vc)(hyf:∃ a n c,yv=.slice a n c)(hnf:∃ a n c,nv=.slice a n c) :
  Calls prog 268 #[vc,yv,nv] w λ e w'=>e=.returned (.func (.func 314) #[] #[ay w.heap.size 0,ay (w.heap.size+1) 0,ay (w.heap.size+1+1) 0])/\w'=((w.alloc (aF vc 358)).alloc (aF yv 107)).alloc (aF nv 107):=by
 have hmf:∀(fn:Fn) (first cap:Array Value) (w:World),(Instr.makeFunc fn first cap).run prog w=.ok (.func fn first cap) w:=λ _ _ _ _=>rfl
 obtain⟨a1,a2,a3,rfl⟩:=hyf;obtain⟨d1,d2,d3,rfl⟩:=hnf;rcases hc with⟨f,a,b,rfl⟩|rfl <;>
 ·go_enter func268,ntmps268;go_wp2_with fail;go_ret;exact⟨rfl,rfl⟩
theorem Tryz.entChoose:Enters prog 314:=enters_of func314 (by kernel_rfl) rfl
theorem az.three{w:World}{A:Nat->Prop}{Q1 Q2 Q3 Q:(Nat->Prop)->World->Prop}(h1:az w A Q1)(h2:az w A Q2)(h3:az w A Q3)(B:Nat->Prop)(hB:∀ k,B k->k<w.heap.size/\A k)
  (hq:∀ K1 K2 K3,(∀ k,K1 k->k<w.heap.size/\A k)->(∀ k,K2 k->k<w.heap.size/\A k)->(∀ k,K3 k->k<w.heap.size/\A k)->(∀ W,w.heap.size<=W.heap.size->(∀ k,K1 k->W.heap[k]?=w.heap[k]?)->Q1 K1 W)->(∀ W,w.heap.size<=W.heap.size->(∀ k,K2 k->W.heap[k]?=w.heap[k]?)->Q2 K2 W)->(∀ W,w.heap.size<=W.heap.size->(∀ k,K3 k->W.heap[k]?=w.heap[k]?)->Q3 K3 W) ->
   ∀ W,w.heap.size<=W.heap.size->(∀ k,K1 k\/K2 k\/K3 k\/B k->W.heap[k]?=w.heap[k]?)->Q (λ k=>K1 k\/K2 k\/K3 k\/B k) W):az w A Q:=by
 obtain⟨K1,a1,b1⟩:=h1;obtain⟨K2,a2,b2⟩:=h2;obtain⟨K3,a3,b3⟩:=h3;refine⟨λ k=>K1 k\/K2 k\/K3 k\/B k,λ k hk=>?_,λ W hW hk=>hq K1 K2 K3 a1 a2 a3 b1 b2 b3 W hW hk⟩;rcases hk with h|h|h|h
 ·exact a1 k h
 ·exact a2 k h
 ·exact a3 k h
 exact hB k h
theorem sX(w:World)(vc yv nv:Value)(oc:Option aQ)(yes no:List (Option aM))(A:Nat->Prop)(hA:∀ k,w.heap.size<=k->A k)(hc:gH w A vc oc)(hy:fk w A yv yes)(hn:fk w A nv no) :
  Calls prog 268 #[vc,yv,nv] w λ e w'=>∃ v,e=.returned v/\w'=((w.alloc (aF vc 358)).alloc (aF yv 107)).alloc (aF nv 107)/\jr w' A v (iO oc yes no):=by
 refine(yO w vc yv nv hc.fnv hy.1 hn.1).mono ?_;rintro e w' ⟨rfl,rfl⟩;refine⟨_,rfl,rfl,?_⟩;unfold iO;cases oc with
 | none=>exact inl ⟨_,_,_,rfl⟩
 | some mc =>
  dsimp only;cases hys:iz yes with
  | none=>exact inl ⟨_,_,_,rfl⟩
  | some ys =>
   dsimp only;cases hns:iz no with
   | none=>exact inl ⟨_,_,_,rfl⟩
   | some ns =>
    have h1:az _ A (pS vc mc):=((hc.alloc (aF vc 358)).alloc (aF yv 107)).alloc (aF nv 107);have h2:=(((hy.alloc (aF vc 358)).alloc (aF yv 107)).alloc (aF nv 107)).2 ys hys;have h3:=(((hn.alloc (aF vc 358)).alloc (aF yv 107)).alloc (aF nv 107)).2 ns hns;obtain⟨n1,n2,n3,sz⟩:=g6 w (aF vc 358) (aF yv 107) (aF nv 107);refine az.three h1 h2 h3 (λ k=>k=w.heap.size\/k=w.heap.size+1\/k=w.heap.size+1+1) (λ k hk=>⟨by omega,hA k (by omega)⟩) (λ K1 K2 K3 a1 a2 a3 q1 q2 q3 W hW hk=>?_);refine⟨_,_,rfl,Tryz.entChoose,λ b r pv mv hr hd=>?_⟩
    refine Be W b r pv mv hr vc yv nv mc ys ns K1 (q1 W hW (λ k h=>hk k (inl h))) hy.1 hn.1 (λ V hV hrV=>?_) (λ V hV hrV=>?_) _ _ _
     (lS (hk _ (inr (inr (inr (inl rfl))))) n1) (lS (hk _ (inr (inr (inr (inr (inl rfl)))))) n2) (lS (hk _ (inr (inr (inr (inr (inr rfl)))))) n3)
    ·exact ke _ K2 yv ys (λ k h=>(a2 k h).1) q2 V (kr hW hV.size) (λ k h=>(hV.block k (eV (a2 k h).1 hW)).trans (hk k (inr (inl h)))) b r pv mv hrV (λ k ho h=>hd k ho (inr (inl h)))
    exact ke _ K3 nv ns (λ k h=>(a3 k h).1) q3 V (kr hW hV.size) (λ k h=>(hV.block k (eV (a3 k h).1 hW)).trans (hk k (inr (inr (inl h))))) b r pv mv hrV (λ k ho h=>hd k ho (inr (inr (inl h))))
def iM(pb:Nat)(ts:List aw)(w:World)(D O:Nat->Prop)(r:RS×Option (Option aM))(e:Ending)(w':World):Prop :=
 ∃ v O',e=.returned (.tuple #[v,.bool r.2.isSome])/\RA w' pb ts r.1 D O'/\Fr O w O' w'/\jl v/\(∀ o,r.2=some o->jr w' (dk O' D w.heap.size) v o)/\Ok ts r.1
def kz(pb:Nat)(ts:List aw)(tw:RS->Option (RS×Option (Option aM))):Prop:=∀(w:World) (st:RS) (D O:Nat->Prop) (r:RS×Option (Option aM)),RA w pb ts st D O->Ok ts st->tw st=some r->Calls prog 169 #[ay pb 0] w (iM pb ts w D O r)
def sr(pb:Nat)(ts:List aw)(w:World)(D O:Nat->Prop)(r:RS×List (Option aM))(e:Ending)(w':World):Prop :=
 ∃ v O',e=.returned v/\RA w' pb ts r.1 D O'/\Fr O w O' w'/\fk w' (dk O' D w.heap.size) v r.2/\Ok ts r.1/\(∃ a c,v=.slice a r.2.length c)/\r.2.length<=1000000
structure lQ(wr:World)(n0:Nat)(Ou D:Nat->Prop)(sv:Value)(acc:List (Option aM))(vs:List Value):Prop where
 own:wr.ownsRow 0 272 1 sv acc.length vs
 new:∀ k,sv.ownBlock=some k->n0<=k/\¬Ou k
 elt:∀(i:Nat) (v:Value) (o:Option aM),vs[i]?=some v->acc[i]?=some o->jr wr (λ k=>dk Ou D n0 k/\sv.ownBlock≠some k) v o
theorem jr.mono{w w':World}{A A':Nat->Prop}{v:Value}{o:Option aM}(h:jr w A v o)(hs:w.heap.size<=w'.heap.size)(hb:∀ k,k<w.heap.size->A k->w'.heap[k]?=w.heap[k]?/\A' k):jr w' A' v o:=by
 cases o with
 | none=>exact h
 | some m=>exact az.mono h hs hb (λ _ _ h=>h)
theorem lQ.fr{wr w1:World}{n0:Nat}{Ou O1 D:Nat->Prop}{sv:Value}{acc:List (Option aM)}{vs:List Value}(h:lQ wr n0 Ou D sv acc vs)(hf:Fr Ou wr O1 w1):lQ w1 n0 O1 D sv acc vs:=by
 have hO:∀ k,k<wr.heap.size->¬Ou k->¬O1 k:=λ k hk hn ho=>by
  rcases hf.own k ho with h1|h1
  ·exact hn h1
  omega
 refine⟨ap h.own (λ k e=>hf.block k (h.own.lt k e).2 (h.new k e).2),λ k e=>⟨(h.new k e).1,hO k (h.own.lt k e).2 (h.new k e).2⟩,λ i v o hv ho=>?_⟩;exact(h.elt i v o hv ho).mono hf.size (λ k hk ha=>⟨hf.block k hk ha.1.1,⟨hO k hk ha.1.1,ha.1.2⟩,ha.2⟩)
theorem lQ.snoc{w1 w2:World}{n0 g cap:Nat}{O1 D:Nat->Prop}{sv v:Value}{acc:List (Option aM)}{vs:List Value}{o:Option aM}(h:lQ w1 n0 O1 D sv acc vs)(hO:∀ k,O1 k->k<w1.heap.size)(hn0:n0<=w1.heap.size)
  (hv:jr w1 (λ k=>dk O1 D n0 k/\sv.ownBlock≠some k) v o) (hg:w1.grownBy w2 sv.ownBlock) (hat:sv.ownBlock=some g\/w1.heap.size<=g)
  (hown:w2.ownsRow 0 272 1 (.slice (some ⟨g,0,none⟩) (acc.length+1) cap) (acc.length+1) (vs++[v])) :
  lQ w2 n0 O1 D (.slice (some ⟨g,0,none⟩) (acc.length+1) cap) (acc++[o]) (vs++[v]):=by
 have hvl:vs.length=acc.length:=by simpa using h.own.1
 have hmono:∀(x:Value) (p:Option aM),jr w1 (λ k=>dk O1 D n0 k/\sv.ownBlock≠some k) x p->jr w2 (λ k=>dk O1 D n0 k/\(Value.slice (some ⟨g,0,none⟩) (acc.length+1) cap).ownBlock≠some k) x p:=λ x p hx=>by
  refine hx.mono hg.size (λ k hk ha=>⟨hg.block k hk (λ e=>ha.2 e.symm),ha.1,λ e=>?_⟩);have e':g=k:=by simpa [Value.ownBlock]using e
  rcases hat with h1|h1
  ·exact ha.2 (by rw [h1,e'])
  omega
 refine⟨by rw [List.length_append];exact hown,λ k e=>?_,λ i x p hx hp=>?_⟩
 ·have e':g=k:=by simpa [Value.ownBlock]using e
  subst e';rcases hat with h1|h1
  ·exact h.new g h1
  exact⟨by omega,λ ho=>by have:=hO g ho;omega⟩
 rcases Nat.lt_or_ge i acc.length with hi|hi
 ·rw [List.getElem?_append_left (by omega)]at hx;rw [List.getElem?_append_left hi]at hp;exact hmono x p (h.elt i x p hx hp)
 rw [List.getElem?_append_right (by omega)]at hx;rw [List.getElem?_append_right hi]at hp
 have hi0:i-acc.length=0:=by
  rcases yj (i-acc.length)with h1|h1
  ·exact h1
  rw [List.getElem?_eq_none (by simp;omega)]at hp;cases hp
 rw [hi0]at hp;rw [hvl,hi0]at hx;simp at hx hp;subst hx hp;exact hmono _ _ hv
theorem tG{tw:RS->Option (RS×Option (Option aM))}{k:Nat}{st:RS}{l:List (Option aM)}{r:RS×List (Option aM)}(h:bO tw k st l=some r):∃ g,k=g+1:=by
 cases k with
 | zero=>rw [bO]at h;cases h
 | succ g=>exact⟨g,rfl⟩
def LH(tw:RS->Option (RS×Option (Option aM)))(k:Nat)(su:RS)(x:Option (Option aM))(l:List (Option aM)):Option (RS×List (Option aM)) :=
 match x with
 | none=>some (su,l)
 | some y=>bO tw k su (l++[y])
theorem ri{tw:RS->Option (RS×Option (Option aM))}{k:Nat}{st:RS}{l:List (Option aM)}{r:RS×List (Option aM)}(h:bO tw (k+1) st l=some r) :
  ∃ su x,tw st=some (su,x)/\LH tw k su x l=some r:=by
 rw [bO]at h;cases h1:tw st with
 | none=>rw [h1]at h;cases h
 | some p =>
  obtain⟨su,x⟩:=p;rw [h1]at h;refine⟨su,x,rfl,?_⟩;cases x with
  | none=>exact h
  | some y=>exact h
theorem Tryz.infoStep:(prog.info? 272).map (λ i=>(i.zero,i.size,i.bytes))=some (some .nilFunc,1,8):=by kernel_rfl
theorem RA.grown{w w2:World}{pb:Nat}{ts:List aw}{st:RS}{D O:Nat->Prop}{row:Option Nat}(h:RA w pb ts st D O)(hg:w.grownBy w2 row)(hr:∀ k,row=some k->¬O k/\¬D k):RA w2 pb ts st D O:=by
 obtain⟨tb,tc,dv,av,bv,h,rfl⟩:=h;refine⟨tb,tc,dv,av,bv,h.keep hg.size (λ k hl hk=>hg.block k hl (λ e=>?_)),rfl⟩;rcases hk with h1|h1
 ·exact(hr k e.symm).1 h1
 exact(hr k e.symm).2 h1
theorem lQ.alloc{wr:World}{n0:Nat}{Ou D:Nat->Prop}{sv:Value}{acc:List (Option aM)}{vs:List Value}(h:lQ wr n0 Ou D sv acc vs)(o:Obj):lQ (wr.alloc o) n0 Ou D sv acc vs:=h.fr ((bE _ _).alloc o)
theorem vV{pb:Nat}{ts:List aw}{tw:RS->Option (RS×Option (Option aM))}(IH:kz pb ts tw)(n:Nat)(hn:n<=1000){w:World}{st:RS}{D O:Nat->Prop}{r:RS×List (Option aM)}(h:RA w pb ts st D O)(hk:Ok ts st)(hr:bO tw n st []=some r) :
  Calls prog 216 #[.func (.func 169) #[ay pb 0] #[]] w (sr pb ts w D O r):=by
 obtain⟨n,rfl⟩:=tG hr;obtain⟨su,x,h1,h2⟩:=ri hr;obtain⟨i0,hi0,hz0,hz1,hz2⟩:=info_parts Tryz.infoStep;have OA:=ae IH;have H1:=ae (IH w st D O (su,x) h hk h1);have HL:=ae h2;have HH:=ae h;clear hr h hk h1 h2 IH;go_enter func216,ntmps216;go_wp2_with fail;refine(ab H1).mono ?_;rintro e w1 ⟨v,O1,rfl,hr1,hf1,hfv,hv1,hk1⟩;have HR:=ae hr1;have HF:=ae hf1;have HV:=ae hv1;have HK:=ae hk1;have JA:=ae hfv;clear hr1 hf1 hv1 hk1 H1 hfv;go_wp2_with fail;go_loopg [3,4,5] n (λ k s3 v4 b5 wr=>∃(su:RS) (x:Option (Option aM)) (acc:List (Option aM)) (vs:List Value) (Ou:Nat->Prop),b5=.bool x.isSome/\acc.length+k<=n/\RA wr pb ts su D Ou/\Fr O w Ou wr/\lQ wr w.heap.size Ou D s3 acc vs/\jl v4/\(∀ o,x=some o->jr wr (λ k=>dk Ou D w.heap.size k/\s3.ownBlock≠some k) v4 o)/\Ok ts su/\LH tw k su x acc=some r)
 case atStart =>
  refine⟨su,x,[],[],O1,rfl,by simp,ab HR,ab HF,⟨jX _ _ _ _,λ k e=>by simp [Value.ownBlock]at e,λ i v o hv=>by simp at hv⟩,ab JA,λ o ho=>?_,ab HK,ab HL⟩;exact((ab HV) o ho).mono (aD _) (λ k _ ha=>⟨rfl,ha,by simp [Value.ownBlock]⟩)
 case round =>
  clear HR HF HV HK HL JA;obtain⟨su,x,acc,vs,Ou,rfl,hlen,hr,hf,hacc,hfv,hv,hk,hl⟩:=hrel;have HR:=ae hr;have HF:=ae hf;have HA:=ae hacc;have HK:=ae hk;obtain⟨sa,sc,hsv⟩:=bi hacc.own;subst hsv;cases x with
  | none =>
   cases hl
   clear hr hf hacc hk hv;go_wp2_with fail;go_ret;refine⟨_,_,rfl,ab HR,ab HF,wB (ab HA).own (show acc.length<=1000000 by omega) (λ k e=>⟨((ab HA).new k e).2,inr ((ab HA).new k e).1⟩) (λ i v o h1 h2=>((ab HA).elt i v o h1 h2).mono (aD _) (λ k _ ha=>⟨rfl,ha.1⟩)),ab HK,⟨_,_,rfl⟩,by show acc.length<=_;omega⟩
  | some y =>
   have hl':bO tw _ su (acc++[y])=some r:=hl;obtain⟨g,rfl⟩:=tG hl';obtain⟨su2,x2,h3,h4⟩:=ri hl';have HS:=ae h3;have HL:=ae h4;have HV:=ae (hv y rfl);have JA:=ae hfv;have hln:acc.length<=1000:=by omega
   clear hr hf hacc hk hv hl hl' h3 h4;have DA:=ae ((ab HR).alloc (aF u4 272));have AA:=ae ((ab HA).alloc (aF u4 272));have FA:=ae ((ab HV).mono (bK wr (aF u4 272) (λ k=>dk Ou D w.heap.size k/\(Value.slice sa acc.length sc).ownBlock≠some k)).1 (bK wr (aF u4 272) _).2);rcases hfv with⟨f1,f2,f3,rfl⟩|rfl
   ·
    go_wp2_with (at_builtin;refine wpList_append_lies _ rfl _ _ _ rfl 0 272 i0 _ 1 8 underlying107 hi0 hz0 hz1 hz2 rfl (by omega) (.slice sa acc.length sc) acc.length vs rfl (ab AA).own ⟨wr.heap.size,0,none⟩ 1 1 [.func f1 f2 f3] rfl rfl (World.news_of_block (cs:=#[.func f1 f2 f3]) (t:=272) (fr:=(0,0)) (cN _ _)) (by simp [Value.oneCell']) (by omega) (by simp [maxLen];omega) (by omega) (iL _) (wr.heap.size+1) (by simp) ?_;intro gg cap w2 hown hgrow hat hltg)
    have LA:=ae ((ab DA).grown hgrow (λ k e=>⟨((ab AA).new k e).2,λ hd=>by have h1:=((ab AA).new k e).1;have h2:=((ab HH).free hd).1;omega⟩));have EA:=ae (((ab HF).alloc (aF (.func f1 f2 f3) 272)).grown hgrow (λ k e=>inr ((ab AA).new k e).1));have BA:=ae (lQ.snoc (ab AA) (λ k ho=>(ab DA).lt ho) (by have:=(ab HF).size;simp;omega) (ab FA) hgrow (hat.imp id (λ h=>by simp;omega)) hown);have hs2:=hgrow.size;clear hown hgrow hat hltg DA AA FA HV HA;refine((ab OA) _ _ _ _ _ (ab LA) (ab HK) (ab HS)).mono ?_;rintro e w3 ⟨v3,O3,rfl,hr3,hf3,hfv3,hv3,hk3⟩;have MA:=ae hr3;have IA:=ae ((ab EA).trans hf3);have GA:=ae ((ab BA).fr hf3);have KA:=ae hk3;have CA:=ae hfv3
    have NA:Hid (∀ o,x2=some o->jr w3 (λ k=>dk O3 D w.heap.size k/\(Value.slice (some ⟨gg,0,none⟩) (acc.length+1) cap).ownBlock≠some k) v3 o):=by
     intro o ho;refine(hv3 o ho).mono (aD _) (λ k _ ha=>⟨rfl,⟨ha.1,?_⟩,λ e=>?_⟩)
     ·rcases ha.2 with h1|h1
      ·exact inl h1
      exact inr (by have:=(ab EA).size;omega)
     have e':gg=k:=by simpa [Value.ownBlock]using e
     have hl2:=((ab BA).own.lt gg rfl).2;rcases ha.2 with h1|h1
     ·have h2:=((ab BA).new gg rfl).1;have h3:=((ab HH).free h1).1;omega
     omega
    clear hr3 hf3 hv3 hk3 hfv3;go_wp2_with fail;go_roundg g
    case measure=>omega
    case rel=>exact⟨su2,x2,acc++[y],_,O3,rfl,by rw [List.length_append,List.length_singleton];omega,ab MA,ab IA,ab GA,ab CA,ab NA,ab KA,ab HL⟩
   ·
    go_wp2_with (at_builtin;refine wpList_append_lies _ rfl _ _ _ rfl 0 272 i0 _ 1 8 underlying107 hi0 hz0 hz1 hz2 rfl (by omega) (.slice sa acc.length sc) acc.length vs rfl (ab AA).own ⟨wr.heap.size,0,none⟩ 1 1 [.nilFunc] rfl rfl (World.news_of_block (cs:=#[.nilFunc]) (t:=272) (fr:=(0,0)) (cN _ _)) (by simp [Value.oneCell']) (by omega) (by simp [maxLen];omega) (by omega) (iL _) (wr.heap.size+1) (by simp) ?_;intro gg cap w2 hown hgrow hat hltg)
    have LA:=ae ((ab DA).grown hgrow (λ k e=>⟨((ab AA).new k e).2,λ hd=>by have h1:=((ab AA).new k e).1;have h2:=((ab HH).free hd).1;omega⟩));have EA:=ae (((ab HF).alloc (aF (.nilFunc) 272)).grown hgrow (λ k e=>inr ((ab AA).new k e).1));have BA:=ae (lQ.snoc (ab AA) (λ k ho=>(ab DA).lt ho) (by have:=(ab HF).size;simp;omega) (ab FA) hgrow (hat.imp id (λ h=>by simp;omega)) hown);have hs2:=hgrow.size;clear hown hgrow hat hltg DA AA FA HV HA;refine((ab OA) _ _ _ _ _ (ab LA) (ab HK) (ab HS)).mono ?_;rintro e w3 ⟨v3,O3,rfl,hr3,hf3,hfv3,hv3,hk3⟩;have MA:=ae hr3;have IA:=ae ((ab EA).trans hf3);have GA:=ae ((ab BA).fr hf3);have KA:=ae hk3;have CA:=ae hfv3
    have NA:Hid (∀ o,x2=some o->jr w3 (λ k=>dk O3 D w.heap.size k/\(Value.slice (some ⟨gg,0,none⟩) (acc.length+1) cap).ownBlock≠some k) v3 o):=by
     intro o ho;refine(hv3 o ho).mono (aD _) (λ k _ ha=>⟨rfl,⟨ha.1,?_⟩,λ e=>?_⟩)
     ·rcases ha.2 with h1|h1
      ·exact inl h1
      exact inr (by have:=(ab EA).size;omega)
     have e':gg=k:=by simpa [Value.ownBlock]using e
     have hl2:=((ab BA).own.lt gg rfl).2;rcases ha.2 with h1|h1
     ·have h2:=((ab BA).new gg rfl).1;have h3:=((ab HH).free h1).1;omega
     omega
    clear hr3 hf3 hv3 hk3 hfv3;go_wp2_with fail;go_roundg g
    case measure=>omega
    case rel=>exact⟨su2,x2,acc++[y],_,O3,rfl,by rw [List.length_append,List.length_singleton];omega,ab MA,ab IA,ab GA,ab CA,ab NA,ab KA,ab HL⟩
theorem rA{w:World}{pb:Nat}{ts:List aw}{st:RS}{D O:Nat->Prop}(h:RA w pb ts st D O)(x:Int) :
  Calls prog 228 #[ay pb 11,.int .i64 x] w λ e w'=>e=.returned (.tuple #[])/\RA w' pb ts (jy st x) D O/\Fr O w O w':=by
 obtain⟨tb,tc,dv,av,bv,h,rfl⟩:=h;refine(uw w pb 11 st.num x _ h.blk rfl rfl).mono ?_;rintro e w' ⟨rfl,rfl⟩;refine⟨rfl,?_⟩;cases hs:st.num with
 | none =>
  refine⟨⟨tb,tc,dv,av,bv,h.synSet (o:=11) _ (jy st x) rfl rfl ?_,rfl⟩,((bE _ _).setCell (inl (inl rfl)) _).setCell (inl (inl rfl)) _⟩;simp [iq,jy,hs,iC,nr,rK]
 | some y =>
  have e:jy st x=st:=by simp [jy,hs,iC];rw [<-hs]
  rw [e];exact⟨⟨tb,tc,dv,av,bv,h,rfl⟩,bE _ _⟩
theorem oy{pb:Nat}{ts:List aw}(ht:cE ts){w:World}{st:RS}{D O:Nat->Prop}(h:RA w pb ts st D O)(hk:Ok ts st)(lo hi:Int) :
  Calls prog 275 #[ay pb 0,.int .i64 lo,.int .i64 hi] w λ e w'=>e=.returned (.int .i64 (aE ts lo hi st).2)/\∃ O',RA w' pb ts (aE ts lo hi st).1 D O'/\Fr O w O' w':=by
 have HT:=ae (aN h hk ht 2);have HW:=ae (show aE ts lo hi st=(if(ar ts 2 st).2.number<lo\/hi<(ar ts 2 st).2.number then jy (ar ts 2 st).1 (ar ts 2 st).2.at_ else(ar ts 2 st).1,(ar ts 2 st).2.number)from rfl);clear h hk ht;generalize ar ts 2 st=P at *;obtain⟨s1,t⟩:=P;by_cases h1:t.number<lo
 ·have EQ:Hid (aE ts lo hi st=(jy s1 t.at_,t.number)):=by unfold Hid;rw [ab HW,aC (inl h1)]
  clear HW;go_enter func275,ntmps275;go_wp2_with (go_at_call 213;refine(ab HT).mono ?_;rintro e w1 ⟨rfl,O1,hr1,hf1⟩;have HR:=ae hr1;have HF:=ae hf1;clear hr1 hf1;dsimp only)
  have cb:=fp w1 #[.int .i64 t.kind,.int .i64 t.at_,.string t.text,.int .i64 t.number,.int .i64 t.addr,.int .i64 t.len] 216;have HB:=ae cb;have c1:(w1.alloc (aR t)).cell? ⟨w1.heap.size,1,none⟩=some (.int .i64 t.at_):=af cb;have CA:=ae (λ q=>rA (((ab HR).alloc (aR t)).drewN q) t.at_);clear cb;go_region_with (go_at_call 228;refine((ab CA) 1).mono ?_;rintro e w2 ⟨rfl,hr2,hf2⟩)
  all_goals
   have g2:=bD ((((bE _ _).drewN 1).trans hf2)) (ab HB) (λ ho=>by have:=(ab HR).lt ho;omega);have c3:w2.cell? ⟨w1.heap.size,3,none⟩=some (.int .i64 t.number):=af g2.1;have BA:=ae hr2;have AA:=ae ((((ab HF).alloc (aR t)).drewN 1).trans hf2);clear hr2 hf2 g2;go_wp2_with fail;go_ret;rw [ab EQ];exact⟨rfl,_,ab BA,ab AA⟩
 by_cases h2:hi<t.number
 ·have EQ:Hid (aE ts lo hi st=(jy s1 t.at_,t.number)):=by unfold Hid;rw [ab HW,aC (inr h2)]
  clear HW;go_enter func275,ntmps275;go_wp2_with (go_at_call 213;refine(ab HT).mono ?_;rintro e w1 ⟨rfl,O1,hr1,hf1⟩;have HR:=ae hr1;have HF:=ae hf1;clear hr1 hf1;dsimp only)
  have cb:=fp w1 #[.int .i64 t.kind,.int .i64 t.at_,.string t.text,.int .i64 t.number,.int .i64 t.addr,.int .i64 t.len] 216;have HB:=ae cb;have c1:(w1.alloc (aR t)).cell? ⟨w1.heap.size,1,none⟩=some (.int .i64 t.at_):=af cb;have CA:=ae (λ q=>rA (((ab HR).alloc (aR t)).drewN q) t.at_);clear cb;go_region_with (go_at_call 228;refine((ab CA) 1).mono ?_;rintro e w2 ⟨rfl,hr2,hf2⟩)
  all_goals
   have g2:=bD ((((bE _ _).drewN 1).trans hf2)) (ab HB) (λ ho=>by have:=(ab HR).lt ho;omega);have c3:w2.cell? ⟨w1.heap.size,3,none⟩=some (.int .i64 t.number):=af g2.1;have BA:=ae hr2;have AA:=ae ((((ab HF).alloc (aR t)).drewN 1).trans hf2);clear hr2 hf2 g2;go_wp2_with fail;go_ret;rw [ab EQ];exact⟨rfl,_,ab BA,ab AA⟩
 have EQ:Hid (aE ts lo hi st=(s1,t.number)):=by unfold Hid;rw [ab HW,au (λ h=>h.elim h1 h2)]
 clear HW;go_enter func275,ntmps275;go_wp2_with (go_at_call 213;refine(ab HT).mono ?_;rintro e w1 ⟨rfl,O1,hr1,hf1⟩;have HR:=ae hr1;have HF:=ae hf1;clear hr1 hf1;dsimp only)
 go_ret;rw [ab EQ];exact⟨rfl,_,(ab HR).alloc _,(ab HF).alloc _⟩
theorem ur{pb:Nat}{ts:List aw}(ht:cE ts){w:World}{st:RS}{D O:Nat->Prop}(h:RA w pb ts st D O)(hk:Ok ts st) :
  Calls prog 227 #[ay pb 0] w λ e w'=>e=.returned (.int .i64 (aE ts 1 65535 st).2)/\∃ O',RA w' pb ts (aE ts 1 65535 st).1 D O'/\Fr O w O' w':=by
 have HW:=ae (oy ht h hk 1 65535);clear h hk ht;go_enter func227,ntmps227;go_wp2_with (go_at_call 275;refine(ab HW).mono ?_;rintro e w1 ⟨rfl,O1,hr1,hf1⟩;have HR:=ae hr1;have HF:=ae hf1;clear hr1 hf1)
 go_ret;exact⟨rfl,_,ab HR,ab HF⟩
theorem tF{pb:Nat}{ts:List aw}(ht:cE ts){w:World}{st:RS}{D O:Nat->Prop}(h:RA w pb ts st D O)(hk:Ok ts st) :
  Calls prog 224 #[ay pb 0] w λ e w'=>e=.returned (.int .i64 (aE ts 0 65535 st).2)/\∃ O',RA w' pb ts (aE ts 0 65535 st).1 D O'/\Fr O w O' w':=by
 have HW:=ae (oy ht h hk 0 65535);clear h hk ht;go_enter func224,ntmps224;go_wp2_with (go_at_call 275;refine(ab HW).mono ?_;rintro e w1 ⟨rfl,O1,hr1,hf1⟩;have HR:=ae hr1;have HF:=ae hf1;clear hr1 hf1)
 go_ret;exact⟨rfl,_,ab HR,ab HF⟩
def pR(pb:Nat)(ts:List aw)(tw:RS->Option (RS×List (Option aM))):Prop:=∀(w:World) (st:RS) (D O:Nat->Prop) (r:RS×List (Option aM)),RA w pb ts st D O->Ok ts st->tw st=some r->Calls prog 267 #[ay pb 0] w (sr pb ts w D O r)
theorem A8{pb:Nat}{ts:List aw}(ht:cE ts){tw:RS->Option (RS×Option (Option aM))}(IH:kz pb ts tw)(n:Nat)(hn:n<=1000):pR pb ts (fU ts tw n):=by
 intro w st D O r h hk hr;unfold fU at hr;cases h1:bO tw n (eA (dt ts 29 st)) []with
 | none=>rw [h1]at hr;cases hr
 | some p =>
  obtain⟨s1,l⟩:=p;rw [h1]at hr;cases hr
  have hmf:∀(fn:Fn) (first cap:Array Value) (w:World),(Instr.makeFunc fn first cap).run prog w=.ok (.func fn first cap) w:=λ _ _ _ _=>rfl
  have AA:=ae (mB (k:=29) hk ht (by decide));have HR:=ae h;have HK:=ae hk;have HT:=ae ht;have HF:=ae (bE O w);have HM:=ae (λ W O1 (hW:RA W pb ts (eA (dt ts 29 st)) D O1)=>vV IH n hn hW (qT (ab AA)) h1);clear h hk ht IH h1;go_enter func267,ntmps267
  go_wp2_with (first
   | (go_at_call 309;refine(mC (ab HR) (ab HK) (ab HT) 29).mono ?_;rintro e w1 ⟨rfl,O1,hr1,hf1⟩;replace HR:=ae hr1;replace HF:=ae ((ab HF).trans hf1);clear hr1 hf1)
   | (go_at_call 300;refine(mu (ab HR)).mono ?_;rintro e w1 ⟨rfl,hr1,hf1⟩;replace HR:=ae hr1;replace HF:=ae ((ab HF).trans hf1);clear hr1 hf1))
  refine((ab HM) _ _ (ab HR)).mono ?_;rintro e w2 ⟨v,O2,rfl,hr2,hf2,hs2,hk2,⟨va,vc,rfl⟩,hl2⟩;have HS:=ae (hs2.fr (bE _ _) (ab HF).size);have BA:=ae hk2;have CA:=ae hl2;replace HR:=ae hr2;replace HF:=ae ((ab HF).trans hf2);clear hr2 hf2 hs2 hk2 hl2 HM
  go_wp2_with (first
   | (go_at_call 310;refine(pD (ab HR) (ab BA) (ab HT) 30).mono ?_;rintro e w1 ⟨rfl,O1,hr1,hf1⟩;replace HR:=ae hr1;replace HS:=ae ((ab HS).fr hf1 (aD _));replace HF:=ae ((ab HF).trans hf1);clear hr1 hf1)
   | (go_at_call 300;refine(mu (ab HR)).mono ?_;rintro e w1 ⟨rfl,hr1,hf1⟩;replace HR:=ae hr1;replace HS:=ae ((ab HS).fr hf1 (aD _));replace HF:=ae ((ab HF).trans hf1);clear hr1 hf1))
  go_ret;exact⟨_,_,rfl,ab HR,ab HF,ab HS,qT (pC (ab BA) (ab HT) (by decide)),⟨_,_,rfl⟩,ab CA⟩
theorem pd{pb:Nat}{ts:List aw}(ht:cE ts){sum:RS->Option (RS×Option bh)}(IH:iN pb ts sum){w:World}{st:RS}{D O:Nat->Prop}{r:RS×Option bh}(h:RA w pb ts st D O)(hk:Ok ts st)(hr:sum (ar ts 26 st).1=some r) :
  Calls prog 220 #[ay pb 0] w (kV pb ts w D O r):=by
 have HR:=ae h;have HF:=ae (bE O w);have HK:=ae hk;have HT:=ae ht;have HI:=ae IH;have HS:=ae hr;clear h hk ht IH hr;go_enter func220,ntmps220;go_wp2_with (go_at_call 213;refine(aN (ab HR) (ab HK) (ab HT) 26).mono ?_;rintro e w1 ⟨rfl,O1,hr1,hf1⟩;replace HR:=ae hr1;replace HF:=ae ((ab HF).trans hf1);clear hr1 hf1)
 refine((ab HI) _ _ _ _ _ (ab HR) (ch (ab HK) (ab HT) (by decide)) (ab HS)).mono ?_;rintro e w2 ⟨v,O2,rfl,hr2,hf2,hv2,hk2⟩;have HV:=ae (hv2.fr (bE _ _) (ab HF).size);have AA:=ae hk2;replace HR:=ae hr2;replace HF:=ae ((ab HF).trans hf2);clear hr2 hf2 hv2 hk2;go_wp2_with fail;go_ret;exact⟨_,_,rfl,ab HR,ab HF,ab HV,ab AA⟩
def wR(pb:Nat)(ts:List aw)(w:World)(D O:Nat->Prop)(r:RS×Option aM)(e:Ending)(w':World):Prop :=
 ∃ v O',e=.returned v/\RA w' pb ts r.1 D O'/\Fr O w O' w'/\jr w' (dk O' D w.heap.size) v r.2/\Ok ts r.1
theorem fk.nil(w:World)(A:Nat->Prop):fk w A (.slice none 0 0) [] :=
 wB (vs:=[]) (jX _ _ _ _) (by simp) (λ k e=>by simp [Value.ownBlock]at e) (λ i v o hv=>by simp at hv)
theorem Bc{pb:Nat}{ts:List aw}(ht:cE ts){cnd:RS->Option (RS×Option aQ)}(IC:fT 266 pb ts cnd){blk:RS->Option (RS×List (Option aM))}(IB:pR pb ts blk){w:World}{st s1 s2:RS}{D O:Nat->Prop}{c:Option aQ}{yes:List (Option aM)}
  (h:RA w pb ts st D O) (hk:Ok ts st) (hc:cnd st=some (s1,c)) (hb:blk (ar ts 15 s1).1=some (s2,yes)) (e16:am ts s2≠16) :
  Calls prog 217 #[ay pb 0] w (wR pb ts w D O (s2,iO c yes [])):=by
 have HT:=ae ht;have HC:=ae (IC w st D O (s1,c) h hk hc);have BA:=ae IB;have HB:=ae hb;have HE:=ae e16;clear h hk ht IC IB hc hb e16;go_enter func217,ntmps217;go_wp2_with fail;refine(ab HC).mono ?_;rintro e w1 ⟨v,O1,rfl,hr1,hf1,hv1,hk1⟩;have HR:=ae hr1;have HF:=ae hf1;have HV:=ae hv1;have HK:=ae hk1;clear hr1 hf1 hv1 hk1 HC;go_wp2_with (go_at_call 213;refine(aN (ab HR) (ab HK) (ab HT) 15).mono ?_;rintro e w1 ⟨rfl,O1,hr1,hf1⟩;replace HR:=ae hr1;replace HV:=ae ((ab HV).fr hf1 (aD _));replace HF:=ae ((ab HF).trans hf1);clear hr1 hf1)
 refine((ab BA) _ _ _ _ _ (ab HR) (ch (ab HK) (ab HT) (by decide)) (ab HB)).mono ?_;rintro e w2 ⟨v2,O2,rfl,hr2,hf2,hs2,hk2,⟨va,vc,rfl⟩,hl2⟩;have HS:=ae (hs2.fr (bE _ _) (ab HF).size);have AA:=ae hk2;replace HR:=ae hr2;replace HV:=ae ((ab HV).fr hf2 (aD _));replace HF:=ae ((ab HF).trans hf2);clear hr2 hf2 hs2 hk2 hl2
 go_wp2_with (first
  | (go_at_call 211;refine(aL (ab HR) (ab AA) (ab HT) 16 (ab HE)).mono ?_;rintro e w1 ⟨rfl,hr1,hf1⟩;replace HR:=ae hr1;replace HV:=ae ((ab HV).fr hf1 (aD _));replace HS:=ae ((ab HS).fr hf1 (aD _));replace HF:=ae ((ab HF).trans hf1);clear hr1 hf1)
  | (go_at_call 268;refine(sX _ _ _ _ _ _ _ _ ((ab HR).newFree (ab HF)) (ab HV) (ab HS) (fk.nil _ _)).mono ?_;rintro e w4 ⟨v4,rfl,rfl,hv4⟩;have CA:=ae hv4;clear hv4))
 go_ret;exact⟨_,_,rfl,(((ab HR).alloc _).alloc _).alloc _,(((ab HF).alloc _).alloc _).alloc _,ab CA,ab AA⟩
theorem Bd{pb:Nat}{ts:List aw}(ht:cE ts){cnd:RS->Option (RS×Option aQ)}(IC:fT 266 pb ts cnd){blk:RS->Option (RS×List (Option aM))}(IB:pR pb ts blk){w:World}{st s1 s2 s3:RS}{D O:Nat->Prop}{c:Option aQ}{yes no:List (Option aM)}
  (h:RA w pb ts st D O) (hk:Ok ts st) (hc:cnd st=some (s1,c)) (hb:blk (ar ts 15 s1).1=some (s2,yes)) (e16:am ts s2=16) (hn:blk (bg ts s2)=some (s3,no)) :
  Calls prog 217 #[ay pb 0] w (wR pb ts w D O (s3,iO c yes no)):=by
 have HT:=ae ht;have HC:=ae (IC w st D O (s1,c) h hk hc);have AA:=ae IB;have HB:=ae hb;have HN:=ae hn;have HE:=ae e16;clear h hk ht IC IB hc hb e16 hn;go_enter func217,ntmps217;go_wp2_with fail;refine(ab HC).mono ?_;rintro e w1 ⟨v,O1,rfl,hr1,hf1,hv1,hk1⟩;have HR:=ae hr1;have HF:=ae hf1;have HV:=ae hv1;have HK:=ae hk1;clear hr1 hf1 hv1 hk1 HC;go_wp2_with (go_at_call 213;refine(aN (ab HR) (ab HK) (ab HT) 15).mono ?_;rintro e w1 ⟨rfl,O1,hr1,hf1⟩;replace HR:=ae hr1;replace HV:=ae ((ab HV).fr hf1 (aD _));replace HF:=ae ((ab HF).trans hf1);clear hr1 hf1)
 refine((ab AA) _ _ _ _ _ (ab HR) (ch (ab HK) (ab HT) (by decide)) (ab HB)).mono ?_;rintro e w2 ⟨v2,O2,rfl,hr2,hf2,hs2,hk2,⟨va,vc,rfl⟩,hl2⟩;have HS:=ae (hs2.fr (bE _ _) (ab HF).size);have BA:=ae hk2;replace HR:=ae hr2;replace HV:=ae ((ab HV).fr hf2 (aD _));replace HF:=ae ((ab HF).trans hf2);clear hr2 hf2 hs2 hk2 hl2;go_wp2_with (go_at_call 211;refine(bY (ab HR) (ab BA) (ab HT) 16 (ab HE)).mono ?_;rintro e w1 ⟨rfl,O1,hr1,hf1⟩;replace HR:=ae hr1;replace HV:=ae ((ab HV).fr hf1 (aD _));replace HS:=ae ((ab HS).fr hf1 (aD _));replace HF:=ae ((ab HF).trans hf1);clear hr1 hf1)
 refine((ab AA) _ _ _ _ _ (ab HR) (cu (ab BA) (ab HT) (ab HE) (by decide)) (ab HN)).mono ?_;rintro e w2 ⟨v2,O2,rfl,hr2,hf2,hs2,hk2,⟨na,nc,rfl⟩,hl2⟩;have DA:=ae (hs2.fr (bE _ _) (ab HF).size);have CA:=ae hk2;replace HR:=ae hr2;replace HV:=ae ((ab HV).fr hf2 (aD _));replace HS:=ae ((ab HS).fr hf2 (aD _));replace HF:=ae ((ab HF).trans hf2);clear hr2 hf2 hs2 hk2 hl2;go_wp2_with (go_at_call 268;refine(sX _ _ _ _ _ _ _ _ ((ab HR).newFree (ab HF)) (ab HV) (ab HS) (ab DA)).mono ?_;rintro e w4 ⟨v4,rfl,rfl,hv4⟩;have EA:=ae hv4;clear hv4)
 go_ret;exact⟨_,_,rfl,(((ab HR).alloc _).alloc _).alloc _,(((ab HF).alloc _).alloc _).alloc _,ab EA,ab CA⟩
