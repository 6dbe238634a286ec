/- part -/
import Derived.Test.YtphhnjljlllnlaaGreatDoorRdrD
import Derived.Deep.LoopGhost
set_option maxRecDepth 100000
set_option maxHeartbeats 4000000
namespace Go.Proofs.YtphhnjljlllnlaaGreatDoor
open Go.Proofs.Tryz
open Or
open Go.RowKit
def aB(l:List Int):List Value:=l.map (Value.int .i64)
structure dp(W:World)(b:Nat)(r:Rt)(pv mv:Value):Prop where
 blk:W.heap[b]?=some (.cells #[.int .i64 r.addr,.int .i64 r.len,pv,mv,.int .i64 r.pref,.int .i64 r.med] 65 (0,0))
 path:W.ownsRow 0 3 1 pv r.path.length (aB r.path)
 marks:W.ownsRow 0 3 1 mv r.marks.length (aB r.marks)
 ne1:pv.ownBlock≠some b
 ne2:mv.ownBlock≠some b
 ne3:pv.ownBlock=none\/pv.ownBlock≠mv.ownBlock
 n1:r.path.length<=12
 n2:r.marks.length<=8
 srt:r.marks.Pairwise (· < ·)
theorem al{w:World}{base:Nat}{e:TypeId}{size:Nat}{v:Value}{n:Nat}{xs:List Value}(h:w.ownsRow base e size v n xs):∃ a c,v=.slice a n c:=by
 rcases h.2 with⟨h1,h0⟩|⟨g,cap,cur,h1,_⟩
 ·exact⟨none,0,by rw [h1,h0]⟩
 exact⟨_,_,h1⟩
def Cr(o:Option Int):Value:=.tuple #[.int .i64 (o.getD 0),.bool o.isSome]
def js(v:Value)(m:bh)(_K:Nat->Prop)(W:World):Prop :=
 Ig v λ g lb=>∀(b:Nat) (r:Rt) (pv mv:Value),dp W b r pv mv->Calls prog g (#[au b 0]++lb) W λ e W'=>e=.returned (Cr (m r))/\W'=W
theorem ym(W:World)(B:Nat)(n:Int)(hb:W.cell? ⟨B,0,none⟩=some (.int .i64 n))(b:Nat) :
  Calls prog 265 (#[au b 0]++#[au B 0]) W λ e W'=>e=.returned (Cr (some n))/\W'=W:=by
 go_enter func265,ntmps265;go_wp2_with fail
 go_ret2
 exact⟨rfl,rfl⟩
theorem B6(W:World)(b:Nat)(r:Rt)(pv mv:Value)(h:dp W b r pv mv) :
  Calls prog 248 (#[au b 0]++#[]) W λ e W'=>e=.returned (Cr (some r.pref))/\W'=W:=by
 have c4:W.cell? ⟨b,4,none⟩=some (.int .i64 r.pref):=ag h.blk;clear h;go_enter func248,ntmps248;go_wp2_with fail
 go_ret2
 exact⟨rfl,rfl⟩
theorem Ed(W:World)(b:Nat)(r:Rt)(pv mv:Value)(h:dp W b r pv mv) :
  Calls prog 249 (#[au b 0]++#[]) W λ e W'=>e=.returned (Cr (some r.med))/\W'=W:=by
 have c4:W.cell? ⟨b,5,none⟩=some (.int .i64 r.med):=ag h.blk;clear h;go_enter func249,ntmps249;go_wp2_with fail
 go_ret2
 exact⟨rfl,rfl⟩
theorem Ec(W:World)(b:Nat)(r:Rt)(pv mv:Value)(h:dp W b r pv mv) :
  Calls prog 250 (#[au b 0]++#[]) W λ e W'=>e=.returned (Cr (some (r.path.length:Int)))/\W'=W:=by
 have c4:W.cell? ⟨b,2,none⟩=some pv:=ag h.blk;obtain⟨a,c,rfl⟩:=al h.path;have hn:=h.n1;clear h;generalize r.path.length=N at *;go_enter func250,ntmps250;go_wp2_with fail
 go_ret2
 exact⟨rfl,rfl⟩
theorem cj{g:Nat}(h:Enters prog g):∀ args w,(callFunc g args).run prog w=.ok (.enter g args) w:=h
theorem zT(W:World)(b:Nat)(r:Rt)(pv mv:Value)(h:dp W b r pv mv)(va vb:Value)(ma mb:bh)(Ka Kb:Nat->Prop)(ha:js va ma Ka W)(hb:js vb mb Kb W) :
  Calls prog 252 #[va,vb,au b 0] W λ e W'=>(∃ x y,e=.returned (.tuple #[.int .i64 x,.int .i64 y,.bool ((ma r).isSome&&(mb r).isSome)])/\((ma r).isSome=true->(mb r).isSome=true->ma r=some x/\mb r=some y))/\W'=W:=by
 obtain⟨g,lb,rfl,eg,hc⟩:=ha;obtain⟨g2,lb2,rfl,eg2,hc2⟩:=hb;have e1:=cj eg;have e2:=cj eg2;have HA:=af (hc b r pv mv h);have HB:=af (hc2 b r pv mv h);clear hc hc2 h eg eg2;cases hx:ma r with
 | none =>
  rw [hx]at HA;have AA:Hid (Calls prog g (#[au b 0]++lb) W λ e W'=>e=.returned (.tuple #[.int .i64 0,.bool false])/\W'=W):=HA;go_enter func252,ntmps252;go_wp2_with (go_at_fn g;refine(ae AA).mono ?_;rintro e w' ⟨rfl,rfl⟩)
  refine gH (v:=.tuple #[.int .i64 0,.int .i64 0,.bool false]) (by simp [results,results252,go_sem]) rfl ?_;exact⟨⟨0,0,rfl,λ h=>by cases h⟩,rfl⟩
 | some x =>
  rw [hx]at HA;have AA:Hid (Calls prog g (#[au b 0]++lb) W λ e W'=>e=.returned (.tuple #[.int .i64 x,.bool true])/\W'=W):=HA;have BA:Hid (Calls prog g2 (#[au b 0]++lb2) W λ e W'=>e=.returned (.tuple #[.int .i64 ((mb r).getD 0),.bool (mb r).isSome])/\W'=W):=HB;go_enter func252,ntmps252;go_wp2_with (go_at_fn g;refine(ae AA).mono ?_;rintro e w' ⟨rfl,rfl⟩)
  refine(ae BA).mono ?_;rintro e w2 ⟨rfl,rfl⟩;go_wp2_with fail;refine gH (v:=.tuple #[.int .i64 x,.int .i64 ((mb r).getD 0),.bool (mb r).isSome]) (by simp [results,results252,go_sem]) rfl ?_;refine⟨⟨x,_,rfl,λ _ h=>⟨rfl,?_⟩⟩,rfl⟩;cases hy:mb r with
  | none=>rw [hy]at h;cases h
  | some y=>rfl
theorem tG(W:World)(b:Nat)(r:Rt)(pv mv:Value)(h:dp W b r pv mv)(va vb:Value)(ma mb:bh)(Ka Kb:Nat->Prop)(ha:js va ma Ka W)(hb:js vb mb Kb W){x y:Int}(hx:ma r=some x)(hy:mb r=some y) :
  Calls prog 252 #[va,vb,au b 0] W λ e W'=>e=.returned (.tuple #[.int .i64 x,.int .i64 y,.bool true])/\W'=W:=by
 refine(zT W b r pv mv h va vb ma mb Ka Kb ha hb).mono ?_;rintro e w' ⟨⟨x',y',rfl,hxy⟩,rfl⟩;obtain⟨h1,h2⟩:=hxy (by rw [hx];rfl) (by rw [hy];rfl);rw [hx]at h1;rw [hy]at h2;cases h1;cases h2
 rw [hx,hy];exact⟨rfl,rfl⟩
theorem yf(W:World)(b:Nat)(r:Rt)(pv mv:Value)(h:dp W b r pv mv)(va vb:Value)(ma mb:bh)(Ka Kb:Nat->Prop)(ha:js va ma Ka W)(hb:js vb mb Kb W)(hx:((ma r).isSome&&(mb r).isSome)=false) :
  Calls prog 252 #[va,vb,au b 0] W λ e W'=>(∃ x y,e=.returned (.tuple #[.int .i64 x,.int .i64 y,.bool false]))/\W'=W:=by
 refine(zT W b r pv mv h va vb ma mb Ka Kb ha hb).mono ?_;rintro e w' ⟨⟨x',y',rfl,hxy⟩,rfl⟩;rw [hx];exact⟨⟨x',y',rfl⟩,rfl⟩
theorem eA{v:Value}{m:bh}{K:Nat->Prop}{W:World}(h:js v m K W):∃ g lb,v=.func (.func g) #[] lb:=by
 obtain⟨g,lb,h1,_⟩:=h;exact⟨g,lb,h1⟩
theorem J2(W:World)(b:Nat)(r:Rt)(pv mv:Value)(h:dp W b r pv mv)(va vb:Value)(ma mb:bh)(Ka Kb:Nat->Prop)(ha:js va ma Ka W)(hb:js vb mb Kb W)(B1 B2 B3:Nat)(s:Int)
  (c1:W.cell? ⟨B1,0,none⟩=some va) (c2:W.cell? ⟨B2,0,none⟩=some vb) (c3:W.cell? ⟨B3,0,none⟩=some (.int .i64 s)) :
  Calls prog 251 (#[au b 0]++#[au B1 0,au B2 0,au B3 0]) W λ e W'=>e=.returned (Cr (iu ma mb s r))/\W'=W:=by
 have EQ:=af (show iu ma mb s r=match ma r with|none=>none|some x=>match mb r with|none=>none|some y=>rV s x y from rfl);cases hB:((ma r).isSome&&(mb r).isSome)with
 | false =>
  have HB:=af (yf W b r pv mv h va vb ma mb Ka Kb ha hb hB)
  have HN:Hid (iu ma mb s r=none):=by
   unfold Hid;rw [ae EQ];cases hx:ma r with
   | none=>rfl
   | some x=>cases hy:mb r with
    | none=>rfl
    | some y=>rw [hx,hy]at hB;cases hB
  obtain⟨g,lb,rfl⟩:=eA ha;obtain⟨g2,lb2,rfl⟩:=eA hb;clear h ha hb hB EQ;go_enter func251,ntmps251;go_wp2_with (go_at_call 252;refine(ae HB).mono ?_;rintro e w' ⟨⟨x,y,rfl⟩,rfl⟩)
  go_ret2
  exact⟨by rw [ae HN];rfl,rfl⟩
 | true =>
  rw [Bool.and_eq_true]at hB;obtain⟨x,hx⟩:=Option.isSome_iff_exists.1 hB.1;obtain⟨y,hy⟩:=Option.isSome_iff_exists.1 hB.2;have HB:=af (tG W b r pv mv h va vb ma mb Ka Kb ha hb hx hy);have HE:Hid (iu ma mb s r=rV s x y):=by unfold Hid;rw [ae EQ,hx,hy]
  obtain⟨g,lb,rfl⟩:=eA ha;obtain⟨g2,lb2,rfl⟩:=eA hb;clear h ha hb hB EQ hx hy;have AA:=af (show rV s x y=if 0<=wrap64 (x+wrap64 (s*y))/\wrap64 (x+wrap64 (s*y))<=4294967295 then some (wrap64 (x+wrap64 (s*y)))else none from rfl);by_cases h1:0<=wrap64 (x+wrap64 (s*y))
  ·by_cases h2:wrap64 (x+wrap64 (s*y))<=4294967295
   ·have HP:Hid (rV s x y=some (wrap64 (x+wrap64 (s*y)))):=by unfold Hid;rw [ae AA,aS ⟨h1,h2⟩]
    clear AA;go_enter func251,ntmps251;go_wp2_with (go_at_call 252;refine(ae HB).mono ?_;rintro e w' ⟨rfl,rfl⟩)
    go_ret2
    exact⟨by rw [ae HE,ae HP];rfl,rfl⟩
   have HP:Hid (rV s x y=none):=by unfold Hid;rw [ae AA,aG (λ h=>h2 h.2)]
   clear AA;go_enter func251,ntmps251;go_wp2_with (go_at_call 252;refine(ae HB).mono ?_;rintro e w' ⟨rfl,rfl⟩)
   go_ret2
   exact⟨by rw [ae HE,ae HP];rfl,rfl⟩
  have HP:Hid (rV s x y=none):=by unfold Hid;rw [ae AA,aG (λ h=>h1 h.1)]
  clear AA;go_enter func251,ntmps251;go_wp2_with (go_at_call 252;refine(ae HB).mono ?_;rintro e w' ⟨rfl,rfl⟩)
  go_ret2
  exact⟨by rw [ae HE,ae HP];rfl,rfl⟩
theorem dp.below{W V:World}{b:Nat}{r:Rt}{pv mv:Value}(h:dp W b r pv mv)(hb:Below W.heap.size W V):dp V b r pv mv :=
 ⟨(hb.block b (ah h.blk)).trans h.blk,ay h.path (λ k e=>hb.block k (h.path.lt k e).2),ay h.marks (λ k e=>hb.block k (h.marks.lt k e).2),h.ne1,h.ne2,h.ne3,h.n1,h.n2,h.srt⟩
def jX(o:Option Bool):Value:=.tuple #[.bool (o.getD false),.bool o.isSome]
def qG(v:Value)(m:aR)(_K:Nat->Prop)(W:World):Prop :=
 Ig v λ g lb=>∀(b:Nat) (r:Rt) (pv mv:Value),dp W b r pv mv->Calls prog g (#[au b 0]++lb) W λ e W'=>e=.returned (jX (m r))/\Below W.heap.size W W'
theorem ax.new{w:World}{A:Nat->Prop}{Q:(Nat->Prop)->World->Prop}(B:Nat->Prop)(hB:∀ k,B k->k<w.heap.size/\A k)(hq:∀ W,w.heap.size<=W.heap.size->(∀ k,B k->W.heap[k]?=w.heap[k]?)->Q B W):ax w A Q :=
 ⟨B,hB,hq⟩
theorem ax.one{w:World}{A:Nat->Prop}{Q1 Q:(Nat->Prop)->World->Prop}(h1:ax w A Q1)(B:Nat->Prop)(hB:∀ k,B k->k<w.heap.size/\A k)
  (hq:∀ K1,(∀ k,K1 k->k<w.heap.size/\A k)->(∀ W,w.heap.size<=W.heap.size->(∀ k,K1 k->W.heap[k]?=w.heap[k]?)->Q1 K1 W)->∀ W,w.heap.size<=W.heap.size->(∀ k,K1 k\/B k->W.heap[k]?=w.heap[k]?)->Q (λ k=>K1 k\/B k) W):ax w A Q:=by
 obtain⟨K1,a1,b1⟩:=h1;refine⟨λ k=>K1 k\/B k,λ k hk=>?_,λ W hW hk=>hq K1 a1 b1 W hW hk⟩;rcases hk with h|h
 ·exact a1 k h
 exact hB k h
theorem ax.two{w:World}{A:Nat->Prop}{Q1 Q2 Q:(Nat->Prop)->World->Prop}(h1:ax w A Q1)(h2:ax w A Q2)(B:Nat->Prop)(hB:∀ k,B k->k<w.heap.size/\A k)
  (hq:∀ K1 K2,(∀ k,K1 k->k<w.heap.size/\A k)->(∀ k,K2 k->k<w.heap.size/\A k)->(∀ W,w.heap.size<=W.heap.size->(∀ k,K1 k->W.heap[k]?=w.heap[k]?)->Q1 K1 W)->(∀ W,w.heap.size<=W.heap.size->(∀ k,K2 k->W.heap[k]?=w.heap[k]?)->Q2 K2 W) ->
   ∀ W,w.heap.size<=W.heap.size->(∀ k,K1 k\/K2 k\/B k->W.heap[k]?=w.heap[k]?)->Q (λ k=>K1 k\/K2 k\/B k) W):ax w A Q:=by
 obtain⟨K1,a1,b1⟩:=h1;obtain⟨K2,a2,b2⟩:=h2;refine⟨λ k=>K1 k\/K2 k\/B k,λ k hk=>?_,λ W hW hk=>hq K1 K2 a1 a2 b1 b2 W hW hk⟩;rcases hk with h|h|h
 ·exact a1 k h
 ·exact a2 k h
 exact hB k h
def jD(v:Value):Prop:=(∃ f a b,v=.func f a b)\/v=.nilFunc
def iA(w:World)(A:Nat->Prop)(v:Value):Option bh->Prop
 | none=>jD v
 | some m=>ax w A (js v m)
def gJ(w:World)(A:Nat->Prop)(v:Value):Option aR->Prop
 | none=>jD v
 | some m=>ax w A (qG v m)
theorem ax.now{w:World}{A:Nat->Prop}{Q:(Nat->Prop)->World->Prop}(h:ax w A Q):∃ K,Q K w:=by
 obtain⟨K,_,b⟩:=h;exact⟨K,b w (aL _) (λ _ _=>rfl)⟩
theorem iA.fnv{w:World}{A:Nat->Prop}{v:Value}{o:Option bh}(h:iA w A v o):jD v:=by
 cases o with
 | none=>exact h
 | some m =>
  obtain⟨K,g,lb,h1,_⟩:=ax.now h;exact inl ⟨_,_,_,h1⟩
theorem gJ.fnv{w:World}{A:Nat->Prop}{v:Value}{o:Option aR}(h:gJ w A v o):jD v:=by
 cases o with
 | none=>exact h
 | some m =>
  obtain⟨K,g,lb,h1,_⟩:=ax.now h;exact inl ⟨_,_,_,h1⟩
theorem iA.mono{w w':World}{A A':Nat->Prop}{v:Value}{o:Option bh}(h:iA w A v o)(hs:w.heap.size<=w'.heap.size)(hb:∀ k,k<w.heap.size->A k->w'.heap[k]?=w.heap[k]?/\A' k):iA w' A' v o:=by
 cases o with
 | none=>exact h
 | some m=>exact ax.mono h hs hb (λ _ _ h=>h)
theorem gJ.mono{w w':World}{A A':Nat->Prop}{v:Value}{o:Option aR}(h:gJ w A v o)(hs:w.heap.size<=w'.heap.size)(hb:∀ k,k<w.heap.size->A k->w'.heap[k]?=w.heap[k]?/\A' k):gJ w' A' v o:=by
 cases o with
 | none=>exact h
 | some m=>exact ax.mono h hs hb (λ _ _ h=>h)
theorem vP(w:World)(n:Int) :
  Calls prog 247 #[.int .i64 n] w λ e w'=>e=.returned (.func (.func 265) #[] #[au w.heap.size 0])/\w'=w.alloc (.cells #[.int .i64 n] 3):=by
 have hmf:∀(fn:Fn) (first cap:Array Value) (w:World),(Instr.makeFunc fn first cap).run prog w=.ok (.func fn first cap) w:=λ _ _ _ _=>rfl
 go_enter func247,ntmps247;go_wp2_with fail;go_ret;exact⟨rfl,rfl⟩
theorem Tryz.entConst:Enters prog 265:=enters_of func265 (by kernel_rfl) rfl
theorem yl(w:World)(n:Int)(A:Nat->Prop)(hA:A w.heap.size) :
  Calls prog 247 #[.int .i64 n] w λ e w'=>∃ v,e=.returned v/\w'=w.alloc (.cells #[.int .i64 n] 3)/\ax w' A (js v (ie n)):=by
 refine(vP w n).mono ?_;rintro e w' ⟨rfl,rfl⟩;refine⟨_,rfl,rfl,ax.new (λ k=>k=w.heap.size) (λ k hk=>?_) (λ W hW hk=>?_)⟩
 ·subst hk;exact⟨by simp,hA⟩
 have hc:W.cell? ⟨w.heap.size,0,none⟩=some (.int .i64 n):=ag ((hk _ rfl).trans (cM w _));exact⟨_,_,rfl,Tryz.entConst,λ b r pv mv _=>ym W _ n hc b⟩
theorem bE(w:World)(o:Obj)(A:Nat->Prop):w.heap.size<=(w.alloc o).heap.size/\∀ k,k<w.heap.size->A k->(w.alloc o).heap[k]?=w.heap[k]?/\A k :=
 ⟨by simp,λ k hk ha=>⟨mC _ _ _ hk,ha⟩⟩
theorem iA.alloc{w:World}{A:Nat->Prop}{v:Value}{o:Option bh}(h:iA w A v o)(b:Obj):iA (w.alloc b) A v o:=h.mono (bE w b A).1 (bE w b A).2
theorem gJ.alloc{w:World}{A:Nat->Prop}{v:Value}{o:Option aR}(h:gJ w A v o)(b:Obj):gJ (w.alloc b) A v o:=h.mono (bE w b A).1 (bE w b A).2
abbrev aE(v:Value)(T:TypeId):Obj:=.cells #[v] T
theorem GS(w:World)(va vb:Value)(s:Int)(ha:jD va)(hb:jD vb) :
  Calls prog 227 #[va,vb,.int .i64 s] w λ e w'=>e=.returned (.func (.func 251) #[] #[au w.heap.size 0,au (w.heap.size+1) 0,au (w.heap.size+1+1) 0])/\w'=((w.alloc (aE va 232)).alloc (aE vb 232)).alloc (aE (.int .i64 s) 3):=by
 have hmf:∀(fn:Fn) (first cap:Array Value) (w:World),(Instr.makeFunc fn first cap).run prog w=.ok (.func fn first cap) w:=λ _ _ _ _=>rfl
 rcases ha with⟨f,a,b,rfl⟩|rfl<;>rcases hb with⟨f',a',b',rfl⟩|rfl <;>
 ·go_enter func227,ntmps227;go_wp2_with fail;go_ret;exact⟨rfl,rfl⟩
theorem Tryz.entPlus:Enters prog 251:=enters_of func251 (by kernel_rfl) rfl
theorem iR(w:World)(a b c:Obj):(((w.alloc a).alloc b).alloc c).heap[w.heap.size]?=some a/\(((w.alloc a).alloc b).alloc c).heap[w.heap.size+1]?=some b/\(((w.alloc a).alloc b).alloc c).heap[w.heap.size+1+1]?=some c/\(((w.alloc a).alloc b).alloc c).heap.size=w.heap.size+3:=by
 have s1:(w.alloc a).heap.size=w.heap.size+1:=by simp
 have s2:((w.alloc a).alloc b).heap.size=w.heap.size+1+1:=by simp
 refine⟨?_,?_,?_,by simp⟩
 ·rw [mC _ _ _ (by omega),mC _ _ _ (by omega)];exact cM w _
 ·rw [mC _ _ _ (by omega),<-s1];exact cM _ _
 rw [<-s2];exact cM _ _
theorem fp(w:World)(a b:Obj):((w.alloc a).alloc b).heap[w.heap.size]?=some a/\((w.alloc a).alloc b).heap[w.heap.size+1]?=some b/\((w.alloc a).alloc b).heap.size=w.heap.size+2:=by
 have s1:(w.alloc a).heap.size=w.heap.size+1:=by simp
 refine⟨?_,?_,by simp⟩
 ·rw [mC _ _ _ (by omega)];exact cM w _
 rw [<-s1];exact cM _ _
theorem A7(w:World)(va vb:Value)(oa ob:Option bh)(s:Int)(A:Nat->Prop)(hA:∀ k,w.heap.size<=k->A k)(ha:iA w A va oa)(hb:iA w A vb ob) :
  Calls prog 227 #[va,vb,.int .i64 s] w λ e w'=>∃ v,e=.returned v/\w'=((w.alloc (aE va 232)).alloc (aE vb 232)).alloc (aE (.int .i64 s) 3)/\iA w' A v (A6 oa ob s):=by
 refine(GS w va vb s ha.fnv hb.fnv).mono ?_;rintro e w' ⟨rfl,rfl⟩;refine⟨_,rfl,rfl,?_⟩;cases oa with
 | none=>exact inl ⟨_,_,_,rfl⟩
 | some ma=>cases ob with
  | none=>exact inl ⟨_,_,_,rfl⟩
  | some mb =>
   have h1:ax _ A (js va ma):=((ha.alloc (aE va 232)).alloc (aE vb 232)).alloc (aE (.int .i64 s) 3);have h2:ax _ A (js vb mb):=((hb.alloc (aE va 232)).alloc (aE vb 232)).alloc (aE (.int .i64 s) 3);obtain⟨n1,n2,n3,sz⟩:=iR w (aE va 232) (aE vb 232) (aE (.int .i64 s) 3);refine ax.two h1 h2 (λ k=>k=w.heap.size\/k=w.heap.size+1\/k=w.heap.size+1+1) (λ k hk=>⟨by omega,hA k (by omega)⟩) (λ K1 K2 _ _ q1 q2 W hW hk=>?_);refine⟨_,_,rfl,Tryz.entPlus,λ b r pv mv hr=>?_⟩
   exact J2 W b r pv mv hr va vb ma mb K1 K2 (q1 W hW (λ k h=>hk k (inl h))) (q2 W hW (λ k h=>hk k (inr (inl h)))) _ _ _ s
    (ag ((hk _ (inr (inr (inl rfl)))).trans n1)) (ag ((hk _ (inr (inr (inr (inl rfl))))).trans n2)) (ag ((hk _ (inr (inr (inr (inr rfl))))).trans n3))
theorem Jw(W:World)(b:Nat)(r:Rt)(pv mv:Value)(h:dp W b r pv mv)(va vb:Value)(ma mb:bh)(Ka Kb:Nat->Prop)(ha:js va ma Ka W)(hb:js vb mb Kb W)(B1 B2:Nat)
  (c1:W.cell? ⟨B1,0,none⟩=some va) (c2:W.cell? ⟨B2,0,none⟩=some vb) :
  Calls prog 294 (#[au b 0]++#[au B1 0,au B2 0]) W λ e W'=>e=.returned (jX (H7 ma mb r))/\W'=W:=by
 cases hB:((ma r).isSome&&(mb r).isSome)with
 | false =>
  have HB:=af (yf W b r pv mv h va vb ma mb Ka Kb ha hb hB)
  have HN:Hid (H7 ma mb r=none):=by
   unfold Hid H7 FL;cases hx:ma r with
   | none=>rfl
   | some x=>cases hy:mb r with
    | none=>rfl
    | some y=>rw [hx,hy]at hB;cases hB
  obtain⟨g,lb,rfl⟩:=eA ha;obtain⟨g2,lb2,rfl⟩:=eA hb;clear h ha hb hB;go_enter func294,ntmps294;go_wp2_with (go_at_call 252;refine(ae HB).mono ?_;rintro e w' ⟨⟨x,y,rfl⟩,rfl⟩)
  go_ret2
  exact⟨by rw [ae HN];rfl,rfl⟩
 | true =>
  rw [Bool.and_eq_true]at hB;obtain⟨x,hx⟩:=Option.isSome_iff_exists.1 hB.1;obtain⟨y,hy⟩:=Option.isSome_iff_exists.1 hB.2;have HB:=af (tG W b r pv mv h va vb ma mb Ka Kb ha hb hx hy);have HE:Hid (H7 ma mb r=some (decide (x<y))):=by unfold Hid H7 FL;rw [hx,hy]
  obtain⟨g,lb,rfl⟩:=eA ha;obtain⟨g2,lb2,rfl⟩:=eA hb;clear h ha hb hB hx hy;go_enter func294,ntmps294;go_wp2_with (go_at_call 252;refine(ae HB).mono ?_;rintro e w' ⟨rfl,rfl⟩)
  go_ret2
  exact⟨by rw [ae HE];rfl,rfl⟩
theorem FZ(W:World)(b:Nat)(r:Rt)(pv mv:Value)(h:dp W b r pv mv)(va vb:Value)(ma mb:bh)(Ka Kb:Nat->Prop)(ha:js va ma Ka W)(hb:js vb mb Kb W)(B1 B2:Nat)
  (c1:W.cell? ⟨B1,0,none⟩=some va) (c2:W.cell? ⟨B2,0,none⟩=some vb) :
  Calls prog 295 (#[au b 0]++#[au B1 0,au B2 0]) W λ e W'=>e=.returned (jX (Lx ma mb r))/\W'=W:=by
 cases hB:((ma r).isSome&&(mb r).isSome)with
 | false =>
  have HB:=af (yf W b r pv mv h va vb ma mb Ka Kb ha hb hB)
  have HN:Hid (Lx ma mb r=none):=by
   unfold Hid Lx FL;cases hx:ma r with
   | none=>rfl
   | some x=>cases hy:mb r with
    | none=>rfl
    | some y=>rw [hx,hy]at hB;cases hB
  obtain⟨g,lb,rfl⟩:=eA ha;obtain⟨g2,lb2,rfl⟩:=eA hb;clear h ha hb hB;go_enter func295,ntmps295;go_wp2_with (go_at_call 252;refine(ae HB).mono ?_;rintro e w' ⟨⟨x,y,rfl⟩,rfl⟩)
  go_ret2
  exact⟨by rw [ae HN];rfl,rfl⟩
 | true =>
  rw [Bool.and_eq_true]at hB;obtain⟨x,hx⟩:=Option.isSome_iff_exists.1 hB.1;obtain⟨y,hy⟩:=Option.isSome_iff_exists.1 hB.2;have HB:=af (tG W b r pv mv h va vb ma mb Ka Kb ha hb hx hy)
  have HE:Hid (Lx ma mb r=some (x==y)):=by
   unfold Hid Lx FL;rw [hx,hy];by_cases e:x=y
   ·subst e;simp
   simp [e]
  obtain⟨g,lb,rfl⟩:=eA ha;obtain⟨g2,lb2,rfl⟩:=eA hb;clear h ha hb hB hx hy;go_enter func295,ntmps295;go_wp2_with (go_at_call 252;refine(ae HB).mono ?_;rintro e w' ⟨rfl,rfl⟩)
  go_ret2
  exact⟨by rw [ae HE];rfl,rfl⟩
theorem Gp(w:World)(va vb:Value)(ha:jD va)(hb:jD vb) :
  Calls prog 291 #[va,vb] w λ e w'=>e=.returned (.func (.func 294) #[] #[au w.heap.size 0,au (w.heap.size+1) 0])/\w'=((w.alloc (aE va 232)).alloc (aE vb 232)):=by
 have hmf:∀(fn:Fn) (first cap:Array Value) (w:World),(Instr.makeFunc fn first cap).run prog w=.ok (.func fn first cap) w:=λ _ _ _ _=>rfl
 rcases ha with⟨f,a,b,rfl⟩|rfl<;>rcases hb with⟨f',a',b',rfl⟩|rfl <;>
 ·go_enter func291,ntmps291;go_wp2_with fail;go_ret;exact⟨rfl,rfl⟩
theorem CY(w:World)(va vb:Value)(ha:jD va)(hb:jD vb) :
  Calls prog 292 #[va,vb] w λ e w'=>e=.returned (.func (.func 295) #[] #[au w.heap.size 0,au (w.heap.size+1) 0])/\w'=((w.alloc (aE va 232)).alloc (aE vb 232)):=by
 have hmf:∀(fn:Fn) (first cap:Array Value) (w:World),(Instr.makeFunc fn first cap).run prog w=.ok (.func fn first cap) w:=λ _ _ _ _=>rfl
 rcases ha with⟨f,a,b,rfl⟩|rfl<;>rcases hb with⟨f',a',b',rfl⟩|rfl <;>
 ·go_enter func292,ntmps292;go_wp2_with fail;go_ret;exact⟨rfl,rfl⟩
theorem Tryz.entLess:Enters prog 294:=enters_of func294 (by kernel_rfl) rfl
theorem Tryz.entEqual:Enters prog 295:=enters_of func295 (by kernel_rfl) rfl
theorem Jv(w:World)(va vb:Value)(oa ob:Option bh)(A:Nat->Prop)(hA:∀ k,w.heap.size<=k->A k)(ha:iA w A va oa)(hb:iA w A vb ob) :
  Calls prog 291 #[va,vb] w λ e w'=>∃ v,e=.returned v/\w'=((w.alloc (aE va 232)).alloc (aE vb 232))/\gJ w' A v (Lm H7 oa ob):=by
 refine(Gp w va vb ha.fnv hb.fnv).mono ?_;rintro e w' ⟨rfl,rfl⟩;refine⟨_,rfl,rfl,?_⟩;cases oa with
 | none=>exact inl ⟨_,_,_,rfl⟩
 | some ma=>cases ob with
  | none=>exact inl ⟨_,_,_,rfl⟩
  | some mb =>
   have h1:ax _ A (js va ma):=(ha.alloc (aE va 232)).alloc (aE vb 232);have h2:ax _ A (js vb mb):=(hb.alloc (aE va 232)).alloc (aE vb 232);obtain⟨n1,n2,sz⟩:=fp w (aE va 232) (aE vb 232);refine ax.two h1 h2 (λ k=>k=w.heap.size\/k=w.heap.size+1) (λ k hk=>⟨by omega,hA k (by omega)⟩) (λ K1 K2 _ _ q1 q2 W hW hk=>?_);refine⟨_,_,rfl,Tryz.entLess,λ b r pv mv hr=>?_⟩
   refine(Jw W b r pv mv hr va vb ma mb K1 K2 (q1 W hW (λ k h=>hk k (inl h))) (q2 W hW (λ k h=>hk k (inr (inl h)))) _ _
    (ag ((hk _ (inr (inr (inl rfl)))).trans n1)) (ag ((hk _ (inr (inr (inr rfl)))).trans n2))).mono ?_
   rintro e w' ⟨rfl,rfl⟩;exact⟨rfl,aY _ _⟩
theorem FY(w:World)(va vb:Value)(oa ob:Option bh)(A:Nat->Prop)(hA:∀ k,w.heap.size<=k->A k)(ha:iA w A va oa)(hb:iA w A vb ob) :
  Calls prog 292 #[va,vb] w λ e w'=>∃ v,e=.returned v/\w'=((w.alloc (aE va 232)).alloc (aE vb 232))/\gJ w' A v (Lm Lx oa ob):=by
 refine(CY w va vb ha.fnv hb.fnv).mono ?_;rintro e w' ⟨rfl,rfl⟩;refine⟨_,rfl,rfl,?_⟩;cases oa with
 | none=>exact inl ⟨_,_,_,rfl⟩
 | some ma=>cases ob with
  | none=>exact inl ⟨_,_,_,rfl⟩
  | some mb =>
   have h1:ax _ A (js va ma):=(ha.alloc (aE va 232)).alloc (aE vb 232);have h2:ax _ A (js vb mb):=(hb.alloc (aE va 232)).alloc (aE vb 232);obtain⟨n1,n2,sz⟩:=fp w (aE va 232) (aE vb 232);refine ax.two h1 h2 (λ k=>k=w.heap.size\/k=w.heap.size+1) (λ k hk=>⟨by omega,hA k (by omega)⟩) (λ K1 K2 _ _ q1 q2 W hW hk=>?_);refine⟨_,_,rfl,Tryz.entEqual,λ b r pv mv hr=>?_⟩
   refine(FZ W b r pv mv hr va vb ma mb K1 K2 (q1 W hW (λ k h=>hk k (inl h))) (q2 W hW (λ k h=>hk k (inr (inl h)))) _ _
    (ag ((hk _ (inr (inr (inl rfl)))).trans n1)) (ag ((hk _ (inr (inr (inr rfl)))).trans n2))).mono ?_
   rintro e w' ⟨rfl,rfl⟩;exact⟨rfl,aY _ _⟩
def lE(pb:Nat)(ts:List ak)(w:World)(D O:Nat->Prop)(r:RS×Option bh)(e:Ending)(w':World):Prop :=
 ∃ v O',e=.returned v/\RA w' pb ts r.1 D O'/\Fr O w O' w'/\iA w' (cW O' D w.heap.size) v r.2/\Ok ts r.1
def zH(pb:Nat)(ts:List ak)(tw:RS->Option (RS×Option bh)):Prop:=∀(w:World) (st:RS) (D O:Nat->Prop) (r:RS×Option bh),RA w pb ts st D O->Ok ts st->tw st=some r->Calls prog 226 #[au pb 0] w (lE pb ts w D O r)
def gA(pb:Nat)(ts:List ak)(tw:RS->Option (RS×Option bh)):Prop:=∀(w:World) (st:RS) (D O:Nat->Prop) (r:RS×Option bh),RA w pb ts st D O->Ok ts st->tw st=some r->Calls prog 192 #[au pb 0] w (lE pb ts w D O r)
theorem cY{w:World}{pb:Nat}{ts:List ak}{st:RS}{D O:Nat->Prop}(h:RA w pb ts st D O)(hk:Ok ts st)(ht:bY ts){k:Int}(e:an ts st=k) :
  Calls prog 90 #[au pb 0] w λ e w'=>e=.returned (.int .i64 k)/\RA w' pb ts st D O/\Fr O w O w':=by
 refine(kV h hk.next ht.n1).mono ?_;rintro _ w' ⟨rfl,h1,h2,_⟩;rw [e];exact⟨rfl,h1,h2⟩
theorem RA.newFree{w w1:World}{pb:Nat}{ts:List ak}{st:RS}{D O O1:Nat->Prop}(h:RA w1 pb ts st D O1)(hf:Fr O w O1 w1):∀ k,w1.heap.size<=k->cW O1 D w.heap.size k :=
 λ k hk=>⟨(h.noNew hk).1,inr (by have:=hf.size;omega)⟩
theorem iA.fix{w:World}{A:Nat->Prop}{g:Nat}{m:bh}(e:Enters prog g)(h:∀(W:World) (b:Nat) (r:Rt) (pv mv:Value),dp W b r pv mv->Calls prog g (#[au b 0]++#[]) W λ e W'=>e=.returned (Cr (m r))/\W'=W):iA w A (.func (.func g) #[] #[]) (some m) :=
 ax.new (λ _=>False) (λ _ h=>h.elim) (λ W _ _=>⟨g,#[],rfl,e,λ b r pv mv hr=>h W b r pv mv hr⟩)
theorem Tryz.entPref:Enters prog 248:=enters_of func248 (by kernel_rfl) rfl
theorem Tryz.entMed:Enters prog 249:=enters_of func249 (by kernel_rfl) rfl
theorem Tryz.entLen:Enters prog 250:=enters_of func250 (by kernel_rfl) rfl
theorem Ns(t:ak)(w:World):(Instr.field 140 (kh t) 3).run prog w=.ok (.int .i64 t.number) w:=by kernel_rfl
theorem Kx{pb:Nat}{ts:List ak}(ht:bY ts){w:World}{st:RS}{D O:Nat->Prop}(h:RA w pb ts st D O)(hk:Ok ts st)(e:an ts st=2) :
  Calls prog 226 #[au pb 0] w (lE pb ts w D O (b9 ts st,some (ie (dH ts st).number))):=by
 have HR:=af h;have HF:=af (dw O w);have HK:=af hk;have HT:=af ht;have HE:=af e;have hfl:=Ns (dH ts st);have OK:=af (bV hk ht e (by decide));clear h hk ht e;go_enter func226,ntmps226
 go_wp2_with (first
  | (go_at_call 90;refine(cY (ae HR) (ae HK) (ae HT) (ae HE)).mono ?_;rintro e w1 ⟨rfl,hr1,hf1⟩;replace HR:=af hr1;replace HF:=af ((ae HF).trans hf1);clear hr1 hf1)
  | (go_at_call 139;refine(vk (ae HR) (ae HK) (ae HT).n1 (by rw [mw (ae HK).next];exact(ae HT).text _ (ae HK).next) _ (ae HE)).mono ?_;rintro e w1 ⟨rfl,O1,hr1,hf1⟩;replace HR:=af hr1;replace HF:=af ((ae HF).trans hf1);clear hr1 hf1)
  | (go_at_call 247;refine(yl _ _ _ ((ae HR).newFree (ae HF) _ (aL _))).mono ?_;rintro e w2 ⟨v,rfl,rfl,hv⟩;replace HR:=af ((ae HR).alloc (.cells #[.int .i64 (dH ts st).number] 3));replace HF:=af ((ae HF).alloc (.cells #[.int .i64 (dH ts st).number] 3));have HV:=af hv;clear hv))
 go_ret;exact⟨_,_,rfl,ae HR,ae HF,ae HV,ae OK⟩
theorem Ht{pb:Nat}{ts:List ak}(ht:bY ts){w:World}{st:RS}{D O:Nat->Prop}(h:RA w pb ts st D O)(hk:Ok ts st)(e:an ts st=9) :
  Calls prog 226 #[au pb 0] w (lE pb ts w D O (b9 ts st,some oJ)):=by
 have HR:=af h;have HF:=af (dw O w);have HK:=af hk;have HT:=af ht;have HE:=af e;have OK:=af (bV hk ht e (by decide));clear h hk ht e;go_enter func226,ntmps226
 go_wp2_with (first
  | (go_at_call 90;refine(cY (ae HR) (ae HK) (ae HT) (ae HE)).mono ?_;rintro e w1 ⟨rfl,hr1,hf1⟩;replace HR:=af hr1;replace HF:=af ((ae HF).trans hf1);clear hr1 hf1)
  | (go_at_call 137;refine(bP (ae HR) (ae HK) (ae HT) _ (ae HE)).mono ?_;rintro e w1 ⟨rfl,O1,hr1,hf1⟩;replace HR:=af hr1;replace HF:=af ((ae HF).trans hf1);clear hr1 hf1))
 go_ret;exact⟨_,_,rfl,ae HR,ae HF,iA.fix Tryz.entPref B6,ae OK⟩
theorem Kw{pb:Nat}{ts:List ak}(ht:bY ts){w:World}{st:RS}{D O:Nat->Prop}(h:RA w pb ts st D O)(hk:Ok ts st)(e:an ts st=10) :
  Calls prog 226 #[au pb 0] w (lE pb ts w D O (b9 ts st,some Dl)):=by
 have HR:=af h;have HF:=af (dw O w);have HK:=af hk;have HT:=af ht;have HE:=af e;have OK:=af (bV hk ht e (by decide));have n9:=af (show an ts st≠9 by rw [e];decide);clear h hk ht e;go_enter func226,ntmps226
 go_wp2_with (first
  | (go_at_call 90;refine(cY (ae HR) (ae HK) (ae HT) (ae HE)).mono ?_;rintro e w1 ⟨rfl,hr1,hf1⟩;replace HR:=af hr1;replace HF:=af ((ae HF).trans hf1);clear hr1 hf1)
  | (go_at_call 137;refine(aH (ae HR) (ae HK) (ae HT) 9 (ae n9)).mono ?_;rintro e w1 ⟨rfl,hr1,hf1⟩;replace HR:=af hr1;replace HF:=af ((ae HF).trans hf1);clear hr1 hf1 n9)
  | (go_at_call 137;refine(bP (ae HR) (ae HK) (ae HT) _ (ae HE)).mono ?_;rintro e w1 ⟨rfl,O1,hr1,hf1⟩;replace HR:=af hr1;replace HF:=af ((ae HF).trans hf1);clear hr1 hf1))
 go_ret;exact⟨_,_,rfl,ae HR,ae HF,iA.fix Tryz.entMed Ed,ae OK⟩
theorem Kv{pb:Nat}{ts:List ak}(ht:bY ts){w:World}{st:RS}{D O:Nat->Prop}(h:RA w pb ts st D O)(hk:Ok ts st)(e:an ts st=17) :
  Calls prog 226 #[au pb 0] w (lE pb ts w D O (b9 ts st,some Gn)):=by
 have HR:=af h;have HF:=af (dw O w);have HK:=af hk;have HT:=af ht;have HE:=af e;have OK:=af (bV hk ht e (by decide));have n9:=af (show an ts st≠9 by rw [e];decide);have n10:=af (show an ts st≠10 by rw [e];decide);clear h hk ht e;go_enter func226,ntmps226
 go_wp2_with (first
  | (go_at_call 90;refine(cY (ae HR) (ae HK) (ae HT) (ae HE)).mono ?_;rintro e w1 ⟨rfl,hr1,hf1⟩;replace HR:=af hr1;replace HF:=af ((ae HF).trans hf1);clear hr1 hf1)
  | (go_at_call 137;refine(aH (ae HR) (ae HK) (ae HT) 9 (ae n9)).mono ?_;rintro e w1 ⟨rfl,hr1,hf1⟩;replace HR:=af hr1;replace HF:=af ((ae HF).trans hf1);clear hr1 hf1 n9)
  | (go_at_call 137;refine(aH (ae HR) (ae HK) (ae HT) 10 (ae n10)).mono ?_;rintro e w1 ⟨rfl,hr1,hf1⟩;replace HR:=af hr1;replace HF:=af ((ae HF).trans hf1);clear hr1 hf1 n10)
  | (go_at_call 137;refine(bP (ae HR) (ae HK) (ae HT) _ (ae HE)).mono ?_;rintro e w1 ⟨rfl,O1,hr1,hf1⟩;replace HR:=af hr1;replace HF:=af ((ae HF).trans hf1);clear hr1 hf1))
 go_ret;exact⟨_,_,rfl,ae HR,ae HF,iA.fix Tryz.entLen Ec,ae OK⟩
theorem Eb{pb:Nat}{ts:List ak}(ht:bY ts){tw:RS->Option (RS×Option bh)}(IH:gA pb ts tw){w:World}{st:RS}{D O:Nat->Prop}(h:RA w pb ts st D O)(hk:Ok ts st)(e:an ts st=33){st1:RS}{a:Option bh}(hs:tw (ft ts 33 st)=some (st1,a)) :
  Calls prog 226 #[au pb 0] w (lE pb ts w D O (ka ts 34 st1,a)):=by
 have HR:=af h;have HF:=af (dw O w);have HK:=af hk;have HT:=af ht;have HE:=af e;have BA:=af IH;have HS:=af hs;have n9:=af (show an ts st≠9 by rw [e];decide);have n10:=af (show an ts st≠10 by rw [e];decide);have n17:=af (show an ts st≠17 by rw [e];decide);clear h hk ht e IH hs;go_enter func226,ntmps226
 go_wp2_with (first
  | (go_at_call 90;refine(cY (ae HR) (ae HK) (ae HT) (ae HE)).mono ?_;rintro e w1 ⟨rfl,hr1,hf1⟩;replace HR:=af hr1;replace HF:=af ((ae HF).trans hf1);clear hr1 hf1)
  | (go_at_call 137;refine(aH (ae HR) (ae HK) (ae HT) 9 (ae n9)).mono ?_;rintro e w1 ⟨rfl,hr1,hf1⟩;replace HR:=af hr1;replace HF:=af ((ae HF).trans hf1);clear hr1 hf1 n9)
  | (go_at_call 137;refine(aH (ae HR) (ae HK) (ae HT) 10 (ae n10)).mono ?_;rintro e w1 ⟨rfl,hr1,hf1⟩;replace HR:=af hr1;replace HF:=af ((ae HF).trans hf1);clear hr1 hf1 n10)
  | (go_at_call 137;refine(aH (ae HR) (ae HK) (ae HT) 17 (ae n17)).mono ?_;rintro e w1 ⟨rfl,hr1,hf1⟩;replace HR:=af hr1;replace HF:=af ((ae HF).trans hf1);clear hr1 hf1 n17)
  | (go_at_call 220;refine(nk (ae HR) (ae HK) (ae HT) 33).mono ?_;rintro e w1 ⟨rfl,O1,hr1,hf1⟩;replace HR:=af hr1;replace HF:=af ((ae HF).trans hf1);clear hr1 hf1))
 refine((ae BA) _ _ _ _ _ (ae HR) (nj (ae HK) (ae HT) (by decide)) (ae HS)).mono ?_;rintro e w2 ⟨v,O2,rfl,hr2,hf2,hv2,hk2⟩;have F2:=af ((ae HF).trans hf2);have AA:=af hk2;have V2:=af (hv2.mono (aL _) (A':=cW O2 D w.heap.size) (λ k _ ha=>⟨rfl,ha.1,ha.2.imp id (λ h=>gG (ae HF).size h)⟩));replace HR:=af hr2;have hfv:=hv2.fnv;clear hr2 hf2 hv2 hk2 HF;rcases hfv with⟨f1,f2,f3,rfl⟩|rfl <;>
 ·go_wp2_with fail;refine(qk (ae HR) (ae AA) (ae HT) 34).mono ?_;rintro e w3 ⟨rfl,O3,hr3,hf3⟩;have CA:=af hr3;have F3:=af hf3;clear hr3 hf3;go_wp2_with fail;go_ret;refine⟨_,_,rfl,ae CA,(ae F2).trans (ae F3),(ae V2).mono (ae F3).size (λ k hk ha=>⟨(ae F3).block k hk ha.1,λ ho=>?_,ha.2⟩),qj (ae AA) (ae HT) (by decide)⟩;rcases(ae F3).own k ho with h1|h1
  ·exact ha.1 h1
  omega
theorem Hs{pb:Nat}{ts:List ak}(ht:bY ts){w:World}{st:RS}{D O:Nat->Prop}(h:RA w pb ts st D O)(hk:Ok ts st)(e2:an ts st≠2)(e9:an ts st≠9)(e10:an ts st≠10)(e17:an ts st≠17)(e33:an ts st≠33) :
  Calls prog 226 #[au pb 0] w (lE pb ts w D O (dL ts st,none)):=by
 have HR:=af h;have HF:=af (dw O w);have HK:=af hk;have HT:=af ht;have n9:=af e9;have n10:=af e10;have n17:=af e17;have b2:(an ts st==2)=false:=by simpa using e2
 have b33:(an ts st==33)=false:=by simpa using e33
 clear h hk ht e2 e9 e10 e17 e33;go_enter func226,ntmps226
 go_wp2_with (first
  | (go_at_call 90;refine(cY (ae HR) (ae HK) (ae HT) rfl).mono ?_;rintro e w1 ⟨rfl,hr1,hf1⟩;replace HR:=af hr1;replace HF:=af ((ae HF).trans hf1);clear hr1 hf1)
  | (go_at_call 137;refine(aH (ae HR) (ae HK) (ae HT) 9 (ae n9)).mono ?_;rintro e w1 ⟨rfl,hr1,hf1⟩;replace HR:=af hr1;replace HF:=af ((ae HF).trans hf1);clear hr1 hf1 n9)
  | (go_at_call 137;refine(aH (ae HR) (ae HK) (ae HT) 10 (ae n10)).mono ?_;rintro e w1 ⟨rfl,hr1,hf1⟩;replace HR:=af hr1;replace HF:=af ((ae HF).trans hf1);clear hr1 hf1 n10)
  | (go_at_call 137;refine(aH (ae HR) (ae HK) (ae HT) 17 (ae n17)).mono ?_;rintro e w1 ⟨rfl,hr1,hf1⟩;replace HR:=af hr1;replace HF:=af ((ae HF).trans hf1);clear hr1 hf1 n17)
  | (go_at_call 91;refine(jf (ae HR) (ae HK).next (ae HT).n1).mono ?_;rintro e w1 ⟨rfl,hr1,hf1⟩;replace HR:=af hr1;replace HF:=af ((ae HF).trans hf1);clear hr1 hf1))
 go_ret;exact⟨_,_,rfl,ae HR,ae HF,inr rfl,ij (ae HK)⟩
theorem iA.fr{w w':World}{O O' D:Nat->Prop}{n m:Nat}{v:Value}{o:Option bh}(h:iA w (cW O D n) v o)(hf:Fr O w O' w')(hm:m<=n):iA w' (cW O' D m) v o:=by
 cases o with
 | none=>exact h
 | some x=>exact ax.fr h hf hm
theorem gJ.fr{w w':World}{O O' D:Nat->Prop}{n m:Nat}{v:Value}{o:Option aR}(h:gJ w (cW O D n) v o)(hf:Fr O w O' w')(hm:m<=n):gJ w' (cW O' D m) v o:=by
 cases o with
 | none=>exact h
 | some x=>exact ax.fr h hf hm
theorem Hq{ts:List ak}{tm:RS->Option (RS×Option bh)}{k:Nat}{st:RS}{a:Option bh}{r:RS×Option bh}(h:jF ts tm k st a=some r):∃ g,k=g+1:=by
 cases k with
 | zero=>rw [jF]at h;cases h
 | succ g=>exact⟨g,rfl⟩
theorem BP{pb:Nat}{ts:List ak}(ht:bY ts){tm:RS->Option (RS×Option bh)}(IH:zH pb ts tm)(n:Nat):gA pb ts (nB ts tm n):=by
 intro w st D O r h hk hr;unfold nB at hr;cases h1:tm st with
 | none=>rw [h1]at hr;cases hr
 | some p =>
  obtain⟨st1,a⟩:=p;rw [h1]at hr;have HL:=af (show jF ts tm n st1 a=some r from hr);have HT:=af ht;have GA:=af IH;have H1:=af (IH w st D O (st1,a) h hk h1);clear hr h hk h1 ht IH;go_enter func192,ntmps192;go_wp2_with fail;refine(ae H1).mono ?_;rintro e w1 ⟨v,O1,rfl,hr1,hf1,hv1,hk1⟩;have HR:=af hr1;have HF:=af hf1;have HV:=af hv1;have HK:=af hk1;clear hr1 hf1 hv1 hk1 H1;go_wp2_with fail;go_loopg [3] n (λ k v3 wr=>∃(su:RS) (o:Option bh) (Ou:Nat->Prop),RA wr pb ts su D Ou/\Fr O w Ou wr/\iA wr (cW Ou D w.heap.size) v3 o/\Ok ts su/\jF ts tm k su o=some r)
  case atStart=>exact⟨st1,a,O1,ae HR,ae HF,ae HV,ae HK,ae HL⟩
  case round =>
   clear HR HF HV HK HL;obtain⟨su,o,Ou,hr,hf,hv,hk,hl⟩:=hrel;obtain⟨g,rfl⟩:=Hq hl;rw [jF]at hl;have HR:=af hr;have HF:=af hf;have HV:=af hv;have HK:=af hk;clear hr hf hv hk;by_cases e38:an ts su=38
   ·rw [aS e38]at hl;cases h2:tm (b9 ts su)with
    | none=>rw [h2]at hl;cases hl
    | some p =>
     obtain⟨st2,b⟩:=p;rw [h2]at hl;have CA:=af (show jF ts tm g st2 (A6 o b 1)=some r from hl);have DA:=af h2;have HE:=af e38;clear hl h2 e38;go_wp2_with (first
  | (go_at_call 137;refine(bP (ae HR) (ae HK) (ae HT) 38 (ae HE)).mono ?_;rintro e w2 ⟨rfl,O2,hr2,hf2⟩;replace HV:=af ((ae HV).fr hf2 (aL _));replace HR:=af hr2;replace HF:=af ((ae HF).trans hf2);clear hr2 hf2))
     refine((ae GA) _ _ _ _ _ (ae HR) (bV (ae HK) (ae HT) (ae HE) (by decide)) (ae DA)).mono ?_;rintro e w3 ⟨v3,O3,rfl,hr3,hf3,hv3,hk3⟩;replace HV:=af ((ae HV).fr hf3 (aL _));have EA:=af (hv3.fr (dw _ _) (ae HF).size);replace HR:=af hr3;replace HF:=af ((ae HF).trans hf3);have BA:=af hk3;clear hr3 hf3 hv3 hk3;go_wp2_with fail;refine(A7 _ _ _ _ _ 1 _ ((ae HR).newFree (ae HF)) (ae HV) (ae EA)).mono ?_;rintro e w4 ⟨v4,rfl,rfl,hv4⟩;have FA:=af hv4;clear hv4;go_wp2_with fail;go_roundg g
     case measure=>omega
     case rel=>exact⟨st2,_,O3,(((ae HR).alloc _).alloc _).alloc _,(((ae HF).alloc _).alloc _).alloc _,ae FA,ae BA,ae CA⟩
   rw [aG e38]at hl;have AA:=af e38;by_cases e39:an ts su=39
   ·rw [aS e39]at hl;cases h2:tm (b9 ts su)with
    | none=>rw [h2]at hl;cases hl
    | some p =>
    obtain⟨st2,b⟩:=p;rw [h2]at hl;have CA:=af (show jF ts tm g st2 (A6 o b (-1))=some r from hl);have DA:=af h2;have HE:=af e39;clear hl h2 e38 e39;go_wp2_with (first
  | (go_at_call 137;refine(aH (ae HR) (ae HK) (ae HT) 38 (ae AA)).mono ?_;rintro e w2 ⟨rfl,hr2,hf2⟩;replace HV:=af ((ae HV).fr hf2 (aL _));replace HR:=af hr2;replace HF:=af ((ae HF).trans hf2);clear hr2 hf2 AA)
  | (go_at_call 137;refine(bP (ae HR) (ae HK) (ae HT) 39 (ae HE)).mono ?_;rintro e w2 ⟨rfl,O2,hr2,hf2⟩;replace HV:=af ((ae HV).fr hf2 (aL _));replace HR:=af hr2;replace HF:=af ((ae HF).trans hf2);clear hr2 hf2))
    refine((ae GA) _ _ _ _ _ (ae HR) (bV (ae HK) (ae HT) (ae HE) (by decide)) (ae DA)).mono ?_;rintro e w3 ⟨v3,O3,rfl,hr3,hf3,hv3,hk3⟩;replace HV:=af ((ae HV).fr hf3 (aL _));have EA:=af (hv3.fr (dw _ _) (ae HF).size);replace HR:=af hr3;replace HF:=af ((ae HF).trans hf3);have BA:=af hk3;clear hr3 hf3 hv3 hk3;go_wp2_with fail;refine(A7 _ _ _ _ _ (-1) _ ((ae HR).newFree (ae HF)) (ae HV) (ae EA)).mono ?_;rintro e w4 ⟨v4,rfl,rfl,hv4⟩;have FA:=af hv4;clear hv4;go_wp2_with fail;go_roundg g
    case measure=>omega
    case rel=>exact⟨st2,_,O3,(((ae HR).alloc _).alloc _).alloc _,(((ae HF).alloc _).alloc _).alloc _,ae FA,ae BA,ae CA⟩
   rw [aG e39]at hl;have HA:=af e39;cases hl
   clear e38 e39;have hfv:=(ae HV).fnv;rcases hfv with⟨f1,f2,f3,rfl⟩|rfl <;>
   ·go_wp2_with (first
  | (go_at_call 137;refine(aH (ae HR) (ae HK) (ae HT) 38 (ae AA)).mono ?_;rintro e w2 ⟨rfl,hr2,hf2⟩;replace HV:=af ((ae HV).fr hf2 (aL _));replace HR:=af hr2;replace HF:=af ((ae HF).trans hf2);clear hr2 hf2 AA)
  | (go_at_call 137;refine(aH (ae HR) (ae HK) (ae HT) 39 (ae HA)).mono ?_;rintro e w2 ⟨rfl,hr2,hf2⟩;replace HV:=af ((ae HV).fr hf2 (aL _));replace HR:=af hr2;replace HF:=af ((ae HF).trans hf2);clear hr2 hf2 HA))
    go_ret;exact⟨_,_,rfl,ae HR,ae HF,ae HV,ae HK⟩
theorem Hu{pb:Nat}{ts:List ak}(ht:bY ts)(n f:Nat):zH pb ts (fT ts n f):=by
 induction f with
 | zero=>intro w st D O r h hk hr;rw [fT]at hr;cases hr
 | succ f ih =>
  intro w st D O r h hk hr;rw [fT]at hr;by_cases e2:an ts st=2
  ·rw [aS e2]at hr;cases hr;exact Kx ht h hk e2
  rw [aG e2]at hr;by_cases e9:an ts st=9
  ·rw [aS e9]at hr;cases hr;exact Ht ht h hk e9
  rw [aG e9]at hr;by_cases e10:an ts st=10
  ·rw [aS e10]at hr;cases hr;exact Kw ht h hk e10
  rw [aG e10]at hr;by_cases e17:an ts st=17
  ·rw [aS e17]at hr;cases hr;exact Kv ht h hk e17
  rw [aG e17]at hr;by_cases e33:an ts st=33
  ·rw [aS e33]at hr;cases h1:nB ts (fT ts n f) n (ft ts 33 st)with
   | none=>rw [h1]at hr;cases hr
   | some p =>
    obtain⟨st1,a⟩:=p;rw [h1]at hr;cases hr;exact Eb ht (BP ht ih n) h hk e33 h1
  rw [aG e33]at hr;cases hr;exact Hs ht h hk e2 e9 e10 e17 e33
theorem vh{pb:Nat}{ts:List ak}(ht:bY ts)(n f:Nat):gA pb ts (Oo ts n f):=BP ht (Hu ht n f) n
def lF(pb:Nat)(ts:List ak)(w:World)(D O:Nat->Prop)(r:RS×Option aR)(e:Ending)(w':World):Prop :=
 ∃ v O',e=.returned v/\RA w' pb ts r.1 D O'/\Fr O w O' w'/\gJ w' (cW O' D w.heap.size) v r.2/\Ok ts r.1
def fi(fn:Nat)(pb:Nat)(ts:List ak)(tw:RS->Option (RS×Option aR)):Prop:=∀(w:World) (st:RS) (D O:Nat->Prop) (r:RS×Option aR),RA w pb ts st D O->Ok ts st->tw st=some r->Calls prog fn #[au pb 0] w (lF pb ts w D O r)
theorem pJ{pb:Nat}{ts:List ak}(ht:bY ts){sum:RS->Option (RS×Option bh)}(IH:gA pb ts sum):fi 281 pb ts (eB ts sum):=by
 intro w st D O r h hk hr;unfold eB at hr;cases h1:sum st with
 | none=>rw [h1]at hr;cases hr
 | some p =>
  obtain⟨st1,a⟩:=p;rw [h1]at hr;have HT:=af ht;have EA:=af IH;have H1:=af (IH w st D O (st1,a) h hk h1);dsimp only at hr;clear h hk h1 ht IH;by_cases e40:an ts st1=40
  ·rw [aS e40]at hr;cases h2:sum (b9 ts st1)with
   | none=>rw [h2]at hr;cases hr
   | some p =>
    obtain⟨st2,b⟩:=p;rw [h2]at hr;cases hr
    have HE:=af e40;have BA:=af h2;clear e40 h2;go_enter func281,ntmps281;go_wp2_with fail;refine(ae H1).mono ?_;rintro e w1 ⟨v,O1,rfl,hr1,hf1,hv1,hk1⟩;have HR:=af hr1;have HF:=af hf1;have HV:=af hv1;have HK:=af hk1;clear hr1 hf1 hv1 hk1 H1;go_wp2_with (go_at_call 137;refine(bP (ae HR) (ae HK) (ae HT) 40 (ae HE)).mono ?_;rintro e w2 ⟨rfl,O2,hr2,hf2⟩;replace HV:=af ((ae HV).fr hf2 (aL _));replace HR:=af hr2;replace HF:=af ((ae HF).trans hf2);clear hr2 hf2)
    refine((ae EA) _ _ _ _ _ (ae HR) (bV (ae HK) (ae HT) (ae HE) (by decide)) (ae BA)).mono ?_;rintro e w3 ⟨v3,O3,rfl,hr3,hf3,hv3,hk3⟩;replace HV:=af ((ae HV).fr hf3 (aL _));have CA:=af (hv3.fr (dw _ _) (ae HF).size);replace HR:=af hr3;replace HF:=af ((ae HF).trans hf3);have AA:=af hk3;clear hr3 hf3 hv3 hk3;go_wp2_with fail;refine(Jv _ _ _ _ _ _ ((ae HR).newFree (ae HF)) (ae HV) (ae CA)).mono ?_;rintro e w4 ⟨v4,rfl,rfl,hv4⟩;have DA:=af hv4;clear hv4;go_wp2_with fail;go_ret;exact⟨_,_,rfl,((ae HR).alloc _).alloc _,((ae HF).alloc _).alloc _,ae DA,ae AA⟩
  rw [aG e40]at hr;cases h2:sum (aC ts 26 st1).1 with
  | none=>rw [h2]at hr;cases hr
  | some p =>
   obtain⟨st2,b⟩:=p;rw [h2]at hr;cases hr
   have HE:=af e40;have BA:=af h2;clear e40 h2;go_enter func281,ntmps281;go_wp2_with fail;refine(ae H1).mono ?_;rintro e w1 ⟨v,O1,rfl,hr1,hf1,hv1,hk1⟩;have HR:=af hr1;have HF:=af hf1;have HV:=af hv1;have HK:=af hk1;clear hr1 hf1 hv1 hk1 H1
   go_wp2_with (first
    | (go_at_call 137;refine(aH (ae HR) (ae HK) (ae HT) 40 (ae HE)).mono ?_;rintro e w2 ⟨rfl,hr2,hf2⟩;replace HV:=af ((ae HV).fr hf2 (aL _));replace HR:=af hr2;replace HF:=af ((ae HF).trans hf2);clear hr2 hf2)
    | (go_at_call 139;refine(bL (ae HR) (ae HK) (ae HT) 26).mono ?_;rintro e w2 ⟨rfl,O2,hr2,hf2⟩;replace HV:=af ((ae HV).fr hf2 (aL _));replace HR:=af hr2;replace HF:=af ((ae HF).trans hf2);clear hr2 hf2))
   refine((ae EA) _ _ _ _ _ (ae HR) (bT (ae HK) (ae HT) (by decide)) (ae BA)).mono ?_;rintro e w3 ⟨v3,O3,rfl,hr3,hf3,hv3,hk3⟩;replace HV:=af ((ae HV).fr hf3 (aL _));have CA:=af (hv3.fr (dw _ _) (ae HF).size);replace HR:=af hr3;replace HF:=af ((ae HF).trans hf3);have AA:=af hk3;clear hr3 hf3 hv3 hk3;go_wp2_with fail;refine(FY _ _ _ _ _ _ ((ae HR).newFree (ae HF)) (ae HV) (ae CA)).mono ?_;rintro e w4 ⟨v4,rfl,rfl,hv4⟩;have DA:=af hv4;clear hv4;go_wp2_with fail;go_ret;exact⟨_,_,rfl,((ae HR).alloc _).alloc _,((ae HF).alloc _).alloc _,ae DA,ae AA⟩
theorem BY{pb:Nat}{ts:List ak}(ht:bY ts){tw:RS->Option (RS×Option aR)}(IH:fi 281 pb ts tw){w:World}{st:RS}{D O:Nat->Prop}{r:RS×Option aR}(h:RA w pb ts st D O)(hk:Ok ts st)(hr:tw st=some r)
  (e21:an ts st≠21) (e23:an ts st≠23) (e25:an ts st≠25) (e31:an ts st≠31):Calls prog 262 #[au pb 0] w (lF pb ts w D O r):=by
 have HR:=af h;have HF:=af (dw O w);have HK:=af hk;have HT:=af ht;have n21:=af e21;have n23:=af e23;have n25:=af e25;have b31:(an ts st==31)=false:=by simpa using e31
 have HI:=af IH;have HW:=af hr;clear h hk ht e21 e23 e25 e31 IH hr;go_enter func262,ntmps262
 go_wp2_with (first
  | (go_at_call 90;refine(cY (ae HR) (ae HK) (ae HT) rfl).mono ?_;rintro e w1 ⟨rfl,hr1,hf1⟩;replace HR:=af hr1;replace HF:=af ((ae HF).trans hf1);clear hr1 hf1)
  | (go_at_call 137;refine(aH (ae HR) (ae HK) (ae HT) 21 (ae n21)).mono ?_;rintro e w1 ⟨rfl,hr1,hf1⟩;replace HR:=af hr1;replace HF:=af ((ae HF).trans hf1);clear hr1 hf1 n21)
  | (go_at_call 137;refine(aH (ae HR) (ae HK) (ae HT) 23 (ae n23)).mono ?_;rintro e w1 ⟨rfl,hr1,hf1⟩;replace HR:=af hr1;replace HF:=af ((ae HF).trans hf1);clear hr1 hf1 n23)
  | (go_at_call 137;refine(aH (ae HR) (ae HK) (ae HT) 25 (ae n25)).mono ?_;rintro e w1 ⟨rfl,hr1,hf1⟩;replace HR:=af hr1;replace HF:=af ((ae HF).trans hf1);clear hr1 hf1 n25))
 refine((ae HI) _ _ _ _ _ (ae HR) (ae HK) (ae HW)).mono ?_;rintro e w2 ⟨v,O2,rfl,hr2,hf2,hv2,hk2⟩;have HV:=af (hv2.fr (dw _ _) (ae HF).size);have AA:=af hk2;replace HR:=af hr2;replace HF:=af ((ae HF).trans hf2);clear hr2 hf2 hv2 hk2;go_wp2_with fail;go_ret;exact⟨_,_,rfl,ae HR,ae HF,ae HV,ae AA⟩
theorem L9{pb:Nat}{ts:List ak}(ht:bY ts){sum:RS->Option (RS×Option bh)}(IH:gA pb ts sum):fi 244 pb ts (JM ts sum):=by
 intro w st D O r h hk hr;unfold JM at hr;by_cases hc:an ts st=20\/an ts st=21\/an ts st=23\/an ts st=25\/an ts st=31
 ·rw [aS hc]at hr;cases hr
 rw [aG hc]at hr;have BA:=af (λ W (hW:RA W pb ts st D O)=>BY ht (pJ ht IH) hW hk hr (λ h=>hc (by simp [h])) (λ h=>hc (by simp [h])) (λ h=>hc (by simp [h])) (λ h=>hc (by simp [h])));have HR:=af h;have HF:=af (dw O w);have HK:=af hk;have HT:=af ht;have b20:(an ts st != 20)=true:=by simp;exact λ h=>hc (inl h)
 clear h hk ht hr hc IH;go_enter func244,ntmps244;go_wp2_with (go_at_call 90;refine(cY (ae HR) (ae HK) (ae HT) rfl).mono ?_;rintro e w1 ⟨rfl,hr1,hf1⟩;replace HR:=af hr1;replace HF:=af ((ae HF).trans hf1);clear hr1 hf1)
 refine((ae BA) _ (ae HR)).mono ?_;rintro e w2 ⟨v,O2,rfl,hr2,hf2,hv2,hk2⟩;have HV:=af (hv2.fr (dw _ _) (ae HF).size);have AA:=af hk2;replace HR:=af hr2;replace HF:=af ((ae HF).trans hf2);clear hr2 hf2 hv2 hk2;go_wp2_with fail;go_ret;exact⟨_,_,rfl,ae HR,ae HF,ae HV,ae AA⟩
