/- part -/
import Derived.Test.YtgdeeodifnegiaaGreatDoorRunF
set_option maxRecDepth 100000
set_option maxHeartbeats 4000000
namespace Go.Proofs.YtgdeeodifnegiaaGreatDoor
open Go.Proofs.Tryz
open Or
open Go.RowKit
def pM(a l pa pl:Int):Bool:=decide (pl<=l)&&(bits .xor .i64 a pa / 2 ^ (32-pl).toNat==0)
def rx(pa pl lo hi:Int):dU:=λ a l=>decide (lo<=l)&&(decide (l<=hi)&&pM a l pa pl)
def gC(ms:List dU):dU:=λ a l=>ms.any (λ m=>m a l)
abbrev B7(a l:Int):Value:=.agg #[.int .i64 a,.int .i64 l]
abbrev fq(a l:Int):Obj:=.cells #[.int .i64 a,.int .i64 l] 25
theorem uY(a l pa pl:Int)(h0:0<=pl)(h1:pl<=32)(w:World) :
  Calls prog 333 #[B7 a l,B7 pa pl] w λ e w'=>e=.returned (.bool (pM a l pa pl))/\Below w.heap.size w w':=by
 have hbe:Below w.heap.size w ((w.alloc (fq a l)).alloc (fq pa pl)):=((aX _ _).alloc (aD _) _).alloc (by simp) _;have HB:=ae hbe;clear hbe;have HM:Hid (pM a l pa pl=(decide (pl<=l)&&(bits .xor .i64 a pa / 2 ^ (32-pl).toNat==0))):=rfl;go_enter func333,ntmps333;go_wp2_with fail
 all_goals
  go_ret;refine⟨bQ ?_,ab HB⟩;rw [ab HM]
  simp_all
  try omega
theorem Jr(W:World)(B1 B2 B3:Nat)(pa pl lo hi:Int)(h0:0<=pl)(h1:pl<=32)(c1:W.heap[B1]?=some (aF (.int .i64 lo) 3))(c2:W.heap[B2]?=some (aF (.int .i64 hi) 3))(c3:W.heap[B3]?=some (fq pa pl))(V:World)(hV:Below W.heap.size W V)(a l:Int) :
  Calls prog 332 (#[B7 a l]++#[ay B1 0,ay B2 0,ay B3 0]) V λ e V'=>e=.returned (.bool (rx pa pl lo hi a l))/\Below V.heap.size V V':=by
 have d1:=(hV.block B1 (ai c1)).trans c1;have d2:=(hV.block B2 (ai c2)).trans c2;have d3:=(hV.block B3 (ai c3)).trans c3;have l1:=ai d1;have l2:=ai d2;have l3:=ai d3;have e1:V.cell? ⟨B1,0,none⟩=some (.int .i64 lo):=af d1;have e2:V.cell? ⟨B2,0,none⟩=some (.int .i64 hi):=af d2;have e3:V.cell? ⟨B3,0,none⟩=some (.int .i64 pa):=af d3;have e4:V.cell? ⟨B3,1,none⟩=some (.int .i64 pl):=af d3;have HW:=ae (uY a l pa pl h0 h1 (V.alloc (fq a l)));have HM:Hid (rx pa pl lo hi a l=(decide (lo<=l)&&(decide (l<=hi)&&pM a l pa pl))):=rfl;have HB:=ae ((aX V.heap.size V).alloc (aD _) (fq a l));clear d1 d2 d3 c1 c2 c3 hV;generalize pM a l pa pl=M at *;go_enter func332,ntmps332;go_wp2_with (go_at_call 333;refine(ab HW).mono ?_;rintro e w1 ⟨rfl,hb1⟩;have AA:=ae hb1;clear hb1)
 all_goals
  go_ret;refine⟨bQ ?_,?_⟩
  ·rw [ab HM]
   simp_all
   try omega
  first
   | exact ab HB
   | exact(ab HB).trans ((ab AA).mono (ab HB).size)
theorem Tryz.entSpan:Enters prog 332:=enters_of func332 (by kernel_rfl) rfl
theorem Tryz.entUnion:Enters prog 303:=enters_of func303 (by kernel_rfl) rfl
abbrev Jq(w:World)(pa pl lo hi:Int):World:=((w.alloc (fq pa pl)).alloc (aF (.int .i64 lo) 3)).alloc (aF (.int .i64 hi) 3)
theorem FS(w:World)(pa pl lo hi:Int) :
  Calls prog 301 #[B7 pa pl,.int .i64 lo,.int .i64 hi] w λ e w'=>e=.returned (.func (.func 332) #[] #[ay (w.heap.size+1) 0,ay (w.heap.size+2) 0,ay w.heap.size 0])/\w'=Jq w pa pl lo hi:=by
 have hmf:∀(fn:Fn) (first cap:Array Value) (w:World),(Instr.makeFunc fn first cap).run prog w=.ok (.func fn first cap) w:=λ _ _ _ _=>rfl
 go_enter func301,ntmps301;go_wp2_with fail;go_ret;exact⟨rfl,rfl⟩
abbrev JT(w:World)(A:Nat->Prop)(v:Value)(m:dU):Prop:=az w A (rE v m)
theorem wA(w:World)(pa pl lo hi:Int)(h0:0<=pl)(h1:pl<=32)(A:Nat->Prop)(hA:∀ k,w.heap.size<=k->A k) :
  Calls prog 301 #[B7 pa pl,.int .i64 lo,.int .i64 hi] w λ e w'=>∃ v,e=.returned v/\jl v/\w'=Jq w pa pl lo hi/\JT w' A v (rx pa pl lo hi):=by
 refine(FS w pa pl lo hi).mono ?_;rintro e w' ⟨rfl,rfl⟩;obtain⟨n1,n2,n3,sz⟩:=g6 w (fq pa pl) (aF (.int .i64 lo) 3) (aF (.int .i64 hi) 3);refine⟨_,rfl,inl ⟨_,_,_,rfl⟩,rfl,az.new (λ k=>w.heap.size<=k/\k<w.heap.size+3) (λ k hk=>⟨by show k<(Jq w pa pl lo hi).heap.size;rw [sz];exact hk.2,hA k hk.1⟩) (λ W hW hk=>?_)⟩;exact⟨_,_,rfl,Tryz.entSpan,λ V a l hV=>Jr W _ _ _ pa pl lo hi h0 h1 ((hk _ ⟨by omega,by omega⟩).trans n2) ((hk _ ⟨by omega,by omega⟩).trans n3) ((hk _ ⟨by omega,by omega⟩).trans n1) V hV a l⟩
def Dk(sv:Value)(ms:List dU)(K:Nat->Prop)(W:World):Prop :=
 ms.length<=1000000/\∃ vs:List Value,vs.length=ms.length/\LZ W K sv vs/\∀(i:Nat) (v:Value) (m:dU),vs[i]?=some v->ms[i]?=some m->rE v m K W
theorem Gk(W:World)(B:Nat)(sv:Value)(ms:List dU)(K:Nat->Prop)(hK:∀ k,K k->k<W.heap.size)(hb:W.cell? ⟨B,0,none⟩=some sv)(hs:Dk sv ms K W)(V:World)(hV:Below W.heap.size W V)(a l:Int) :
  Calls prog 303 (#[B7 a l]++#[ay B 0]) V λ e V'=>e=.returned (.bool (gC ms a l))/\Below V.heap.size V V':=by
 obtain⟨hl,vs,hvl,hrow,hst⟩:=hs;have lB:=dD hb;have hbV:=(hV.cell (p:=⟨B,0,none⟩) lB).trans hb;have lBV:B<V.heap.size:=eV lB hV.size
 obtain⟨sa,sc,hsv⟩:∃ a c,sv=.slice a ms.length c:=by
  rcases hrow with⟨h1,h2⟩|⟨S,cap,h1,_⟩
  ·exact⟨none,0,by rw [h2,<-hvl,h1];rfl⟩
  exact⟨_,cap,by rw [h1,hvl]⟩
 have HA:=ae hst;have DA:=ae hrow;have HV:=ae hV;have FA:=ae hK;obtain⟨V0,hV0⟩:∃ V0,V.alloc (fq a l)=V0:=⟨_,rfl⟩
 have hn0:V0.heap[V.heap.size]?=some (fq a l):=by rw [<-hV0];exact cN V _
 have hB0:Below V.heap.size V V0:=by rw [<-hV0];exact(aX _ _).alloc (aD _) _
 have hbV0:=(hB0.cell (p:=⟨B,0,none⟩) lBV).trans hbV;have GA:=ae hn0;have BA:=ae hB0;have hs0:V.heap.size<V0.heap.size:=ai hn0;have hWV:=hV.size;have HU:Hid (gC ms a l=ms.any (λ m=>m a l)):=rfl;clear hst hrow hV hn0 hB0 hK hb;subst hsv;unfold fq at hV0;go_enter func303,ntmps303;go_wp2_with fail;clear hV0;generalize hN:ms.length=N at *;go_loopw [8] (λ i wr=>∃ j:Nat,j<=N/\i=.int .i64 (j:Nat)/\Hid (∀ i m,i<j->ms[i]?=some m->m a l=false)/\Below V0.heap.size V0 wr) (λ i _=>N-(intOf i).toNat)
 case atStart=>exact⟨0,iL _,rfl,λ i m hi=>absurd hi (Nat.not_lt_zero _),aX _ _⟩
 case round =>
  obtain⟨j,hj,rfl,HF,hbl⟩:=hrel;have AA:=ae hbl;have hsz:=hbl.size;clear hbl;by_cases hlt:j<N
  ·have hj':j<vs.length:=by omega
   have hjm:j<ms.length:=by omega
   have hv:vs[j]?=some vs[j]:=iK hj';have hm:ms[j]?=some ms[j]:=iK hjm;obtain⟨g,lb,hvj,eg,hc⟩:=(ab HA) j _ _ hv hm;have e1:=cL eg;rcases ab DA with⟨h1,_⟩|⟨S,cap,h1,hKS,hcell⟩
   ·rw [h1]at hj';simp at hj'
   injection h1 with h2 h3 h4
   subst h2 h4;have hWr:Below W.heap.size W wr:=(ab HV).trans (((ab BA).trans ((ab AA).mono (Nat.le_of_lt hs0))).mono hWV);have hcl:wr.cell? ⟨S,j,none⟩=some (.func (.func g) #[] lb):=(hWr.cell (p:=⟨S,j,none⟩) ((ab FA) S hKS)).trans ((hcell j _ hv).trans (by rw [hvj]));have hnb:=((ab AA).block V.heap.size hs0).trans (ab GA);have n0:wr.cell? ⟨V.heap.size,0,none⟩=some (.int .i64 a):=af hnb;have n1:wr.cell? ⟨V.heap.size,1,none⟩=some (.int .i64 l):=af hnb;have HC:=ae (hc wr a l hWr);have HJ:=ae hm;generalize ms[j]=mj at *;clear hcell hc eg hvj hm hv h3 hWr hnb;cases hx:mj a l with
   | true =>
    rw [hx]at HC
    have hU:gC ms a l=true:=by
     rw [ab HU,List.any_eq_true];exact⟨mj,List.mem_of_getElem? (ab HJ),hx⟩
    have EA:=ae hU;clear hU;go_wp2_with (go_at_fn g;refine(ab HC).mono ?_;rintro e w1 ⟨rfl,hb1⟩;have CA:=ae hb1;clear hb1)
    go_ret;refine⟨bQ (ab EA).symm,?_⟩;have hA:=(ab BA).trans ((ab AA).mono (Nat.le_of_lt hs0));exact hA.trans ((ab CA).mono hA.size)
   | false =>
    rw [hx]at HC;go_wp2_with (go_at_fn g;refine(ab HC).mono ?_;rintro e w1 ⟨rfl,hb1⟩;have CA:=ae hb1;clear hb1)
    go_roundw
    case rel =>
     refine⟨j+1,by omega,by go_num,λ i m hi hm=>?_,(ab AA).trans ((ab CA).mono (ab AA).size)⟩;rcases Nat.lt_or_ge i j with h1|h1
     ·exact(ab HF) i m h1 hm
     obtain rfl:i=j:=by omega
     rw [ab HJ]at hm;cases hm;exact hx
    case measure=>simp [intOf];omega
  have hU:gC ms a l=false:=by
   rw [ab HU,List.any_eq_false];intro m hm;obtain⟨i,hi,rfl⟩:=List.mem_iff_getElem.1 hm;have:=(ab HF) i ms[i] (by omega) (iK hi);simp [this]
  have EA:=ae hU;clear hU;go_wp2_with fail;go_ret;exact⟨bQ (ab EA).symm,(ab BA).trans ((ab AA).mono (Nat.le_of_lt hs0))⟩
theorem CR(w:World)(a:Option Addr)(n c:Nat) :
  Calls prog 261 #[.slice a n c] w λ e w'=>e=.returned (.func (.func 303) #[] #[ay w.heap.size 0])/\w'=w.alloc (aF (.slice a n c) 350):=by
 have hmf:∀(fn:Fn) (first cap:Array Value) (w:World),(Instr.makeFunc fn first cap).run prog w=.ok (.func fn first cap) w:=λ _ _ _ _=>rfl
 go_enter func261,ntmps261;go_wp2_with fail;go_ret;exact⟨rfl,rfl⟩
def l9(ts:List aw):Prop:=∀ t∈ts,0<=t.len/\t.len<=32
def aZ(ts:List aw)(st:RS):RS×dU :=
 if am ts (ar ts 3 st).1=2 then
  ((aE ts (aE ts (ar ts 3 st).2.len 32 (ar ts 3 st).1).2 32 (aE ts (ar ts 3 st).2.len 32 (ar ts 3 st).1).1).1,
   rx (ar ts 3 st).2.addr (ar ts 3 st).2.len (aE ts (ar ts 3 st).2.len 32 (ar ts 3 st).1).2 (aE ts (aE ts (ar ts 3 st).2.len 32 (ar ts 3 st).1).2 32 (aE ts (ar ts 3 st).2.len 32 (ar ts 3 st).1).1).2)
 else((ar ts 3 st).1,rx (ar ts 3 st).2.addr (ar ts 3 st).2.len (ar ts 3 st).2.len (ar ts 3 st).2.len)
theorem Gb{ts:List aw}(hL:l9 ts){st:RS}(hk:Ok ts st)(k:Int):0<=(ar ts k st).2.len/\(ar ts k st).2.len<=32:=by
 unfold ar;split
 ·exact hL _ (JL hk.next)
 exact⟨Int.le_refl _,by show(0:Int)<=32;decide⟩
def Gy(pb:Nat)(ts:List aw)(w:World)(D O:Nat->Prop)(r:RS×dU)(e:Ending)(w':World):Prop :=
 ∃ v O',e=.returned v/\RA w' pb ts r.1 D O'/\Fr O w O' w'/\jl v/\JT w' (dk O' D w.heap.size) v r.2/\Ok ts r.1
theorem Me(t:aw)(w:World):(Instr.field 216 (eG t) 4).run prog w=.ok (B7 t.addr t.len) w:=by kernel_rfl
theorem tD{pb:Nat}{ts:List aw}(ht:cE ts){w:World}{st:RS}{D O:Nat->Prop}(h:RA w pb ts st D O)(hk:Ok ts st)(lo:Int) :
  Calls prog 302 #[ay pb 0,.int .i64 lo] w λ e w'=>e=.returned (.int .i64 (aE ts lo 32 st).2)/\∃ O',RA w' pb ts (aE ts lo 32 st).1 D O'/\Fr O w O' w':=by
 have HW:=ae (oy ht h hk lo 32);clear h hk ht;go_enter func302,ntmps302;go_wp2_with (go_at_call 275;refine(ab HW).mono ?_;rintro e w1 ⟨rfl,O1,hr1,hf1⟩;have HR:=ae hr1;have HF:=ae hf1;clear hr1 hf1)
 go_ret;exact⟨rfl,_,ab HR,ab HF⟩
theorem xF{pb:Nat}{ts:List aw}(ht:cE ts)(hL:l9 ts){w:World}{st:RS}{D O:Nat->Prop}(h:RA w pb ts st D O)(hk:Ok ts st) :
  Calls prog 260 #[ay pb 0] w (Gy pb ts w D O (aZ ts st)):=by
 have BA:=ae (aN h hk ht 3);have AA:=ae (ch (k:=3) hk ht (by decide));obtain⟨l0,l1⟩:=Gb hL hk 3
 have HD:Hid (aZ ts st=if am ts (ar ts 3 st).1=2 then
  ((aE ts (aE ts (ar ts 3 st).2.len 32 (ar ts 3 st).1).2 32 (aE ts (ar ts 3 st).2.len 32 (ar ts 3 st).1).1).1,
   rx (ar ts 3 st).2.addr (ar ts 3 st).2.len (aE ts (ar ts 3 st).2.len 32 (ar ts 3 st).1).2 (aE ts (aE ts (ar ts 3 st).2.len 32 (ar ts 3 st).1).2 32 (aE ts (ar ts 3 st).2.len 32 (ar ts 3 st).1).1).2)
  else((ar ts 3 st).1,rx (ar ts 3 st).2.addr (ar ts 3 st).2.len (ar ts 3 st).2.len (ar ts 3 st).2.len)):=rfl
 have HT:=ae ht;clear h hk ht hL;generalize ar ts 3 st=P at *;obtain⟨s1,t⟩:=P;dsimp only at AA HD l0 l1;have hfl:=Me t;by_cases hn:am ts s1=2
 ·rw [aC hn]at HD;have HE:=ae hn;have DA:=ae (gO (a:=t.len) (b:=32) (ab AA) (ab HT));have EA:=ae (λ(W:World) (D O:Nat->Prop) (h:RA W pb ts s1 D O)=>tD (ab HT) h (ab AA) t.len);clear hn;generalize aE ts t.len 32 s1=A at *;obtain⟨s2,x⟩:=A;dsimp only at DA HD;have GA:=ae (gO (a:=x) (b:=32) (ab DA) (ab HT));have FA:=ae (λ(W:World) (D O:Nat->Prop) (h:RA W pb ts s2 D O)=>tD (ab HT) h (ab DA) x);generalize aE ts x 32 s2=A at *;obtain⟨s3,y⟩:=A;dsimp only at GA HD;go_enter func260,ntmps260
  go_wp2_with (first
   | (go_at_call 213;refine(ab BA).mono ?_;clear BA;rintro e w1 ⟨rfl,O1,hr1,hf1⟩;dsimp only;have HR:=ae (hr1.alloc (fq t.addr t.len));have HF:=ae (hf1.alloc (fq t.addr t.len));have HN:=ae (And.intro (cN w1 (fq t.addr t.len)) (show ¬O1 w1.heap.size from λ ho=>by have:=hr1.lt ho;omega));clear hr1 hf1)
   | (go_at_call 170;refine(dR (ab HR) (ab AA) (ab HT) (ab HE)).mono ?_;rintro e w2 ⟨rfl,hr2,hf2⟩;replace HN:=ae (bD hf2 (ab HN).1 (ab HN).2);have n0:w2.cell? ⟨w1.heap.size,0,none⟩=some (.int .i64 t.addr):=af (ab HN).1;have n1:w2.cell? ⟨w1.heap.size,1,none⟩=some (.int .i64 t.len):=af (ab HN).1;replace HR:=ae hr2;replace HF:=ae ((ab HF).trans hf2);clear hr2 hf2)
   | (go_at_call 302;refine((ab EA) _ _ _ (ab HR)).mono ?_;clear EA;rintro e w3 ⟨rfl,O3,hr3,hf3⟩;replace HN:=ae (bD hf3 (ab HN).1 (ab HN).2);replace HR:=ae hr3;replace HF:=ae ((ab HF).trans hf3);clear hr3 hf3;dsimp only)
   | (go_at_call 302;refine((ab FA) _ _ _ (ab HR)).mono ?_;clear FA;rintro e w4 ⟨rfl,O4,hr4,hf4⟩;replace HN:=ae (bD hf4 (ab HN).1 (ab HN).2);have m0:w4.cell? ⟨w1.heap.size,0,none⟩=some (.int .i64 t.addr):=af (ab HN).1;have m1:w4.cell? ⟨w1.heap.size,1,none⟩=some (.int .i64 t.len):=af (ab HN).1;replace HR:=ae hr4;replace HF:=ae ((ab HF).trans hf4);clear hr4 hf4;dsimp only)
   | (go_at_call 301;refine(wA _ t.addr t.len x y l0 l1 _ ((ab HR).newFree (ab HF))).mono ?_;rintro e w5 ⟨v,rfl,hfv,rfl,hv⟩;replace HR:=ae ((((ab HR).alloc (fq t.addr t.len)).alloc (aF (.int .i64 x) 3)).alloc (aF (.int .i64 y) 3));replace HF:=ae ((((ab HF).alloc (fq t.addr t.len)).alloc (aF (.int .i64 x) 3)).alloc (aF (.int .i64 y) 3));have HV:=ae hv;have CA:=ae hfv;clear hv;rcases hfv with⟨f1,f2,f3,rfl⟩|rfl))
  all_goals
   go_ret;rw [ab HD];exact⟨_,_,rfl,ab HR,ab HF,ab CA,ab HV,ab GA⟩
 rw [au hn]at HD;generalize hK:am ts s1=K at *;have HE:=ae hK;have hn':(K==2)=false:=by simpa using hn
 clear hK;go_enter func260,ntmps260
 go_wp2_with (first
  | (go_at_call 213;refine(ab BA).mono ?_;clear BA;rintro e w1 ⟨rfl,O1,hr1,hf1⟩;dsimp only;have HR:=ae (hr1.alloc (fq t.addr t.len));have HF:=ae (hf1.alloc (fq t.addr t.len));have HN:=ae (And.intro (cN w1 (fq t.addr t.len)) (show ¬O1 w1.heap.size from λ ho=>by have:=hr1.lt ho;omega));clear hr1 hf1)
  | (go_at_call 170;refine(dR (ab HR) (ab AA) (ab HT) (ab HE)).mono ?_;rintro e w2 ⟨rfl,hr2,hf2⟩;replace HN:=ae (bD hf2 (ab HN).1 (ab HN).2);have n0:w2.cell? ⟨w1.heap.size,0,none⟩=some (.int .i64 t.addr):=af (ab HN).1;have n1:w2.cell? ⟨w1.heap.size,1,none⟩=some (.int .i64 t.len):=af (ab HN).1;replace HR:=ae hr2;replace HF:=ae ((ab HF).trans hf2);clear hr2 hf2)
  | (go_at_call 301;refine(wA _ t.addr t.len t.len t.len l0 l1 _ ((ab HR).newFree (ab HF))).mono ?_;rintro e w5 ⟨v,rfl,hfv,rfl,hv⟩;replace HR:=ae ((((ab HR).alloc (fq t.addr t.len)).alloc (aF (.int .i64 t.len) 3)).alloc (aF (.int .i64 t.len) 3));replace HF:=ae ((((ab HF).alloc (fq t.addr t.len)).alloc (aF (.int .i64 t.len) 3)).alloc (aF (.int .i64 t.len) 3));have HV:=ae hv;have CA:=ae hfv;clear hv;rcases hfv with⟨f1,f2,f3,rfl⟩|rfl))
 all_goals
  go_ret;rw [ab HD];exact⟨_,_,rfl,ab HR,ab HF,ab CA,ab HV,ab AA⟩
structure kw{α:Type}(T:TypeId)(Q:Value->α->(Nat->Prop)->World->Prop)(wr:World)(n0:Nat)(Ou D:Nat->Prop)(sv:Value)(acc:List α)(vs:List Value):Prop where
 own:wr.ownsRow 0 T 1 sv acc.length vs
 new:∀ k,sv.ownBlock=some k->n0<=k/\¬Ou k
 elt:∀(i:Nat) (v:Value) (o:α),vs[i]?=some v->acc[i]?=some o->az wr (λ k=>dk Ou D n0 k/\sv.ownBlock≠some k) (Q v o)
section
variable {α:Type} {T:TypeId} {Q:Value->α->(Nat->Prop)->World->Prop}
theorem kw.fr{wr w1:World}{n0:Nat}{Ou O1 D:Nat->Prop}{sv:Value}{acc:List α}{vs:List Value}(h:kw T Q wr n0 Ou D sv acc vs)(hf:Fr Ou wr O1 w1):kw T Q w1 n0 O1 D sv acc vs:=by
 have hO:∀ k,k<wr.heap.size->¬Ou k->¬O1 k:=λ k hk hn ho=>by
  rcases hf.own k ho with h1|h1
  ·exact hn h1
  omega
 refine⟨ap h.own (λ k e=>hf.block k (h.own.lt k e).2 (h.new k e).2),λ k e=>⟨(h.new k e).1,hO k (h.own.lt k e).2 (h.new k e).2⟩,λ i v o hv ho=>?_⟩;exact(h.elt i v o hv ho).mono hf.size (λ k hk ha=>⟨hf.block k hk ha.1.1,⟨hO k hk ha.1.1,ha.1.2⟩,ha.2⟩) (λ _ _ h=>h)
theorem kw.alloc{wr:World}{n0:Nat}{Ou D:Nat->Prop}{sv:Value}{acc:List α}{vs:List Value}(h:kw T Q wr n0 Ou D sv acc vs)(o:Obj):kw T Q (wr.alloc o) n0 Ou D sv acc vs:=h.fr ((bE _ _).alloc o)
theorem kw.snoc{w1 w2:World}{n0 g cap:Nat}{O1 D:Nat->Prop}{sv v:Value}{acc:List α}{vs:List Value}{o:α}(h:kw T Q w1 n0 O1 D sv acc vs)(hO:∀ k,O1 k->k<w1.heap.size)(hn0:n0<=w1.heap.size)
  (hv:az w1 (λ k=>dk O1 D n0 k/\sv.ownBlock≠some k) (Q v o)) (hg:w1.grownBy w2 sv.ownBlock) (hat:sv.ownBlock=some g\/w1.heap.size<=g)
  (hown:w2.ownsRow 0 T 1 (.slice (some ⟨g,0,none⟩) (acc.length+1) cap) (acc.length+1) (vs++[v])) :
  kw T Q w2 n0 O1 D (.slice (some ⟨g,0,none⟩) (acc.length+1) cap) (acc++[o]) (vs++[v]):=by
 have hvl:vs.length=acc.length:=by simpa using h.own.1
 have hmono:∀(x:Value) (p:α),az w1 (λ k=>dk O1 D n0 k/\sv.ownBlock≠some k) (Q x p)->az w2 (λ k=>dk O1 D n0 k/\(Value.slice (some ⟨g,0,none⟩) (acc.length+1) cap).ownBlock≠some k) (Q x p):=λ x p hx=>by
  refine hx.mono hg.size (λ k hk ha=>⟨hg.block k hk (λ e=>ha.2 e.symm),ha.1,λ e=>?_⟩) (λ _ _ h=>h);have e':g=k:=by simpa [Value.ownBlock]using e
  rcases hat with h1|h1
  ·exact ha.2 (by rw [h1,e'])
  omega
 refine⟨by rw [List.length_append];exact hown,λ k e=>?_,λ i x p hx hp=>?_⟩
 ·have e':g=k:=by simpa [Value.ownBlock]using e
  subst e';rcases hat with h1|h1
  ·exact h.new g h1
  exact⟨by omega,λ ho=>by have:=hO g ho;omega⟩
 rcases Nat.lt_or_ge i acc.length with hi|hi
 ·rw [List.getElem?_append_left (by omega)]at hx;rw [List.getElem?_append_left hi]at hp;exact hmono x p (h.elt i x p hx hp)
 rw [List.getElem?_append_right (by omega)]at hx;rw [List.getElem?_append_right hi]at hp
 have hi0:i-acc.length=0:=by
  rcases yj (i-acc.length)with h1|h1
  ·exact h1
  rw [List.getElem?_eq_none (by simp;omega)]at hp;cases hp
 rw [hi0]at hp;rw [hvl,hi0]at hx;simp at hx hp;subst hx hp;exact hmono _ _ hv
theorem kw.one{w1:World}{n0:Nat}{O1 D:Nat->Prop}{v:Value}{o:α}(hv:az w1 (dk O1 D n0) (Q v o))(hO:∀ k,O1 k->k<w1.heap.size)(hn0:n0<=w1.heap.size)(_h1c:v.cells=#[v]) :
  kw T Q (w1.alloc (.cells #[v] T)) n0 O1 D (.slice (some ⟨w1.heap.size,0,none⟩) 1 1) [o] [v]:=by
 refine⟨⟨rfl,inr ⟨w1.heap.size,1,#[v],rfl,iL _,cN w1 _,aD _,by unfold maxLen;omega,rfl,rfl⟩⟩,λ k e=>?_,λ i x p hx hp=>?_⟩
 ·have e':w1.heap.size=k:=by simpa [Value.ownBlock]using e
  subst e';exact⟨hn0,λ ho=>by have:=hO _ ho;omega⟩
 cases i with
 | zero =>
  simp at hx hp;subst hx hp
  exact hv.mono (by simp) (λ k hk ha=>⟨eW _ _ _ hk,ha,λ e=>by
   have e':w1.heap.size=k:=by simpa [Value.ownBlock]using e
   omega⟩) (λ _ _ h=>h)
 | succ i=>simp at hp
end
theorem Jl{w:World}{A:Nat->Prop}{sv:Value}{ms:List dU}{vs:List Value}(ho:w.ownsRow 0 303 1 sv ms.length vs)(hl:ms.length<=1000000)(hA:∀ k,sv.ownBlock=some k->A k)
  (hv:∀(i:Nat) (v:Value) (m:dU),vs[i]?=some v->ms[i]?=some m->JT w A v m):az w A (Dk sv ms):=by
 have hvl:vs.length=ms.length:=by simpa using ho.1
 have hlast:∀ i:Fin ms.length,az w A (rE (vs[i.1]'(by omega)) ms[i.1]):=λ i=>hv i.1 _ _ (iK (by omega)) (iK i.2)
 rcases ho.2 with⟨h1,h0⟩|⟨g,cap,cur,h1,hb,hg,hn,hm,hs,ht⟩
 ·refine az.new (λ _=>False) (λ _ h=>h.elim) (λ W _ _=>⟨by omega,vs,by omega,inl ⟨List.eq_nil_of_length_eq_zero (by omega),h1⟩,λ i v m hi hm=>?_⟩);have hnil:ms=[]:=List.eq_nil_of_length_eq_zero (by omega);rw [hnil]at hm;simp at hm
 have hcell:∀(W:World),W.heap[g]?=w.heap[g]?->∀ i v,vs[i]?=some v->W.cell? ⟨g,i,none⟩=some v:=λ W hW i v hi=>by
  rw [af (hW.trans hg),<-Array.getElem?_toList];rw [<-ht,List.getElem?_take]at hi;split at hi
  ·exact hi
  cases hi
 refine⟨λ k=>k=g\/∃ i:Fin ms.length,Classical.choose (hlast i) k,λ k hk=>?_,λ W hW hk=>?_⟩
 ·rcases hk with rfl|⟨i,hi⟩
  ·exact⟨ai hg,hA k (by rw [h1];rfl)⟩
  exact(Classical.choose_spec (hlast i)).1 k hi
 refine⟨by omega,vs,by omega,inr ⟨g,cap,by rw [h1,hvl],inl rfl,hcell W (hk g (inl rfl))⟩,λ i v m hi hm=>?_⟩
 have hi':i<ms.length:=by
  rcases Nat.lt_or_ge i ms.length with h|h
  ·exact h
  rw [List.getElem?_eq_none h]at hm;cases hm
 have e1:v=vs[i]:=by rw [iK (by omega)]at hi;exact(fZ hi).symm
 have e2:m=ms[i]:=by rw [iK hi']at hm;exact(fZ hm).symm
 subst e1 e2;obtain⟨g',lb,hq1,hq2,hq3⟩:=(Classical.choose_spec (hlast ⟨i,hi'⟩)).2 W hW (λ k h=>hk k (inr ⟨⟨i,hi'⟩,h⟩));exact⟨g',lb,hq1,hq2,hq3⟩
theorem CS(w:World)(sv:Value)(ms:List dU)(A:Nat->Prop)(hA:∀ k,w.heap.size<=k->A k)(hs:az w A (Dk sv ms))(hf:∃ a n c,sv=.slice a n c) :
  Calls prog 261 #[sv] w λ e w'=>∃ v,e=.returned v/\jl v/\w'=w.alloc (aF sv 350)/\JT w' A v (gC ms):=by
 obtain⟨a,n,c,rfl⟩:=hf;refine(CR w a n c).mono ?_;rintro e w' ⟨rfl,rfl⟩;refine⟨_,rfl,inl ⟨_,_,_,rfl⟩,rfl,?_⟩;have h1:az (w.alloc (aF (.slice a n c) 350)) A (Dk (.slice a n c) ms):=hs.mono (by simp) (λ k hk ha=>⟨eW _ _ _ hk,ha⟩) (λ _ _ h=>h);refine az.one h1 (λ k=>k=w.heap.size) (λ k hk=>⟨by subst hk;simp,hA k (by omega)⟩) (λ K1 hK1 q1 W hW hk=>?_);exact⟨_,_,rfl,Tryz.entUnion,λ V x y hV=>Gk W _ _ ms K1 (λ k hk1=>eV (hK1 k hk1).1 hW) (lS (hk _ (inr rfl)) (cN w _)) (q1 W hW (λ k h=>hk k (inl h))) V hV x y⟩
def rangesLp(ts:List aw):Nat->RS->List dU->Option (RS×List dU)
 | 0,_,_=>none
 | n+1,st,l=>if am ts st=28 then rangesLp ts n (aZ ts (bg ts st)).1 (l++[(aZ ts (bg ts st)).2])else some (st,l)
def gv(ts:List aw)(n:Nat)(st:RS):Option (RS×dU) :=
 match rangesLp ts n (aZ ts (ar ts 29 st).1).1 [(aZ ts (ar ts 29 st).1).2]with
 | none=>none
 | some (s,l)=>some ((ar ts 30 s).1,gC l)
theorem lG{ts:List aw}{k:Nat}{st:RS}{l:List dU}{r:RS×List dU}(h:rangesLp ts k st l=some r):∃ g,k=g+1:=by
 cases k with
 | zero=>cases h
 | succ g=>exact⟨g,rfl⟩
theorem Tryz.infoSet:(prog.info? 303).map (λ i=>(i.zero,i.size,i.bytes))=some (some .nilFunc,1,8):=by kernel_rfl
theorem zR{pb:Nat}{ts:List aw}(ht:cE ts)(hL:l9 ts)(n:Nat)(hn:n<=1000){w:World}{st:RS}{D O:Nat->Prop}{r:RS×dU}(h:RA w pb ts st D O)(hk:Ok ts st)(hr:gv ts n st=some r) :
  Calls prog 214 #[ay pb 0] w (Gy pb ts w D O r):=by
 unfold gv at hr
 obtain⟨r1,hr1,hr2⟩:∃ r1,rangesLp ts n (aZ ts (ar ts 29 st).1).1 [(aZ ts (ar ts 29 st).1).2]=some r1/\r=((ar ts 30 r1.1).1,gC r1.2):=by
  split at hr
  ·cases hr
  rename_i s l hx;exact⟨(s,l),hx,(fZ hr).symm⟩
 obtain⟨i0,hi0,hz0,hz1,hz2⟩:=info_parts Tryz.infoSet;have NA:=ae (aN h hk ht 29);have HK1:=ch (k:=29) hk ht (by decide);have LA:=ae (λ(W:World) (D O:Nat->Prop) (su:RS) (h:RA W pb ts su D O) (hk:Ok ts su)=>xF ht hL h hk);have JA:=ae HK1;have HH:=ae h;have HT:=ae ht;have HL:=ae hr1;clear h hk ht hL hr hr1 HK1;subst hr2;generalize ar ts 29 st=P at *;obtain⟨s1,t1⟩:=P;dsimp only at JA HL;generalize hRR:aZ ts s1=RR at *;obtain⟨s2,m2⟩:=RR;dsimp only at HL;go_enter func214,ntmps214
 go_wp2_with (first
  | (go_at_call 213;refine(ab NA).mono ?_;clear NA;rintro e w1 ⟨rfl,O1,hr1,hf1⟩;dsimp only;have HR:=ae hr1;have HF:=ae hf1;clear hr1 hf1)
  | (go_at_call 260;refine((ab LA) _ _ _ _ (ab HR) (ab JA)).mono ?_;rw [hRR];rintro e w2 ⟨v,O2,rfl,hr2,hf2,hfv,hv,hk2⟩;obtain⟨K0,g0,lb0,hv0,_⟩:=az.now hv;have HV:=ae (az.fr hv (bE _ _) (ab HF).size);replace HF:=ae ((ab HF).trans hf2);replace HR:=ae hr2;have GA:=ae hk2;clear hr2 hf2 hv hk2 hfv;subst hv0))
 have EA:=ae (kw.one (T:=303) (Q:=rE) (ab HV) (λ k ho=>(ab HR).lt ho) (ab HF).size rfl);have MA:=ae ((ab HR).alloc (aF (.func (.func g0) #[] lb0) 303));have FA:=ae ((ab HF).alloc (aF (.func (.func g0) #[] lb0) 303));clear HV HR HF;go_loopg [3] n (λ k s3 wr=>∃(su:RS) (acc:List dU) (vs:List Value) (Ou:Nat->Prop),acc.length+k<=n+1/\RA wr pb ts su D Ou/\Fr O w Ou wr/\kw 303 rE wr w.heap.size Ou D s3 acc vs/\Ok ts su/\rangesLp ts k su acc=some r1)
 case atStart=>exact⟨s2,[m2],_,O2,by simp;omega,ab MA,ab FA,ab EA,ab GA,ab HL⟩
 case round =>
  clear EA MA FA GA HL;obtain⟨su,acc,vs,Ou,hlen,hr,hf,hacc,hk,hl⟩:=hrel;obtain⟨g,rfl⟩:=lG hl;obtain⟨sa,sc,hsv⟩:=bi hacc.own;subst hsv;have hln:acc.length<=1001:=by omega
  by_cases h28:am ts su=28
  ·have hl':rangesLp ts g (aZ ts (bg ts su)).1 (acc++[(aZ ts (bg ts su)).2])=some r1:=by rw [rangesLp,aC h28]at hl;exact hl
   have CA:=ae (bY hr hk (ab HT) 28 h28);have UA:=ae (cu hk (ab HT) h28 (by decide));have KA:=ae hl';have HF:=ae hf;have HA:=ae hacc;generalize hRR2:aZ ts (bg ts su)=RR2 at *;obtain⟨s5,m5⟩:=RR2;dsimp only at KA;clear hr hf hacc hk hl hl' h28
   go_wp2_with (first
    | (go_at_call 211;refine(ab CA).mono ?_;clear CA;rintro e w3 ⟨rfl,O3,hr3,hf3⟩;have HR:=ae hr3;replace HA:=ae ((ab HA).fr hf3);replace HF:=ae ((ab HF).trans hf3);clear hr3 hf3)
    | (go_at_call 260;refine((ab LA) _ _ _ _ (ab HR) (ab UA)).mono ?_;rw [hRR2];rintro e w4 ⟨v,O4,rfl,hr4,hf4,hfv,hv,hk4⟩;obtain⟨K1,g1,lb1,hv1,_⟩:=az.now hv;have hlt3:=((ab HA).own.lt);have HV:=ae (show az w4 (λ k=>dk O4 D w.heap.size k/\(Value.slice sa acc.length sc).ownBlock≠some k) (rE v m5)from hv.mono (aD _) (λ k _ ha=>⟨rfl,⟨ha.1,ha.2.imp id (λ h=>by have:=(ab HF).size;omega)⟩,λ e=>by rcases ha.2 with h1|h1;(have h2:=((ab HA).new k e).1;have h3:=((ab HH).free h1).1;omega);(have h2:=(hlt3 k e).2;omega)⟩) (λ _ _ h=>h));replace HA:=ae ((ab HA).fr hf4);replace HF:=ae ((ab HF).trans hf4);replace HR:=ae hr4;have TA:=ae hk4;clear hr4 hf4 hv hk4 hfv hlt3;subst hv1;have AA:=ae ((ab HA).alloc (aF (.func (.func g1) #[] lb1) 303));have DA:=ae ((ab HR).alloc (aF (.func (.func g1) #[] lb1) 303));have OA:=ae ((ab HV).mono (bK w4 (aF (.func (.func g1) #[] lb1) 303) (λ k=>dk O4 D w.heap.size k/\(Value.slice sa acc.length sc).ownBlock≠some k)).1 (bK w4 (aF (.func (.func g1) #[] lb1) 303) _).2 (λ _ _ h=>h)))
    | (at_builtin;refine wpList_append_lies _ rfl _ _ _ rfl 0 303 i0 _ 1 8 underlying350 hi0 hz0 hz1 hz2 rfl (by omega) (.slice sa acc.length sc) acc.length vs rfl (ab AA).own ⟨w4.heap.size,0,none⟩ 1 1 [.func (.func g1) #[] lb1] rfl rfl (World.news_of_block (cs:=#[.func (.func g1) #[] lb1]) (t:=303) (fr:=(0,0)) (cN _ _)) (by simp [Value.oneCell']) (by omega) (by simp [maxLen];omega) (by omega) (iL _) (w4.heap.size+1) (by simp) ?_;intro gg cap w5 hown hgrow hat hltg))
   have VA:=ae ((ab DA).grown hgrow (λ k e=>⟨((ab AA).new k e).2,λ hd=>by have h1:=((ab AA).new k e).1;have h2:=((ab HH).free hd).1;omega⟩));have QA:=ae (((ab HF).alloc (aF (.func (.func g1) #[] lb1) 303)).grown hgrow (λ k e=>inr ((ab AA).new k e).1));have PA:=ae (kw.snoc (ab AA) (λ k ho=>(ab DA).lt ho) (by have:=(ab HF).size;simp;omega) (ab OA) hgrow (hat.imp id (λ h=>by simp;omega)) hown);clear hown hgrow hat hltg DA AA OA HV HA;go_roundg g
   case measure=>omega
   case rel=>exact⟨s5,acc++[m5],_,O4,by rw [List.length_append,List.length_singleton];omega,ab VA,ab QA,ab PA,ab TA,ab KA⟩
  have hl':(su,acc)=r1:=by rw [rangesLp,au h28]at hl;exact fZ hl
  have CA:=ae (aL hr hk (ab HT) 28 h28);have HF:=ae hf;have HA:=ae hacc;have HK:=ae hk;have BA:=ae (λ(W:World) (h:RA W pb ts su D Ou)=>aN h hk (ab HT) 30);have IA:=ae (ch (k:=30) hk (ab HT) (by decide));subst hl';dsimp only;generalize ar ts 30 su=P2 at *;obtain⟨s6,t6⟩:=P2;dsimp only at IA ⊢;clear hr hf hacc hk hl h28
  go_wp2_with (first
   | (go_at_call 211;refine(ab CA).mono ?_;clear CA;rintro e w3 ⟨rfl,hr3,hf3⟩;have HR:=ae hr3;replace HA:=ae ((ab HA).fr hf3);replace HF:=ae ((ab HF).trans hf3);clear hr3 hf3)
   | (go_at_call 213;refine((ab BA) _ (ab HR)).mono ?_;clear BA;rintro e w4 ⟨rfl,O4,hr4,hf4⟩;dsimp only;replace HR:=ae hr4;replace HA:=ae ((ab HA).fr hf4);replace HF:=ae ((ab HF).trans hf4);clear hr4 hf4)
   | (go_at_call 261;refine(CS w4 _ acc (dk O4 D w.heap.size) ((ab HR).newFree (ab HF)) (Jl (ab HA).own (by omega) (λ k e=>⟨((ab HA).new k e).2,inr ((ab HA).new k e).1⟩) (λ i v o h1 h2=>((ab HA).elt i v o h1 h2).mono (aD _) (λ k _ ha=>⟨rfl,ha.1⟩) (λ _ _ h=>h))) ⟨_,_,_,rfl⟩).mono ?_;rintro e w5 ⟨v,rfl,hfv,rfl,hv⟩;obtain⟨K1,g1,lb1,hv1,_⟩:=az.now hv;have HV:=ae hv;have SA:=ae hfv;clear hv hfv;subst hv1))
  go_ret;exact⟨_,_,rfl,(ab HR).alloc _,(ab HF).alloc _,ab SA,ab HV,ab IA⟩
structure vl(w:World)(dv:Value)(xs:List (ByteArray×Value×Value)):Prop where
 form:∃ q c,dv=.slice q xs.length c
 len:xs.length<=maxLen
 cell:∀ g c,dv=.slice (some ⟨g,0,none⟩) xs.length c->g<w.heap.size/\∀(i:Nat) (x:ByteArray×Value×Value),xs[i]?=some x->w.cell? ⟨g,i*3,none⟩=some (.string x.1)/\w.cell? ⟨g,i*3+1,none⟩=some x.2.1/\w.cell? ⟨g,i*3+2,none⟩=some x.2.2
 some_:xs≠[]->∃ g c,dv=.slice (some ⟨g,0,none⟩) xs.length c
 fn:∀ x∈xs,jl x.2.1/\jl x.2.2
theorem vl.below{w w':World}{dv:Value}{xs:List (ByteArray×Value×Value)}(h:vl w dv xs)(hb:Below w.heap.size w w'):vl w' dv xs :=
 ⟨h.form,h.len,λ g c e=>⟨eV (h.cell g c e).1 hb.size,λ i x hx=>by
  obtain⟨h1,h2,h3⟩:=(h.cell g c e).2 i x hx;have hl:=(h.cell g c e).1;exact⟨(hb.cell (p:=⟨g,i*3,none⟩) hl).trans h1,(hb.cell (p:=⟨g,i*3+1,none⟩) hl).trans h2,(hb.cell (p:=⟨g,i*3+2,none⟩) hl).trans h3⟩⟩,h.some_,h.fn⟩
theorem oM:∀{xs:List (ByteArray×Value×Value)} {i:Nat} {x:ByteArray×Value×Value},xs[i]?=some x->(bI xs)[i*3]?=some (.string x.1)/\(bI xs)[i*3+1]?=some x.2.1/\(bI xs)[i*3+2]?=some x.2.2
 | [],i,x,h=>by simp at h
 | y::l,0,x,h=>by
  simp at h;subst h;exact⟨rfl,rfl,rfl⟩
 | y::l,i+1,x,h=>by
  have:=oM (xs:=l) (i:=i) (x:=x) (by simpa using h)
  have e:∀ k,(bI (y::l))[(i+1)*3+k]?=(bI l)[i*3+k]?:=λ k=>by
   rw [show(i+1)*3+k=(i*3+k)+3 by omega];rfl
  exact⟨(e 0).trans this.1,(e 1).trans this.2.1,(e 2).trans this.2.2⟩
theorem kX.fnv{w:World}{A:Nat->Prop}{d:fe}{x:ByteArray×Value×Value}(h:kX w A d x):jl x.2.1/\jl x.2.2:=by
 obtain⟨_,h2,h3⟩:=h
 constructor
 ·cases hs:d.set with
  | none=>rw [hs]at h2;exact inr h2
  | some m =>
   rw [hs]at h2;obtain⟨K,g,lb,h4,_⟩:=az.now h2;exact inl ⟨_,_,_,h4⟩
 cases hs:d.way with
 | none=>rw [hs]at h3;exact inr h3
 | some m =>
  rw [hs]at h3;obtain⟨K,g,lb,h4,_⟩:=az.now h3;exact inl ⟨_,_,_,h4⟩
theorem RA.defsV{w:World}{pb:Nat}{ts:List aw}{st:RS}{D O:Nat->Prop}(h:RA w pb ts st D O) :
  ∃ dv xs,w.cell? ⟨pb,3,none⟩=some dv/\vl w dv xs/\xs.length=st.defs.length/\∀(i:Nat) (d:fe) (x:ByteArray×Value×Value),st.defs[i]?=some d->xs[i]?=some x->kX w (λ k=>¬O k/\D k) d x:=by
 obtain⟨tb,tc,dv,av,bv,h,rfl⟩:=h;obtain⟨xs,h1,h2,h3⟩:=h.defs
 have hfn:∀ x∈xs,jl x.2.1/\jl x.2.2:=λ x hx=>by
  obtain⟨i,hi,rfl⟩:=List.mem_iff_getElem.1 hx;exact(h3 i st.defs[i] xs[i] (iK (by omega)) (iK hi)).fnv
 refine⟨dv,xs,af h.blk,?_,h2,h3⟩;rcases h1.2 with⟨e1,e0⟩|⟨g,cap,cur,e1,_,hg,hn,hm,hs,htk⟩
 ·refine⟨⟨none,0,by rw [e1,h2,e0]⟩,by unfold maxLen;omega,λ g c e=>(by rw [e1]at e;cases e),λ hne=>absurd (List.eq_nil_of_length_eq_zero (by omega)) hne,hfn⟩
 refine⟨⟨_,cap,by rw [e1,h2]⟩,by omega,λ g' c' e=>?_,λ _=>⟨g,cap,by rw [e1,h2]⟩,hfn⟩;rw [e1]at e
 injection e with e2
 injection e2 with e3
 injection e3 with e4
 subst e4;refine⟨ai hg,λ i x hx=>?_⟩;obtain⟨d1,d2,d3⟩:=oM hx;have hi:i<xs.length:=(List.getElem?_eq_some_iff.mp hx).1
 have get:∀ j v,j<xs.length*3->(bI xs)[j]?=some v->w.cell? ⟨g,j,none⟩=some v:=λ j v hj hv=>by
  rw [af hg];rw [<-htk,List.getElem?_take,aC (by rw [<-h2];exact hj)]at hv;simpa using hv
 exact⟨get _ _ (by omega) d1,get _ _ (by omega) d2,get _ _ (by omega) d3⟩
theorem BN(W:World)(B:Nat)(name:ByteArray)(hb:W.cell? ⟨B,0,none⟩=some (.string name))(x:ByteArray×Value×Value)(hf:jl x.2.1/\jl x.2.2) :
  Calls prog 298 (#[.agg #[.string x.1,x.2.1,x.2.2]]++#[ay B 0]) W λ e W'=>e=.returned (.bool (x.1.toList==name.toList))/\Below W.heap.size W W':=by
 obtain⟨n,v1,v2⟩:=x;have lB:=dD hb;dsimp only at hf ⊢;obtain⟨h1,h2⟩:=hf;rcases h1 with⟨f,a,b,rfl⟩|rfl<;>rcases h2 with⟨f',a',b',rfl⟩|rfl <;>
 ·go_enter func298,ntmps298;go_wp2_with fail;go_ret;exact⟨rfl,(aX _ _).alloc (aD _) _⟩
theorem Tryz.entIsDef:Enters prog 298:=enters_of func298 (by kernel_rfl) rfl
theorem zu(W:World)(B:Nat)(name:ByteArray)(hb:W.cell? ⟨B,0,none⟩=some (.string name))(dv:Value)(xs:List (ByteArray×Value×Value))(hd:vl W dv xs) :
  Calls prog 330 #[dv,.func (.func 298) #[] #[ay B 0]] W λ e W'=>∃ i:Int,e=.returned (.int .i64 i)/\(0<=i↔xs.any (λ x=>x.1.toList==name.toList)=true)/\Below W.heap.size W W':=by
 obtain⟨q,c,rfl⟩:=hd.form;have e1:=cL Tryz.entIsDef;have HD:=ae hd;have HB:=ae hb;have hln:=hd.len;unfold maxLen at hln;clear hd hb;go_enter func330,ntmps330;go_wp2_with fail;go_loopw [8] (λ i wr=>∃ j:Nat,j<=xs.length/\i=.int .i64 (j:Nat)/\Hid (∀ i x,i<j->xs[i]?=some x->(x.1.toList==name.toList)=false)/\Below W.heap.size W wr) (λ i _=>xs.length-(intOf i).toNat)
 case atStart=>exact⟨0,iL _,rfl,λ i m hi=>absurd hi (Nat.not_lt_zero _),aX _ _⟩
 case round =>
  obtain⟨j,hj,rfl,HF,hbl⟩:=hrel;have BA:=ae hbl;clear hbl;by_cases hlt:j<xs.length
  ·obtain⟨g,c',hq⟩:=(ab HD).some_ (λ e=>by rw [e]at hlt;simp at hlt)
   injection hq with hq1 hq2 hq3
   subst hq1 hq3;obtain⟨hgl,hcell⟩:=((ab HD).below (ab BA)).cell g c rfl;have hx:xs[j]?=some xs[j]:=iK hlt;obtain⟨k1,k2,k3⟩:=hcell j _ hx;have hfn:=(ab HD).fn xs[j] (nN _);have HX:=ae hx;have HC:=ae (BN wr B name (((ab BA).cell (p:=⟨B,0,none⟩) (dD (ab HB))).trans (ab HB)) xs[j] hfn);clear hcell hx;generalize xs[j]=X at *;obtain⟨n,v1,v2⟩:=X;dsimp only at HC k1 k2 k3 hfn;obtain⟨h1,h2⟩:=hfn;cases hE:n.toList==name.toList with
   | true =>
    rw [hE]at HC
    have AA:=ae (show xs.any (λ x=>x.1.toList==name.toList)=true by
     rw [List.any_eq_true];exact⟨_,List.mem_of_getElem? (ab HX),hE⟩)
    rcases h1 with⟨f,a,b,rfl⟩|rfl<;>rcases h2 with⟨f',a',b',rfl⟩|rfl <;>
    ·go_wp2_with (go_at_fn 298;refine(ab HC).mono ?_;rintro e w1 ⟨rfl,hb1⟩;have CA:=ae hb1;clear hb1)
     go_ret;exact⟨_,rfl,⟨λ _=>ab AA,λ _=>by omega⟩,(ab BA).trans ((ab CA).mono (ab BA).size)⟩
   | false =>
    rw [hE]at HC;rcases h1 with⟨f,a,b,rfl⟩|rfl<;>rcases h2 with⟨f',a',b',rfl⟩|rfl <;>
    ·go_wp2_with (go_at_fn 298;refine(ab HC).mono ?_;rintro e w1 ⟨rfl,hb1⟩;have CA:=ae hb1;clear hb1)
     refine⟨⟨j+1,by omega,by go_num,λ i m hi hm=>?_,(ab BA).trans ((ab CA).mono (ab BA).size)⟩,by simp [intOf];omega⟩;rcases Nat.lt_or_ge i j with h1|h1
     ·exact(ab HF) i m h1 hm
     obtain rfl:i=j:=by omega
     rw [ab HX]at hm;cases hm;exact hE
  have AA:=ae (show ¬xs.any (λ x=>x.1.toList==name.toList)=true by
   intro h;rw [List.any_eq_true]at h;obtain⟨x,hx,he⟩:=h;obtain⟨i,hi,rfl⟩:=List.mem_iff_getElem.1 hx;have:=(ab HF) i xs[i] (by omega) (iK hi);rw [this]at he;cases he)
  go_wp2_with fail;go_ret;exact⟨_,rfl,⟨λ h=>by omega,λ h=>absurd h (ab AA)⟩,ab BA⟩
theorem xm(W:World)(B:Nat)(name:ByteArray)(hb:W.cell? ⟨B,0,none⟩=some (.string name))(dv:Value)(xs:List (ByteArray×Value×Value))(hd:vl W dv xs) :
  Calls prog 297 #[dv,.func (.func 298) #[] #[ay B 0]] W λ e W'=>e=.returned (.bool (xs.any (λ x=>x.1.toList==name.toList)))/\Below W.heap.size W W':=by
 have HI:=ae (zu W B name hb dv xs hd);obtain⟨q,c,rfl⟩:=hd.form;clear hb hd;generalize xs.any (λ x=>x.1.toList==name.toList)=b at *;go_enter func297,ntmps297;go_wp2_with (go_at_call 330;refine(ab HI).mono ?_;rintro e w1 ⟨i,rfl,hi,hb1⟩;have AA:=ae hb1;have BA:=ae hi;clear hb1 hi)
 go_ret;refine⟨bQ ?_,ab AA⟩;have h:=ab BA;cases b with
 | true=>exact jj (h.2 rfl)
 | false=>exact gn (λ hh=>by have:=h.1 hh;cases this)
theorem nE{w:World}{pb:Nat}{ts:List aw}{st:RS}{D O:Nat->Prop}(h:RA w pb ts st D O)(name:ByteArray) :
  Calls prog 258 #[ay pb 0,.string name] w λ e w'=>e=.returned (.bool (nY st name))/\Below w.heap.size w w':=by
 have hmf:∀(fn:Fn) (first cap:Array Value) (w:World),(Instr.makeFunc fn first cap).run prog w=.ok (.func fn first cap) w:=λ _ _ _ _=>rfl
 obtain⟨dv,xs,hc,hd,hl,hrep⟩:=h.defsV;have hlt:=dD hc;have hbe:Below w.heap.size w (w.alloc (aF (.string name) 9)):=(aX _ _).alloc (aD _) _;have HC:=ae (xm (w.alloc (aF (.string name) 9)) w.heap.size name (af (cN w _)) dv xs (hd.below hbe));obtain⟨q,c,rfl⟩:=hd.form
 have hany:xs.any (λ x=>x.1.toList==name.toList)=nY st name:=by
  unfold nY
  have hm:xs.map (·.1)=st.defs.map (·.name):=by
   refine List.ext_getElem (by simp [hl]) (λ i h1 h2=>?_);simp only [List.length_map]at h1 h2;simp only [List.getElem_map];exact(hrep i _ _ (iK h2) (iK h1)).1
  have e1:xs.any (λ x=>x.1.toList==name.toList)=(xs.map (·.1)).any (λ n=>n.toList==name.toList):=by rw [List.any_map];rfl
  have e2:st.defs.any (λ d=>d.name.toList==name.toList)=(st.defs.map (·.name)).any (λ n=>n.toList==name.toList):=by rw [List.any_map];rfl
  rw [e1,e2,hm]
 rw [hany]at HC;have AA:=ae hbe;clear h hd hl hrep hany hbe;go_enter func258,ntmps258;go_wp2_with (go_at_call 297;refine(ab HC).mono ?_;rintro e w1 ⟨rfl,hb1⟩;have BA:=ae hb1;clear hb1)
 go_ret;exact⟨rfl,(ab AA).trans ((ab BA).mono (ab AA).size)⟩
theorem mN{w:World}{pb:Nat}{ts:List aw}{st:RS}{D O:Nat->Prop}(h:RA w pb ts st D O)(x:Int) :
  Calls prog 228 #[ay pb 9,.int .i64 x] w λ e w'=>e=.returned (.tuple #[])/\RA w' pb ts (eU st x) D O/\Fr O w O w':=by
 obtain⟨tb,tc,dv,av,bv,h,rfl⟩:=h;refine(uw w pb 9 st.nam x _ h.blk rfl rfl).mono ?_;rintro e w' ⟨rfl,rfl⟩;refine⟨rfl,?_⟩;cases hs:st.nam with
 | none =>
  refine⟨⟨tb,tc,dv,av,bv,h.synSet (o:=9) _ (eU st x) rfl rfl ?_,rfl⟩,((bE _ _).setCell (inl (inl rfl)) _).setCell (inl (inl rfl)) _⟩;simp [iq,eU,hs,iC,nr,rK]
 | some y =>
  have e:eU st x=st:=by simp [eU,hs,iC];rw [<-hs]
  rw [e];exact⟨⟨tb,tc,dv,av,bv,h,rfl⟩,bE _ _⟩
