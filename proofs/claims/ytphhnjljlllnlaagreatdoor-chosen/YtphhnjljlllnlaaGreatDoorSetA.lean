/- part -/
import Derived.Test.YtphhnjljlllnlaaGreatDoorRunF
set_option maxRecDepth 100000
set_option maxHeartbeats 4000000
namespace Go.Proofs.YtphhnjljlllnlaaGreatDoor
open Go.Proofs.Tryz
open Or
open Go.RowKit
def qD(a l pa pl:Int):Bool:=decide (pl<=l)&&(bits .xor .i64 a pa / 2 ^ (32-pl).toNat==0)
def qo(pa pl lo hi:Int):dU:=λ a l=>decide (lo<=l)&&(decide (l<=hi)&&qD a l pa pl)
def my(ms:List dU):dU:=λ a l=>ms.any (λ m=>m a l)
abbrev Dr(a l:Int):Value:=.agg #[.int .i64 a,.int .i64 l]
abbrev eY(a l:Int):Obj:=.cells #[.int .i64 a,.int .i64 l] 63
theorem vS(a l pa pl:Int)(h0:0<=pl)(h1:pl<=32)(w:World) :
  Calls prog 238 #[Dr a l,Dr pa pl] w λ e w'=>e=.returned (.bool (qD a l pa pl))/\Below w.heap.size w w':=by
 have hbe:Below w.heap.size w ((w.alloc (eY a l)).alloc (eY pa pl)):=((aY _ _).alloc (aL _) _).alloc (by simp) _;have HB:=af hbe;clear hbe;have HM:Hid (qD a l pa pl=(decide (pl<=l)&&(bits .xor .i64 a pa / 2 ^ (32-pl).toNat==0))):=rfl;go_enter func238,ntmps238;go_wp2_with fail
 all_goals
  go_ret;refine⟨aO ?_,ae HB⟩;rw [ae HM]
  simp_all
  try omega
theorem Ko(W:World)(B1 B2 B3:Nat)(pa pl lo hi:Int)(h0:0<=pl)(h1:pl<=32)(c1:W.heap[B1]?=some (aE (.int .i64 lo) 3))(c2:W.heap[B2]?=some (aE (.int .i64 hi) 3))(c3:W.heap[B3]?=some (eY pa pl))(V:World)(hV:Below W.heap.size W V)(a l:Int) :
  Calls prog 237 (#[Dr a l]++#[au B1 0,au B2 0,au B3 0]) V λ e V'=>e=.returned (.bool (qo pa pl lo hi a l))/\Below V.heap.size V V':=by
 have d1:=(hV.block B1 (ah c1)).trans c1;have d2:=(hV.block B2 (ah c2)).trans c2;have d3:=(hV.block B3 (ah c3)).trans c3;have l1:=ah d1;have l2:=ah d2;have l3:=ah d3;have e1:V.cell? ⟨B1,0,none⟩=some (.int .i64 lo):=ag d1;have e2:V.cell? ⟨B2,0,none⟩=some (.int .i64 hi):=ag d2;have e3:V.cell? ⟨B3,0,none⟩=some (.int .i64 pa):=ag d3;have e4:V.cell? ⟨B3,1,none⟩=some (.int .i64 pl):=ag d3;have HW:=af (vS a l pa pl h0 h1 (V.alloc (eY a l)));have HM:Hid (qo pa pl lo hi a l=(decide (lo<=l)&&(decide (l<=hi)&&qD a l pa pl))):=rfl;have HB:=af ((aY V.heap.size V).alloc (aL _) (eY a l));clear d1 d2 d3 c1 c2 c3 hV;generalize qD a l pa pl=M at *;go_enter func237,ntmps237;go_wp2_with (go_at_call 238;refine(ae HW).mono ?_;rintro e w1 ⟨rfl,hb1⟩;have AA:=af hb1;clear hb1)
 all_goals
  go_ret;refine⟨aO ?_,?_⟩
  ·rw [ae HM]
   simp_all
   try omega
  first
   | exact ae HB
   | exact(ae HB).trans ((ae AA).mono (ae HB).size)
theorem Tryz.entSpan:Enters prog 237:=enters_of func237 (by kernel_rfl) rfl
theorem Tryz.entUnion:Enters prog 214:=enters_of func214 (by kernel_rfl) rfl
abbrev Kn(w:World)(pa pl lo hi:Int):World:=((w.alloc (eY pa pl)).alloc (aE (.int .i64 lo) 3)).alloc (aE (.int .i64 hi) 3)
theorem Hj(w:World)(pa pl lo hi:Int) :
  Calls prog 212 #[Dr pa pl,.int .i64 lo,.int .i64 hi] w λ e w'=>e=.returned (.func (.func 237) #[] #[au (w.heap.size+1) 0,au (w.heap.size+2) 0,au w.heap.size 0])/\w'=Kn w pa pl lo hi:=by
 have hmf:∀(fn:Fn) (first cap:Array Value) (w:World),(Instr.makeFunc fn first cap).run prog w=.ok (.func fn first cap) w:=λ _ _ _ _=>rfl
 go_enter func212,ntmps212;go_wp2_with fail;go_ret;exact⟨rfl,rfl⟩
abbrev KX(w:World)(A:Nat->Prop)(v:Value)(m:dU):Prop:=ax w A (sj v m)
theorem xE(w:World)(pa pl lo hi:Int)(h0:0<=pl)(h1:pl<=32)(A:Nat->Prop)(hA:∀ k,w.heap.size<=k->A k) :
  Calls prog 212 #[Dr pa pl,.int .i64 lo,.int .i64 hi] w λ e w'=>∃ v,e=.returned v/\jD v/\w'=Kn w pa pl lo hi/\KX w' A v (qo pa pl lo hi):=by
 refine(Hj w pa pl lo hi).mono ?_;rintro e w' ⟨rfl,rfl⟩;obtain⟨n1,n2,n3,sz⟩:=iR w (eY pa pl) (aE (.int .i64 lo) 3) (aE (.int .i64 hi) 3);refine⟨_,rfl,inl ⟨_,_,_,rfl⟩,rfl,ax.new (λ k=>w.heap.size<=k/\k<w.heap.size+3) (λ k hk=>⟨by show k<(Kn w pa pl lo hi).heap.size;rw [sz];exact hk.2,hA k hk.1⟩) (λ W hW hk=>?_)⟩;exact⟨_,_,rfl,Tryz.entSpan,λ V a l hV=>Ko W _ _ _ pa pl lo hi h0 h1 ((hk _ ⟨by omega,by omega⟩).trans n2) ((hk _ ⟨by omega,by omega⟩).trans n3) ((hk _ ⟨by omega,by omega⟩).trans n1) V hV a l⟩
def Eq(sv:Value)(ms:List dU)(K:Nat->Prop)(W:World):Prop :=
 ms.length<=1000000/\∃ vs:List Value,vs.length=ms.length/\Nh W K sv vs/\∀(i:Nat) (v:Value) (m:dU),vs[i]?=some v->ms[i]?=some m->sj v m K W
theorem Hx(W:World)(B:Nat)(sv:Value)(ms:List dU)(K:Nat->Prop)(hK:∀ k,K k->k<W.heap.size)(hb:W.cell? ⟨B,0,none⟩=some sv)(hs:Eq sv ms K W)(V:World)(hV:Below W.heap.size W V)(a l:Int) :
  Calls prog 214 (#[Dr a l]++#[au B 0]) V λ e V'=>e=.returned (.bool (my ms a l))/\Below V.heap.size V V':=by
 obtain⟨hl,vs,hvl,hrow,hst⟩:=hs;have lB:=cS hb;have hbV:=(hV.cell (p:=⟨B,0,none⟩) lB).trans hb;have lBV:B<V.heap.size:=gY lB hV.size
 obtain⟨sa,sc,hsv⟩:∃ a c,sv=.slice a ms.length c:=by
  rcases hrow with⟨h1,h2⟩|⟨S,cap,h1,_⟩
  ·exact⟨none,0,by rw [h2,<-hvl,h1];rfl⟩
  exact⟨_,cap,by rw [h1,hvl]⟩
 have HA:=af hst;have DA:=af hrow;have HV:=af hV;have FA:=af hK;obtain⟨V0,hV0⟩:∃ V0,V.alloc (eY a l)=V0:=⟨_,rfl⟩
 have hn0:V0.heap[V.heap.size]?=some (eY a l):=by rw [<-hV0];exact cM V _
 have hB0:Below V.heap.size V V0:=by rw [<-hV0];exact(aY _ _).alloc (aL _) _
 have hbV0:=(hB0.cell (p:=⟨B,0,none⟩) lBV).trans hbV;have GA:=af hn0;have BA:=af hB0;have hs0:V.heap.size<V0.heap.size:=ah hn0;have hWV:=hV.size;have HU:Hid (my ms a l=ms.any (λ m=>m a l)):=rfl;clear hst hrow hV hn0 hB0 hK hb;subst hsv;unfold eY at hV0;go_enter func214,ntmps214;go_wp2_with fail;clear hV0;generalize hN:ms.length=N at *;go_loopw [8] (λ i wr=>∃ j:Nat,j<=N/\i=.int .i64 (j:Nat)/\Hid (∀ i m,i<j->ms[i]?=some m->m a l=false)/\Below V0.heap.size V0 wr) (λ i _=>N-(intOf i).toNat)
 case atStart=>exact⟨0,dG _,rfl,λ i m hi=>absurd hi (Nat.not_lt_zero _),aY _ _⟩
 case round =>
  obtain⟨j,hj,rfl,HF,hbl⟩:=hrel;have AA:=af hbl;have hsz:=hbl.size;clear hbl;by_cases hlt:j<N
  ·have hj':j<vs.length:=by omega
   have hjm:j<ms.length:=by omega
   have hv:vs[j]?=some vs[j]:=gW hj';have hm:ms[j]?=some ms[j]:=gW hjm;obtain⟨g,lb,hvj,eg,hc⟩:=(ae HA) j _ _ hv hm;have e1:=cj eg;rcases ae DA with⟨h1,_⟩|⟨S,cap,h1,hKS,hcell⟩
   ·rw [h1]at hj';simp at hj'
   injection h1 with h2 h3 h4
   subst h2 h4;have hWr:Below W.heap.size W wr:=(ae HV).trans (((ae BA).trans ((ae AA).mono (Nat.le_of_lt hs0))).mono hWV);have hcl:wr.cell? ⟨S,j,none⟩=some (.func (.func g) #[] lb):=(hWr.cell (p:=⟨S,j,none⟩) ((ae FA) S hKS)).trans ((hcell j _ hv).trans (by rw [hvj]));have hnb:=((ae AA).block V.heap.size hs0).trans (ae GA);have n0:wr.cell? ⟨V.heap.size,0,none⟩=some (.int .i64 a):=ag hnb;have n1:wr.cell? ⟨V.heap.size,1,none⟩=some (.int .i64 l):=ag hnb;have HC:=af (hc wr a l hWr);have HJ:=af hm;generalize ms[j]=mj at *;clear hcell hc eg hvj hm hv h3 hWr hnb;cases hx:mj a l with
   | true =>
    rw [hx]at HC
    have hU:my ms a l=true:=by
     rw [ae HU,List.any_eq_true];exact⟨mj,List.mem_of_getElem? (ae HJ),hx⟩
    have EA:=af hU;clear hU;go_wp2_with (go_at_fn g;refine(ae HC).mono ?_;rintro e w1 ⟨rfl,hb1⟩;have CA:=af hb1;clear hb1)
    go_ret;refine⟨aO (ae EA).symm,?_⟩;have hA:=(ae BA).trans ((ae AA).mono (Nat.le_of_lt hs0));exact hA.trans ((ae CA).mono hA.size)
   | false =>
    rw [hx]at HC;go_wp2_with (go_at_fn g;refine(ae HC).mono ?_;rintro e w1 ⟨rfl,hb1⟩;have CA:=af hb1;clear hb1)
    go_roundw
    case rel =>
     refine⟨j+1,by omega,by go_num,λ i m hi hm=>?_,(ae AA).trans ((ae CA).mono (ae AA).size)⟩;rcases Nat.lt_or_ge i j with h1|h1
     ·exact(ae HF) i m h1 hm
     obtain rfl:i=j:=by omega
     rw [ae HJ]at hm;cases hm;exact hx
    case measure=>simp [intOf];omega
  have hU:my ms a l=false:=by
   rw [ae HU,List.any_eq_false];intro m hm;obtain⟨i,hi,rfl⟩:=List.mem_iff_getElem.1 hm;have:=(ae HF) i ms[i] (by omega) (gW hi);simp [this]
  have EA:=af hU;clear hU;go_wp2_with fail;go_ret;exact⟨aO (ae EA).symm,(ae BA).trans ((ae AA).mono (Nat.le_of_lt hs0))⟩
theorem Ee(w:World)(a:Option Addr)(n c:Nat) :
  Calls prog 182 #[.slice a n c] w λ e w'=>e=.returned (.func (.func 214) #[] #[au w.heap.size 0])/\w'=w.alloc (aE (.slice a n c) 268):=by
 have hmf:∀(fn:Fn) (first cap:Array Value) (w:World),(Instr.makeFunc fn first cap).run prog w=.ok (.func fn first cap) w:=λ _ _ _ _=>rfl
 go_enter func182,ntmps182;go_wp2_with fail;go_ret;exact⟨rfl,rfl⟩
def sZ(ts:List ak):Prop:=∀ t∈ts,0<=t.len/\t.len<=32
def cL(ts:List ak)(st:RS):RS×dU :=
 if an ts (aC ts 3 st).1=2 then
  ((aM ts (aM ts (aC ts 3 st).2.len 32 (aC ts 3 st).1).2 32 (aM ts (aC ts 3 st).2.len 32 (aC ts 3 st).1).1).1,
   qo (aC ts 3 st).2.addr (aC ts 3 st).2.len (aM ts (aC ts 3 st).2.len 32 (aC ts 3 st).1).2 (aM ts (aM ts (aC ts 3 st).2.len 32 (aC ts 3 st).1).2 32 (aM ts (aC ts 3 st).2.len 32 (aC ts 3 st).1).1).2)
 else((aC ts 3 st).1,qo (aC ts 3 st).2.addr (aC ts 3 st).2.len (aC ts 3 st).2.len (aC ts 3 st).2.len)
theorem Hr{ts:List ak}(hL:sZ ts){st:RS}(hk:Ok ts st)(k:Int):0<=(aC ts k st).2.len/\(aC ts k st).2.len<=32:=by
 unfold aC;split
 ·exact hL _ (KF hk.next)
 exact⟨Int.le_refl _,by show(0:Int)<=32;decide⟩
def Im(pb:Nat)(ts:List ak)(w:World)(D O:Nat->Prop)(r:RS×dU)(e:Ending)(w':World):Prop :=
 ∃ v O',e=.returned v/\RA w' pb ts r.1 D O'/\Fr O w O' w'/\jD v/\KX w' (cW O' D w.heap.size) v r.2/\Ok ts r.1
theorem Nt(t:ak)(w:World):(Instr.field 140 (kh t) 4).run prog w=.ok (Dr t.addr t.len) w:=by kernel_rfl
theorem un{pb:Nat}{ts:List ak}(ht:bY ts){w:World}{st:RS}{D O:Nat->Prop}(h:RA w pb ts st D O)(hk:Ok ts st)(lo:Int) :
  Calls prog 213 #[au pb 0,.int .i64 lo] w λ e w'=>e=.returned (.int .i64 (aM ts lo 32 st).2)/\∃ O',RA w' pb ts (aM ts lo 32 st).1 D O'/\Fr O w O' w':=by
 have HW:=af (pd ht h hk lo 32);clear h hk ht;go_enter func213,ntmps213;go_wp2_with (go_at_call 196;refine(ae HW).mono ?_;rintro e w1 ⟨rfl,O1,hr1,hf1⟩;have HR:=af hr1;have HF:=af hf1;clear hr1 hf1)
 go_ret;exact⟨rfl,_,ae HR,ae HF⟩
theorem yJ{pb:Nat}{ts:List ak}(ht:bY ts)(hL:sZ ts){w:World}{st:RS}{D O:Nat->Prop}(h:RA w pb ts st D O)(hk:Ok ts st) :
  Calls prog 181 #[au pb 0] w (Im pb ts w D O (cL ts st)):=by
 have BA:=af (bL h hk ht 3);have AA:=af (bT (k:=3) hk ht (by decide));obtain⟨l0,l1⟩:=Hr hL hk 3
 have HD:Hid (cL ts st=if an ts (aC ts 3 st).1=2 then
  ((aM ts (aM ts (aC ts 3 st).2.len 32 (aC ts 3 st).1).2 32 (aM ts (aC ts 3 st).2.len 32 (aC ts 3 st).1).1).1,
   qo (aC ts 3 st).2.addr (aC ts 3 st).2.len (aM ts (aC ts 3 st).2.len 32 (aC ts 3 st).1).2 (aM ts (aM ts (aC ts 3 st).2.len 32 (aC ts 3 st).1).2 32 (aM ts (aC ts 3 st).2.len 32 (aC ts 3 st).1).1).2)
  else((aC ts 3 st).1,qo (aC ts 3 st).2.addr (aC ts 3 st).2.len (aC ts 3 st).2.len (aC ts 3 st).2.len)):=rfl
 have HT:=af ht;clear h hk ht hL;generalize aC ts 3 st=P at *;obtain⟨s1,t⟩:=P;dsimp only at AA HD l0 l1;have hfl:=Nt t;by_cases hn:an ts s1=2
 ·rw [aS hn]at HD;have HE:=af hn;have DA:=af (gO (a:=t.len) (b:=32) (ae AA) (ae HT));have EA:=af (λ(W:World) (D O:Nat->Prop) (h:RA W pb ts s1 D O)=>un (ae HT) h (ae AA) t.len);clear hn;generalize aM ts t.len 32 s1=A at *;obtain⟨s2,x⟩:=A;dsimp only at DA HD;have GA:=af (gO (a:=x) (b:=32) (ae DA) (ae HT));have FA:=af (λ(W:World) (D O:Nat->Prop) (h:RA W pb ts s2 D O)=>un (ae HT) h (ae DA) x);generalize aM ts x 32 s2=A at *;obtain⟨s3,y⟩:=A;dsimp only at GA HD;go_enter func181,ntmps181
  go_wp2_with (first
   | (go_at_call 139;refine(ae BA).mono ?_;clear BA;rintro e w1 ⟨rfl,O1,hr1,hf1⟩;dsimp only;have HR:=af (hr1.alloc (eY t.addr t.len));have HF:=af (hf1.alloc (eY t.addr t.len));have HN:=af (And.intro (cM w1 (eY t.addr t.len)) (show ¬O1 w1.heap.size from λ ho=>by have:=hr1.lt ho;omega));clear hr1 hf1)
   | (go_at_call 90;refine(cY (ae HR) (ae AA) (ae HT) (ae HE)).mono ?_;rintro e w2 ⟨rfl,hr2,hf2⟩;replace HN:=af (bH hf2 (ae HN).1 (ae HN).2);have n0:w2.cell? ⟨w1.heap.size,0,none⟩=some (.int .i64 t.addr):=ag (ae HN).1;have n1:w2.cell? ⟨w1.heap.size,1,none⟩=some (.int .i64 t.len):=ag (ae HN).1;replace HR:=af hr2;replace HF:=af ((ae HF).trans hf2);clear hr2 hf2)
   | (go_at_call 213;refine((ae EA) _ _ _ (ae HR)).mono ?_;clear EA;rintro e w3 ⟨rfl,O3,hr3,hf3⟩;replace HN:=af (bH hf3 (ae HN).1 (ae HN).2);replace HR:=af hr3;replace HF:=af ((ae HF).trans hf3);clear hr3 hf3;dsimp only)
   | (go_at_call 213;refine((ae FA) _ _ _ (ae HR)).mono ?_;clear FA;rintro e w4 ⟨rfl,O4,hr4,hf4⟩;replace HN:=af (bH hf4 (ae HN).1 (ae HN).2);have m0:w4.cell? ⟨w1.heap.size,0,none⟩=some (.int .i64 t.addr):=ag (ae HN).1;have m1:w4.cell? ⟨w1.heap.size,1,none⟩=some (.int .i64 t.len):=ag (ae HN).1;replace HR:=af hr4;replace HF:=af ((ae HF).trans hf4);clear hr4 hf4;dsimp only)
   | (go_at_call 212;refine(xE _ t.addr t.len x y l0 l1 _ ((ae HR).newFree (ae HF))).mono ?_;rintro e w5 ⟨v,rfl,hfv,rfl,hv⟩;replace HR:=af ((((ae HR).alloc (eY t.addr t.len)).alloc (aE (.int .i64 x) 3)).alloc (aE (.int .i64 y) 3));replace HF:=af ((((ae HF).alloc (eY t.addr t.len)).alloc (aE (.int .i64 x) 3)).alloc (aE (.int .i64 y) 3));have HV:=af hv;have CA:=af hfv;clear hv;rcases hfv with⟨f1,f2,f3,rfl⟩|rfl))
  all_goals
   go_ret;rw [ae HD];exact⟨_,_,rfl,ae HR,ae HF,ae CA,ae HV,ae GA⟩
 rw [aG hn]at HD;generalize hK:an ts s1=K at *;have HE:=af hK;have hn':(K==2)=false:=by simpa using hn
 clear hK;go_enter func181,ntmps181
 go_wp2_with (first
  | (go_at_call 139;refine(ae BA).mono ?_;clear BA;rintro e w1 ⟨rfl,O1,hr1,hf1⟩;dsimp only;have HR:=af (hr1.alloc (eY t.addr t.len));have HF:=af (hf1.alloc (eY t.addr t.len));have HN:=af (And.intro (cM w1 (eY t.addr t.len)) (show ¬O1 w1.heap.size from λ ho=>by have:=hr1.lt ho;omega));clear hr1 hf1)
  | (go_at_call 90;refine(cY (ae HR) (ae AA) (ae HT) (ae HE)).mono ?_;rintro e w2 ⟨rfl,hr2,hf2⟩;replace HN:=af (bH hf2 (ae HN).1 (ae HN).2);have n0:w2.cell? ⟨w1.heap.size,0,none⟩=some (.int .i64 t.addr):=ag (ae HN).1;have n1:w2.cell? ⟨w1.heap.size,1,none⟩=some (.int .i64 t.len):=ag (ae HN).1;replace HR:=af hr2;replace HF:=af ((ae HF).trans hf2);clear hr2 hf2)
  | (go_at_call 212;refine(xE _ t.addr t.len t.len t.len l0 l1 _ ((ae HR).newFree (ae HF))).mono ?_;rintro e w5 ⟨v,rfl,hfv,rfl,hv⟩;replace HR:=af ((((ae HR).alloc (eY t.addr t.len)).alloc (aE (.int .i64 t.len) 3)).alloc (aE (.int .i64 t.len) 3));replace HF:=af ((((ae HF).alloc (eY t.addr t.len)).alloc (aE (.int .i64 t.len) 3)).alloc (aE (.int .i64 t.len) 3));have HV:=af hv;have CA:=af hfv;clear hv;rcases hfv with⟨f1,f2,f3,rfl⟩|rfl))
 all_goals
  go_ret;rw [ae HD];exact⟨_,_,rfl,ae HR,ae HF,ae CA,ae HV,ae AA⟩
structure kL{α:Type}(T:TypeId)(Q:Value->α->(Nat->Prop)->World->Prop)(wr:World)(n0:Nat)(Ou D:Nat->Prop)(sv:Value)(acc:List α)(vs:List Value):Prop where
 own:wr.ownsRow 0 T 1 sv acc.length vs
 new:∀ k,sv.ownBlock=some k->n0<=k/\¬Ou k
 elt:∀(i:Nat) (v:Value) (o:α),vs[i]?=some v->acc[i]?=some o->ax wr (λ k=>cW Ou D n0 k/\sv.ownBlock≠some k) (Q v o)
section
variable {α:Type} {T:TypeId} {Q:Value->α->(Nat->Prop)->World->Prop}
theorem kL.fr{wr w1:World}{n0:Nat}{Ou O1 D:Nat->Prop}{sv:Value}{acc:List α}{vs:List Value}(h:kL T Q wr n0 Ou D sv acc vs)(hf:Fr Ou wr O1 w1):kL T Q w1 n0 O1 D sv acc vs:=by
 have hO:∀ k,k<wr.heap.size->¬Ou k->¬O1 k:=λ k hk hn ho=>by
  rcases hf.own k ho with h1|h1
  ·exact hn h1
  omega
 refine⟨ay h.own (λ k e=>hf.block k (h.own.lt k e).2 (h.new k e).2),λ k e=>⟨(h.new k e).1,hO k (h.own.lt k e).2 (h.new k e).2⟩,λ i v o hv ho=>?_⟩;exact(h.elt i v o hv ho).mono hf.size (λ k hk ha=>⟨hf.block k hk ha.1.1,⟨hO k hk ha.1.1,ha.1.2⟩,ha.2⟩) (λ _ _ h=>h)
theorem kL.alloc{wr:World}{n0:Nat}{Ou D:Nat->Prop}{sv:Value}{acc:List α}{vs:List Value}(h:kL T Q wr n0 Ou D sv acc vs)(o:Obj):kL T Q (wr.alloc o) n0 Ou D sv acc vs:=h.fr ((dw _ _).alloc o)
theorem kL.snoc{w1 w2:World}{n0 g cap:Nat}{O1 D:Nat->Prop}{sv v:Value}{acc:List α}{vs:List Value}{o:α}(h:kL T Q w1 n0 O1 D sv acc vs)(hO:∀ k,O1 k->k<w1.heap.size)(hn0:n0<=w1.heap.size)
  (hv:ax w1 (λ k=>cW O1 D n0 k/\sv.ownBlock≠some k) (Q v o)) (hg:w1.grownBy w2 sv.ownBlock) (hat:sv.ownBlock=some g\/w1.heap.size<=g)
  (hown:w2.ownsRow 0 T 1 (.slice (some ⟨g,0,none⟩) (acc.length+1) cap) (acc.length+1) (vs++[v])) :
  kL T Q w2 n0 O1 D (.slice (some ⟨g,0,none⟩) (acc.length+1) cap) (acc++[o]) (vs++[v]):=by
 have hvl:vs.length=acc.length:=by simpa using h.own.1
 have hmono:∀(x:Value) (p:α),ax w1 (λ k=>cW O1 D n0 k/\sv.ownBlock≠some k) (Q x p)->ax w2 (λ k=>cW O1 D n0 k/\(Value.slice (some ⟨g,0,none⟩) (acc.length+1) cap).ownBlock≠some k) (Q x p):=λ x p hx=>by
  refine hx.mono hg.size (λ k hk ha=>⟨hg.block k hk (λ e=>ha.2 e.symm),ha.1,λ e=>?_⟩) (λ _ _ h=>h);have e':g=k:=by simpa [Value.ownBlock]using e
  rcases hat with h1|h1
  ·exact ha.2 (by rw [h1,e'])
  omega
 refine⟨by rw [List.length_append];exact hown,λ k e=>?_,λ i x p hx hp=>?_⟩
 ·have e':g=k:=by simpa [Value.ownBlock]using e
  subst e';rcases hat with h1|h1
  ·exact h.new g h1
  exact⟨by omega,λ ho=>by have:=hO g ho;omega⟩
 rcases Nat.lt_or_ge i acc.length with hi|hi
 ·rw [List.getElem?_append_left (by omega)]at hx;rw [List.getElem?_append_left hi]at hp;exact hmono x p (h.elt i x p hx hp)
 rw [List.getElem?_append_right (by omega)]at hx;rw [List.getElem?_append_right hi]at hp
 have hi0:i-acc.length=0:=by
  rcases Ic (i-acc.length)with h1|h1
  ·exact h1
  rw [List.getElem?_eq_none (by simp;omega)]at hp;cases hp
 rw [hi0]at hp;rw [hvl,hi0]at hx;simp at hx hp;subst hx hp;exact hmono _ _ hv
theorem kL.one{w1:World}{n0:Nat}{O1 D:Nat->Prop}{v:Value}{o:α}(hv:ax w1 (cW O1 D n0) (Q v o))(hO:∀ k,O1 k->k<w1.heap.size)(hn0:n0<=w1.heap.size)(_h1c:v.cells=#[v]) :
  kL T Q (w1.alloc (.cells #[v] T)) n0 O1 D (.slice (some ⟨w1.heap.size,0,none⟩) 1 1) [o] [v]:=by
 refine⟨⟨rfl,inr ⟨w1.heap.size,1,#[v],rfl,dG _,cM w1 _,aL _,by unfold maxLen;omega,rfl,rfl⟩⟩,λ k e=>?_,λ i x p hx hp=>?_⟩
 ·have e':w1.heap.size=k:=by simpa [Value.ownBlock]using e
  subst e';exact⟨hn0,λ ho=>by have:=hO _ ho;omega⟩
 cases i with
 | zero =>
  simp at hx hp;subst hx hp
  exact hv.mono (by simp) (λ k hk ha=>⟨mC _ _ _ hk,ha,λ e=>by
   have e':w1.heap.size=k:=by simpa [Value.ownBlock]using e
   omega⟩) (λ _ _ h=>h)
 | succ i=>simp at hp
end
theorem Kj{w:World}{A:Nat->Prop}{sv:Value}{ms:List dU}{vs:List Value}(ho:w.ownsRow 0 218 1 sv ms.length vs)(hl:ms.length<=1000000)(hA:∀ k,sv.ownBlock=some k->A k)
  (hv:∀(i:Nat) (v:Value) (m:dU),vs[i]?=some v->ms[i]?=some m->KX w A v m):ax w A (Eq sv ms):=by
 have hvl:vs.length=ms.length:=by simpa using ho.1
 have hlast:∀ i:Fin ms.length,ax w A (sj (vs[i.1]'(by omega)) ms[i.1]):=λ i=>hv i.1 _ _ (gW (by omega)) (gW i.2)
 rcases ho.2 with⟨h1,h0⟩|⟨g,cap,cur,h1,hb,hg,hn,hm,hs,ht⟩
 ·refine ax.new (λ _=>False) (λ _ h=>h.elim) (λ W _ _=>⟨by omega,vs,by omega,inl ⟨List.eq_nil_of_length_eq_zero (by omega),h1⟩,λ i v m hi hm=>?_⟩);have hnil:ms=[]:=List.eq_nil_of_length_eq_zero (by omega);rw [hnil]at hm;simp at hm
 have hcell:∀(W:World),W.heap[g]?=w.heap[g]?->∀ i v,vs[i]?=some v->W.cell? ⟨g,i,none⟩=some v:=λ W hW i v hi=>by
  rw [ag (hW.trans hg),<-Array.getElem?_toList];rw [<-ht,List.getElem?_take]at hi;split at hi
  ·exact hi
  cases hi
 refine⟨λ k=>k=g\/∃ i:Fin ms.length,Classical.choose (hlast i) k,λ k hk=>?_,λ W hW hk=>?_⟩
 ·rcases hk with rfl|⟨i,hi⟩
  ·exact⟨ah hg,hA k (by rw [h1];rfl)⟩
  exact(Classical.choose_spec (hlast i)).1 k hi
 refine⟨by omega,vs,by omega,inr ⟨g,cap,by rw [h1,hvl],inl rfl,hcell W (hk g (inl rfl))⟩,λ i v m hi hm=>?_⟩
 have hi':i<ms.length:=by
  rcases Nat.lt_or_ge i ms.length with h|h
  ·exact h
  rw [List.getElem?_eq_none h]at hm;cases hm
 have e1:v=vs[i]:=by rw [gW (by omega)]at hi;exact(kd hi).symm
 have e2:m=ms[i]:=by rw [gW hi']at hm;exact(kd hm).symm
 subst e1 e2;obtain⟨g',lb,hq1,hq2,hq3⟩:=(Classical.choose_spec (hlast ⟨i,hi'⟩)).2 W hW (λ k h=>hk k (inr ⟨⟨i,hi'⟩,h⟩));exact⟨g',lb,hq1,hq2,hq3⟩
theorem Ef(w:World)(sv:Value)(ms:List dU)(A:Nat->Prop)(hA:∀ k,w.heap.size<=k->A k)(hs:ax w A (Eq sv ms))(hf:∃ a n c,sv=.slice a n c) :
  Calls prog 182 #[sv] w λ e w'=>∃ v,e=.returned v/\jD v/\w'=w.alloc (aE sv 268)/\KX w' A v (my ms):=by
 obtain⟨a,n,c,rfl⟩:=hf;refine(Ee w a n c).mono ?_;rintro e w' ⟨rfl,rfl⟩;refine⟨_,rfl,inl ⟨_,_,_,rfl⟩,rfl,?_⟩;have h1:ax (w.alloc (aE (.slice a n c) 268)) A (Eq (.slice a n c) ms):=hs.mono (by simp) (λ k hk ha=>⟨mC _ _ _ hk,ha⟩) (λ _ _ h=>h);refine ax.one h1 (λ k=>k=w.heap.size) (λ k hk=>⟨by subst hk;simp,hA k (by omega)⟩) (λ K1 hK1 q1 W hW hk=>?_);exact⟨_,_,rfl,Tryz.entUnion,λ V x y hV=>Hx W _ _ ms K1 (λ k hk1=>gY (hK1 k hk1).1 hW) (mF (hk _ (inr rfl)) (cM w _)) (q1 W hW (λ k h=>hk k (inl h))) V hV x y⟩
def fe(ts:List ak):Nat->RS->List dU->Option (RS×List dU)
 | 0,_,_=>none
 | n+1,st,l=>if an ts st=28 then fe ts n (cL ts (b9 ts st)).1 (l++[(cL ts (b9 ts st)).2])else some (st,l)
def iv(ts:List ak)(n:Nat)(st:RS):Option (RS×dU) :=
 match fe ts n (cL ts (aC ts 29 st).1).1 [(cL ts (aC ts 29 st).1).2]with
 | none=>none
 | some (s,l)=>some ((aC ts 30 s).1,my l)
theorem yV{ts:List ak}{k:Nat}{st:RS}{l:List dU}{r:RS×List dU}(h:fe ts k st l=some r):∃ g,k=g+1:=by
 cases k with
 | zero=>cases h
 | succ g=>exact⟨g,rfl⟩
theorem Tryz.infoSet:(prog.info? 218).map (λ i=>(i.zero,i.size,i.bytes))=some (some .nilFunc,1,8):=by kernel_rfl
theorem Bf{pb:Nat}{ts:List ak}(ht:bY ts)(hL:sZ ts)(n:Nat)(hn:n<=1000){w:World}{st:RS}{D O:Nat->Prop}{r:RS×dU}(h:RA w pb ts st D O)(hk:Ok ts st)(hr:iv ts n st=some r) :
  Calls prog 140 #[au pb 0] w (Im pb ts w D O r):=by
 unfold iv at hr
 obtain⟨r1,hr1,hr2⟩:∃ r1,fe ts n (cL ts (aC ts 29 st).1).1 [(cL ts (aC ts 29 st).1).2]=some r1/\r=((aC ts 30 r1.1).1,my r1.2):=by
  split at hr
  ·cases hr
  rename_i s l hx;exact⟨(s,l),hx,(kd hr).symm⟩
 obtain⟨i0,hi0,hz0,hz1,hz2⟩:=info_parts Tryz.infoSet;have NA:=af (bL h hk ht 29);have HK1:=bT (k:=29) hk ht (by decide);have LA:=af (λ(W:World) (D O:Nat->Prop) (su:RS) (h:RA W pb ts su D O) (hk:Ok ts su)=>yJ ht hL h hk);have JA:=af HK1;have HH:=af h;have HT:=af ht;have HL:=af hr1;clear h hk ht hL hr hr1 HK1;subst hr2;generalize aC ts 29 st=P at *;obtain⟨s1,t1⟩:=P;dsimp only at JA HL;generalize hRR:cL ts s1=RR at *;obtain⟨s2,m2⟩:=RR;dsimp only at HL;go_enter func140,ntmps140
 go_wp2_with (first
  | (go_at_call 139;refine(ae NA).mono ?_;clear NA;rintro e w1 ⟨rfl,O1,hr1,hf1⟩;dsimp only;have HR:=af hr1;have HF:=af hf1;clear hr1 hf1)
  | (go_at_call 181;refine((ae LA) _ _ _ _ (ae HR) (ae JA)).mono ?_;rw [hRR];rintro e w2 ⟨v,O2,rfl,hr2,hf2,hfv,hv,hk2⟩;obtain⟨K0,g0,lb0,hv0,_⟩:=ax.now hv;have HV:=af (ax.fr hv (dw _ _) (ae HF).size);replace HF:=af ((ae HF).trans hf2);replace HR:=af hr2;have GA:=af hk2;clear hr2 hf2 hv hk2 hfv;subst hv0))
 have EA:=af (kL.one (T:=218) (Q:=sj) (ae HV) (λ k ho=>(ae HR).lt ho) (ae HF).size rfl);have MA:=af ((ae HR).alloc (aE (.func (.func g0) #[] lb0) 218));have FA:=af ((ae HF).alloc (aE (.func (.func g0) #[] lb0) 218));clear HV HR HF;go_loopg [3] n (λ k s3 wr=>∃(su:RS) (acc:List dU) (vs:List Value) (Ou:Nat->Prop),acc.length+k<=n+1/\RA wr pb ts su D Ou/\Fr O w Ou wr/\kL 218 sj wr w.heap.size Ou D s3 acc vs/\Ok ts su/\fe ts k su acc=some r1)
 case atStart=>exact⟨s2,[m2],_,O2,by simp;omega,ae MA,ae FA,ae EA,ae GA,ae HL⟩
 case round =>
  clear EA MA FA GA HL;obtain⟨su,acc,vs,Ou,hlen,hr,hf,hacc,hk,hl⟩:=hrel;obtain⟨g,rfl⟩:=yV hl;obtain⟨sa,sc,hsv⟩:=al hacc.own;subst hsv;have hln:acc.length<=1001:=by omega
  by_cases h28:an ts su=28
  ·have hl':fe ts g (cL ts (b9 ts su)).1 (acc++[(cL ts (b9 ts su)).2])=some r1:=by rw [fe,aS h28]at hl;exact hl
   have CA:=af (bP hr hk (ae HT) 28 h28);have UA:=af (bV hk (ae HT) h28 (by decide));have KA:=af hl';have HF:=af hf;have HA:=af hacc;generalize hRR2:cL ts (b9 ts su)=RR2 at *;obtain⟨s5,m5⟩:=RR2;dsimp only at KA;clear hr hf hacc hk hl hl' h28
   go_wp2_with (first
    | (go_at_call 137;refine(ae CA).mono ?_;clear CA;rintro e w3 ⟨rfl,O3,hr3,hf3⟩;have HR:=af hr3;replace HA:=af ((ae HA).fr hf3);replace HF:=af ((ae HF).trans hf3);clear hr3 hf3)
    | (go_at_call 181;refine((ae LA) _ _ _ _ (ae HR) (ae UA)).mono ?_;rw [hRR2];rintro e w4 ⟨v,O4,rfl,hr4,hf4,hfv,hv,hk4⟩;obtain⟨K1,g1,lb1,hv1,_⟩:=ax.now hv;have hlt3:=((ae HA).own.lt);have HV:=af (show ax w4 (λ k=>cW O4 D w.heap.size k/\(Value.slice sa acc.length sc).ownBlock≠some k) (sj v m5)from hv.mono (aL _) (λ k _ ha=>⟨rfl,⟨ha.1,ha.2.imp id (λ h=>by have:=(ae HF).size;omega)⟩,λ e=>by rcases ha.2 with h1|h1;(have h2:=((ae HA).new k e).1;have h3:=((ae HH).free h1).1;omega);(have h2:=(hlt3 k e).2;omega)⟩) (λ _ _ h=>h));replace HA:=af ((ae HA).fr hf4);replace HF:=af ((ae HF).trans hf4);replace HR:=af hr4;have TA:=af hk4;clear hr4 hf4 hv hk4 hfv hlt3;subst hv1;have AA:=af ((ae HA).alloc (aE (.func (.func g1) #[] lb1) 218));have DA:=af ((ae HR).alloc (aE (.func (.func g1) #[] lb1) 218));have OA:=af ((ae HV).mono (bE w4 (aE (.func (.func g1) #[] lb1) 218) (λ k=>cW O4 D w.heap.size k/\(Value.slice sa acc.length sc).ownBlock≠some k)).1 (bE w4 (aE (.func (.func g1) #[] lb1) 218) _).2 (λ _ _ h=>h)))
    | (at_builtin;refine wpList_append_lies _ rfl _ _ _ rfl 0 218 i0 _ 1 8 underlying268 hi0 hz0 hz1 hz2 rfl (by omega) (.slice sa acc.length sc) acc.length vs rfl (ae AA).own ⟨w4.heap.size,0,none⟩ 1 1 [.func (.func g1) #[] lb1] rfl rfl (World.news_of_block (cs:=#[.func (.func g1) #[] lb1]) (t:=218) (fr:=(0,0)) (cM _ _)) (by simp [Value.oneCell']) (by omega) (by simp [maxLen];omega) (by omega) (dG _) (w4.heap.size+1) (by simp) ?_;intro gg cap w5 hown hgrow hat hltg))
   have VA:=af ((ae DA).grown hgrow (λ k e=>⟨((ae AA).new k e).2,λ hd=>by have h1:=((ae AA).new k e).1;have h2:=((ae HH).free hd).1;omega⟩));have QA:=af (((ae HF).alloc (aE (.func (.func g1) #[] lb1) 218)).grown hgrow (λ k e=>inr ((ae AA).new k e).1));have PA:=af (kL.snoc (ae AA) (λ k ho=>(ae DA).lt ho) (by have:=(ae HF).size;simp;omega) (ae OA) hgrow (hat.imp id (λ h=>by simp;omega)) hown);clear hown hgrow hat hltg DA AA OA HV HA;go_roundg g
   case measure=>omega
   case rel=>exact⟨s5,acc++[m5],_,O4,by rw [List.length_append,List.length_singleton];omega,ae VA,ae QA,ae PA,ae TA,ae KA⟩
  have hl':(su,acc)=r1:=by rw [fe,aG h28]at hl;exact kd hl
  have CA:=af (aH hr hk (ae HT) 28 h28);have HF:=af hf;have HA:=af hacc;have HK:=af hk;have BA:=af (λ(W:World) (h:RA W pb ts su D Ou)=>bL h hk (ae HT) 30);have IA:=af (bT (k:=30) hk (ae HT) (by decide));subst hl';dsimp only;generalize aC ts 30 su=P2 at *;obtain⟨s6,t6⟩:=P2;dsimp only at IA ⊢;clear hr hf hacc hk hl h28
  go_wp2_with (first
   | (go_at_call 137;refine(ae CA).mono ?_;clear CA;rintro e w3 ⟨rfl,hr3,hf3⟩;have HR:=af hr3;replace HA:=af ((ae HA).fr hf3);replace HF:=af ((ae HF).trans hf3);clear hr3 hf3)
   | (go_at_call 139;refine((ae BA) _ (ae HR)).mono ?_;clear BA;rintro e w4 ⟨rfl,O4,hr4,hf4⟩;dsimp only;replace HR:=af hr4;replace HA:=af ((ae HA).fr hf4);replace HF:=af ((ae HF).trans hf4);clear hr4 hf4)
   | (go_at_call 182;refine(Ef w4 _ acc (cW O4 D w.heap.size) ((ae HR).newFree (ae HF)) (Kj (ae HA).own (by omega) (λ k e=>⟨((ae HA).new k e).2,inr ((ae HA).new k e).1⟩) (λ i v o h1 h2=>((ae HA).elt i v o h1 h2).mono (aL _) (λ k _ ha=>⟨rfl,ha.1⟩) (λ _ _ h=>h))) ⟨_,_,_,rfl⟩).mono ?_;rintro e w5 ⟨v,rfl,hfv,rfl,hv⟩;obtain⟨K1,g1,lb1,hv1,_⟩:=ax.now hv;have HV:=af hv;have SA:=af hfv;clear hv hfv;subst hv1))
  go_ret;exact⟨_,_,rfl,(ae HR).alloc _,(ae HF).alloc _,ae SA,ae HV,ae IA⟩
structure wh(w:World)(dv:Value)(xs:List (ByteArray×Value×Value)):Prop where
 form:∃ q c,dv=.slice q xs.length c
 len:xs.length<=maxLen
 cell:∀ g c,dv=.slice (some ⟨g,0,none⟩) xs.length c->g<w.heap.size/\∀(i:Nat) (x:ByteArray×Value×Value),xs[i]?=some x->w.cell? ⟨g,i*3,none⟩=some (.string x.1)/\w.cell? ⟨g,i*3+1,none⟩=some x.2.1/\w.cell? ⟨g,i*3+2,none⟩=some x.2.2
 some_:xs≠[]->∃ g c,dv=.slice (some ⟨g,0,none⟩) xs.length c
 fn:∀ x∈xs,jD x.2.1/\jD x.2.2
theorem wh.below{w w':World}{dv:Value}{xs:List (ByteArray×Value×Value)}(h:wh w dv xs)(hb:Below w.heap.size w w'):wh w' dv xs :=
 ⟨h.form,h.len,λ g c e=>⟨gY (h.cell g c e).1 hb.size,λ i x hx=>by
  obtain⟨h1,h2,h3⟩:=(h.cell g c e).2 i x hx;have hl:=(h.cell g c e).1;exact⟨(hb.cell (p:=⟨g,i*3,none⟩) hl).trans h1,(hb.cell (p:=⟨g,i*3+1,none⟩) hl).trans h2,(hb.cell (p:=⟨g,i*3+2,none⟩) hl).trans h3⟩⟩,h.some_,h.fn⟩
theorem pN:∀{xs:List (ByteArray×Value×Value)} {i:Nat} {x:ByteArray×Value×Value},xs[i]?=some x->(dr xs)[i*3]?=some (.string x.1)/\(dr xs)[i*3+1]?=some x.2.1/\(dr xs)[i*3+2]?=some x.2.2
 | [],i,x,h=>by simp at h
 | y::l,0,x,h=>by
  simp at h;subst h;exact⟨rfl,rfl,rfl⟩
 | y::l,i+1,x,h=>by
  have:=pN (xs:=l) (i:=i) (x:=x) (by simpa using h)
  have e:∀ k,(dr (y::l))[(i+1)*3+k]?=(dr l)[i*3+k]?:=λ k=>by
   rw [show(i+1)*3+k=(i*3+k)+3 by omega];rfl
  exact⟨(e 0).trans this.1,(e 1).trans this.2.1,(e 2).trans this.2.2⟩
theorem lG.fnv{w:World}{A:Nat->Prop}{d:i8}{x:ByteArray×Value×Value}(h:lG w A d x):jD x.2.1/\jD x.2.2:=by
 obtain⟨_,h2,h3⟩:=h
 constructor
 ·cases hs:d.set with
  | none=>rw [hs]at h2;exact inr h2
  | some m =>
   rw [hs]at h2;obtain⟨K,g,lb,h4,_⟩:=ax.now h2;exact inl ⟨_,_,_,h4⟩
 cases hs:d.way with
 | none=>rw [hs]at h3;exact inr h3
 | some m =>
  rw [hs]at h3;obtain⟨K,g,lb,h4,_⟩:=ax.now h3;exact inl ⟨_,_,_,h4⟩
theorem RA.defsV{w:World}{pb:Nat}{ts:List ak}{st:RS}{D O:Nat->Prop}(h:RA w pb ts st D O) :
  ∃ dv xs,w.cell? ⟨pb,3,none⟩=some dv/\wh w dv xs/\xs.length=st.defs.length/\∀(i:Nat) (d:i8) (x:ByteArray×Value×Value),st.defs[i]?=some d->xs[i]?=some x->lG w (λ k=>¬O k/\D k) d x:=by
 obtain⟨tb,tc,dv,av,bv,h,rfl⟩:=h;obtain⟨xs,h1,h2,h3⟩:=h.defs
 have hfn:∀ x∈xs,jD x.2.1/\jD x.2.2:=λ x hx=>by
  obtain⟨i,hi,rfl⟩:=List.mem_iff_getElem.1 hx;exact(h3 i st.defs[i] xs[i] (gW (by omega)) (gW hi)).fnv
 refine⟨dv,xs,ag h.blk,?_,h2,h3⟩;rcases h1.2 with⟨e1,e0⟩|⟨g,cap,cur,e1,_,hg,hn,hm,hs,htk⟩
 ·refine⟨⟨none,0,by rw [e1,h2,e0]⟩,by unfold maxLen;omega,λ g c e=>(by rw [e1]at e;cases e),λ hne=>absurd (List.eq_nil_of_length_eq_zero (by omega)) hne,hfn⟩
 refine⟨⟨_,cap,by rw [e1,h2]⟩,by omega,λ g' c' e=>?_,λ _=>⟨g,cap,by rw [e1,h2]⟩,hfn⟩;rw [e1]at e
 injection e with e2
 injection e2 with e3
 injection e3 with e4
 subst e4;refine⟨ah hg,λ i x hx=>?_⟩;obtain⟨d1,d2,d3⟩:=pN hx;have hi:i<xs.length:=(List.getElem?_eq_some_iff.mp hx).1
 have get:∀ j v,j<xs.length*3->(dr xs)[j]?=some v->w.cell? ⟨g,j,none⟩=some v:=λ j v hj hv=>by
  rw [ag hg];rw [<-htk,List.getElem?_take,aS (by rw [<-h2];exact hj)]at hv;simpa using hv
 exact⟨get _ _ (by omega) d1,get _ _ (by omega) d2,get _ _ (by omega) d3⟩
theorem Da(W:World)(B:Nat)(name:ByteArray)(hb:W.cell? ⟨B,0,none⟩=some (.string name))(x:ByteArray×Value×Value)(hf:jD x.2.1/\jD x.2.2) :
  Calls prog 209 (#[.agg #[.string x.1,x.2.1,x.2.2]]++#[au B 0]) W λ e W'=>e=.returned (.bool (x.1.toList==name.toList))/\Below W.heap.size W W':=by
 obtain⟨n,v1,v2⟩:=x;have lB:=cS hb;dsimp only at hf ⊢;obtain⟨h1,h2⟩:=hf;rcases h1 with⟨f,a,b,rfl⟩|rfl<;>rcases h2 with⟨f',a',b',rfl⟩|rfl <;>
 ·go_enter func209,ntmps209;go_wp2_with fail;go_ret;exact⟨rfl,(aY _ _).alloc (aL _) _⟩
theorem Tryz.entIsDef:Enters prog 209:=enters_of func209 (by kernel_rfl) rfl
theorem As(W:World)(B:Nat)(name:ByteArray)(hb:W.cell? ⟨B,0,none⟩=some (.string name))(dv:Value)(xs:List (ByteArray×Value×Value))(hd:wh W dv xs) :
  Calls prog 235 #[dv,.func (.func 209) #[] #[au B 0]] W λ e W'=>∃ i:Int,e=.returned (.int .i64 i)/\(0<=i↔xs.any (λ x=>x.1.toList==name.toList)=true)/\Below W.heap.size W W':=by
 obtain⟨q,c,rfl⟩:=hd.form;have e1:=cj Tryz.entIsDef;have HD:=af hd;have HB:=af hb;have hln:=hd.len;unfold maxLen at hln;clear hd hb;go_enter func235,ntmps235;go_wp2_with fail;go_loopw [8] (λ i wr=>∃ j:Nat,j<=xs.length/\i=.int .i64 (j:Nat)/\Hid (∀ i x,i<j->xs[i]?=some x->(x.1.toList==name.toList)=false)/\Below W.heap.size W wr) (λ i _=>xs.length-(intOf i).toNat)
 case atStart=>exact⟨0,dG _,rfl,λ i m hi=>absurd hi (Nat.not_lt_zero _),aY _ _⟩
 case round =>
  obtain⟨j,hj,rfl,HF,hbl⟩:=hrel;have BA:=af hbl;clear hbl;by_cases hlt:j<xs.length
  ·obtain⟨g,c',hq⟩:=(ae HD).some_ (λ e=>by rw [e]at hlt;simp at hlt)
   injection hq with hq1 hq2 hq3
   subst hq1 hq3;obtain⟨hgl,hcell⟩:=((ae HD).below (ae BA)).cell g c rfl;have hx:xs[j]?=some xs[j]:=gW hlt;obtain⟨k1,k2,k3⟩:=hcell j _ hx;have hfn:=(ae HD).fn xs[j] (ej _);have HX:=af hx;have HC:=af (Da wr B name (((ae BA).cell (p:=⟨B,0,none⟩) (cS (ae HB))).trans (ae HB)) xs[j] hfn);clear hcell hx;generalize xs[j]=X at *;obtain⟨n,v1,v2⟩:=X;dsimp only at HC k1 k2 k3 hfn;obtain⟨h1,h2⟩:=hfn;cases hE:n.toList==name.toList with
   | true =>
    rw [hE]at HC
    have AA:=af (show xs.any (λ x=>x.1.toList==name.toList)=true by
     rw [List.any_eq_true];exact⟨_,List.mem_of_getElem? (ae HX),hE⟩)
    rcases h1 with⟨f,a,b,rfl⟩|rfl<;>rcases h2 with⟨f',a',b',rfl⟩|rfl <;>
    ·go_wp2_with (go_at_fn 209;refine(ae HC).mono ?_;rintro e w1 ⟨rfl,hb1⟩;have CA:=af hb1;clear hb1)
     go_ret;exact⟨_,rfl,⟨λ _=>ae AA,λ _=>by omega⟩,(ae BA).trans ((ae CA).mono (ae BA).size)⟩
   | false =>
    rw [hE]at HC;rcases h1 with⟨f,a,b,rfl⟩|rfl<;>rcases h2 with⟨f',a',b',rfl⟩|rfl <;>
    ·go_wp2_with (go_at_fn 209;refine(ae HC).mono ?_;rintro e w1 ⟨rfl,hb1⟩;have CA:=af hb1;clear hb1)
     refine⟨⟨j+1,by omega,by go_num,λ i m hi hm=>?_,(ae BA).trans ((ae CA).mono (ae BA).size)⟩,by simp [intOf];omega⟩;rcases Nat.lt_or_ge i j with h1|h1
     ·exact(ae HF) i m h1 hm
     obtain rfl:i=j:=by omega
     rw [ae HX]at hm;cases hm;exact hE
  have AA:=af (show ¬xs.any (λ x=>x.1.toList==name.toList)=true by
   intro h;rw [List.any_eq_true]at h;obtain⟨x,hx,he⟩:=h;obtain⟨i,hi,rfl⟩:=List.mem_iff_getElem.1 hx;have:=(ae HF) i xs[i] (by omega) (gW hi);rw [this]at he;cases he)
  go_wp2_with fail;go_ret;exact⟨_,rfl,⟨λ h=>by omega,λ h=>absurd h (ae AA)⟩,ae BA⟩
theorem yo(W:World)(B:Nat)(name:ByteArray)(hb:W.cell? ⟨B,0,none⟩=some (.string name))(dv:Value)(xs:List (ByteArray×Value×Value))(hd:wh W dv xs) :
  Calls prog 208 #[dv,.func (.func 209) #[] #[au B 0]] W λ e W'=>e=.returned (.bool (xs.any (λ x=>x.1.toList==name.toList)))/\Below W.heap.size W W':=by
 have HI:=af (As W B name hb dv xs hd);obtain⟨q,c,rfl⟩:=hd.form;clear hb hd;generalize xs.any (λ x=>x.1.toList==name.toList)=b at *;go_enter func208,ntmps208;go_wp2_with (go_at_call 235;refine(ae HI).mono ?_;rintro e w1 ⟨i,rfl,hi,hb1⟩;have AA:=af hb1;have BA:=af hi;clear hb1 hi)
 go_ret;refine⟨aO ?_,ae AA⟩;have h:=ae BA;cases b with
 | true=>exact Fh (h.2 rfl)
 | false=>exact Cf (λ hh=>by have:=h.1 hh;cases this)
theorem oD{w:World}{pb:Nat}{ts:List ak}{st:RS}{D O:Nat->Prop}(h:RA w pb ts st D O)(name:ByteArray) :
  Calls prog 179 #[au pb 0,.string name] w λ e w'=>e=.returned (.bool (j0 st name))/\Below w.heap.size w w':=by
 have hmf:∀(fn:Fn) (first cap:Array Value) (w:World),(Instr.makeFunc fn first cap).run prog w=.ok (.func fn first cap) w:=λ _ _ _ _=>rfl
 obtain⟨dv,xs,hc,hd,hl,hrep⟩:=h.defsV;have hlt:=cS hc;have hbe:Below w.heap.size w (w.alloc (aE (.string name) 9)):=(aY _ _).alloc (aL _) _;have HC:=af (yo (w.alloc (aE (.string name) 9)) w.heap.size name (ag (cM w _)) dv xs (hd.below hbe));obtain⟨q,c,rfl⟩:=hd.form
 have hany:xs.any (λ x=>x.1.toList==name.toList)=j0 st name:=by
  unfold j0
  have hm:xs.map (·.1)=st.defs.map (·.name):=by
   refine List.ext_getElem (by simp [hl]) (λ i h1 h2=>?_);simp only [List.length_map]at h1 h2;simp only [List.getElem_map];exact(hrep i _ _ (gW h2) (gW h1)).1
  have e1:xs.any (λ x=>x.1.toList==name.toList)=(xs.map (·.1)).any (λ n=>n.toList==name.toList):=by rw [List.any_map];rfl
  have e2:st.defs.any (λ d=>d.name.toList==name.toList)=(st.defs.map (·.name)).any (λ n=>n.toList==name.toList):=by rw [List.any_map];rfl
  rw [e1,e2,hm]
 rw [hany]at HC;have AA:=af hbe;clear h hd hl hrep hany hbe;go_enter func179,ntmps179;go_wp2_with (go_at_call 208;refine(ae HC).mono ?_;rintro e w1 ⟨rfl,hb1⟩;have BA:=af hb1;clear hb1)
 go_ret;exact⟨rfl,(ae AA).trans ((ae BA).mono (ae AA).size)⟩
theorem nC{w:World}{pb:Nat}{ts:List ak}{st:RS}{D O:Nat->Prop}(h:RA w pb ts st D O)(x:Int) :
  Calls prog 154 #[au pb 9,.int .i64 x] w λ e w'=>e=.returned (.tuple #[])/\RA w' pb ts (eJ st x) D O/\Fr O w O w':=by
 obtain⟨tb,tc,dv,av,bv,h,rfl⟩:=h;refine(vu w pb 9 st.nam x _ h.blk rfl rfl).mono ?_;rintro e w' ⟨rfl,rfl⟩;refine⟨rfl,?_⟩;cases hs:st.nam with
 | none =>
  refine⟨⟨tb,tc,dv,av,bv,h.synSet (o:=9) _ (eJ st x) rfl rfl ?_,rfl⟩,((dw _ _).setCell (inl (inl rfl)) _).setCell (inl (inl rfl)) _⟩;simp [iw,eJ,hs,qw,sB,A0]
 | some y =>
  have e:eJ st x=st:=by simp [eJ,hs,qw];rw [<-hs]
  rw [e];exact⟨⟨tb,tc,dv,av,bv,h,rfl⟩,dw _ _⟩
