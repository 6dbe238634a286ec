/- part -/
import Derived.Test.YtgdeeodifnegiaaGreatDoorRdrF
import Derived.Deep.LoopGhost
set_option maxRecDepth 100000
set_option maxHeartbeats 4000000
namespace Go.Proofs.YtgdeeodifnegiaaGreatDoor
open Go.Proofs.Tryz
open Or
open Go.RowKit
abbrev iK:=@List.getElem?_eq_getElem
def kV(pb:Nat)(ts:List aw)(w:World)(D O:Nat->Prop)(r:RS×Option bh)(e:Ending)(w':World):Prop :=
 ∃ v O',e=.returned v/\RA w' pb ts r.1 D O'/\Fr O w O' w'/\iy w' (dk O' D w.heap.size) v r.2/\Ok ts r.1
def yw(pb:Nat)(ts:List aw)(tw:RS->Option (RS×Option bh)):Prop:=∀(w:World) (st:RS) (D O:Nat->Prop) (r:RS×Option bh),RA w pb ts st D O->Ok ts st->tw st=some r->Calls prog 315 #[ay pb 0] w (kV pb ts w D O r)
def iN(pb:Nat)(ts:List aw)(tw:RS->Option (RS×Option bh)):Prop:=∀(w:World) (st:RS) (D O:Nat->Prop) (r:RS×Option bh),RA w pb ts st D O->Ok ts st->tw st=some r->Calls prog 271 #[ay pb 0] w (kV pb ts w D O r)
theorem dR{w:World}{pb:Nat}{ts:List aw}{st:RS}{D O:Nat->Prop}(h:RA w pb ts st D O)(hk:Ok ts st)(ht:cE ts){k:Int}(e:am ts st=k) :
  Calls prog 170 #[ay pb 0] w λ e w'=>e=.returned (.int .i64 k)/\RA w' pb ts st D O/\Fr O w O w':=by
 refine(kH h hk.next ht.n1).mono ?_;rintro _ w' ⟨rfl,h1,h2,_⟩;rw [e];exact⟨rfl,h1,h2⟩
theorem RA.newFree{w w1:World}{pb:Nat}{ts:List aw}{st:RS}{D O O1:Nat->Prop}(h:RA w1 pb ts st D O1)(hf:Fr O w O1 w1):∀ k,w1.heap.size<=k->dk O1 D w.heap.size k :=
 λ k hk=>⟨(h.noNew hk).1,inr (by have:=hf.size;omega)⟩
theorem iy.fix{w:World}{A:Nat->Prop}{g:Nat}{m:bh}(e:Enters prog g)(h:∀(W:World) (b:Nat) (r:Rt) (pv mv:Value),dK W b r pv mv->Calls prog g (#[ay b 0]++#[]) W λ e W'=>e=.returned (A5 (m r))/\W'=W):iy w A (.func (.func g) #[] #[]) (some m) :=
 az.new (λ _=>False) (λ _ h=>h.elim) (λ W _ _=>⟨g,#[],rfl,e,λ b r pv mv hr=>h W b r pv mv hr⟩)
theorem Tryz.entPref:Enters prog 343:=enters_of func343 (by kernel_rfl) rfl
theorem Tryz.entMed:Enters prog 344:=enters_of func344 (by kernel_rfl) rfl
theorem Tryz.entLen:Enters prog 345:=enters_of func345 (by kernel_rfl) rfl
theorem Md(t:aw)(w:World):(Instr.field 216 (eG t) 3).run prog w=.ok (.int .i64 t.number) w:=by kernel_rfl
theorem JG{pb:Nat}{ts:List aw}(ht:cE ts){w:World}{st:RS}{D O:Nat->Prop}(h:RA w pb ts st D O)(hk:Ok ts st)(e:am ts st=2) :
  Calls prog 315 #[ay pb 0] w (kV pb ts w D O (bg ts st,some (sY (bL ts st).number))):=by
 have HR:=ae h;have HF:=ae (bE O w);have HK:=ae hk;have HT:=ae ht;have HE:=ae e;have hfl:=Md (bL ts st);have OK:=ae (cu hk ht e (by decide));clear h hk ht e;go_enter func315,ntmps315
 go_wp2_with (first
  | (go_at_call 170;refine(dR (ab HR) (ab HK) (ab HT) (ab HE)).mono ?_;rintro e w1 ⟨rfl,hr1,hf1⟩;replace HR:=ae hr1;replace HF:=ae ((ab HF).trans hf1);clear hr1 hf1)
  | (go_at_call 213;refine(ut (ab HR) (ab HK) (ab HT).n1 (by rw [lO (ab HK).next];exact(ab HT).text _ (ab HK).next) _ (ab HE)).mono ?_;rintro e w1 ⟨rfl,O1,hr1,hf1⟩;replace HR:=ae hr1;replace HF:=ae ((ab HF).trans hf1);clear hr1 hf1)
  | (go_at_call 342;refine(xi _ _ _ ((ab HR).newFree (ab HF) _ (aD _))).mono ?_;rintro e w2 ⟨v,rfl,rfl,hv⟩;replace HR:=ae ((ab HR).alloc (.cells #[.int .i64 (bL ts st).number] 3));replace HF:=ae ((ab HF).alloc (.cells #[.int .i64 (bL ts st).number] 3));have HV:=ae hv;clear hv))
 go_ret;exact⟨_,_,rfl,ab HR,ab HF,ab HV,ab OK⟩
theorem Gf{pb:Nat}{ts:List aw}(ht:cE ts){w:World}{st:RS}{D O:Nat->Prop}(h:RA w pb ts st D O)(hk:Ok ts st)(e:am ts st=9) :
  Calls prog 315 #[ay pb 0] w (kV pb ts w D O (bg ts st,some DO)):=by
 have HR:=ae h;have HF:=ae (bE O w);have HK:=ae hk;have HT:=ae ht;have HE:=ae e;have OK:=ae (cu hk ht e (by decide));clear h hk ht e;go_enter func315,ntmps315
 go_wp2_with (first
  | (go_at_call 170;refine(dR (ab HR) (ab HK) (ab HT) (ab HE)).mono ?_;rintro e w1 ⟨rfl,hr1,hf1⟩;replace HR:=ae hr1;replace HF:=ae ((ab HF).trans hf1);clear hr1 hf1)
  | (go_at_call 211;refine(bY (ab HR) (ab HK) (ab HT) _ (ab HE)).mono ?_;rintro e w1 ⟨rfl,O1,hr1,hf1⟩;replace HR:=ae hr1;replace HF:=ae ((ab HF).trans hf1);clear hr1 hf1))
 go_ret;exact⟨_,_,rfl,ab HR,ab HF,iy.fix Tryz.entPref AF,ab OK⟩
theorem JF{pb:Nat}{ts:List aw}(ht:cE ts){w:World}{st:RS}{D O:Nat->Prop}(h:RA w pb ts st D O)(hk:Ok ts st)(e:am ts st=10) :
  Calls prog 315 #[ay pb 0] w (kV pb ts w D O (bg ts st,some Kw)):=by
 have HR:=ae h;have HF:=ae (bE O w);have HK:=ae hk;have HT:=ae ht;have HE:=ae e;have OK:=ae (cu hk ht e (by decide));have n9:=ae (show am ts st≠9 by rw [e];decide);clear h hk ht e;go_enter func315,ntmps315
 go_wp2_with (first
  | (go_at_call 170;refine(dR (ab HR) (ab HK) (ab HT) (ab HE)).mono ?_;rintro e w1 ⟨rfl,hr1,hf1⟩;replace HR:=ae hr1;replace HF:=ae ((ab HF).trans hf1);clear hr1 hf1)
  | (go_at_call 211;refine(aL (ab HR) (ab HK) (ab HT) 9 (ab n9)).mono ?_;rintro e w1 ⟨rfl,hr1,hf1⟩;replace HR:=ae hr1;replace HF:=ae ((ab HF).trans hf1);clear hr1 hf1 n9)
  | (go_at_call 211;refine(bY (ab HR) (ab HK) (ab HT) _ (ab HE)).mono ?_;rintro e w1 ⟨rfl,O1,hr1,hf1⟩;replace HR:=ae hr1;replace HF:=ae ((ab HF).trans hf1);clear hr1 hf1))
 go_ret;exact⟨_,_,rfl,ab HR,ab HF,iy.fix Tryz.entMed CL,ab OK⟩
theorem JE{pb:Nat}{ts:List aw}(ht:cE ts){w:World}{st:RS}{D O:Nat->Prop}(h:RA w pb ts st D O)(hk:Ok ts st)(e:am ts st=17) :
  Calls prog 315 #[ay pb 0] w (kV pb ts w D O (bg ts st,some Kp)):=by
 have HR:=ae h;have HF:=ae (bE O w);have HK:=ae hk;have HT:=ae ht;have HE:=ae e;have OK:=ae (cu hk ht e (by decide));have n9:=ae (show am ts st≠9 by rw [e];decide);have n10:=ae (show am ts st≠10 by rw [e];decide);clear h hk ht e;go_enter func315,ntmps315
 go_wp2_with (first
  | (go_at_call 170;refine(dR (ab HR) (ab HK) (ab HT) (ab HE)).mono ?_;rintro e w1 ⟨rfl,hr1,hf1⟩;replace HR:=ae hr1;replace HF:=ae ((ab HF).trans hf1);clear hr1 hf1)
  | (go_at_call 211;refine(aL (ab HR) (ab HK) (ab HT) 9 (ab n9)).mono ?_;rintro e w1 ⟨rfl,hr1,hf1⟩;replace HR:=ae hr1;replace HF:=ae ((ab HF).trans hf1);clear hr1 hf1 n9)
  | (go_at_call 211;refine(aL (ab HR) (ab HK) (ab HT) 10 (ab n10)).mono ?_;rintro e w1 ⟨rfl,hr1,hf1⟩;replace HR:=ae hr1;replace HF:=ae ((ab HF).trans hf1);clear hr1 hf1 n10)
  | (go_at_call 211;refine(bY (ab HR) (ab HK) (ab HT) _ (ab HE)).mono ?_;rintro e w1 ⟨rfl,O1,hr1,hf1⟩;replace HR:=ae hr1;replace HF:=ae ((ab HF).trans hf1);clear hr1 hf1))
 go_ret;exact⟨_,_,rfl,ab HR,ab HF,iy.fix Tryz.entLen CK,ab OK⟩
theorem ou{pb:Nat}{ts:List aw}(ht:cE ts){tw:RS->Option (RS×Option bh)}(IH:iN pb ts tw){w:World}{st:RS}{D O:Nat->Prop}(h:RA w pb ts st D O)(hk:Ok ts st)(e:am ts st=33){st1:RS}{a:Option bh}(hs:tw (dt ts 33 st)=some (st1,a)) :
  Calls prog 315 #[ay pb 0] w (kV pb ts w D O (gx ts 34 st1,a)):=by
 have HR:=ae h;have HF:=ae (bE O w);have HK:=ae hk;have HT:=ae ht;have HE:=ae e;have BA:=ae IH;have HS:=ae hs;have n9:=ae (show am ts st≠9 by rw [e];decide);have n10:=ae (show am ts st≠10 by rw [e];decide);have n17:=ae (show am ts st≠17 by rw [e];decide);clear h hk ht e IH hs;go_enter func315,ntmps315
 go_wp2_with (first
  | (go_at_call 170;refine(dR (ab HR) (ab HK) (ab HT) (ab HE)).mono ?_;rintro e w1 ⟨rfl,hr1,hf1⟩;replace HR:=ae hr1;replace HF:=ae ((ab HF).trans hf1);clear hr1 hf1)
  | (go_at_call 211;refine(aL (ab HR) (ab HK) (ab HT) 9 (ab n9)).mono ?_;rintro e w1 ⟨rfl,hr1,hf1⟩;replace HR:=ae hr1;replace HF:=ae ((ab HF).trans hf1);clear hr1 hf1 n9)
  | (go_at_call 211;refine(aL (ab HR) (ab HK) (ab HT) 10 (ab n10)).mono ?_;rintro e w1 ⟨rfl,hr1,hf1⟩;replace HR:=ae hr1;replace HF:=ae ((ab HF).trans hf1);clear hr1 hf1 n10)
  | (go_at_call 211;refine(aL (ab HR) (ab HK) (ab HT) 17 (ab n17)).mono ?_;rintro e w1 ⟨rfl,hr1,hf1⟩;replace HR:=ae hr1;replace HF:=ae ((ab HF).trans hf1);clear hr1 hf1 n17)
  | (go_at_call 309;refine(mC (ab HR) (ab HK) (ab HT) 33).mono ?_;rintro e w1 ⟨rfl,O1,hr1,hf1⟩;replace HR:=ae hr1;replace HF:=ae ((ab HF).trans hf1);clear hr1 hf1))
 refine((ab BA) _ _ _ _ _ (ab HR) (mB (ab HK) (ab HT) (by decide)) (ab HS)).mono ?_;rintro e w2 ⟨v,O2,rfl,hr2,hf2,hv2,hk2⟩;have F2:=ae ((ab HF).trans hf2);have AA:=ae hk2;have V2:=ae (hv2.mono (aD _) (A':=dk O2 D w.heap.size) (λ k _ ha=>⟨rfl,ha.1,ha.2.imp id (λ h=>kr (ab HF).size h)⟩));replace HR:=ae hr2;have hfv:=hv2.fnv;clear hr2 hf2 hv2 hk2 HF;rcases hfv with⟨f1,f2,f3,rfl⟩|rfl <;>
 ·go_wp2_with fail;refine(pD (ab HR) (ab AA) (ab HT) 34).mono ?_;rintro e w3 ⟨rfl,O3,hr3,hf3⟩;have CA:=ae hr3;have F3:=ae hf3;clear hr3 hf3;go_wp2_with fail;go_ret;refine⟨_,_,rfl,ab CA,(ab F2).trans (ab F3),(ab V2).mono (ab F3).size (λ k hk ha=>⟨(ab F3).block k hk ha.1,λ ho=>?_,ha.2⟩),pC (ab AA) (ab HT) (by decide)⟩;rcases(ab F3).own k ho with h1|h1
  ·exact ha.1 h1
  omega
theorem Ge{pb:Nat}{ts:List aw}(ht:cE ts){w:World}{st:RS}{D O:Nat->Prop}(h:RA w pb ts st D O)(hk:Ok ts st)(e2:am ts st≠2)(e9:am ts st≠9)(e10:am ts st≠10)(e17:am ts st≠17)(e33:am ts st≠33) :
  Calls prog 315 #[ay pb 0] w (kV pb ts w D O (cC ts st,none)):=by
 have HR:=ae h;have HF:=ae (bE O w);have HK:=ae hk;have HT:=ae ht;have n9:=ae e9;have n10:=ae e10;have n17:=ae e17;have b2:(am ts st==2)=false:=by simpa using e2
 have b33:(am ts st==33)=false:=by simpa using e33
 clear h hk ht e2 e9 e10 e17 e33;go_enter func315,ntmps315
 go_wp2_with (first
  | (go_at_call 170;refine(dR (ab HR) (ab HK) (ab HT) rfl).mono ?_;rintro e w1 ⟨rfl,hr1,hf1⟩;replace HR:=ae hr1;replace HF:=ae ((ab HF).trans hf1);clear hr1 hf1)
  | (go_at_call 211;refine(aL (ab HR) (ab HK) (ab HT) 9 (ab n9)).mono ?_;rintro e w1 ⟨rfl,hr1,hf1⟩;replace HR:=ae hr1;replace HF:=ae ((ab HF).trans hf1);clear hr1 hf1 n9)
  | (go_at_call 211;refine(aL (ab HR) (ab HK) (ab HT) 10 (ab n10)).mono ?_;rintro e w1 ⟨rfl,hr1,hf1⟩;replace HR:=ae hr1;replace HF:=ae ((ab HF).trans hf1);clear hr1 hf1 n10)
  | (go_at_call 211;refine(aL (ab HR) (ab HK) (ab HT) 17 (ab n17)).mono ?_;rintro e w1 ⟨rfl,hr1,hf1⟩;replace HR:=ae hr1;replace HF:=ae ((ab HF).trans hf1);clear hr1 hf1 n17)
  | (go_at_call 171;refine(gb (ab HR) (ab HK).next (ab HT).n1).mono ?_;rintro e w1 ⟨rfl,hr1,hf1⟩;replace HR:=ae hr1;replace HF:=ae ((ab HF).trans hf1);clear hr1 hf1))
 go_ret;exact⟨_,_,rfl,ab HR,ab HF,inr rfl,iV (ab HK)⟩
theorem iy.fr{w w':World}{O O' D:Nat->Prop}{n m:Nat}{v:Value}{o:Option bh}(h:iy w (dk O D n) v o)(hf:Fr O w O' w')(hm:m<=n):iy w' (dk O' D m) v o:=by
 cases o with
 | none=>exact h
 | some x=>exact az.fr h hf hm
theorem gH.fr{w w':World}{O O' D:Nat->Prop}{n m:Nat}{v:Value}{o:Option aQ}(h:gH w (dk O D n) v o)(hf:Fr O w O' w')(hm:m<=n):gH w' (dk O' D m) v o:=by
 cases o with
 | none=>exact h
 | some x=>exact az.fr h hf hm
theorem qz{ts:List aw}{tm:RS->Option (RS×Option bh)}{k:Nat}{st:RS}{a:Option bh}{r:RS×Option bh}(h:sumLp ts tm k st a=some r):∃ g,k=g+1:=by
 cases k with
 | zero=>rw [sumLp]at h;cases h
 | succ g=>exact⟨g,rfl⟩
theorem Au{pb:Nat}{ts:List aw}(ht:cE ts){tm:RS->Option (RS×Option bh)}(IH:yw pb ts tm)(n:Nat):iN pb ts (sumBy ts tm n):=by
 intro w st D O r h hk hr;unfold sumBy at hr;cases h1:tm st with
 | none=>rw [h1]at hr;cases hr
 | some p =>
  obtain⟨st1,a⟩:=p;rw [h1]at hr;have HL:=ae (show sumLp ts tm n st1 a=some r from hr);have HT:=ae ht;have GA:=ae IH;have H1:=ae (IH w st D O (st1,a) h hk h1);clear hr h hk h1 ht IH;go_enter func271,ntmps271;go_wp2_with fail;refine(ab H1).mono ?_;rintro e w1 ⟨v,O1,rfl,hr1,hf1,hv1,hk1⟩;have HR:=ae hr1;have HF:=ae hf1;have HV:=ae hv1;have HK:=ae hk1;clear hr1 hf1 hv1 hk1 H1;go_wp2_with fail;go_loopg [3] n (λ k v3 wr=>∃(su:RS) (o:Option bh) (Ou:Nat->Prop),RA wr pb ts su D Ou/\Fr O w Ou wr/\iy wr (dk Ou D w.heap.size) v3 o/\Ok ts su/\sumLp ts tm k su o=some r)
  case atStart=>exact⟨st1,a,O1,ab HR,ab HF,ab HV,ab HK,ab HL⟩
  case round =>
   clear HR HF HV HK HL;obtain⟨su,o,Ou,hr,hf,hv,hk,hl⟩:=hrel;obtain⟨g,rfl⟩:=qz hl;rw [sumLp]at hl;have HR:=ae hr;have HF:=ae hf;have HV:=ae hv;have HK:=ae hk;clear hr hf hv hk;by_cases e38:am ts su=38
   ·rw [aC e38]at hl;cases h2:tm (bg ts su)with
    | none=>rw [h2]at hl;cases hl
    | some p =>
     obtain⟨st2,b⟩:=p;rw [h2]at hl;have CA:=ae (show sumLp ts tm g st2 (rq o b 1)=some r from hl);have DA:=ae h2;have HE:=ae e38;clear hl h2 e38;go_wp2_with (first
  | (go_at_call 211;refine(bY (ab HR) (ab HK) (ab HT) 38 (ab HE)).mono ?_;rintro e w2 ⟨rfl,O2,hr2,hf2⟩;replace HV:=ae ((ab HV).fr hf2 (aD _));replace HR:=ae hr2;replace HF:=ae ((ab HF).trans hf2);clear hr2 hf2))
     refine((ab GA) _ _ _ _ _ (ab HR) (cu (ab HK) (ab HT) (ab HE) (by decide)) (ab DA)).mono ?_;rintro e w3 ⟨v3,O3,rfl,hr3,hf3,hv3,hk3⟩;replace HV:=ae ((ab HV).fr hf3 (aD _));have EA:=ae (hv3.fr (bE _ _) (ab HF).size);replace HR:=ae hr3;replace HF:=ae ((ab HF).trans hf3);have BA:=ae hk3;clear hr3 hf3 hv3 hk3;go_wp2_with fail;refine(zM _ _ _ _ _ 1 _ ((ab HR).newFree (ab HF)) (ab HV) (ab EA)).mono ?_;rintro e w4 ⟨v4,rfl,rfl,hv4⟩;have FA:=ae hv4;clear hv4;go_wp2_with fail;go_roundg g
     case measure=>omega
     case rel=>exact⟨st2,_,O3,(((ab HR).alloc _).alloc _).alloc _,(((ab HF).alloc _).alloc _).alloc _,ab FA,ab BA,ab CA⟩
   rw [au e38]at hl;have AA:=ae e38;by_cases e39:am ts su=39
   ·rw [aC e39]at hl;cases h2:tm (bg ts su)with
    | none=>rw [h2]at hl;cases hl
    | some p =>
    obtain⟨st2,b⟩:=p;rw [h2]at hl;have CA:=ae (show sumLp ts tm g st2 (rq o b (-1))=some r from hl);have DA:=ae h2;have HE:=ae e39;clear hl h2 e38 e39;go_wp2_with (first
  | (go_at_call 211;refine(aL (ab HR) (ab HK) (ab HT) 38 (ab AA)).mono ?_;rintro e w2 ⟨rfl,hr2,hf2⟩;replace HV:=ae ((ab HV).fr hf2 (aD _));replace HR:=ae hr2;replace HF:=ae ((ab HF).trans hf2);clear hr2 hf2 AA)
  | (go_at_call 211;refine(bY (ab HR) (ab HK) (ab HT) 39 (ab HE)).mono ?_;rintro e w2 ⟨rfl,O2,hr2,hf2⟩;replace HV:=ae ((ab HV).fr hf2 (aD _));replace HR:=ae hr2;replace HF:=ae ((ab HF).trans hf2);clear hr2 hf2))
    refine((ab GA) _ _ _ _ _ (ab HR) (cu (ab HK) (ab HT) (ab HE) (by decide)) (ab DA)).mono ?_;rintro e w3 ⟨v3,O3,rfl,hr3,hf3,hv3,hk3⟩;replace HV:=ae ((ab HV).fr hf3 (aD _));have EA:=ae (hv3.fr (bE _ _) (ab HF).size);replace HR:=ae hr3;replace HF:=ae ((ab HF).trans hf3);have BA:=ae hk3;clear hr3 hf3 hv3 hk3;go_wp2_with fail;refine(zM _ _ _ _ _ (-1) _ ((ab HR).newFree (ab HF)) (ab HV) (ab EA)).mono ?_;rintro e w4 ⟨v4,rfl,rfl,hv4⟩;have FA:=ae hv4;clear hv4;go_wp2_with fail;go_roundg g
    case measure=>omega
    case rel=>exact⟨st2,_,O3,(((ab HR).alloc _).alloc _).alloc _,(((ab HF).alloc _).alloc _).alloc _,ab FA,ab BA,ab CA⟩
   rw [au e39]at hl;have HA:=ae e39;cases hl
   clear e38 e39;have hfv:=(ab HV).fnv;rcases hfv with⟨f1,f2,f3,rfl⟩|rfl <;>
   ·go_wp2_with (first
  | (go_at_call 211;refine(aL (ab HR) (ab HK) (ab HT) 38 (ab AA)).mono ?_;rintro e w2 ⟨rfl,hr2,hf2⟩;replace HV:=ae ((ab HV).fr hf2 (aD _));replace HR:=ae hr2;replace HF:=ae ((ab HF).trans hf2);clear hr2 hf2 AA)
  | (go_at_call 211;refine(aL (ab HR) (ab HK) (ab HT) 39 (ab HA)).mono ?_;rintro e w2 ⟨rfl,hr2,hf2⟩;replace HV:=ae ((ab HV).fr hf2 (aD _));replace HR:=ae hr2;replace HF:=ae ((ab HF).trans hf2);clear hr2 hf2 HA))
    go_ret;exact⟨_,_,rfl,ab HR,ab HF,ab HV,ab HK⟩
theorem Gg{pb:Nat}{ts:List aw}(ht:cE ts)(n f:Nat):yw pb ts (termTw ts n f):=by
 induction f with
 | zero=>intro w st D O r h hk hr;rw [termTw]at hr;cases hr
 | succ f ih =>
  intro w st D O r h hk hr;rw [termTw]at hr;by_cases e2:am ts st=2
  ·rw [aC e2]at hr;cases hr;exact JG ht h hk e2
  rw [au e2]at hr;by_cases e9:am ts st=9
  ·rw [aC e9]at hr;cases hr;exact Gf ht h hk e9
  rw [au e9]at hr;by_cases e10:am ts st=10
  ·rw [aC e10]at hr;cases hr;exact JF ht h hk e10
  rw [au e10]at hr;by_cases e17:am ts st=17
  ·rw [aC e17]at hr;cases hr;exact JE ht h hk e17
  rw [au e17]at hr;by_cases e33:am ts st=33
  ·rw [aC e33]at hr;cases h1:sumBy ts (termTw ts n f) n (dt ts 33 st)with
   | none=>rw [h1]at hr;cases hr
   | some p =>
    obtain⟨st1,a⟩:=p;rw [h1]at hr;cases hr;exact ou ht (Au ht ih n) h hk e33 h1
  rw [au e33]at hr;cases hr;exact Ge ht h hk e2 e9 e10 e17 e33
theorem CF{pb:Nat}{ts:List aw}(ht:cE ts)(n f:Nat):iN pb ts (sumTw ts n f):=Au ht (Gg ht n f) n
def kW(pb:Nat)(ts:List aw)(w:World)(D O:Nat->Prop)(r:RS×Option aQ)(e:Ending)(w':World):Prop :=
 ∃ v O',e=.returned v/\RA w' pb ts r.1 D O'/\Fr O w O' w'/\gH w' (dk O' D w.heap.size) v r.2/\Ok ts r.1
def fT(fn:Nat)(pb:Nat)(ts:List aw)(tw:RS->Option (RS×Option aQ)):Prop:=∀(w:World) (st:RS) (D O:Nat->Prop) (r:RS×Option aQ),RA w pb ts st D O->Ok ts st->tw st=some r->Calls prog fn #[ay pb 0] w (kW pb ts w D O r)
theorem xd{pb:Nat}{ts:List aw}(ht:cE ts){sum:RS->Option (RS×Option bh)}(IH:iN pb ts sum):fT 378 pb ts (eN ts sum):=by
 intro w st D O r h hk hr;unfold eN at hr;cases h1:sum st with
 | none=>rw [h1]at hr;cases hr
 | some p =>
  obtain⟨st1,a⟩:=p;rw [h1]at hr;have HT:=ae ht;have EA:=ae IH;have H1:=ae (IH w st D O (st1,a) h hk h1);dsimp only at hr;clear h hk h1 ht IH;by_cases e40:am ts st1=40
  ·rw [aC e40]at hr;cases h2:sum (bg ts st1)with
   | none=>rw [h2]at hr;cases hr
   | some p =>
    obtain⟨st2,b⟩:=p;rw [h2]at hr;cases hr
    have HE:=ae e40;have BA:=ae h2;clear e40 h2;go_enter func378,ntmps378;go_wp2_with fail;refine(ab H1).mono ?_;rintro e w1 ⟨v,O1,rfl,hr1,hf1,hv1,hk1⟩;have HR:=ae hr1;have HF:=ae hf1;have HV:=ae hv1;have HK:=ae hk1;clear hr1 hf1 hv1 hk1 H1;go_wp2_with (go_at_call 211;refine(bY (ab HR) (ab HK) (ab HT) 40 (ab HE)).mono ?_;rintro e w2 ⟨rfl,O2,hr2,hf2⟩;replace HV:=ae ((ab HV).fr hf2 (aD _));replace HR:=ae hr2;replace HF:=ae ((ab HF).trans hf2);clear hr2 hf2)
    refine((ab EA) _ _ _ _ _ (ab HR) (cu (ab HK) (ab HT) (ab HE) (by decide)) (ab BA)).mono ?_;rintro e w3 ⟨v3,O3,rfl,hr3,hf3,hv3,hk3⟩;replace HV:=ae ((ab HV).fr hf3 (aD _));have CA:=ae (hv3.fr (bE _ _) (ab HF).size);replace HR:=ae hr3;replace HF:=ae ((ab HF).trans hf3);have AA:=ae hk3;clear hr3 hf3 hv3 hk3;go_wp2_with fail;refine(Ie _ _ _ _ _ _ ((ab HR).newFree (ab HF)) (ab HV) (ab CA)).mono ?_;rintro e w4 ⟨v4,rfl,rfl,hv4⟩;have DA:=ae hv4;clear hv4;go_wp2_with fail;go_ret;exact⟨_,_,rfl,((ab HR).alloc _).alloc _,((ab HF).alloc _).alloc _,ab DA,ab AA⟩
  rw [au e40]at hr;cases h2:sum (ar ts 26 st1).1 with
  | none=>rw [h2]at hr;cases hr
  | some p =>
   obtain⟨st2,b⟩:=p;rw [h2]at hr;cases hr
   have HE:=ae e40;have BA:=ae h2;clear e40 h2;go_enter func378,ntmps378;go_wp2_with fail;refine(ab H1).mono ?_;rintro e w1 ⟨v,O1,rfl,hr1,hf1,hv1,hk1⟩;have HR:=ae hr1;have HF:=ae hf1;have HV:=ae hv1;have HK:=ae hk1;clear hr1 hf1 hv1 hk1 H1
   go_wp2_with (first
    | (go_at_call 211;refine(aL (ab HR) (ab HK) (ab HT) 40 (ab HE)).mono ?_;rintro e w2 ⟨rfl,hr2,hf2⟩;replace HV:=ae ((ab HV).fr hf2 (aD _));replace HR:=ae hr2;replace HF:=ae ((ab HF).trans hf2);clear hr2 hf2)
    | (go_at_call 213;refine(aN (ab HR) (ab HK) (ab HT) 26).mono ?_;rintro e w2 ⟨rfl,O2,hr2,hf2⟩;replace HV:=ae ((ab HV).fr hf2 (aD _));replace HR:=ae hr2;replace HF:=ae ((ab HF).trans hf2);clear hr2 hf2))
   refine((ab EA) _ _ _ _ _ (ab HR) (ch (ab HK) (ab HT) (by decide)) (ab BA)).mono ?_;rintro e w3 ⟨v3,O3,rfl,hr3,hf3,hv3,hk3⟩;replace HV:=ae ((ab HV).fr hf3 (aD _));have CA:=ae (hv3.fr (bE _ _) (ab HF).size);replace HR:=ae hr3;replace HF:=ae ((ab HF).trans hf3);have AA:=ae hk3;clear hr3 hf3 hv3 hk3;go_wp2_with fail;refine(Ez _ _ _ _ _ _ ((ab HR).newFree (ab HF)) (ab HV) (ab CA)).mono ?_;rintro e w4 ⟨v4,rfl,rfl,hv4⟩;have DA:=ae hv4;clear hv4;go_wp2_with fail;go_ret;exact⟨_,_,rfl,((ab HR).alloc _).alloc _,((ab HF).alloc _).alloc _,ab DA,ab AA⟩
theorem JI{pb:Nat}{ts:List aw}(ht:cE ts){tw:RS->Option (RS×Option aQ)}(IH:fT 378 pb ts tw){w:World}{st:RS}{D O:Nat->Prop}{r:RS×Option aQ}(h:RA w pb ts st D O)(hk:Ok ts st)(hr:tw st=some r)
  (e21:am ts st≠21) (e23:am ts st≠23) (e25:am ts st≠25) (e31:am ts st≠31):Calls prog 358 #[ay pb 0] w (kW pb ts w D O r):=by
 have HR:=ae h;have HF:=ae (bE O w);have HK:=ae hk;have HT:=ae ht;have n21:=ae e21;have n23:=ae e23;have n25:=ae e25;have b31:(am ts st==31)=false:=by simpa using e31
 have HI:=ae IH;have HW:=ae hr;clear h hk ht e21 e23 e25 e31 IH hr;go_enter func358,ntmps358
 go_wp2_with (first
  | (go_at_call 170;refine(dR (ab HR) (ab HK) (ab HT) rfl).mono ?_;rintro e w1 ⟨rfl,hr1,hf1⟩;replace HR:=ae hr1;replace HF:=ae ((ab HF).trans hf1);clear hr1 hf1)
  | (go_at_call 211;refine(aL (ab HR) (ab HK) (ab HT) 21 (ab n21)).mono ?_;rintro e w1 ⟨rfl,hr1,hf1⟩;replace HR:=ae hr1;replace HF:=ae ((ab HF).trans hf1);clear hr1 hf1 n21)
  | (go_at_call 211;refine(aL (ab HR) (ab HK) (ab HT) 23 (ab n23)).mono ?_;rintro e w1 ⟨rfl,hr1,hf1⟩;replace HR:=ae hr1;replace HF:=ae ((ab HF).trans hf1);clear hr1 hf1 n23)
  | (go_at_call 211;refine(aL (ab HR) (ab HK) (ab HT) 25 (ab n25)).mono ?_;rintro e w1 ⟨rfl,hr1,hf1⟩;replace HR:=ae hr1;replace HF:=ae ((ab HF).trans hf1);clear hr1 hf1 n25))
 refine((ab HI) _ _ _ _ _ (ab HR) (ab HK) (ab HW)).mono ?_;rintro e w2 ⟨v,O2,rfl,hr2,hf2,hv2,hk2⟩;have HV:=ae (hv2.fr (bE _ _) (ab HF).size);have AA:=ae hk2;replace HR:=ae hr2;replace HF:=ae ((ab HF).trans hf2);clear hr2 hf2 hv2 hk2;go_wp2_with fail;go_ret;exact⟨_,_,rfl,ab HR,ab HF,ab HV,ab AA⟩
theorem dD{W:World}{b o:Nat}{v:Value}(h:W.cell? ⟨b,o,none⟩=some v):b<W.heap.size:=by
 rcases Nat.lt_or_ge b W.heap.size with h1|h1
 ·exact h1
 simp [World.cell?,Array.getElem?_eq_none h1]at h
theorem J0(W:World)(b:Nat)(r:Rt)(pv mv:Value)(h:dK W b r pv mv)(va vb:Value)(ma mb:aQ)(Ka Kb:Nat->Prop)(ha:pS va ma Ka W)(hb:∀ V,Below W.heap.size W V->pS vb mb Kb V)(B1 B2:Nat)
  (c1:W.cell? ⟨B1,0,none⟩=some va) (c2:W.cell? ⟨B2,0,none⟩=some vb) :
  Calls prog 360 (#[ay b 0]++#[ay B1 0,ay B2 0]) W λ e W'=>e=.returned (jI (pZ ma mb r))/\Below W.heap.size W W':=by
 have lb2:=dD c2;obtain⟨g,lb,rfl,eg,hc⟩:=ha;have e1:=cL eg;have HA:=ae (hc b r pv mv h);have HB:=ae (λ V (hV:Below W.heap.size W V)=>hb V hV);have HR:=ae h;clear hc h eg hb;have EQ:=ae (show pZ ma mb r=(match ma r with|none=>none|some false=>some false|some true=>mb r)from rfl);cases hx:ma r with
 | none =>
  rw [hx]at HA EQ;have AA:Hid (Calls prog g (#[ay b 0]++lb) W λ e W'=>e=.returned (.tuple #[.bool false,.bool false])/\Below W.heap.size W W'):=HA;clear HA HB;go_enter func360,ntmps360;go_wp2_with (go_at_fn g;refine(ab AA).mono ?_;rintro e w1 ⟨rfl,hw⟩)
  go_ret2
  exact⟨by rw [ab EQ];rfl,hw⟩
 | some x =>
  cases x with
  | false =>
   rw [hx]at HA EQ;have AA:Hid (Calls prog g (#[ay b 0]++lb) W λ e W'=>e=.returned (.tuple #[.bool false,.bool true])/\Below W.heap.size W W'):=HA;clear HA HB;go_enter func360,ntmps360;go_wp2_with (go_at_fn g;refine(ab AA).mono ?_;rintro e w1 ⟨rfl,hw⟩)
   go_ret2
   exact⟨by rw [ab EQ];rfl,hw⟩
  | true =>
   rw [hx]at HA EQ;have AA:Hid (Calls prog g (#[ay b 0]++lb) W λ e W'=>e=.returned (.tuple #[.bool true,.bool true])/\Below W.heap.size W W'):=HA;obtain⟨g2,lb2,rfl,eg2,_⟩:=(ab HB) W (aX _ _);have e2:=cL eg2;clear HA eg2;go_enter func360,ntmps360;go_wp2_with (go_at_fn g;refine(ab AA).mono ?_;rintro e w1 ⟨rfl,hw⟩;have c2':=(hw.cell (p:=⟨B2,0,none⟩) (by assumption)).trans c2;have HW:=ae hw;clear hw)
   obtain⟨g3,lb3,he,_,hc3⟩:=(ab HB) w1 (ab HW);cases he
   refine(hc3 b r pv mv ((ab HR).below (ab HW))).mono ?_;rintro e w2 ⟨rfl,hw2⟩;have BA:=ae hw2;clear hw2 hc3;unfold jI;go_wp2_with fail
   go_ret2
   exact⟨by rw [ab EQ];rfl,(ab HW).trans ((ab BA).mono (ab HW).size)⟩
theorem Mr(W:World)(b:Nat)(r:Rt)(pv mv:Value)(h:dK W b r pv mv)(va vb:Value)(ma mb:aQ)(Ka Kb:Nat->Prop)(ha:pS va ma Ka W)(hb:∀ V,Below W.heap.size W V->pS vb mb Kb V)(B1 B2:Nat)
  (c1:W.cell? ⟨B1,0,none⟩=some va) (c2:W.cell? ⟨B2,0,none⟩=some vb) :
  Calls prog 341 (#[ay b 0]++#[ay B1 0,ay B2 0]) W λ e W'=>e=.returned (jI (Fh ma mb r))/\Below W.heap.size W W':=by
 have lb2:=dD c2;obtain⟨g,lb,rfl,eg,hc⟩:=ha;have e1:=cL eg;have HA:=ae (hc b r pv mv h);have HB:=ae (λ V (hV:Below W.heap.size W V)=>hb V hV);have HR:=ae h;clear hc h eg hb;have EQ:=ae (show Fh ma mb r=(match ma r with|none=>none|some true=>some true|some false=>mb r)from rfl);cases hx:ma r with
 | none =>
  rw [hx]at HA EQ;have AA:Hid (Calls prog g (#[ay b 0]++lb) W λ e W'=>e=.returned (.tuple #[.bool false,.bool false])/\Below W.heap.size W W'):=HA;clear HA HB;go_enter func341,ntmps341;go_wp2_with (go_at_fn g;refine(ab AA).mono ?_;rintro e w1 ⟨rfl,hw⟩)
  go_ret2
  exact⟨by rw [ab EQ];rfl,hw⟩
 | some x =>
  cases x with
  | true =>
   rw [hx]at HA EQ;have AA:Hid (Calls prog g (#[ay b 0]++lb) W λ e W'=>e=.returned (.tuple #[.bool true,.bool true])/\Below W.heap.size W W'):=HA;clear HA HB;go_enter func341,ntmps341;go_wp2_with (go_at_fn g;refine(ab AA).mono ?_;rintro e w1 ⟨rfl,hw⟩)
   go_ret2
   exact⟨by rw [ab EQ];rfl,hw⟩
  | false =>
   rw [hx]at HA EQ;have AA:Hid (Calls prog g (#[ay b 0]++lb) W λ e W'=>e=.returned (.tuple #[.bool false,.bool true])/\Below W.heap.size W W'):=HA;obtain⟨g2,lb2,rfl,eg2,_⟩:=(ab HB) W (aX _ _);have e2:=cL eg2;clear HA eg2;go_enter func341,ntmps341;go_wp2_with (go_at_fn g;refine(ab AA).mono ?_;rintro e w1 ⟨rfl,hw⟩;have c2':=(hw.cell (p:=⟨B2,0,none⟩) (by assumption)).trans c2;have HW:=ae hw;clear hw)
   obtain⟨g3,lb3,he,_,hc3⟩:=(ab HB) w1 (ab HW);cases he
   refine(hc3 b r pv mv ((ab HR).below (ab HW))).mono ?_;rintro e w2 ⟨rfl,hw2⟩;have BA:=ae hw2;clear hw2 hc3;unfold jI;go_wp2_with fail
   go_ret2
   exact⟨by rw [ab EQ];rfl,(ab HW).trans ((ab BA).mono (ab HW).size)⟩
theorem KH(W:World)(b:Nat)(r:Rt)(pv mv:Value)(h:dK W b r pv mv)(va:Value)(ma:aQ)(Ka:Nat->Prop)(ha:pS va ma Ka W)(B1:Nat)(c1:W.cell? ⟨B1,0,none⟩=some va) :
  Calls prog 379 (#[ay b 0]++#[ay B1 0]) W λ e W'=>e=.returned (jI (tK ma r))/\Below W.heap.size W W':=by
 obtain⟨g,lb,rfl,eg,hc⟩:=ha;have e1:=cL eg;have HA:=ae (hc b r pv mv h);clear hc h eg;have EQ:=ae (show tK ma r=(ma r).map (λ x=>!x)from rfl);cases hx:ma r with
 | none =>
  rw [hx]at HA EQ;have AA:Hid (Calls prog g (#[ay b 0]++lb) W λ e W'=>e=.returned (.tuple #[.bool false,.bool false])/\Below W.heap.size W W'):=HA;clear HA;go_enter func379,ntmps379;go_wp2_with (go_at_fn g;refine(ab AA).mono ?_;rintro e w1 ⟨rfl,hw⟩)
  go_ret2
  exact⟨by rw [ab EQ];rfl,hw⟩
 | some x =>
  rw [hx]at HA EQ;have AA:Hid (Calls prog g (#[ay b 0]++lb) W λ e W'=>e=.returned (.tuple #[.bool x,.bool true])/\Below W.heap.size W W'):=HA;clear HA;go_enter func379,ntmps379;go_wp2_with (go_at_fn g;refine(ab AA).mono ?_;rintro e w1 ⟨rfl,hw⟩)
  go_ret2
  exact⟨by rw [ab EQ];rfl,hw⟩
theorem GN(w:World)(va vb:Value)(ha:jl va)(hb:jl vb) :
  Calls prog 340 #[va,vb] w λ e w'=>e=.returned (.func (.func 360) #[] #[ay w.heap.size 0,ay (w.heap.size+1) 0])/\w'=((w.alloc (aF va 358)).alloc (aF vb 358)):=by
 have hmf:∀(fn:Fn) (first cap:Array Value) (w:World),(Instr.makeFunc fn first cap).run prog w=.ok (.func fn first cap) w:=λ _ _ _ _=>rfl
 rcases ha with⟨f,a,b,rfl⟩|rfl<;>rcases hb with⟨f',a',b',rfl⟩|rfl <;>
 ·go_enter func340,ntmps340;go_wp2_with fail;go_ret;exact⟨rfl,rfl⟩
theorem KO(w:World)(va vb:Value)(ha:jl va)(hb:jl vb) :
  Calls prog 313 #[va,vb] w λ e w'=>e=.returned (.func (.func 341) #[] #[ay w.heap.size 0,ay (w.heap.size+1) 0])/\w'=((w.alloc (aF va 358)).alloc (aF vb 358)):=by
 have hmf:∀(fn:Fn) (first cap:Array Value) (w:World),(Instr.makeFunc fn first cap).run prog w=.ok (.func fn first cap) w:=λ _ _ _ _=>rfl
 rcases ha with⟨f,a,b,rfl⟩|rfl<;>rcases hb with⟨f',a',b',rfl⟩|rfl <;>
 ·go_enter func313,ntmps313;go_wp2_with fail;go_ret;exact⟨rfl,rfl⟩
theorem Tryz.entAnd:Enters prog 360:=enters_of func360 (by kernel_rfl) rfl
theorem Tryz.entOr:Enters prog 341:=enters_of func341 (by kernel_rfl) rfl
theorem vA{w:World}{va vb:Value}{ma mb:aQ}{m:aQ}{A:Nat->Prop}{g:Nat}(hA:∀ k,w.heap.size<=k->A k)(ha:gH w A va (some ma))(hb:gH w A vb (some mb))(ent:Enters prog g)
  (hrun:∀(W:World) (b:Nat) (r:Rt) (pv mv:Value) (Ka Kb:Nat->Prop),dK W b r pv mv->pS va ma Ka W->(∀ V,Below W.heap.size W V->pS vb mb Kb V)->W.cell? ⟨w.heap.size,0,none⟩=some va->W.cell? ⟨w.heap.size+1,0,none⟩=some vb ->
   Calls prog g (#[ay b 0]++#[ay w.heap.size 0,ay (w.heap.size+1) 0]) W λ e W'=>e=.returned (jI (m r))/\Below W.heap.size W W') :
  gH ((w.alloc (aF va 358)).alloc (aF vb 358)) A (.func (.func g) #[] #[ay w.heap.size 0,ay (w.heap.size+1) 0]) (some m):=by
 have h1:az _ A (pS va ma):=(ha.alloc (aF va 358)).alloc (aF vb 358);have h2:az _ A (pS vb mb):=(hb.alloc (aF va 358)).alloc (aF vb 358);obtain⟨n1,n2,sz⟩:=iu w (aF va 358) (aF vb 358);refine az.two h1 h2 (λ k=>k=w.heap.size\/k=w.heap.size+1) (λ k hk=>⟨by omega,hA k (by omega)⟩) (λ K1 K2 _ a2 q1 q2 W hW hk=>?_);refine⟨_,_,rfl,ent,λ b r pv mv hr=>?_⟩
 exact hrun W b r pv mv K1 K2 hr (q1 W hW (λ k h=>hk k (inl h))) (λ V hV=>q2 V (kr hW hV.size) (λ k h=>(hV.block k (eV (a2 k h).1 hW)).trans (hk k (inr (inl h)))))
  (af ((hk _ (inr (inr (inl rfl)))).trans n1)) (af ((hk _ (inr (inr (inr rfl)))).trans n2))
theorem JZ(w:World)(va vb:Value)(oa ob:Option aQ)(A:Nat->Prop)(hA:∀ k,w.heap.size<=k->A k)(ha:gH w A va oa)(hb:gH w A vb ob) :
  Calls prog 340 #[va,vb] w λ e w'=>∃ v,e=.returned v/\w'=((w.alloc (aF va 358)).alloc (aF vb 358))/\gH w' A v (wW pZ oa ob):=by
 refine(GN w va vb ha.fnv hb.fnv).mono ?_;rintro e w' ⟨rfl,rfl⟩;refine⟨_,rfl,rfl,?_⟩;cases oa with
 | none=>exact inl ⟨_,_,_,rfl⟩
 | some ma=>cases ob with
  | none=>exact inl ⟨_,_,_,rfl⟩
  | some mb=>exact vA hA ha hb Tryz.entAnd (λ W b r pv mv Ka Kb h1 h2 h3 h4 h5=>J0 W b r pv mv h1 va vb ma mb Ka Kb h2 h3 _ _ h4 h5)
theorem Mq(w:World)(va vb:Value)(oa ob:Option aQ)(A:Nat->Prop)(hA:∀ k,w.heap.size<=k->A k)(ha:gH w A va oa)(hb:gH w A vb ob) :
  Calls prog 313 #[va,vb] w λ e w'=>∃ v,e=.returned v/\w'=((w.alloc (aF va 358)).alloc (aF vb 358))/\gH w' A v (wW Fh oa ob):=by
 refine(KO w va vb ha.fnv hb.fnv).mono ?_;rintro e w' ⟨rfl,rfl⟩;refine⟨_,rfl,rfl,?_⟩;cases oa with
 | none=>exact inl ⟨_,_,_,rfl⟩
 | some ma=>cases ob with
  | none=>exact inl ⟨_,_,_,rfl⟩
  | some mb=>exact vA hA ha hb Tryz.entOr (λ W b r pv mv Ka Kb h1 h2 h3 h4 h5=>Mr W b r pv mv h1 va vb ma mb Ka Kb h2 h3 _ _ h4 h5)
theorem Iv(w:World)(va:Value)(ha:jl va) :
  Calls prog 359 #[va] w λ e w'=>e=.returned (.func (.func 379) #[] #[ay w.heap.size 0])/\w'=(w.alloc (aF va 358)):=by
 have hmf:∀(fn:Fn) (first cap:Array Value) (w:World),(Instr.makeFunc fn first cap).run prog w=.ok (.func fn first cap) w:=λ _ _ _ _=>rfl
 rcases ha with⟨f,a,b,rfl⟩|rfl <;>
 ·go_enter func359,ntmps359;go_wp2_with fail;go_ret;exact⟨rfl,rfl⟩
theorem Tryz.entNot:Enters prog 379:=enters_of func379 (by kernel_rfl) rfl
theorem KF(w:World)(va:Value)(oa:Option aQ)(A:Nat->Prop)(hA:∀ k,w.heap.size<=k->A k)(ha:gH w A va oa) :
  Calls prog 359 #[va] w λ e w'=>∃ v,e=.returned v/\w'=(w.alloc (aF va 358))/\gH w' A v (oa.map tK):=by
 refine(Iv w va ha.fnv).mono ?_;rintro e w' ⟨rfl,rfl⟩;refine⟨_,rfl,rfl,?_⟩;cases oa with
 | none=>exact inl ⟨_,_,_,rfl⟩
 | some ma =>
  have h1:az _ A (pS va ma):=ha.alloc (aF va 358);refine az.one h1 (λ k=>k=w.heap.size) (λ k hk=>⟨by subst hk;simp,hA k (by omega)⟩) (λ K1 _ q1 W hW hk=>?_);exact⟨_,_,rfl,Tryz.entNot,λ b r pv mv hr=>KH W b r pv mv hr va ma K1 (q1 W hW (λ k h=>hk k (inl h))) _ (af ((hk _ (inr rfl)).trans (cN w _)))⟩
theorem vy{ts:List aw}{c:Int}{m:aQ->aQ->aQ}{tm:RS->Option (RS×Option aQ)}{k:Nat}{st:RS}{a:Option aQ}{r:RS×Option aQ}(h:binLp ts c m tm k st a=some r):∃ g,k=g+1:=by
 cases k with
 | zero=>rw [binLp]at h;cases h
 | succ g=>exact⟨g,rfl⟩
theorem GP{pb:Nat}{ts:List aw}(ht:cE ts){tm:RS->Option (RS×Option aQ)}(IH:fT 339 pb ts tm)(n:Nat):fT 312 pb ts (binBy ts 19 pZ tm n):=by
 intro w st D O r h hk hr;unfold binBy at hr;cases h1:tm st with
 | none=>rw [h1]at hr;cases hr
 | some p =>
  obtain⟨st1,a⟩:=p;rw [h1]at hr;have HL:=ae (show binLp ts 19 pZ tm n st1 a=some r from hr);have HT:=ae ht;have AA:=ae IH;have H1:=ae (IH w st D O (st1,a) h hk h1);clear hr h hk h1 ht IH;go_enter func312,ntmps312;go_wp2_with fail;refine(ab H1).mono ?_;rintro e w1 ⟨v,O1,rfl,hr1,hf1,hv1,hk1⟩;have HR:=ae hr1;have HF:=ae hf1;have HV:=ae hv1;have HK:=ae hk1;clear hr1 hf1 hv1 hk1 H1;go_wp2_with fail;go_loopg [3] n (λ k v3 wr=>∃(su:RS) (o:Option aQ) (Ou:Nat->Prop),RA wr pb ts su D Ou/\Fr O w Ou wr/\gH wr (dk Ou D w.heap.size) v3 o/\Ok ts su/\binLp ts 19 pZ tm k su o=some r)
  case atStart=>exact⟨st1,a,O1,ab HR,ab HF,ab HV,ab HK,ab HL⟩
  case round =>
   clear HR HF HV HK HL;obtain⟨su,o,Ou,hr,hf,hv,hk,hl⟩:=hrel;obtain⟨g,rfl⟩:=vy hl;rw [binLp]at hl;have HR:=ae hr;have HF:=ae hf;have HV:=ae hv;have HK:=ae hk;clear hr hf hv hk;by_cases e0:am ts su=19
   ·rw [aC e0]at hl;cases h2:tm (bg ts su)with
    | none=>rw [h2]at hl;cases hl
    | some p =>
     obtain⟨st2,b⟩:=p;rw [h2]at hl;have CA:=ae (show binLp ts 19 pZ tm g st2 (wW pZ o b)=some r from hl);have DA:=ae h2;have HE:=ae e0;clear hl h2 e0;go_wp2_with (go_at_call 211;refine(bY (ab HR) (ab HK) (ab HT) 19 (ab HE)).mono ?_;rintro e w2 ⟨rfl,O2,hr2,hf2⟩;replace HV:=ae ((ab HV).fr hf2 (aD _));replace HR:=ae hr2;replace HF:=ae ((ab HF).trans hf2);clear hr2 hf2)
     refine((ab AA) _ _ _ _ _ (ab HR) (cu (ab HK) (ab HT) (ab HE) (by decide)) (ab DA)).mono ?_;rintro e w3 ⟨v3,O3,rfl,hr3,hf3,hv3,hk3⟩;replace HV:=ae ((ab HV).fr hf3 (aD _));have EA:=ae (hv3.fr (bE _ _) (ab HF).size);replace HR:=ae hr3;replace HF:=ae ((ab HF).trans hf3);have BA:=ae hk3;clear hr3 hf3 hv3 hk3;go_wp2_with fail;refine(JZ _ _ _ _ _ _ ((ab HR).newFree (ab HF)) (ab HV) (ab EA)).mono ?_;rintro e w4 ⟨v4,rfl,rfl,hv4⟩;have FA:=ae hv4;clear hv4;go_wp2_with fail;go_roundg g
     case measure=>omega
     case rel=>exact⟨st2,_,O3,((ab HR).alloc _).alloc _,((ab HF).alloc _).alloc _,ab FA,ab BA,ab CA⟩
   rw [au e0]at hl;have N0:=ae e0;cases hl
   clear e0;have hfv:=(ab HV).fnv;rcases hfv with⟨f1,f2,f3,rfl⟩|rfl <;>
   ·go_wp2_with (go_at_call 211;refine(aL (ab HR) (ab HK) (ab HT) 19 (ab N0)).mono ?_;rintro e w2 ⟨rfl,hr2,hf2⟩;replace HV:=ae ((ab HV).fr hf2 (aD _));replace HR:=ae hr2;replace HF:=ae ((ab HF).trans hf2);clear hr2 hf2)
    go_ret;exact⟨_,_,rfl,ab HR,ab HF,ab HV,ab HK⟩
theorem Bi{pb:Nat}{ts:List aw}(ht:cE ts){tm:RS->Option (RS×Option aQ)}(IH:fT 312 pb ts tm)(n:Nat):fT 266 pb ts (binBy ts 18 Fh tm n):=by
 intro w st D O r h hk hr;unfold binBy at hr;cases h1:tm st with
 | none=>rw [h1]at hr;cases hr
 | some p =>
  obtain⟨st1,a⟩:=p;rw [h1]at hr;have HL:=ae (show binLp ts 18 Fh tm n st1 a=some r from hr);have HT:=ae ht;have AA:=ae IH;have H1:=ae (IH w st D O (st1,a) h hk h1);clear hr h hk h1 ht IH;go_enter func266,ntmps266;go_wp2_with fail;refine(ab H1).mono ?_;rintro e w1 ⟨v,O1,rfl,hr1,hf1,hv1,hk1⟩;have HR:=ae hr1;have HF:=ae hf1;have HV:=ae hv1;have HK:=ae hk1;clear hr1 hf1 hv1 hk1 H1;go_wp2_with fail;go_loopg [3] n (λ k v3 wr=>∃(su:RS) (o:Option aQ) (Ou:Nat->Prop),RA wr pb ts su D Ou/\Fr O w Ou wr/\gH wr (dk Ou D w.heap.size) v3 o/\Ok ts su/\binLp ts 18 Fh tm k su o=some r)
  case atStart=>exact⟨st1,a,O1,ab HR,ab HF,ab HV,ab HK,ab HL⟩
  case round =>
   clear HR HF HV HK HL;obtain⟨su,o,Ou,hr,hf,hv,hk,hl⟩:=hrel;obtain⟨g,rfl⟩:=vy hl;rw [binLp]at hl;have HR:=ae hr;have HF:=ae hf;have HV:=ae hv;have HK:=ae hk;clear hr hf hv hk;by_cases e0:am ts su=18
   ·rw [aC e0]at hl;cases h2:tm (bg ts su)with
    | none=>rw [h2]at hl;cases hl
    | some p =>
     obtain⟨st2,b⟩:=p;rw [h2]at hl;have CA:=ae (show binLp ts 18 Fh tm g st2 (wW Fh o b)=some r from hl);have DA:=ae h2;have HE:=ae e0;clear hl h2 e0;go_wp2_with (go_at_call 211;refine(bY (ab HR) (ab HK) (ab HT) 18 (ab HE)).mono ?_;rintro e w2 ⟨rfl,O2,hr2,hf2⟩;replace HV:=ae ((ab HV).fr hf2 (aD _));replace HR:=ae hr2;replace HF:=ae ((ab HF).trans hf2);clear hr2 hf2)
     refine((ab AA) _ _ _ _ _ (ab HR) (cu (ab HK) (ab HT) (ab HE) (by decide)) (ab DA)).mono ?_;rintro e w3 ⟨v3,O3,rfl,hr3,hf3,hv3,hk3⟩;replace HV:=ae ((ab HV).fr hf3 (aD _));have EA:=ae (hv3.fr (bE _ _) (ab HF).size);replace HR:=ae hr3;replace HF:=ae ((ab HF).trans hf3);have BA:=ae hk3;clear hr3 hf3 hv3 hk3;go_wp2_with fail;refine(Mq _ _ _ _ _ _ ((ab HR).newFree (ab HF)) (ab HV) (ab EA)).mono ?_;rintro e w4 ⟨v4,rfl,rfl,hv4⟩;have FA:=ae hv4;clear hv4;go_wp2_with fail;go_roundg g
     case measure=>omega
     case rel=>exact⟨st2,_,O3,((ab HR).alloc _).alloc _,((ab HF).alloc _).alloc _,ab FA,ab BA,ab CA⟩
   rw [au e0]at hl;have N0:=ae e0;cases hl
   clear e0;have hfv:=(ab HV).fnv;rcases hfv with⟨f1,f2,f3,rfl⟩|rfl <;>
   ·go_wp2_with (go_at_call 211;refine(aL (ab HR) (ab HK) (ab HT) 18 (ab N0)).mono ?_;rintro e w2 ⟨rfl,hr2,hf2⟩;replace HV:=ae ((ab HV).fr hf2 (aD _));replace HR:=ae hr2;replace HF:=ae ((ab HF).trans hf2);clear hr2 hf2)
    go_ret;exact⟨_,_,rfl,ab HR,ab HF,ab HV,ab HK⟩
theorem vJ{pb:Nat}{ts:List aw}(ht:cE ts){nt:RS->Option (RS×Option aQ)}(IH:fT 339 pb ts nt)(n:Nat):fT 266 pb ts (ig ts nt n) :=
 Bi ht (GP ht IH n) n
def fv(b:Nat)(pv mv:Value)(k:Nat):Prop:=k=b\/pv.ownBlock=some k\/mv.ownBlock=some k
def ic(b:Nat)(pv mv:Value)(W:World)(p:Rt×Int)(e:Ending)(W':World):Prop :=
 e=.returned (.int .i64 p.2)/\∃ pv' mv',dK W' b p.1 pv' mv'/\Fr (fv b pv mv) W (fv b pv' mv') W'
def D9(v:Value)(m:aM)(K:Nat->Prop)(W:World):Prop :=
 Gw v λ g lb=>∀(b:Nat) (r:Rt) (pv mv:Value),dK W b r pv mv->(∀ k,fv b pv mv k->¬K k)->Calls prog g (#[ay b 0]++lb) W (ic b pv mv W (m r))
def jr(w:World)(A:Nat->Prop)(v:Value):Option aM->Prop
 | none=>jl v
 | some m=>az w A (D9 v m)
theorem jr.fnv{w:World}{A:Nat->Prop}{v:Value}{o:Option aM}(h:jr w A v o):jl v:=by
 cases o with
 | none=>exact h
 | some m =>
  obtain⟨K,g,lb,h1,_⟩:=az.now h;exact inl ⟨_,_,_,h1⟩
theorem jr.fr{w w':World}{O O' D:Nat->Prop}{n m:Nat}{v:Value}{o:Option aM}(h:jr w (dk O D n) v o)(hf:Fr O w O' w')(hm:m<=n):jr w' (dk O' D m) v o:=by
 cases o with
 | none=>exact h
 | some x=>exact az.fr h hf hm
theorem xg(W:World)(B:Nat)(n:Int)(hb:W.cell? ⟨B,0,none⟩=some (.int .i64 n))(b:Nat)(r:Rt)(pv mv:Value)(h:dK W b r pv mv) :
  Calls prog 269 (#[ay b 0]++#[ay B 0]) W (ic b pv mv W (gq n r)):=by
 have HR:=ae h;clear h;go_enter func269,ntmps269;go_wp2_with fail;go_ret;exact⟨rfl,pv,mv,ab HR,bE _ _⟩
theorem dK.put{W:World}{b o:Nat}{r r':Rt}{pv mv v:Value}(h:dK W b r pv mv)(hp:r'.path=r.path)(hm:r'.marks=r.marks)
  (hc:(#[.int .i64 r.addr,.int .i64 r.len,pv,mv,.int .i64 r.pref,.int .i64 r.med]:Array Value).setIfInBounds o v=#[.int .i64 r'.addr,.int .i64 r'.len,pv,mv,.int .i64 r'.pref,.int .i64 r'.med]) :
  dK (W.setCell ⟨b,o,none⟩ v) b r' pv mv:=by
 refine⟨by rw [aB h.blk,hc],?_,?_,h.ne1,h.ne2,h.ne3,by rw [hp];exact h.n1,by rw [hm];exact h.n2,by rw [hm];exact h.srt⟩
 ·rw [hp];exact ap h.path (λ k e=>ah (λ e2=>h.ne1 (by rw [e,e2])))
 rw [hm];exact ap h.marks (λ k e=>ah (λ e2=>h.ne2 (by rw [e,e2])))
theorem Ab(W:World)(b:Nat)(r:Rt)(pv mv:Value)(h:dK W b r pv mv)(va:Value)(ma:bh)(Ka:Nat->Prop)(ha:je va ma Ka W)(B1 B2:Nat)
  (c1:W.cell? ⟨B1,0,none⟩=some va) (c2:W.cell? ⟨B2,0,none⟩=some (.func (.func 221) #[] #[])) :
  Calls prog 270 (#[ay b 0]++#[ay B1 0,ay B2 0]) W (ic b pv mv W (fJ ma r)):=by
 obtain⟨g,lb,rfl,eg,hc⟩:=ha;have e1:=cL eg;have HA:=ae (hc b r pv mv h);have HR:=ae h;have c4:W.cell? ⟨b,4,none⟩=some (.int .i64 r.pref):=af h.blk;have z4:W.frozen? ⟨b,4,none⟩=false:=ak h.blk;clear hc h eg;have EQ:=ae (show fJ ma r=(match ma r with|none=>(r,3)|some n=>({ r with pref:=n },0))from rfl);cases hx:ma r with
 | none =>
  rw [hx]at HA EQ;have AA:Hid (Calls prog g (#[ay b 0]++lb) W λ e W'=>e=.returned (.tuple #[.int .i64 0,.bool false])/\W'=W):=HA;clear HA;go_enter func270,ntmps270;go_wp2_with (go_at_fn g;refine(ab AA).mono ?_;rintro e w1 ⟨rfl,rfl⟩)
  go_ret;rw [ab EQ];exact⟨rfl,pv,mv,ab HR,bE _ _⟩
 | some x =>
  rw [hx]at HA EQ;have AA:Hid (Calls prog g (#[ay b 0]++lb) W λ e W'=>e=.returned (.tuple #[.int .i64 x,.bool true])/\W'=W):=HA;clear HA;go_enter func270,ntmps270;go_wp2_with (first|(go_at_fn g;refine(ab AA).mono ?_;rintro e w1 ⟨rfl,rfl⟩)|go_in)
  go_end0
  go_wp2_with fail;go_ret;rw [ab EQ];exact⟨rfl,pv,mv,(ab HR).put rfl rfl rfl,(bE _ _).setCell (inl (inl rfl)) _⟩
theorem Cs(W:World)(b:Nat)(r:Rt)(pv mv:Value)(h:dK W b r pv mv)(va:Value)(ma:bh)(Ka:Nat->Prop)(ha:je va ma Ka W)(B1 B2:Nat)
  (c1:W.cell? ⟨B1,0,none⟩=some va) (c2:W.cell? ⟨B2,0,none⟩=some (.func (.func 222) #[] #[])) :
  Calls prog 270 (#[ay b 0]++#[ay B1 0,ay B2 0]) W (ic b pv mv W (gE ma r)):=by
 obtain⟨g,lb,rfl,eg,hc⟩:=ha;have e1:=cL eg;have HA:=ae (hc b r pv mv h);have HR:=ae h;have c4:W.cell? ⟨b,5,none⟩=some (.int .i64 r.med):=af h.blk;have z4:W.frozen? ⟨b,5,none⟩=false:=ak h.blk;clear hc h eg;have EQ:=ae (show gE ma r=(match ma r with|none=>(r,3)|some n=>({ r with med:=n },0))from rfl);cases hx:ma r with
 | none =>
  rw [hx]at HA EQ;have AA:Hid (Calls prog g (#[ay b 0]++lb) W λ e W'=>e=.returned (.tuple #[.int .i64 0,.bool false])/\W'=W):=HA;clear HA;go_enter func270,ntmps270;go_wp2_with (go_at_fn g;refine(ab AA).mono ?_;rintro e w1 ⟨rfl,rfl⟩)
  go_ret;rw [ab EQ];exact⟨rfl,pv,mv,ab HR,bE _ _⟩
 | some x =>
  rw [hx]at HA EQ;have AA:Hid (Calls prog g (#[ay b 0]++lb) W λ e W'=>e=.returned (.tuple #[.int .i64 x,.bool true])/\W'=W):=HA;clear HA;go_enter func270,ntmps270;go_wp2_with (first|(go_at_fn g;refine(ab AA).mono ?_;rintro e w1 ⟨rfl,rfl⟩)|go_in)
  go_end0
  go_wp2_with fail;go_ret;rw [ab EQ];exact⟨rfl,pv,mv,(ab HR).put rfl rfl rfl,(bE _ _).setCell (inl (inl rfl)) _⟩
theorem lS{W w:World}{k:Nat}{v:Value}{T:TypeId}(hk:W.heap[k]?=w.heap[k]?)(h:w.heap[k]?=some (aF v T)):W.cell? ⟨k,0,none⟩=some v:=af (hk.trans h)
theorem uR(w:World)(n:Int) :
  Calls prog 218 #[.int .i64 n] w λ e w'=>e=.returned (.func (.func 269) #[] #[ay w.heap.size 0])/\w'=w.alloc (aF (.int .i64 n) 3):=by
 have hmf:∀(fn:Fn) (first cap:Array Value) (w:World),(Instr.makeFunc fn first cap).run prog w=.ok (.func fn first cap) w:=λ _ _ _ _=>rfl
 go_enter func218,ntmps218;go_wp2_with fail;go_ret;exact⟨rfl,rfl⟩
theorem Tryz.entConclude:Enters prog 269:=enters_of func269 (by kernel_rfl) rfl
theorem oK(w:World)(n:Int)(A:Nat->Prop)(hA:∀ k,w.heap.size<=k->A k) :
  Calls prog 218 #[.int .i64 n] w λ e w'=>∃ v,e=.returned v/\w'=w.alloc (aF (.int .i64 n) 3)/\jr w' A v (some (gq n)):=by
 refine(uR w n).mono ?_;rintro e w' ⟨rfl,rfl⟩;refine⟨_,rfl,rfl,az.new (λ k=>k=w.heap.size) (λ k hk=>⟨by subst hk;simp,hA k (by omega)⟩) (λ W hW hk=>?_)⟩;exact⟨_,_,rfl,Tryz.entConclude,λ b r pv mv hr _=>xg W _ n (lS (hk _ rfl) (cN w _)) b r pv mv hr⟩
theorem yA(w:World)(va vb:Value)(ha:jl va)(hb:jl vb) :
  Calls prog 219 #[va,vb] w λ e w'=>e=.returned (.func (.func 270) #[] #[ay w.heap.size 0,ay (w.heap.size+1) 0])/\w'=((w.alloc (aF va 317)).alloc (aF vb 319)):=by
 have hmf:∀(fn:Fn) (first cap:Array Value) (w:World),(Instr.makeFunc fn first cap).run prog w=.ok (.func fn first cap) w:=λ _ _ _ _=>rfl
 rcases ha with⟨f,a,b,rfl⟩|rfl<;>rcases hb with⟨f',a',b',rfl⟩|rfl <;>
 ·go_enter func219,ntmps219;go_wp2_with fail;go_ret;exact⟨rfl,rfl⟩
theorem Tryz.entAssign:Enters prog 270:=enters_of func270 (by kernel_rfl) rfl
theorem sO(w:World)(va:Value)(oa:Option bh)(g:Nat)(m:bh->aM)(A:Nat->Prop)(hA:∀ k,w.heap.size<=k->A k)(ha:iy w A va oa)
  (hrun:∀(W:World) (b:Nat) (r:Rt) (pv mv:Value) (ma:bh) (Ka:Nat->Prop),dK W b r pv mv->je va ma Ka W->W.cell? ⟨w.heap.size,0,none⟩=some va->W.cell? ⟨w.heap.size+1,0,none⟩=some (.func (.func g) #[] #[]) ->
   Calls prog 270 (#[ay b 0]++#[ay w.heap.size 0,ay (w.heap.size+1) 0]) W (ic b pv mv W (m ma r))) :
  Calls prog 219 #[va,.func (.func g) #[] #[]] w λ e w'=>∃ v,e=.returned v/\w'=((w.alloc (aF va 317)).alloc (aF (.func (.func g) #[] #[]) 319))/\jr w' A v (oa.map m):=by
 refine(yA w va (.func (.func g) #[] #[]) ha.fnv (inl ⟨_,_,_,rfl⟩)).mono ?_;rintro e w' ⟨rfl,rfl⟩;refine⟨_,rfl,rfl,?_⟩;cases oa with
 | none=>exact inl ⟨_,_,_,rfl⟩
 | some ma =>
  have h1:az _ A (je va ma):=(ha.alloc (aF va 317)).alloc (aF (.func (.func g) #[] #[]) 319);obtain⟨n1,n2,sz⟩:=iu w (aF va 317) (aF (.func (.func g) #[] #[]) 319);refine az.one h1 (λ k=>k=w.heap.size\/k=w.heap.size+1) (λ k hk=>⟨by omega,hA k (by omega)⟩) (λ K1 _ q1 W hW hk=>?_);refine⟨_,_,rfl,Tryz.entAssign,λ b r pv mv hr _=>?_⟩;exact hrun W b r pv mv ma K1 hr (q1 W hW (λ k h=>hk k (inl h))) (lS (hk _ (inr (inl rfl))) n1) (lS (hk _ (inr (inr rfl))) n2)
theorem sM(w:World)(va:Value)(oa:Option bh)(A:Nat->Prop)(hA:∀ k,w.heap.size<=k->A k)(ha:iy w A va oa) :
  Calls prog 219 #[va,.func (.func 221) #[] #[]] w λ e w'=>∃ v,e=.returned v/\w'=((w.alloc (aF va 317)).alloc (aF (.func (.func 221) #[] #[]) 319))/\jr w' A v (oa.map fJ) :=
 sO w va oa _ fJ A hA ha (λ W b r pv mv ma Ka h1 h2 h3 h4=>Ab W b r pv mv h1 va ma Ka h2 _ _ h3 h4)
theorem uO(w:World)(va:Value)(oa:Option bh)(A:Nat->Prop)(hA:∀ k,w.heap.size<=k->A k)(ha:iy w A va oa) :
  Calls prog 219 #[va,.func (.func 222) #[] #[]] w λ e w'=>∃ v,e=.returned v/\w'=((w.alloc (aF va 317)).alloc (aF (.func (.func 222) #[] #[]) 319))/\jr w' A v (oa.map gE) :=
 sO w va oa _ gE A hA ha (λ W b r pv mv ma Ka h1 h2 h3 h4=>Cs W b r pv mv h1 va ma Ka h2 _ _ h3 h4)
def LZ(W:World)(K:Nat->Prop)(sv:Value)(vs:List Value):Prop :=
 (vs=[]/\sv=.slice none 0 0)\/∃ S cap,sv=.slice (some ⟨S,0,none⟩) vs.length cap/\K S/\∀ i v,vs[i]?=some v->W.cell? ⟨S,i,none⟩=some v
def jE(sv:Value)(ms:List aM)(K:Nat->Prop)(W:World):Prop :=
 ms.length<=1000000/\∃ vs:List Value,vs.length=ms.length/\LZ W K sv vs/\∀(i:Nat) (v:Value) (m:aM),vs[i]?=some v->ms[i]?=some m->D9 v m K W
theorem ke(w0:World)(K:Nat->Prop)(sv:Value)(ms:List aM)(hK:∀ k,K k->k<w0.heap.size)(HS:∀ V,w0.heap.size<=V.heap.size->(∀ k,K k->V.heap[k]?=w0.heap[k]?)->jE sv ms K V)
  (W:World) (hW:w0.heap.size<=W.heap.size) (hag:∀ k,K k->W.heap[k]?=w0.heap[k]?) (b:Nat) (r:Rt) (pv mv:Value) (h:dK W b r pv mv) (hd:∀ k,fv b pv mv k->¬K k) :
  Calls prog 149 #[sv,ay b 0] W (ic b pv mv W (aK ms r)):=by
 obtain⟨hl,vs0,hvl,hrow,_⟩:=HS W hW hag;have H0:=ae (show dK W b r pv mv from h);have GA:=ae hK;have JA:=ae HS;have HD:=ae hd;have HA:=ae hag;clear h hK HS hd hag
 obtain⟨sa,sc,hsv⟩:∃ a c,sv=.slice a ms.length c:=by
  rcases hrow with⟨h1,h2⟩|⟨S,cap,h1,_⟩
  ·exact⟨none,0,by rw [h2,<-hvl,h1];rfl⟩
  exact⟨_,cap,by rw [h1,hvl]⟩
 have EA:=ae hrow;clear hrow;subst hsv;go_enter func149,ntmps149;go_wp2_with fail;generalize hN:ms.length=N at *;go_loopg [10] N (λ k i wr=>∃(j:Nat) (rj:Rt) (pj mj:Value),i=.int .i64 (j:Int)/\j+k=N/\dK wr b rj pj mj/\Fr (fv b pv mv) W (fv b pj mj) wr/\aK (ms.drop j) rj=aK ms r)
 case atStart=>exact⟨0,r,pv,mv,rfl,by omega,ab H0,bE _ _,rfl⟩
 case round =>
  clear EA;obtain⟨j,rj,pj,mj,rfl,hjk,hrt,hf,hpf⟩:=hrel;have hagr:∀ k,K k->wr.heap[k]?=w0.heap[k]?:=λ k hk=>(hf.block k (eV ((ab GA) k hk) hW) (λ ho=>(ab HD) k ho hk)).trans ((ab HA) k hk)
  have hdj:∀ k,fv b pj mj k->¬K k:=λ k ho hk=>by
   rcases hf.own k ho with h1|h1
   ·exact(ab HD) k h1 hk
   have:=(ab GA) k hk;omega
  have HF:=ae hf;have IA:=ae hrt;have CA:=ae hpf;by_cases hj:j<N
  ·obtain⟨_,vs,hvl',hrow,hst⟩:=(ab JA) wr (kr hW hf.size) hagr;have hj':j<vs.length:=by omega
   have hjm:j<ms.length:=by omega
   have hv:vs[j]?=some vs[j]:=iK hj';have hm:ms[j]?=some ms[j]:=iK hjm;obtain⟨g,lb,hvj,eg,hc⟩:=hst j _ _ hv hm;have hdrop:ms.drop j=ms[j]::ms.drop (j+1):=List.drop_eq_getElem_cons hjm;have HC:=ae (hc b rj pj mj hrt hdj);have e1:=cL eg;rcases hrow with⟨h1,_⟩|⟨S,cap,h1,_,hcell⟩
   ·rw [h1]at hj';simp at hj'
   injection h1 with h2 h3 h4
   subst h2 h4;have hcl:wr.cell? ⟨S,j,none⟩=some (.func (.func g) #[] lb):=(hcell j _ hv).trans (by rw [hvj]);have FA:=ae hdrop;generalize hmj:ms[j]=mjj at *;clear hcell hst hc eg hvj hm hv h3 hrt hf hpf hagr hdj hdrop;by_cases hz:(mjj rj).2=0
   ·have HM:=ae (show aK (ms.drop j) rj=aK (ms.drop (j+1)) (mjj rj).1 by rw [ab FA,aK,aC hz])
    have AA:Hid (Calls prog g (#[ay b 0]++lb) wr λ e W'=>e=.returned (.int .i64 0)/\∃ pv' mv',dK W' b (mjj rj).1 pv' mv'/\Fr (fv b pj mj) wr (fv b pv' mv') W'):=by
     unfold Hid;rw [<-hz];exact ab HC
    clear HC;go_wp2_with (go_at_fn g;refine(ab AA).mono ?_;rintro e w1 ⟨rfl,pv1,mv1,hr1,hf1⟩;have DA:=ae hr1;have BA:=ae hf1;clear hr1 hf1)
    go_roundg (N-(j+1))
    case measure=>omega
    case rel=>exact⟨j+1,_,pv1,mv1,by simp,by omega,ab DA,(ab HF).trans (ab BA),(ab HM).symm.trans (ab CA)⟩
   have HM:=ae (show aK (ms.drop j) rj=mjj rj by rw [ab FA,aK,au hz]);have hne:((mjj rj).2 != 0)=true:=by simpa using hz
   have AA:Hid (Calls prog g (#[ay b 0]++lb) wr λ e W'=>e=.returned (.int .i64 (mjj rj).2)/\∃ pv' mv',dK W' b (mjj rj).1 pv' mv'/\Fr (fv b pj mj) wr (fv b pv' mv') W'):=HC;clear HC;go_wp2_with (go_at_fn g;refine(ab AA).mono ?_;rintro e w1 ⟨rfl,pv1,mv1,hr1,hf1⟩;have DA:=ae hr1;have BA:=ae hf1;clear hr1 hf1)
   go_ret;rw [<-ab CA,ab HM];exact⟨rfl,pv1,mv1,ab DA,(ab HF).trans (ab BA)⟩
  have hdn:ms.drop j=[]:=List.drop_eq_nil_of_le (by omega);have HM:=ae (show aK (ms.drop j) rj=(rj,0)by rw [hdn,aK]);clear hrt hf hpf hagr hdj hdn;go_wp2_with fail;go_ret;rw [<-ab CA,ab HM];exact⟨rfl,pj,mj,ab IA,ab HF⟩
