/- part -/
import Derived.Test.YtgdeeodifnegiaaGreatDoorRunF
import Derived.Shelf.RegionOpenPlain
import Derived.Lib.UnsafeStr
set_option maxRecDepth 100000
set_option maxHeartbeats 2000000
namespace Go.Proofs.YtgdeeodifnegiaaGreatDoor
open Go.Proofs.Tryz
open Or
open Go.RowKit
def kY(fn:Nat)(m:Int->aM):Prop:=∀(w:World) (n:Int) (A:Nat->Prop),(∀ k,w.heap.size<=k->A k)->Calls prog fn #[.int .i64 n] w λ e w'=>∃ v,e=.returned v/\w'=w.alloc (aF (.int .i64 n) 3)/\jr w' A v (some (m n))
theorem An{pb:Nat}{ts:List aw}(ht:cE ts){w:World}{st:RS}{D O:Nat->Prop}(h:RA w pb ts st D O)(hk:Ok ts st)(e:am ts st=7)  :
  Calls prog 169 #[ay pb 0] w (iM pb ts w D O (g9 ts (bg ts st),some (some (gq 1)))):=by
 have HR:=ae h;have HF:=ae (bE O w);have HK:=ae hk;have HT:=ae ht;have OK:=ae (cu hk ht e (by decide));have HE:=ae e;have n14:=ae (show am ts st≠14 by rw [e];decide);clear h hk ht e;go_enter func169,ntmps169
 go_wp2_with (first
  | (go_at_call 211;refine(aL (ab HR) (ab HK) (ab HT) 14 (ab n14)).mono ?_;rintro e w1 ⟨rfl,hr1,hf1⟩;replace HR:=ae hr1;replace HF:=ae ((ab HF).trans hf1);clear hr1 hf1 n14)
  | (go_at_call 211;refine(bY (ab HR) (ab HK) (ab HT) 7 (ab HE)).mono ?_;rintro e w1 ⟨rfl,O1,hr1,hf1⟩;replace HR:=ae hr1;replace HF:=ae ((ab HF).trans hf1);clear hr1 hf1)
  | (go_at_call 218;refine(oK _ 1 _ ((ab HR).newFree (ab HF))).mono ?_;rintro e w2 ⟨v,rfl,rfl,hv⟩;replace HR:=ae ((ab HR).alloc (aF (.int .i64 1) 3));replace HF:=ae ((ab HF).alloc (aF (.int .i64 1) 3));have HV:=ae hv;clear hv))
 have hfv:=(ab HV).fnv;have HK1:=OK;rcases hfv with⟨f1,f2,f3,rfl⟩|rfl <;>
 ·go_wp2_with ((go_at_call 213;refine(aN (ab HR) (ab HK1) (ab HT) 27).mono ?_;rintro e w1 ⟨rfl,O1,hr1,hf1⟩;replace HR:=ae hr1;replace HV:=ae ((ab HV).fr hf1 (aD _));replace HF:=ae ((ab HF).trans hf1);clear hr1 hf1))
  go_ret2
  refine⟨_,_,rfl,ab HR,ab HF,(ab HV).fnv,λ o ho=>?_,ch (ab HK1) (ab HT) (by decide)⟩;cases ho;exact ab HV
theorem Ap{pb:Nat}{ts:List aw}(ht:cE ts){w:World}{st:RS}{D O:Nat->Prop}(h:RA w pb ts st D O)(hk:Ok ts st)(e:am ts st=8)  :
  Calls prog 169 #[ay pb 0] w (iM pb ts w D O (g9 ts (bg ts st),some (some (gq 2)))):=by
 have HR:=ae h;have HF:=ae (bE O w);have HK:=ae hk;have HT:=ae ht;have OK:=ae (cu hk ht e (by decide));have HE:=ae e;have n14:=ae (show am ts st≠14 by rw [e];decide);have n7:=ae (show am ts st≠7 by rw [e];decide);clear h hk ht e;go_enter func169,ntmps169
 go_wp2_with (first
  | (go_at_call 211;refine(aL (ab HR) (ab HK) (ab HT) 14 (ab n14)).mono ?_;rintro e w1 ⟨rfl,hr1,hf1⟩;replace HR:=ae hr1;replace HF:=ae ((ab HF).trans hf1);clear hr1 hf1 n14)
  | (go_at_call 211;refine(aL (ab HR) (ab HK) (ab HT) 7 (ab n7)).mono ?_;rintro e w1 ⟨rfl,hr1,hf1⟩;replace HR:=ae hr1;replace HF:=ae ((ab HF).trans hf1);clear hr1 hf1 n7)
  | (go_at_call 211;refine(bY (ab HR) (ab HK) (ab HT) 8 (ab HE)).mono ?_;rintro e w1 ⟨rfl,O1,hr1,hf1⟩;replace HR:=ae hr1;replace HF:=ae ((ab HF).trans hf1);clear hr1 hf1)
  | (go_at_call 218;refine(oK _ 2 _ ((ab HR).newFree (ab HF))).mono ?_;rintro e w2 ⟨v,rfl,rfl,hv⟩;replace HR:=ae ((ab HR).alloc (aF (.int .i64 2) 3));replace HF:=ae ((ab HF).alloc (aF (.int .i64 2) 3));have HV:=ae hv;clear hv))
 have hfv:=(ab HV).fnv;have HK1:=OK;rcases hfv with⟨f1,f2,f3,rfl⟩|rfl <;>
 ·go_wp2_with ((go_at_call 213;refine(aN (ab HR) (ab HK1) (ab HT) 27).mono ?_;rintro e w1 ⟨rfl,O1,hr1,hf1⟩;replace HR:=ae hr1;replace HV:=ae ((ab HV).fr hf1 (aD _));replace HF:=ae ((ab HF).trans hf1);clear hr1 hf1))
  go_ret2
  refine⟨_,_,rfl,ab HR,ab HF,(ab HV).fnv,λ o ho=>?_,ch (ab HK1) (ab HT) (by decide)⟩;cases ho;exact ab HV
theorem qx{pb:Nat}{ts:List aw}(ht:cE ts){w:World}{st:RS}{D O:Nat->Prop}(h:RA w pb ts st D O)(hk:Ok ts st)(e:am ts st=9){sum:RS->Option (RS×Option bh)}(IH:iN pb ts sum){s1:RS}{a:Option bh}(hs:sum (ar ts 26 (bg ts st)).1=some (s1,a)) :
  Calls prog 169 #[ay pb 0] w (iM pb ts w D O (g9 ts s1,some (a.map fJ))):=by
 have HR:=ae h;have HF:=ae (bE O w);have HK:=ae hk;have HT:=ae ht;have OK:=ae (cu hk ht e (by decide));have HE:=ae e;have n14:=ae (show am ts st≠14 by rw [e];decide);have n7:=ae (show am ts st≠7 by rw [e];decide);have n8:=ae (show am ts st≠8 by rw [e];decide);have HI:=ae IH;have HS:=ae hs;clear h hk ht IH hs e;go_enter func169,ntmps169
 go_wp2_with (first
  | (go_at_call 211;refine(aL (ab HR) (ab HK) (ab HT) 14 (ab n14)).mono ?_;rintro e w1 ⟨rfl,hr1,hf1⟩;replace HR:=ae hr1;replace HF:=ae ((ab HF).trans hf1);clear hr1 hf1 n14)
  | (go_at_call 211;refine(aL (ab HR) (ab HK) (ab HT) 7 (ab n7)).mono ?_;rintro e w1 ⟨rfl,hr1,hf1⟩;replace HR:=ae hr1;replace HF:=ae ((ab HF).trans hf1);clear hr1 hf1 n7)
  | (go_at_call 211;refine(aL (ab HR) (ab HK) (ab HT) 8 (ab n8)).mono ?_;rintro e w1 ⟨rfl,hr1,hf1⟩;replace HR:=ae hr1;replace HF:=ae ((ab HF).trans hf1);clear hr1 hf1 n8)
  | (go_at_call 211;refine(bY (ab HR) (ab HK) (ab HT) 9 (ab HE)).mono ?_;rintro e w1 ⟨rfl,O1,hr1,hf1⟩;replace HR:=ae hr1;replace HF:=ae ((ab HF).trans hf1);clear hr1 hf1))
 refine(pd (ab HT) (ab HI) (ab HR) (ab OK) (ab HS)).mono ?_;rintro e w2 ⟨v,O2,rfl,hr2,hf2,hv2,hk2⟩;have BA:=ae (hv2.fr (bE _ _) (ab HF).size);have AA:=ae hk2;replace HR:=ae hr2;replace HF:=ae ((ab HF).trans hf2);clear hr2 hf2 hv2 hk2;go_wp2_with fail;refine(sM _ _ _ _ ((ab HR).newFree (ab HF)) (ab BA)).mono ?_;rintro e w2 ⟨v2,rfl,rfl,hv⟩;replace HR:=ae (((ab HR).alloc (aF v 317)).alloc (aF (.func (.func 221) #[] #[]) 319));replace HF:=ae (((ab HF).alloc (aF v 317)).alloc (aF (.func (.func 221) #[] #[]) 319));have HV:=ae hv;have hfv:=hv.fnv;clear hv;rcases hfv with⟨f1,f2,f3,rfl⟩|rfl <;>
 ·go_wp2_with ((go_at_call 213;refine(aN (ab HR) (ab AA) (ab HT) 27).mono ?_;rintro e w1 ⟨rfl,O1,hr1,hf1⟩;replace HR:=ae hr1;replace HV:=ae ((ab HV).fr hf1 (aD _));replace HF:=ae ((ab HF).trans hf1);clear hr1 hf1))
  go_ret2
  refine⟨_,_,rfl,ab HR,ab HF,(ab HV).fnv,λ o ho=>?_,ch (ab AA) (ab HT) (by decide)⟩;cases ho;exact ab HV
theorem uk{pb:Nat}{ts:List aw}(ht:cE ts){w:World}{st:RS}{D O:Nat->Prop}(h:RA w pb ts st D O)(hk:Ok ts st)(e:am ts st=10){sum:RS->Option (RS×Option bh)}(IH:iN pb ts sum){s1:RS}{a:Option bh}(hs:sum (ar ts 26 (bg ts st)).1=some (s1,a)) :
  Calls prog 169 #[ay pb 0] w (iM pb ts w D O (g9 ts s1,some (a.map gE))):=by
 have HR:=ae h;have HF:=ae (bE O w);have HK:=ae hk;have HT:=ae ht;have OK:=ae (cu hk ht e (by decide));have HE:=ae e;have n14:=ae (show am ts st≠14 by rw [e];decide);have n7:=ae (show am ts st≠7 by rw [e];decide);have n8:=ae (show am ts st≠8 by rw [e];decide);have n9:=ae (show am ts st≠9 by rw [e];decide);have HI:=ae IH;have HS:=ae hs;clear h hk ht IH hs e;go_enter func169,ntmps169
 go_wp2_with (first
  | (go_at_call 211;refine(aL (ab HR) (ab HK) (ab HT) 14 (ab n14)).mono ?_;rintro e w1 ⟨rfl,hr1,hf1⟩;replace HR:=ae hr1;replace HF:=ae ((ab HF).trans hf1);clear hr1 hf1 n14)
  | (go_at_call 211;refine(aL (ab HR) (ab HK) (ab HT) 7 (ab n7)).mono ?_;rintro e w1 ⟨rfl,hr1,hf1⟩;replace HR:=ae hr1;replace HF:=ae ((ab HF).trans hf1);clear hr1 hf1 n7)
  | (go_at_call 211;refine(aL (ab HR) (ab HK) (ab HT) 8 (ab n8)).mono ?_;rintro e w1 ⟨rfl,hr1,hf1⟩;replace HR:=ae hr1;replace HF:=ae ((ab HF).trans hf1);clear hr1 hf1 n8)
  | (go_at_call 211;refine(aL (ab HR) (ab HK) (ab HT) 9 (ab n9)).mono ?_;rintro e w1 ⟨rfl,hr1,hf1⟩;replace HR:=ae hr1;replace HF:=ae ((ab HF).trans hf1);clear hr1 hf1 n9)
  | (go_at_call 211;refine(bY (ab HR) (ab HK) (ab HT) 10 (ab HE)).mono ?_;rintro e w1 ⟨rfl,O1,hr1,hf1⟩;replace HR:=ae hr1;replace HF:=ae ((ab HF).trans hf1);clear hr1 hf1))
 refine(pd (ab HT) (ab HI) (ab HR) (ab OK) (ab HS)).mono ?_;rintro e w2 ⟨v,O2,rfl,hr2,hf2,hv2,hk2⟩;have BA:=ae (hv2.fr (bE _ _) (ab HF).size);have AA:=ae hk2;replace HR:=ae hr2;replace HF:=ae ((ab HF).trans hf2);clear hr2 hf2 hv2 hk2;go_wp2_with fail;refine(uO _ _ _ _ ((ab HR).newFree (ab HF)) (ab BA)).mono ?_;rintro e w2 ⟨v2,rfl,rfl,hv⟩;replace HR:=ae (((ab HR).alloc (aF v 317)).alloc (aF (.func (.func 222) #[] #[]) 319));replace HF:=ae (((ab HF).alloc (aF v 317)).alloc (aF (.func (.func 222) #[] #[]) 319));have HV:=ae hv;have hfv:=hv.fnv;clear hv;rcases hfv with⟨f1,f2,f3,rfl⟩|rfl <;>
 ·go_wp2_with ((go_at_call 213;refine(aN (ab HR) (ab AA) (ab HT) 27).mono ?_;rintro e w1 ⟨rfl,O1,hr1,hf1⟩;replace HR:=ae hr1;replace HV:=ae ((ab HV).fr hf1 (aD _));replace HF:=ae ((ab HF).trans hf1);clear hr1 hf1))
  go_ret2
  refine⟨_,_,rfl,ab HR,ab HF,(ab HV).fnv,λ o ho=>?_,ch (ab AA) (ab HT) (by decide)⟩;cases ho;exact ab HV
theorem qw{pb:Nat}{ts:List aw}(ht:cE ts){w:World}{st:RS}{D O:Nat->Prop}(h:RA w pb ts st D O)(hk:Ok ts st)(e:am ts st=11)(HMK:kY 223 fV) :
  Calls prog 169 #[ay pb 0] w (iM pb ts w D O (g9 ts (aE ts 0 65535 (bg ts st)).1,some (some (fV (aE ts 0 65535 (bg ts st)).2)))):=by
 have HR:=ae h;have HF:=ae (bE O w);have HK:=ae hk;have HT:=ae ht;have OK:=ae (cu hk ht e (by decide));have HE:=ae e;have n14:=ae (show am ts st≠14 by rw [e];decide);have n7:=ae (show am ts st≠7 by rw [e];decide);have n8:=ae (show am ts st≠8 by rw [e];decide);have n9:=ae (show am ts st≠9 by rw [e];decide);have n10:=ae (show am ts st≠10 by rw [e];decide);have HM:=ae HMK;clear h hk ht HMK e;go_enter func169,ntmps169
 go_wp2_with (first
  | (go_at_call 211;refine(aL (ab HR) (ab HK) (ab HT) 14 (ab n14)).mono ?_;rintro e w1 ⟨rfl,hr1,hf1⟩;replace HR:=ae hr1;replace HF:=ae ((ab HF).trans hf1);clear hr1 hf1 n14)
  | (go_at_call 211;refine(aL (ab HR) (ab HK) (ab HT) 7 (ab n7)).mono ?_;rintro e w1 ⟨rfl,hr1,hf1⟩;replace HR:=ae hr1;replace HF:=ae ((ab HF).trans hf1);clear hr1 hf1 n7)
  | (go_at_call 211;refine(aL (ab HR) (ab HK) (ab HT) 8 (ab n8)).mono ?_;rintro e w1 ⟨rfl,hr1,hf1⟩;replace HR:=ae hr1;replace HF:=ae ((ab HF).trans hf1);clear hr1 hf1 n8)
  | (go_at_call 211;refine(aL (ab HR) (ab HK) (ab HT) 9 (ab n9)).mono ?_;rintro e w1 ⟨rfl,hr1,hf1⟩;replace HR:=ae hr1;replace HF:=ae ((ab HF).trans hf1);clear hr1 hf1 n9)
  | (go_at_call 211;refine(aL (ab HR) (ab HK) (ab HT) 10 (ab n10)).mono ?_;rintro e w1 ⟨rfl,hr1,hf1⟩;replace HR:=ae hr1;replace HF:=ae ((ab HF).trans hf1);clear hr1 hf1 n10)
  | (go_at_call 211;refine(bY (ab HR) (ab HK) (ab HT) 11 (ab HE)).mono ?_;rintro e w1 ⟨rfl,O1,hr1,hf1⟩;replace HR:=ae hr1;replace HF:=ae ((ab HF).trans hf1);clear hr1 hf1)
  | (go_at_call 224;refine(tF (ab HT) (ab HR) (ab OK)).mono ?_;rintro e w1 ⟨rfl,O1,hr1,hf1⟩;replace HR:=ae hr1;replace HF:=ae ((ab HF).trans hf1);clear hr1 hf1)
  | (go_at_call 223;refine((ab HM) _ _ _ ((ab HR).newFree (ab HF))).mono ?_;rintro e w2 ⟨v,rfl,rfl,hv⟩;replace HR:=ae ((ab HR).alloc (aF (.int .i64 (aE ts 0 65535 (bg ts st)).2) 3));replace HF:=ae ((ab HF).alloc (aF (.int .i64 (aE ts 0 65535 (bg ts st)).2) 3));have HV:=ae hv;clear hv))
 have hfv:=(ab HV).fnv;have AA:=ae (gO (a:=0) (b:=65535) (ab OK) (ab HT));rcases hfv with⟨f1,f2,f3,rfl⟩|rfl <;>
 ·go_wp2_with ((go_at_call 213;refine(aN (ab HR) (ab AA) (ab HT) 27).mono ?_;rintro e w1 ⟨rfl,O1,hr1,hf1⟩;replace HR:=ae hr1;replace HV:=ae ((ab HV).fr hf1 (aD _));replace HF:=ae ((ab HF).trans hf1);clear hr1 hf1))
  go_ret2
  refine⟨_,_,rfl,ab HR,ab HF,(ab HV).fnv,λ o ho=>?_,ch (ab AA) (ab HT) (by decide)⟩;cases ho;exact ab HV
theorem mJ{pb:Nat}{ts:List aw}(ht:cE ts){w:World}{st:RS}{D O:Nat->Prop}(h:RA w pb ts st D O)(hk:Ok ts st)(e:am ts st=12)(HMK:kY 225 el) :
  Calls prog 169 #[ay pb 0] w (iM pb ts w D O (g9 ts (aE ts 0 65535 (bg ts st)).1,some (some (el (aE ts 0 65535 (bg ts st)).2)))):=by
 have HR:=ae h;have HF:=ae (bE O w);have HK:=ae hk;have HT:=ae ht;have OK:=ae (cu hk ht e (by decide));have HE:=ae e;have n14:=ae (show am ts st≠14 by rw [e];decide);have n7:=ae (show am ts st≠7 by rw [e];decide);have n8:=ae (show am ts st≠8 by rw [e];decide);have n9:=ae (show am ts st≠9 by rw [e];decide);have n10:=ae (show am ts st≠10 by rw [e];decide);have n11:=ae (show am ts st≠11 by rw [e];decide);have HM:=ae HMK;clear h hk ht HMK e;go_enter func169,ntmps169
 go_wp2_with (first
  | (go_at_call 211;refine(aL (ab HR) (ab HK) (ab HT) 14 (ab n14)).mono ?_;rintro e w1 ⟨rfl,hr1,hf1⟩;replace HR:=ae hr1;replace HF:=ae ((ab HF).trans hf1);clear hr1 hf1 n14)
  | (go_at_call 211;refine(aL (ab HR) (ab HK) (ab HT) 7 (ab n7)).mono ?_;rintro e w1 ⟨rfl,hr1,hf1⟩;replace HR:=ae hr1;replace HF:=ae ((ab HF).trans hf1);clear hr1 hf1 n7)
  | (go_at_call 211;refine(aL (ab HR) (ab HK) (ab HT) 8 (ab n8)).mono ?_;rintro e w1 ⟨rfl,hr1,hf1⟩;replace HR:=ae hr1;replace HF:=ae ((ab HF).trans hf1);clear hr1 hf1 n8)
  | (go_at_call 211;refine(aL (ab HR) (ab HK) (ab HT) 9 (ab n9)).mono ?_;rintro e w1 ⟨rfl,hr1,hf1⟩;replace HR:=ae hr1;replace HF:=ae ((ab HF).trans hf1);clear hr1 hf1 n9)
  | (go_at_call 211;refine(aL (ab HR) (ab HK) (ab HT) 10 (ab n10)).mono ?_;rintro e w1 ⟨rfl,hr1,hf1⟩;replace HR:=ae hr1;replace HF:=ae ((ab HF).trans hf1);clear hr1 hf1 n10)
  | (go_at_call 211;refine(aL (ab HR) (ab HK) (ab HT) 11 (ab n11)).mono ?_;rintro e w1 ⟨rfl,hr1,hf1⟩;replace HR:=ae hr1;replace HF:=ae ((ab HF).trans hf1);clear hr1 hf1 n11)
  | (go_at_call 211;refine(bY (ab HR) (ab HK) (ab HT) 12 (ab HE)).mono ?_;rintro e w1 ⟨rfl,O1,hr1,hf1⟩;replace HR:=ae hr1;replace HF:=ae ((ab HF).trans hf1);clear hr1 hf1)
  | (go_at_call 224;refine(tF (ab HT) (ab HR) (ab OK)).mono ?_;rintro e w1 ⟨rfl,O1,hr1,hf1⟩;replace HR:=ae hr1;replace HF:=ae ((ab HF).trans hf1);clear hr1 hf1)
  | (go_at_call 225;refine((ab HM) _ _ _ ((ab HR).newFree (ab HF))).mono ?_;rintro e w2 ⟨v,rfl,rfl,hv⟩;replace HR:=ae ((ab HR).alloc (aF (.int .i64 (aE ts 0 65535 (bg ts st)).2) 3));replace HF:=ae ((ab HF).alloc (aF (.int .i64 (aE ts 0 65535 (bg ts st)).2) 3));have HV:=ae hv;clear hv))
 have hfv:=(ab HV).fnv;have AA:=ae (gO (a:=0) (b:=65535) (ab OK) (ab HT));rcases hfv with⟨f1,f2,f3,rfl⟩|rfl <;>
 ·go_wp2_with ((go_at_call 213;refine(aN (ab HR) (ab AA) (ab HT) 27).mono ?_;rintro e w1 ⟨rfl,O1,hr1,hf1⟩;replace HR:=ae hr1;replace HV:=ae ((ab HV).fr hf1 (aD _));replace HF:=ae ((ab HF).trans hf1);clear hr1 hf1))
  go_ret2
  refine⟨_,_,rfl,ab HR,ab HF,(ab HV).fnv,λ o ho=>?_,ch (ab AA) (ab HT) (by decide)⟩;cases ho;exact ab HV
theorem lL{pb:Nat}{ts:List aw}(ht:cE ts){w:World}{st:RS}{D O:Nat->Prop}(h:RA w pb ts st D O)(hk:Ok ts st)(e:am ts st=13)(HMK:kY 226 dw) :
  Calls prog 169 #[ay pb 0] w (iM pb ts w D O (g9 ts (aE ts 1 65535 (bg ts st)).1,some (some (dw (aE ts 1 65535 (bg ts st)).2)))):=by
 have HR:=ae h;have HF:=ae (bE O w);have HK:=ae hk;have HT:=ae ht;have OK:=ae (cu hk ht e (by decide));have HE:=ae e;have n14:=ae (show am ts st≠14 by rw [e];decide);have n7:=ae (show am ts st≠7 by rw [e];decide);have n8:=ae (show am ts st≠8 by rw [e];decide);have n9:=ae (show am ts st≠9 by rw [e];decide);have n10:=ae (show am ts st≠10 by rw [e];decide);have n11:=ae (show am ts st≠11 by rw [e];decide);have n12:=ae (show am ts st≠12 by rw [e];decide);have HM:=ae HMK;clear h hk ht HMK e;go_enter func169,ntmps169
 go_wp2_with (first
  | (go_at_call 211;refine(aL (ab HR) (ab HK) (ab HT) 14 (ab n14)).mono ?_;rintro e w1 ⟨rfl,hr1,hf1⟩;replace HR:=ae hr1;replace HF:=ae ((ab HF).trans hf1);clear hr1 hf1 n14)
  | (go_at_call 211;refine(aL (ab HR) (ab HK) (ab HT) 7 (ab n7)).mono ?_;rintro e w1 ⟨rfl,hr1,hf1⟩;replace HR:=ae hr1;replace HF:=ae ((ab HF).trans hf1);clear hr1 hf1 n7)
  | (go_at_call 211;refine(aL (ab HR) (ab HK) (ab HT) 8 (ab n8)).mono ?_;rintro e w1 ⟨rfl,hr1,hf1⟩;replace HR:=ae hr1;replace HF:=ae ((ab HF).trans hf1);clear hr1 hf1 n8)
  | (go_at_call 211;refine(aL (ab HR) (ab HK) (ab HT) 9 (ab n9)).mono ?_;rintro e w1 ⟨rfl,hr1,hf1⟩;replace HR:=ae hr1;replace HF:=ae ((ab HF).trans hf1);clear hr1 hf1 n9)
  | (go_at_call 211;refine(aL (ab HR) (ab HK) (ab HT) 10 (ab n10)).mono ?_;rintro e w1 ⟨rfl,hr1,hf1⟩;replace HR:=ae hr1;replace HF:=ae ((ab HF).trans hf1);clear hr1 hf1 n10)
  | (go_at_call 211;refine(aL (ab HR) (ab HK) (ab HT) 11 (ab n11)).mono ?_;rintro e w1 ⟨rfl,hr1,hf1⟩;replace HR:=ae hr1;replace HF:=ae ((ab HF).trans hf1);clear hr1 hf1 n11)
  | (go_at_call 211;refine(aL (ab HR) (ab HK) (ab HT) 12 (ab n12)).mono ?_;rintro e w1 ⟨rfl,hr1,hf1⟩;replace HR:=ae hr1;replace HF:=ae ((ab HF).trans hf1);clear hr1 hf1 n12)
  | (go_at_call 211;refine(bY (ab HR) (ab HK) (ab HT) 13 (ab HE)).mono ?_;rintro e w1 ⟨rfl,O1,hr1,hf1⟩;replace HR:=ae hr1;replace HF:=ae ((ab HF).trans hf1);clear hr1 hf1)
  | (go_at_call 227;refine(ur (ab HT) (ab HR) (ab OK)).mono ?_;rintro e w1 ⟨rfl,O1,hr1,hf1⟩;replace HR:=ae hr1;replace HF:=ae ((ab HF).trans hf1);clear hr1 hf1)
  | (go_at_call 226;refine((ab HM) _ _ _ ((ab HR).newFree (ab HF))).mono ?_;rintro e w2 ⟨v,rfl,rfl,hv⟩;replace HR:=ae ((ab HR).alloc (aF (.int .i64 (aE ts 1 65535 (bg ts st)).2) 3));replace HF:=ae ((ab HF).alloc (aF (.int .i64 (aE ts 1 65535 (bg ts st)).2) 3));have HV:=ae hv;clear hv))
 have hfv:=(ab HV).fnv;have AA:=ae (gO (a:=1) (b:=65535) (ab OK) (ab HT));rcases hfv with⟨f1,f2,f3,rfl⟩|rfl <;>
 ·go_wp2_with ((go_at_call 213;refine(aN (ab HR) (ab AA) (ab HT) 27).mono ?_;rintro e w1 ⟨rfl,O1,hr1,hf1⟩;replace HR:=ae hr1;replace HV:=ae ((ab HV).fr hf1 (aD _));replace HF:=ae ((ab HF).trans hf1);clear hr1 hf1))
  go_ret2
  refine⟨_,_,rfl,ab HR,ab HF,(ab HV).fnv,λ o ho=>?_,ch (ab AA) (ab HT) (by decide)⟩;cases ho;exact ab HV
theorem DY{pb:Nat}{ts:List aw}(ht:cE ts){w:World}{st:RS}{D O:Nat->Prop}(h:RA w pb ts st D O)(hk:Ok ts st)(e:am ts st=14){r:RS×Option aM}(HC:∀(W:World) (O1:Nat->Prop),RA W pb ts (bg ts st) D O1->Calls prog 217 #[ay pb 0] W (wR pb ts W D O1 r)) :
  Calls prog 169 #[ay pb 0] w (iM pb ts w D O (r.1,some r.2)):=by
 have HR:=ae h;have HF:=ae (bE O w);have HK:=ae hk;have HT:=ae ht;have OK:=ae (cu hk ht e (by decide));have HE:=ae e;have AA:=ae HC;clear h hk ht HC e;go_enter func169,ntmps169;go_wp2_with ((go_at_call 211;refine(bY (ab HR) (ab HK) (ab HT) 14 (ab HE)).mono ?_;rintro e w1 ⟨rfl,O1,hr1,hf1⟩;replace HR:=ae hr1;replace HF:=ae ((ab HF).trans hf1);clear hr1 hf1))
 refine((ab AA) _ _ (ab HR)).mono ?_;rintro e w2 ⟨v,O2,rfl,hr2,hf2,hv2,hk2⟩;have HV:=ae (hv2.fr (bE _ _) (ab HF).size);have BA:=ae hk2;have hfv:=hv2.fnv;replace HR:=ae hr2;replace HF:=ae ((ab HF).trans hf2);clear hr2 hf2 hv2 hk2;rcases hfv with⟨f1,f2,f3,rfl⟩|rfl <;>
 ·go_wp2_with fail
  go_ret2
  refine⟨_,_,rfl,ab HR,ab HF,(ab HV).fnv,λ o ho=>?_,ab BA⟩;cases ho;exact ab HV
theorem FV{pb:Nat}{ts:List aw}(ht:cE ts){w:World}{st:RS}{D O:Nat->Prop}(h:RA w pb ts st D O)(hk:Ok ts st)(e14:am ts st≠14)(e7:am ts st≠7)(e8:am ts st≠8)(e9:am ts st≠9)(e10:am ts st≠10)(e11:am ts st≠11)(e12:am ts st≠12)(e13:am ts st≠13)  :
  Calls prog 169 #[ay pb 0] w (iM pb ts w D O (st,none)):=by
 have HR:=ae h;have HF:=ae (bE O w);have HK:=ae hk;have HT:=ae ht;have n14:=ae e14;have n7:=ae e7;have n8:=ae e8;have n9:=ae e9;have n10:=ae e10;have n11:=ae e11;have n12:=ae e12;have n13:=ae e13;clear h hk ht e14 e7 e8 e9 e10 e11 e12 e13;go_enter func169,ntmps169
 go_wp2_with (first
  | (go_at_call 211;refine(aL (ab HR) (ab HK) (ab HT) 14 (ab n14)).mono ?_;rintro e w1 ⟨rfl,hr1,hf1⟩;replace HR:=ae hr1;replace HF:=ae ((ab HF).trans hf1);clear hr1 hf1 n14)
  | (go_at_call 211;refine(aL (ab HR) (ab HK) (ab HT) 7 (ab n7)).mono ?_;rintro e w1 ⟨rfl,hr1,hf1⟩;replace HR:=ae hr1;replace HF:=ae ((ab HF).trans hf1);clear hr1 hf1 n7)
  | (go_at_call 211;refine(aL (ab HR) (ab HK) (ab HT) 8 (ab n8)).mono ?_;rintro e w1 ⟨rfl,hr1,hf1⟩;replace HR:=ae hr1;replace HF:=ae ((ab HF).trans hf1);clear hr1 hf1 n8)
  | (go_at_call 211;refine(aL (ab HR) (ab HK) (ab HT) 9 (ab n9)).mono ?_;rintro e w1 ⟨rfl,hr1,hf1⟩;replace HR:=ae hr1;replace HF:=ae ((ab HF).trans hf1);clear hr1 hf1 n9)
  | (go_at_call 211;refine(aL (ab HR) (ab HK) (ab HT) 10 (ab n10)).mono ?_;rintro e w1 ⟨rfl,hr1,hf1⟩;replace HR:=ae hr1;replace HF:=ae ((ab HF).trans hf1);clear hr1 hf1 n10)
  | (go_at_call 211;refine(aL (ab HR) (ab HK) (ab HT) 11 (ab n11)).mono ?_;rintro e w1 ⟨rfl,hr1,hf1⟩;replace HR:=ae hr1;replace HF:=ae ((ab HF).trans hf1);clear hr1 hf1 n11)
  | (go_at_call 211;refine(aL (ab HR) (ab HK) (ab HT) 12 (ab n12)).mono ?_;rintro e w1 ⟨rfl,hr1,hf1⟩;replace HR:=ae hr1;replace HF:=ae ((ab HF).trans hf1);clear hr1 hf1 n12)
  | (go_at_call 211;refine(aL (ab HR) (ab HK) (ab HT) 13 (ab n13)).mono ?_;rintro e w1 ⟨rfl,hr1,hf1⟩;replace HR:=ae hr1;replace HF:=ae ((ab HF).trans hf1);clear hr1 hf1 n13))
 go_ret2
 exact⟨_,_,rfl,ab HR,ab HF,inr rfl,(λ o ho=>by cases ho),ab HK⟩
theorem FW{pb:Nat}{ts:List aw}(ht:cE ts)(n:Nat)(hn:n<=1000)(ok:Int->Bool)(h11:ok 11=true->kY 223 fV)(h12:ok 12=true->kY 225 el)(h13:ok 13=true->kY 226 dw)
  {sum:RS->Option (RS×Option bh)} (IS:iN pb ts sum) {cnd:RS->Option (RS×Option aQ)} (IC:fT 266 pb ts cnd) (f:Nat):kz pb ts (stmtTw ts n ok sum cnd f):=by
 induction f with
 | zero=>intro w st D O r h hk hr;rw [stmtTw]at hr;cases hr
 | succ f ih =>
  intro w st D O r h hk hr;rw [stmtTw]at hr;by_cases hok:ok (am ts st)=false
  ·rw [aC hok]at hr;cases hr
  rw [au hok]at hr;have IB:=A8 ht ih n hn;by_cases e14:am ts st=14
  ·rw [aC e14]at hr;have OK:=cu hk ht e14 (by decide);cases hc:cnd (bg ts st)with
   | none=>rw [hc]at hr;cases hr
   | some p =>
    obtain⟨s1,c⟩:=p;rw [hc]at hr;dsimp only at hr;cases hb:fU ts (stmtTw ts n ok sum cnd f) n (ar ts 15 s1).1 with
    | none=>rw [hb]at hr;cases hr
    | some q =>
     obtain⟨s2,yes⟩:=q;rw [hb]at hr;dsimp only at hr;by_cases e16:am ts s2=16
     ·rw [aC e16]at hr;cases hb2:fU ts (stmtTw ts n ok sum cnd f) n (bg ts s2)with
      | none=>rw [hb2]at hr;cases hr
      | some q2 =>
       obtain⟨s3,no⟩:=q2;rw [hb2]at hr;cases hr
       exact DY ht h hk e14 (λ W O1 hW=>Bd ht IC IB hW OK hc hb e16 hb2)
     rw [au e16]at hr;cases hr
     exact DY ht h hk e14 (λ W O1 hW=>Bc ht IC IB hW OK hc hb e16)
  rw [au e14]at hr;by_cases e7:am ts st=7
  ·rw [aC e7]at hr;cases hr;exact An ht h hk e7
  rw [au e7]at hr;by_cases e8:am ts st=8
  ·rw [aC e8]at hr;cases hr;exact Ap ht h hk e8
  rw [au e8]at hr;by_cases e9:am ts st=9
  ·rw [aC e9]at hr;cases hs:sum (ar ts 26 (bg ts st)).1 with
   | none=>rw [hs]at hr;cases hr
   | some p =>
    obtain⟨s1,a⟩:=p;rw [hs]at hr;cases hr;exact qx ht h hk e9 IS hs
  rw [au e9]at hr;by_cases e10:am ts st=10
  ·rw [aC e10]at hr;cases hs:sum (ar ts 26 (bg ts st)).1 with
   | none=>rw [hs]at hr;cases hr
   | some p =>
    obtain⟨s1,a⟩:=p;rw [hs]at hr;cases hr;exact uk ht h hk e10 IS hs
  rw [au e10]at hr;by_cases e11:am ts st=11
  ·rw [aC e11]at hr;cases hr;exact qw ht h hk e11 (h11 (by rw [e11]at hok;simpa using hok))
  rw [au e11]at hr;by_cases e12:am ts st=12
  ·rw [aC e12]at hr;cases hr;exact mJ ht h hk e12 (h12 (by rw [e12]at hok;simpa using hok))
  rw [au e12]at hr;by_cases e13:am ts st=13
  ·rw [aC e13]at hr;cases hr;exact lL ht h hk e13 (h13 (by rw [e13]at hok;simpa using hok))
  rw [au e13]at hr;cases hr
  exact FV ht h hk e14 e7 e8 e9 e10 e11 e12 e13
theorem ID{pb:Nat}{ts:List aw}(ht:cE ts){tw:RS->Option (RS×Option (Option aM))}(IH:kz pb ts tw)(n:Nat)(hn:n<=1000){w:World}{st s1:RS}{l:List (Option aM)}{D O:Nat->Prop}(h:RA w pb ts st D O)(hk:Ok ts st)(hr:bO tw n st []=some (s1,l)) :
  Calls prog 168 #[ay pb 0,.func (.func 169) #[ay pb 0] #[]] w (sr pb ts w D O (if l.length=0 then cC ts s1 else s1,l)):=by
 have HM:=ae (vV IH n hn h hk hr);have HT:=ae ht;clear h hk ht IH hr;by_cases h0:l.length=0
 ·rw [aC h0];have hb:(((l.length:Nat):Int)==0)=true:=by simp [h0]
  go_enter func168,ntmps168;go_wp2_with fail;refine(ab HM).mono ?_;rintro e w2 ⟨v,O2,rfl,hr2,hf2,hs2,hk2,⟨va,vc,rfl⟩,hl2⟩;have HS:=ae hs2;have HK:=ae hk2;have HR:=ae hr2;have HF:=ae hf2;have hl3:l.length<=1000000:=hl2;clear hr2 hf2 hs2 hk2 HM hl2;dsimp only;generalize hN:l.length=N at *;subst h0;go_wp2_with (go_at_call 171;refine(gb (ab HR) (ab HK).next (ab HT).n1).mono ?_;rintro e w1 ⟨rfl,hr1,hf1⟩;replace HR:=ae hr1;replace HS:=ae ((ab HS).fr hf1 (aD _));replace HF:=ae ((ab HF).trans hf1);clear hr1 hf1)
  go_ret;exact⟨_,_,rfl,ab HR,ab HF,ab HS,iV (ab HK),⟨va,vc,by show Value.slice va _ vc=Value.slice va l.length vc;rw [hN]⟩,by show l.length<=_;omega⟩
 rw [au h0];have hb:(((l.length:Nat):Int)==0)=false:=by simpa using h0
 go_enter func168,ntmps168;go_wp2_with fail;refine(ab HM).mono ?_;rintro e w2 ⟨v,O2,rfl,hr2,hf2,hs2,hk2,⟨va,vc,rfl⟩,hl2⟩;have HS:=ae hs2;have HK:=ae hk2;have HR:=ae hr2;have HF:=ae hf2;have hl3:l.length<=1000000:=hl2;clear hr2 hf2 hs2 hk2 HM hl2;dsimp only;generalize hN:l.length=N at *;go_wp2_with fail;go_ret;exact⟨_,_,rfl,ab HR,ab HF,ab HS,ab HK,⟨va,vc,by show Value.slice va _ vc=Value.slice va l.length vc;rw [hN]⟩,by show l.length<=_;omega⟩
theorem Ma{pb:Nat}{ts:List aw}(ht:cE ts){w:World}{st:RS}{D O:Nat->Prop}(h:RA w pb ts st D O)(hk:Ok ts st)(e5:am ts st≠5)(e6:am ts st≠6) :
  Calls prog 167 #[ay pb 0] w λ e w'=>e=.returned (.bool false)/\RA w' pb ts st D O/\Fr O w O w':=by
 have HR:=ae (h.alloc (.cells #[.string ⟨#[]⟩,.nilFunc,.nilFunc] 307));have HF:=ae ((bE O w).alloc (.cells #[.string ⟨#[]⟩,.nilFunc,.nilFunc] 307));have HK:=ae hk;have HT:=ae ht;have n5:=ae e5;have n6:=ae e6;clear h hk ht e5 e6;have hsn:∀(w:World) (a:Addr),(store a .nilFunc).run prog w=stored prog w a .nilFunc .plain:=λ w a=>run_store prog w a .nilFunc .plain rfl
 go_enter func167,ntmps167
 go_wp2_with (first
  | (go_at_call 211;refine(aL (ab HR) (ab HK) (ab HT) 5 (ab n5)).mono ?_;rintro e w1 ⟨rfl,hr1,hf1⟩;replace HR:=ae hr1;replace HF:=ae ((ab HF).trans hf1);clear hr1 hf1 n5)
  | (go_at_call 211;refine(aL (ab HR) (ab HK) (ab HT) 6 (ab n6)).mono ?_;rintro e w1 ⟨rfl,hr1,hf1⟩;replace HR:=ae hr1;replace HF:=ae ((ab HF).trans hf1);clear hr1 hf1 n6))
 go_ret;exact⟨rfl,ab HR,ab HF⟩
def wP(pb:Nat)(ts:List aw)(w:World)(O:Nat->Prop)(r:RS×List (Option aM))(e:Ending)(w':World):Prop :=
 ∃ v O' D',e=.returned v/\RA w' pb ts r.1 D' O'/\Fr O w O' w'/\fk w' (dk O' (λ _=>False) w.heap.size) v r.2/\Ok ts r.1/\(∃ a c,v=.slice a r.2.length c)/\r.2.length<=1000000
theorem lh{w:World}{a:Addr}{n k:Nat}(h:k≠a.block):(w.freeze a n).heap[k]?=w.heap[k]?:=by
 unfold World.freeze;split
 ·rfl
 simp [Array.getElem?_modify,Ne.symm h]
theorem j8(w:World)(a:Addr)(n:Nat):(w.freeze a n).os=w.os/\(w.freeze a n).tape=w.tape/\(w.freeze a n).output=w.output/\(w.freeze a n).heap.size=w.heap.size:=by
 unfold World.freeze;split
 ·exact⟨rfl,rfl,rfl,rfl⟩
 exact⟨rfl,rfl,rfl,by simp⟩
theorem Fr.freeze{O O':Nat->Prop}{w w':World}(h:Fr O w O' w'){p:Addr}(hp:O' p.block\/w.heap.size<=p.block)(n:Nat):Fr O w O' (w'.freeze p n) :=
 ⟨(j8 w' p n).1.trans h.os,(j8 w' p n).2.1.trans h.tape,(j8 w' p n).2.2.1.trans h.output,by rw [(j8 w' p n).2.2.2];exact h.size,
  λ k hk hn=>(lh (λ e=>by
   rcases hp with h1|h1
   ·rw [<-e]at h1;rcases h.own k h1 with h2|h2;exact hn h2;omega
   ·omega)).trans (h.block k hk hn),h.own⟩
theorem Tryz.cellsByte:prog.cellsOf 5=1:=by kernel_rfl
theorem Cx{w:World}{pb:Nat}{ts:List aw}{st:RS}{D O:Nat->Prop}(h:RA w pb ts st D O)(h0:st.page≠[])(hn:st.page.length<=1000000) :
  Calls prog 172 #[ay pb 4] w λ e w'=>e=.returned (.string ⟨st.page.toArray⟩)/\Fr O w O w'/\(∀ k,¬O k->w'.heap[k]?=w.heap[k]?)/\w'.heap[pb]?=w.heap[pb]?:=by
 obtain⟨tb,tc,dv,av,bv,h,rfl⟩:=h;have hl0:st.page.length≠0:=by simpa using h0
 obtain⟨g,cap,cur,rfl,hbg,hg,hnc,hcm,hcs,htake⟩:∃ g cap cur,bv=.slice (some ⟨g,0,none⟩) st.page.length cap/\0<=g/\w.heap[g]?=some (.cells cur 5 (0,0))/\st.page.length<=cap/\cap<=maxLen/\cur.size=cap*1/\cur.toList.take (st.page.length*1)=iD st.page:=by
  rcases h.page.2 with⟨_,hz⟩|⟨g,cap,cur,hv,r⟩
  ·exact absurd hz hl0
  exact⟨g,cap,cur,hv,r⟩
 have c1:w.drew.cell? ⟨pb,5,none⟩=some (.slice (some ⟨g,0,none⟩) st.page.length cap):=af (w:=w) h.blk
 have hSD:(Builtin.unsafeSliceData_ #[63] 320 #[.slice (some ⟨g,0,none⟩) st.page.length cap]).run prog w.drew=.ok (.pointer (some ⟨g,0,none⟩)) w.drew :=
  Lib.run_unsafeSliceData_row _ _ _ _ _ _ (by omega)
 have hUS:(Builtin.unsafeString_ #[320,3] 9 #[.pointer (some ⟨g,0,none⟩),.int .i64 st.page.length]).run prog w.drew=.ok (.string ⟨st.page.toArray⟩) (w.drew.freeze ⟨g,0,none⟩ st.page.length):=by
  refine Lib.run_unsafeString_row w.drew 320 3 9 5 underlying320 Tryz.cellsByte g cur.size (by have hg':w.drew.heap[g]?=some (.cells cur 5 (0,0)):=hg;simp [World.shape?,hg']) st.page h0 (by omega) (by unfold maxLen at hcm;omega) ?_;intro j x hx;have:=h.page.cells (g:=g) rfl j (.int .u8 x.toNat) (by simp [iD,hx]);exact this
 have c1':w.cell? ⟨pb,5,none⟩=some (.slice (some ⟨g,0,none⟩) st.page.length cap):=af (w:=w) h.blk;have HO:=ae (show dS pb tb dv (.slice (some ⟨g,0,none⟩) st.page.length cap) g from inr (inr (inl rfl)));have hgp:pb≠g:=λ e=>h.ne2 (by rw [e];rfl)
 have AA:=ae hgp;clear h hg hcm hcs htake hbg hgp;go_enter func172,ntmps172;go_wp2_with fail;go_region
 all_goals
  go_wp2_with fail;go_ret;exact⟨rfl,((bE _ _).drew).freeze (inl (ab HO)) _,λ k hk=>lh (λ e=>hk (by rw [show k=g from e];exact ab HO)),lh (ab AA)⟩
