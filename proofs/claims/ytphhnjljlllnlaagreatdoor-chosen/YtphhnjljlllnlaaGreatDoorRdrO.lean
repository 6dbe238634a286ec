/- part -/
import Derived.Test.YtphhnjljlllnlaaGreatDoorRunF
import Derived.Shelf.RegionOpenPlain
import Derived.Lib.UnsafeStr
set_option maxRecDepth 100000
set_option maxHeartbeats 2000000
namespace Go.Proofs.YtphhnjljlllnlaaGreatDoor
open Go.Proofs.Tryz
open Or
open Go.RowKit
def lH(fn:Nat)(m:Int->aJ):Prop:=∀(w:World) (n:Int) (A:Nat->Prop),(∀ k,w.heap.size<=k->A k)->Calls prog fn #[.int .i64 n] w λ e w'=>∃ v,e=.returned v/\w'=w.alloc (aE (.int .i64 n) 3)/\jG w' A v (some (m n))
theorem BM{pb:Nat}{ts:List ak}(ht:bY ts){w:World}{st:RS}{D O:Nat->Prop}(h:RA w pb ts st D O)(hk:Ok ts st)(e:an ts st=7)  :
  Calls prog 89 #[au pb 0] w (iT pb ts w D O (nZ ts (b9 ts st),some (some (ci 1)))):=by
 have HR:=af h;have HF:=af (dw O w);have HK:=af hk;have HT:=af ht;have OK:=af (bV hk ht e (by decide));have HE:=af e;have n14:=af (show an ts st≠14 by rw [e];decide);clear h hk ht e;go_enter func89,ntmps89
 go_wp2_with (first
  | (go_at_call 137;refine(aH (ae HR) (ae HK) (ae HT) 14 (ae n14)).mono ?_;rintro e w1 ⟨rfl,hr1,hf1⟩;replace HR:=af hr1;replace HF:=af ((ae HF).trans hf1);clear hr1 hf1 n14)
  | (go_at_call 137;refine(bP (ae HR) (ae HK) (ae HT) 7 (ae HE)).mono ?_;rintro e w1 ⟨rfl,O1,hr1,hf1⟩;replace HR:=af hr1;replace HF:=af ((ae HF).trans hf1);clear hr1 hf1)
  | (go_at_call 144;refine(pK _ 1 _ ((ae HR).newFree (ae HF))).mono ?_;rintro e w2 ⟨v,rfl,rfl,hv⟩;replace HR:=af ((ae HR).alloc (aE (.int .i64 1) 3));replace HF:=af ((ae HF).alloc (aE (.int .i64 1) 3));have HV:=af hv;clear hv))
 have hfv:=(ae HV).fnv;have HK1:=OK;rcases hfv with⟨f1,f2,f3,rfl⟩|rfl <;>
 ·go_wp2_with ((go_at_call 139;refine(bL (ae HR) (ae HK1) (ae HT) 27).mono ?_;rintro e w1 ⟨rfl,O1,hr1,hf1⟩;replace HR:=af hr1;replace HV:=af ((ae HV).fr hf1 (aL _));replace HF:=af ((ae HF).trans hf1);clear hr1 hf1))
  go_ret2
  refine⟨_,_,rfl,ae HR,ae HF,(ae HV).fnv,λ o ho=>?_,bT (ae HK1) (ae HT) (by decide)⟩;cases ho;exact ae HV
theorem BN{pb:Nat}{ts:List ak}(ht:bY ts){w:World}{st:RS}{D O:Nat->Prop}(h:RA w pb ts st D O)(hk:Ok ts st)(e:an ts st=8)  :
  Calls prog 89 #[au pb 0] w (iT pb ts w D O (nZ ts (b9 ts st),some (some (ci 2)))):=by
 have HR:=af h;have HF:=af (dw O w);have HK:=af hk;have HT:=af ht;have OK:=af (bV hk ht e (by decide));have HE:=af e;have n14:=af (show an ts st≠14 by rw [e];decide);have n7:=af (show an ts st≠7 by rw [e];decide);clear h hk ht e;go_enter func89,ntmps89
 go_wp2_with (first
  | (go_at_call 137;refine(aH (ae HR) (ae HK) (ae HT) 14 (ae n14)).mono ?_;rintro e w1 ⟨rfl,hr1,hf1⟩;replace HR:=af hr1;replace HF:=af ((ae HF).trans hf1);clear hr1 hf1 n14)
  | (go_at_call 137;refine(aH (ae HR) (ae HK) (ae HT) 7 (ae n7)).mono ?_;rintro e w1 ⟨rfl,hr1,hf1⟩;replace HR:=af hr1;replace HF:=af ((ae HF).trans hf1);clear hr1 hf1 n7)
  | (go_at_call 137;refine(bP (ae HR) (ae HK) (ae HT) 8 (ae HE)).mono ?_;rintro e w1 ⟨rfl,O1,hr1,hf1⟩;replace HR:=af hr1;replace HF:=af ((ae HF).trans hf1);clear hr1 hf1)
  | (go_at_call 144;refine(pK _ 2 _ ((ae HR).newFree (ae HF))).mono ?_;rintro e w2 ⟨v,rfl,rfl,hv⟩;replace HR:=af ((ae HR).alloc (aE (.int .i64 2) 3));replace HF:=af ((ae HF).alloc (aE (.int .i64 2) 3));have HV:=af hv;clear hv))
 have hfv:=(ae HV).fnv;have HK1:=OK;rcases hfv with⟨f1,f2,f3,rfl⟩|rfl <;>
 ·go_wp2_with ((go_at_call 139;refine(bL (ae HR) (ae HK1) (ae HT) 27).mono ?_;rintro e w1 ⟨rfl,O1,hr1,hf1⟩;replace HR:=af hr1;replace HV:=af ((ae HV).fr hf1 (aL _));replace HF:=af ((ae HF).trans hf1);clear hr1 hf1))
  go_ret2
  refine⟨_,_,rfl,ae HR,ae HF,(ae HV).fnv,λ o ho=>?_,bT (ae HK1) (ae HT) (by decide)⟩;cases ho;exact ae HV
theorem Hp{pb:Nat}{ts:List ak}(ht:bY ts){w:World}{st:RS}{D O:Nat->Prop}(h:RA w pb ts st D O)(hk:Ok ts st)(e:an ts st=9){sum:RS->Option (RS×Option bh)}(IH:gA pb ts sum){s1:RS}{a:Option bh}(hs:sum (aC ts 26 (b9 ts st)).1=some (s1,a)) :
  Calls prog 89 #[au pb 0] w (iT pb ts w D O (nZ ts s1,some (a.map gy))):=by
 have HR:=af h;have HF:=af (dw O w);have HK:=af hk;have HT:=af ht;have OK:=af (bV hk ht e (by decide));have HE:=af e;have n14:=af (show an ts st≠14 by rw [e];decide);have n7:=af (show an ts st≠7 by rw [e];decide);have n8:=af (show an ts st≠8 by rw [e];decide);have HI:=af IH;have HS:=af hs;clear h hk ht IH hs e;go_enter func89,ntmps89
 go_wp2_with (first
  | (go_at_call 137;refine(aH (ae HR) (ae HK) (ae HT) 14 (ae n14)).mono ?_;rintro e w1 ⟨rfl,hr1,hf1⟩;replace HR:=af hr1;replace HF:=af ((ae HF).trans hf1);clear hr1 hf1 n14)
  | (go_at_call 137;refine(aH (ae HR) (ae HK) (ae HT) 7 (ae n7)).mono ?_;rintro e w1 ⟨rfl,hr1,hf1⟩;replace HR:=af hr1;replace HF:=af ((ae HF).trans hf1);clear hr1 hf1 n7)
  | (go_at_call 137;refine(aH (ae HR) (ae HK) (ae HT) 8 (ae n8)).mono ?_;rintro e w1 ⟨rfl,hr1,hf1⟩;replace HR:=af hr1;replace HF:=af ((ae HF).trans hf1);clear hr1 hf1 n8)
  | (go_at_call 137;refine(bP (ae HR) (ae HK) (ae HT) 9 (ae HE)).mono ?_;rintro e w1 ⟨rfl,O1,hr1,hf1⟩;replace HR:=af hr1;replace HF:=af ((ae HF).trans hf1);clear hr1 hf1))
 refine(pX (ae HT) (ae HI) (ae HR) (ae OK) (ae HS)).mono ?_;rintro e w2 ⟨v,O2,rfl,hr2,hf2,hv2,hk2⟩;have BA:=af (hv2.fr (dw _ _) (ae HF).size);have AA:=af hk2;replace HR:=af hr2;replace HF:=af ((ae HF).trans hf2);clear hr2 hf2 hv2 hk2;go_wp2_with fail;refine(tt _ _ _ _ ((ae HR).newFree (ae HF)) (ae BA)).mono ?_;rintro e w2 ⟨v2,rfl,rfl,hv⟩;replace HR:=af (((ae HR).alloc (aE v 232)).alloc (aE (.func (.func 147) #[] #[]) 234));replace HF:=af (((ae HF).alloc (aE v 232)).alloc (aE (.func (.func 147) #[] #[]) 234));have HV:=af hv;have hfv:=hv.fnv;clear hv;rcases hfv with⟨f1,f2,f3,rfl⟩|rfl <;>
 ·go_wp2_with ((go_at_call 139;refine(bL (ae HR) (ae AA) (ae HT) 27).mono ?_;rintro e w1 ⟨rfl,O1,hr1,hf1⟩;replace HR:=af hr1;replace HV:=af ((ae HV).fr hf1 (aL _));replace HF:=af ((ae HF).trans hf1);clear hr1 hf1))
  go_ret2
  refine⟨_,_,rfl,ae HR,ae HF,(ae HV).fnv,λ o ho=>?_,bT (ae AA) (ae HT) (by decide)⟩;cases ho;exact ae HV
theorem Ks{pb:Nat}{ts:List ak}(ht:bY ts){w:World}{st:RS}{D O:Nat->Prop}(h:RA w pb ts st D O)(hk:Ok ts st)(e:an ts st=10){sum:RS->Option (RS×Option bh)}(IH:gA pb ts sum){s1:RS}{a:Option bh}(hs:sum (aC ts 26 (b9 ts st)).1=some (s1,a)) :
  Calls prog 89 #[au pb 0] w (iT pb ts w D O (nZ ts s1,some (a.map iX))):=by
 have HR:=af h;have HF:=af (dw O w);have HK:=af hk;have HT:=af ht;have OK:=af (bV hk ht e (by decide));have HE:=af e;have n14:=af (show an ts st≠14 by rw [e];decide);have n7:=af (show an ts st≠7 by rw [e];decide);have n8:=af (show an ts st≠8 by rw [e];decide);have n9:=af (show an ts st≠9 by rw [e];decide);have HI:=af IH;have HS:=af hs;clear h hk ht IH hs e;go_enter func89,ntmps89
 go_wp2_with (first
  | (go_at_call 137;refine(aH (ae HR) (ae HK) (ae HT) 14 (ae n14)).mono ?_;rintro e w1 ⟨rfl,hr1,hf1⟩;replace HR:=af hr1;replace HF:=af ((ae HF).trans hf1);clear hr1 hf1 n14)
  | (go_at_call 137;refine(aH (ae HR) (ae HK) (ae HT) 7 (ae n7)).mono ?_;rintro e w1 ⟨rfl,hr1,hf1⟩;replace HR:=af hr1;replace HF:=af ((ae HF).trans hf1);clear hr1 hf1 n7)
  | (go_at_call 137;refine(aH (ae HR) (ae HK) (ae HT) 8 (ae n8)).mono ?_;rintro e w1 ⟨rfl,hr1,hf1⟩;replace HR:=af hr1;replace HF:=af ((ae HF).trans hf1);clear hr1 hf1 n8)
  | (go_at_call 137;refine(aH (ae HR) (ae HK) (ae HT) 9 (ae n9)).mono ?_;rintro e w1 ⟨rfl,hr1,hf1⟩;replace HR:=af hr1;replace HF:=af ((ae HF).trans hf1);clear hr1 hf1 n9)
  | (go_at_call 137;refine(bP (ae HR) (ae HK) (ae HT) 10 (ae HE)).mono ?_;rintro e w1 ⟨rfl,O1,hr1,hf1⟩;replace HR:=af hr1;replace HF:=af ((ae HF).trans hf1);clear hr1 hf1))
 refine(pX (ae HT) (ae HI) (ae HR) (ae OK) (ae HS)).mono ?_;rintro e w2 ⟨v,O2,rfl,hr2,hf2,hv2,hk2⟩;have BA:=af (hv2.fr (dw _ _) (ae HF).size);have AA:=af hk2;replace HR:=af hr2;replace HF:=af ((ae HF).trans hf2);clear hr2 hf2 hv2 hk2;go_wp2_with fail;refine(vK _ _ _ _ ((ae HR).newFree (ae HF)) (ae BA)).mono ?_;rintro e w2 ⟨v2,rfl,rfl,hv⟩;replace HR:=af (((ae HR).alloc (aE v 232)).alloc (aE (.func (.func 148) #[] #[]) 234));replace HF:=af (((ae HF).alloc (aE v 232)).alloc (aE (.func (.func 148) #[] #[]) 234));have HV:=af hv;have hfv:=hv.fnv;clear hv;rcases hfv with⟨f1,f2,f3,rfl⟩|rfl <;>
 ·go_wp2_with ((go_at_call 139;refine(bL (ae HR) (ae AA) (ae HT) 27).mono ?_;rintro e w1 ⟨rfl,O1,hr1,hf1⟩;replace HR:=af hr1;replace HV:=af ((ae HV).fr hf1 (aL _));replace HF:=af ((ae HF).trans hf1);clear hr1 hf1))
  go_ret2
  refine⟨_,_,rfl,ae HR,ae HF,(ae HV).fnv,λ o ho=>?_,bT (ae AA) (ae HT) (by decide)⟩;cases ho;exact ae HV
theorem Hm{pb:Nat}{ts:List ak}(ht:bY ts){w:World}{st:RS}{D O:Nat->Prop}(h:RA w pb ts st D O)(hk:Ok ts st)(e:an ts st=11)(HMK:lH 149 jj) :
  Calls prog 89 #[au pb 0] w (iT pb ts w D O (nZ ts (aM ts 0 65535 (b9 ts st)).1,some (some (jj (aM ts 0 65535 (b9 ts st)).2)))):=by
 have HR:=af h;have HF:=af (dw O w);have HK:=af hk;have HT:=af ht;have OK:=af (bV hk ht e (by decide));have HE:=af e;have n14:=af (show an ts st≠14 by rw [e];decide);have n7:=af (show an ts st≠7 by rw [e];decide);have n8:=af (show an ts st≠8 by rw [e];decide);have n9:=af (show an ts st≠9 by rw [e];decide);have n10:=af (show an ts st≠10 by rw [e];decide);have HM:=af HMK;clear h hk ht HMK e;go_enter func89,ntmps89
 go_wp2_with (first
  | (go_at_call 137;refine(aH (ae HR) (ae HK) (ae HT) 14 (ae n14)).mono ?_;rintro e w1 ⟨rfl,hr1,hf1⟩;replace HR:=af hr1;replace HF:=af ((ae HF).trans hf1);clear hr1 hf1 n14)
  | (go_at_call 137;refine(aH (ae HR) (ae HK) (ae HT) 7 (ae n7)).mono ?_;rintro e w1 ⟨rfl,hr1,hf1⟩;replace HR:=af hr1;replace HF:=af ((ae HF).trans hf1);clear hr1 hf1 n7)
  | (go_at_call 137;refine(aH (ae HR) (ae HK) (ae HT) 8 (ae n8)).mono ?_;rintro e w1 ⟨rfl,hr1,hf1⟩;replace HR:=af hr1;replace HF:=af ((ae HF).trans hf1);clear hr1 hf1 n8)
  | (go_at_call 137;refine(aH (ae HR) (ae HK) (ae HT) 9 (ae n9)).mono ?_;rintro e w1 ⟨rfl,hr1,hf1⟩;replace HR:=af hr1;replace HF:=af ((ae HF).trans hf1);clear hr1 hf1 n9)
  | (go_at_call 137;refine(aH (ae HR) (ae HK) (ae HT) 10 (ae n10)).mono ?_;rintro e w1 ⟨rfl,hr1,hf1⟩;replace HR:=af hr1;replace HF:=af ((ae HF).trans hf1);clear hr1 hf1 n10)
  | (go_at_call 137;refine(bP (ae HR) (ae HK) (ae HT) 11 (ae HE)).mono ?_;rintro e w1 ⟨rfl,O1,hr1,hf1⟩;replace HR:=af hr1;replace HF:=af ((ae HF).trans hf1);clear hr1 hf1)
  | (go_at_call 150;refine(uo (ae HT) (ae HR) (ae OK)).mono ?_;rintro e w1 ⟨rfl,O1,hr1,hf1⟩;replace HR:=af hr1;replace HF:=af ((ae HF).trans hf1);clear hr1 hf1)
  | (go_at_call 149;refine((ae HM) _ _ _ ((ae HR).newFree (ae HF))).mono ?_;rintro e w2 ⟨v,rfl,rfl,hv⟩;replace HR:=af ((ae HR).alloc (aE (.int .i64 (aM ts 0 65535 (b9 ts st)).2) 3));replace HF:=af ((ae HF).alloc (aE (.int .i64 (aM ts 0 65535 (b9 ts st)).2) 3));have HV:=af hv;clear hv))
 have hfv:=(ae HV).fnv;have AA:=af (gO (a:=0) (b:=65535) (ae OK) (ae HT));rcases hfv with⟨f1,f2,f3,rfl⟩|rfl <;>
 ·go_wp2_with ((go_at_call 139;refine(bL (ae HR) (ae AA) (ae HT) 27).mono ?_;rintro e w1 ⟨rfl,O1,hr1,hf1⟩;replace HR:=af hr1;replace HV:=af ((ae HV).fr hf1 (aL _));replace HF:=af ((ae HF).trans hf1);clear hr1 hf1))
  go_ret2
  refine⟨_,_,rfl,ae HR,ae HF,(ae HV).fnv,λ o ho=>?_,bT (ae AA) (ae HT) (by decide)⟩;cases ho;exact ae HV
theorem BO{pb:Nat}{ts:List ak}(ht:bY ts){w:World}{st:RS}{D O:Nat->Prop}(h:RA w pb ts st D O)(hk:Ok ts st)(e:an ts st=12)(HMK:lH 151 iY) :
  Calls prog 89 #[au pb 0] w (iT pb ts w D O (nZ ts (aM ts 0 65535 (b9 ts st)).1,some (some (iY (aM ts 0 65535 (b9 ts st)).2)))):=by
 have HR:=af h;have HF:=af (dw O w);have HK:=af hk;have HT:=af ht;have OK:=af (bV hk ht e (by decide));have HE:=af e;have n14:=af (show an ts st≠14 by rw [e];decide);have n7:=af (show an ts st≠7 by rw [e];decide);have n8:=af (show an ts st≠8 by rw [e];decide);have n9:=af (show an ts st≠9 by rw [e];decide);have n10:=af (show an ts st≠10 by rw [e];decide);have n11:=af (show an ts st≠11 by rw [e];decide);have HM:=af HMK;clear h hk ht HMK e;go_enter func89,ntmps89
 go_wp2_with (first
  | (go_at_call 137;refine(aH (ae HR) (ae HK) (ae HT) 14 (ae n14)).mono ?_;rintro e w1 ⟨rfl,hr1,hf1⟩;replace HR:=af hr1;replace HF:=af ((ae HF).trans hf1);clear hr1 hf1 n14)
  | (go_at_call 137;refine(aH (ae HR) (ae HK) (ae HT) 7 (ae n7)).mono ?_;rintro e w1 ⟨rfl,hr1,hf1⟩;replace HR:=af hr1;replace HF:=af ((ae HF).trans hf1);clear hr1 hf1 n7)
  | (go_at_call 137;refine(aH (ae HR) (ae HK) (ae HT) 8 (ae n8)).mono ?_;rintro e w1 ⟨rfl,hr1,hf1⟩;replace HR:=af hr1;replace HF:=af ((ae HF).trans hf1);clear hr1 hf1 n8)
  | (go_at_call 137;refine(aH (ae HR) (ae HK) (ae HT) 9 (ae n9)).mono ?_;rintro e w1 ⟨rfl,hr1,hf1⟩;replace HR:=af hr1;replace HF:=af ((ae HF).trans hf1);clear hr1 hf1 n9)
  | (go_at_call 137;refine(aH (ae HR) (ae HK) (ae HT) 10 (ae n10)).mono ?_;rintro e w1 ⟨rfl,hr1,hf1⟩;replace HR:=af hr1;replace HF:=af ((ae HF).trans hf1);clear hr1 hf1 n10)
  | (go_at_call 137;refine(aH (ae HR) (ae HK) (ae HT) 11 (ae n11)).mono ?_;rintro e w1 ⟨rfl,hr1,hf1⟩;replace HR:=af hr1;replace HF:=af ((ae HF).trans hf1);clear hr1 hf1 n11)
  | (go_at_call 137;refine(bP (ae HR) (ae HK) (ae HT) 12 (ae HE)).mono ?_;rintro e w1 ⟨rfl,O1,hr1,hf1⟩;replace HR:=af hr1;replace HF:=af ((ae HF).trans hf1);clear hr1 hf1)
  | (go_at_call 150;refine(uo (ae HT) (ae HR) (ae OK)).mono ?_;rintro e w1 ⟨rfl,O1,hr1,hf1⟩;replace HR:=af hr1;replace HF:=af ((ae HF).trans hf1);clear hr1 hf1)
  | (go_at_call 151;refine((ae HM) _ _ _ ((ae HR).newFree (ae HF))).mono ?_;rintro e w2 ⟨v,rfl,rfl,hv⟩;replace HR:=af ((ae HR).alloc (aE (.int .i64 (aM ts 0 65535 (b9 ts st)).2) 3));replace HF:=af ((ae HF).alloc (aE (.int .i64 (aM ts 0 65535 (b9 ts st)).2) 3));have HV:=af hv;clear hv))
 have hfv:=(ae HV).fnv;have AA:=af (gO (a:=0) (b:=65535) (ae OK) (ae HT));rcases hfv with⟨f1,f2,f3,rfl⟩|rfl <;>
 ·go_wp2_with ((go_at_call 139;refine(bL (ae HR) (ae AA) (ae HT) 27).mono ?_;rintro e w1 ⟨rfl,O1,hr1,hf1⟩;replace HR:=af hr1;replace HV:=af ((ae HV).fr hf1 (aL _));replace HF:=af ((ae HF).trans hf1);clear hr1 hf1))
  go_ret2
  refine⟨_,_,rfl,ae HR,ae HF,(ae HV).fnv,λ o ho=>?_,bT (ae AA) (ae HT) (by decide)⟩;cases ho;exact ae HV
theorem zi{pb:Nat}{ts:List ak}(ht:bY ts){w:World}{st:RS}{D O:Nat->Prop}(h:RA w pb ts st D O)(hk:Ok ts st)(e:an ts st=13)(HMK:lH 152 dM) :
  Calls prog 89 #[au pb 0] w (iT pb ts w D O (nZ ts (aM ts 1 65535 (b9 ts st)).1,some (some (dM (aM ts 1 65535 (b9 ts st)).2)))):=by
 have HR:=af h;have HF:=af (dw O w);have HK:=af hk;have HT:=af ht;have OK:=af (bV hk ht e (by decide));have HE:=af e;have n14:=af (show an ts st≠14 by rw [e];decide);have n7:=af (show an ts st≠7 by rw [e];decide);have n8:=af (show an ts st≠8 by rw [e];decide);have n9:=af (show an ts st≠9 by rw [e];decide);have n10:=af (show an ts st≠10 by rw [e];decide);have n11:=af (show an ts st≠11 by rw [e];decide);have n12:=af (show an ts st≠12 by rw [e];decide);have HM:=af HMK;clear h hk ht HMK e;go_enter func89,ntmps89
 go_wp2_with (first
  | (go_at_call 137;refine(aH (ae HR) (ae HK) (ae HT) 14 (ae n14)).mono ?_;rintro e w1 ⟨rfl,hr1,hf1⟩;replace HR:=af hr1;replace HF:=af ((ae HF).trans hf1);clear hr1 hf1 n14)
  | (go_at_call 137;refine(aH (ae HR) (ae HK) (ae HT) 7 (ae n7)).mono ?_;rintro e w1 ⟨rfl,hr1,hf1⟩;replace HR:=af hr1;replace HF:=af ((ae HF).trans hf1);clear hr1 hf1 n7)
  | (go_at_call 137;refine(aH (ae HR) (ae HK) (ae HT) 8 (ae n8)).mono ?_;rintro e w1 ⟨rfl,hr1,hf1⟩;replace HR:=af hr1;replace HF:=af ((ae HF).trans hf1);clear hr1 hf1 n8)
  | (go_at_call 137;refine(aH (ae HR) (ae HK) (ae HT) 9 (ae n9)).mono ?_;rintro e w1 ⟨rfl,hr1,hf1⟩;replace HR:=af hr1;replace HF:=af ((ae HF).trans hf1);clear hr1 hf1 n9)
  | (go_at_call 137;refine(aH (ae HR) (ae HK) (ae HT) 10 (ae n10)).mono ?_;rintro e w1 ⟨rfl,hr1,hf1⟩;replace HR:=af hr1;replace HF:=af ((ae HF).trans hf1);clear hr1 hf1 n10)
  | (go_at_call 137;refine(aH (ae HR) (ae HK) (ae HT) 11 (ae n11)).mono ?_;rintro e w1 ⟨rfl,hr1,hf1⟩;replace HR:=af hr1;replace HF:=af ((ae HF).trans hf1);clear hr1 hf1 n11)
  | (go_at_call 137;refine(aH (ae HR) (ae HK) (ae HT) 12 (ae n12)).mono ?_;rintro e w1 ⟨rfl,hr1,hf1⟩;replace HR:=af hr1;replace HF:=af ((ae HF).trans hf1);clear hr1 hf1 n12)
  | (go_at_call 137;refine(bP (ae HR) (ae HK) (ae HT) 13 (ae HE)).mono ?_;rintro e w1 ⟨rfl,O1,hr1,hf1⟩;replace HR:=af hr1;replace HF:=af ((ae HF).trans hf1);clear hr1 hf1)
  | (go_at_call 153;refine(vj (ae HT) (ae HR) (ae OK)).mono ?_;rintro e w1 ⟨rfl,O1,hr1,hf1⟩;replace HR:=af hr1;replace HF:=af ((ae HF).trans hf1);clear hr1 hf1)
  | (go_at_call 152;refine((ae HM) _ _ _ ((ae HR).newFree (ae HF))).mono ?_;rintro e w2 ⟨v,rfl,rfl,hv⟩;replace HR:=af ((ae HR).alloc (aE (.int .i64 (aM ts 1 65535 (b9 ts st)).2) 3));replace HF:=af ((ae HF).alloc (aE (.int .i64 (aM ts 1 65535 (b9 ts st)).2) 3));have HV:=af hv;clear hv))
 have hfv:=(ae HV).fnv;have AA:=af (gO (a:=1) (b:=65535) (ae OK) (ae HT));rcases hfv with⟨f1,f2,f3,rfl⟩|rfl <;>
 ·go_wp2_with ((go_at_call 139;refine(bL (ae HR) (ae AA) (ae HT) 27).mono ?_;rintro e w1 ⟨rfl,O1,hr1,hf1⟩;replace HR:=af hr1;replace HV:=af ((ae HV).fr hf1 (aL _));replace HF:=af ((ae HF).trans hf1);clear hr1 hf1))
  go_ret2
  refine⟨_,_,rfl,ae HR,ae HF,(ae HV).fnv,λ o ho=>?_,bT (ae AA) (ae HT) (by decide)⟩;cases ho;exact ae HV
theorem Fd{pb:Nat}{ts:List ak}(ht:bY ts){w:World}{st:RS}{D O:Nat->Prop}(h:RA w pb ts st D O)(hk:Ok ts st)(e:an ts st=14){r:RS×Option aJ}(HC:∀(W:World) (O1:Nat->Prop),RA W pb ts (b9 ts st) D O1->Calls prog 143 #[au pb 0] W (xZ pb ts W D O1 r)) :
  Calls prog 89 #[au pb 0] w (iT pb ts w D O (r.1,some r.2)):=by
 have HR:=af h;have HF:=af (dw O w);have HK:=af hk;have HT:=af ht;have OK:=af (bV hk ht e (by decide));have HE:=af e;have AA:=af HC;clear h hk ht HC e;go_enter func89,ntmps89;go_wp2_with ((go_at_call 137;refine(bP (ae HR) (ae HK) (ae HT) 14 (ae HE)).mono ?_;rintro e w1 ⟨rfl,O1,hr1,hf1⟩;replace HR:=af hr1;replace HF:=af ((ae HF).trans hf1);clear hr1 hf1))
 refine((ae AA) _ _ (ae HR)).mono ?_;rintro e w2 ⟨v,O2,rfl,hr2,hf2,hv2,hk2⟩;have HV:=af (hv2.fr (dw _ _) (ae HF).size);have BA:=af hk2;have hfv:=hv2.fnv;replace HR:=af hr2;replace HF:=af ((ae HF).trans hf2);clear hr2 hf2 hv2 hk2;rcases hfv with⟨f1,f2,f3,rfl⟩|rfl <;>
 ·go_wp2_with fail
  go_ret2
  refine⟨_,_,rfl,ae HR,ae HF,(ae HV).fnv,λ o ho=>?_,ae BA⟩;cases ho;exact ae HV
theorem Ho{pb:Nat}{ts:List ak}(ht:bY ts){w:World}{st:RS}{D O:Nat->Prop}(h:RA w pb ts st D O)(hk:Ok ts st)(e14:an ts st≠14)(e7:an ts st≠7)(e8:an ts st≠8)(e9:an ts st≠9)(e10:an ts st≠10)(e11:an ts st≠11)(e12:an ts st≠12)(e13:an ts st≠13)  :
  Calls prog 89 #[au pb 0] w (iT pb ts w D O (st,none)):=by
 have HR:=af h;have HF:=af (dw O w);have HK:=af hk;have HT:=af ht;have n14:=af e14;have n7:=af e7;have n8:=af e8;have n9:=af e9;have n10:=af e10;have n11:=af e11;have n12:=af e12;have n13:=af e13;clear h hk ht e14 e7 e8 e9 e10 e11 e12 e13;go_enter func89,ntmps89
 go_wp2_with (first
  | (go_at_call 137;refine(aH (ae HR) (ae HK) (ae HT) 14 (ae n14)).mono ?_;rintro e w1 ⟨rfl,hr1,hf1⟩;replace HR:=af hr1;replace HF:=af ((ae HF).trans hf1);clear hr1 hf1 n14)
  | (go_at_call 137;refine(aH (ae HR) (ae HK) (ae HT) 7 (ae n7)).mono ?_;rintro e w1 ⟨rfl,hr1,hf1⟩;replace HR:=af hr1;replace HF:=af ((ae HF).trans hf1);clear hr1 hf1 n7)
  | (go_at_call 137;refine(aH (ae HR) (ae HK) (ae HT) 8 (ae n8)).mono ?_;rintro e w1 ⟨rfl,hr1,hf1⟩;replace HR:=af hr1;replace HF:=af ((ae HF).trans hf1);clear hr1 hf1 n8)
  | (go_at_call 137;refine(aH (ae HR) (ae HK) (ae HT) 9 (ae n9)).mono ?_;rintro e w1 ⟨rfl,hr1,hf1⟩;replace HR:=af hr1;replace HF:=af ((ae HF).trans hf1);clear hr1 hf1 n9)
  | (go_at_call 137;refine(aH (ae HR) (ae HK) (ae HT) 10 (ae n10)).mono ?_;rintro e w1 ⟨rfl,hr1,hf1⟩;replace HR:=af hr1;replace HF:=af ((ae HF).trans hf1);clear hr1 hf1 n10)
  | (go_at_call 137;refine(aH (ae HR) (ae HK) (ae HT) 11 (ae n11)).mono ?_;rintro e w1 ⟨rfl,hr1,hf1⟩;replace HR:=af hr1;replace HF:=af ((ae HF).trans hf1);clear hr1 hf1 n11)
  | (go_at_call 137;refine(aH (ae HR) (ae HK) (ae HT) 12 (ae n12)).mono ?_;rintro e w1 ⟨rfl,hr1,hf1⟩;replace HR:=af hr1;replace HF:=af ((ae HF).trans hf1);clear hr1 hf1 n12)
  | (go_at_call 137;refine(aH (ae HR) (ae HK) (ae HT) 13 (ae n13)).mono ?_;rintro e w1 ⟨rfl,hr1,hf1⟩;replace HR:=af hr1;replace HF:=af ((ae HF).trans hf1);clear hr1 hf1 n13))
 go_ret2
 exact⟨_,_,rfl,ae HR,ae HF,inr rfl,(λ o ho=>by cases ho),ae HK⟩
theorem xH{pb:Nat}{ts:List ak}(ht:bY ts)(n:Nat)(hn:n<=1000)(ok:Int->Bool)(h11:ok 11=true->lH 149 jj)(h12:ok 12=true->lH 151 iY)(h13:ok 13=true->lH 152 dM)
  {sum:RS->Option (RS×Option bh)} (IS:gA pb ts sum) {cnd:RS->Option (RS×Option aR)} (IC:fi 187 pb ts cnd) (f:Nat):ib pb ts (cH ts n ok sum cnd f):=by
 induction f with
 | zero=>intro w st D O r h hk hr;rw [cH]at hr;cases hr
 | succ f ih =>
  intro w st D O r h hk hr;rw [cH]at hr;by_cases hok:ok (an ts st)=false
  ·rw [aS hok]at hr;cases hr
  rw [aG hok]at hr;have IB:=CD ht ih n hn;by_cases e14:an ts st=14
  ·rw [aS e14]at hr;have OK:=bV hk ht e14 (by decide);cases hc:cnd (b9 ts st)with
   | none=>rw [hc]at hr;cases hr
   | some p =>
    obtain⟨s1,c⟩:=p;rw [hc]at hr;dsimp only at hr;cases hb:ef ts (cH ts n ok sum cnd f) n (aC ts 15 s1).1 with
    | none=>rw [hb]at hr;cases hr
    | some q =>
     obtain⟨s2,yes⟩:=q;rw [hb]at hr;dsimp only at hr;by_cases e16:an ts s2=16
     ·rw [aS e16]at hr;cases hb2:ef ts (cH ts n ok sum cnd f) n (b9 ts s2)with
      | none=>rw [hb2]at hr;cases hr
      | some q2 =>
       obtain⟨s3,no⟩:=q2;rw [hb2]at hr;cases hr
       exact Fd ht h hk e14 (λ W O1 hW=>CG ht IC IB hW OK hc hb e16 hb2)
     rw [aG e16]at hr;cases hr
     exact Fd ht h hk e14 (λ W O1 hW=>CF ht IC IB hW OK hc hb e16)
  rw [aG e14]at hr;by_cases e7:an ts st=7
  ·rw [aS e7]at hr;cases hr;exact BM ht h hk e7
  rw [aG e7]at hr;by_cases e8:an ts st=8
  ·rw [aS e8]at hr;cases hr;exact BN ht h hk e8
  rw [aG e8]at hr;by_cases e9:an ts st=9
  ·rw [aS e9]at hr;cases hs:sum (aC ts 26 (b9 ts st)).1 with
   | none=>rw [hs]at hr;cases hr
   | some p =>
    obtain⟨s1,a⟩:=p;rw [hs]at hr;cases hr;exact Hp ht h hk e9 IS hs
  rw [aG e9]at hr;by_cases e10:an ts st=10
  ·rw [aS e10]at hr;cases hs:sum (aC ts 26 (b9 ts st)).1 with
   | none=>rw [hs]at hr;cases hr
   | some p =>
    obtain⟨s1,a⟩:=p;rw [hs]at hr;cases hr;exact Ks ht h hk e10 IS hs
  rw [aG e10]at hr;by_cases e11:an ts st=11
  ·rw [aS e11]at hr;cases hr;exact Hm ht h hk e11 (h11 (by rw [e11]at hok;simpa using hok))
  rw [aG e11]at hr;by_cases e12:an ts st=12
  ·rw [aS e12]at hr;cases hr;exact BO ht h hk e12 (h12 (by rw [e12]at hok;simpa using hok))
  rw [aG e12]at hr;by_cases e13:an ts st=13
  ·rw [aS e13]at hr;cases hr;exact zi ht h hk e13 (h13 (by rw [e13]at hok;simpa using hok))
  rw [aG e13]at hr;cases hr
  exact Ho ht h hk e14 e7 e8 e9 e10 e11 e12 e13
theorem AZ{pb:Nat}{ts:List ak}(ht:bY ts){tw:RS->Option (RS×Option (Option aJ))}(IH:ib pb ts tw)(n:Nat)(hn:n<=1000){w:World}{st s1:RS}{l:List (Option aJ)}{D O:Nat->Prop}(h:RA w pb ts st D O)(hk:Ok ts st)(hr:cf tw n st []=some (s1,l)) :
  Calls prog 88 #[au pb 0,.func (.func 89) #[au pb 0] #[]] w (pz pb ts w D O (if l.length=0 then dL ts s1 else s1,l)):=by
 have HM:=af (w8 IH n hn h hk hr);have HT:=af ht;clear h hk ht IH hr;by_cases h0:l.length=0
 ·rw [aS h0];have hb:(((l.length:Nat):Int)==0)=true:=by simp [h0]
  go_enter func88,ntmps88;go_wp2_with fail;refine(ae HM).mono ?_;rintro e w2 ⟨v,O2,rfl,hr2,hf2,hs2,hk2,⟨va,vc,rfl⟩,hl2⟩;have HS:=af hs2;have HK:=af hk2;have HR:=af hr2;have HF:=af hf2;have hl3:l.length<=1000000:=hl2;clear hr2 hf2 hs2 hk2 HM hl2;dsimp only;generalize hN:l.length=N at *;subst h0;go_wp2_with (go_at_call 91;refine(jf (ae HR) (ae HK).next (ae HT).n1).mono ?_;rintro e w1 ⟨rfl,hr1,hf1⟩;replace HR:=af hr1;replace HS:=af ((ae HS).fr hf1 (aL _));replace HF:=af ((ae HF).trans hf1);clear hr1 hf1)
  go_ret;exact⟨_,_,rfl,ae HR,ae HF,ae HS,ij (ae HK),⟨va,vc,by show Value.slice va _ vc=Value.slice va l.length vc;rw [hN]⟩,by show l.length<=_;omega⟩
 rw [aG h0];have hb:(((l.length:Nat):Int)==0)=false:=by simpa using h0
 go_enter func88,ntmps88;go_wp2_with fail;refine(ae HM).mono ?_;rintro e w2 ⟨v,O2,rfl,hr2,hf2,hs2,hk2,⟨va,vc,rfl⟩,hl2⟩;have HS:=af hs2;have HK:=af hk2;have HR:=af hr2;have HF:=af hf2;have hl3:l.length<=1000000:=hl2;clear hr2 hf2 hs2 hk2 HM hl2;dsimp only;generalize hN:l.length=N at *;go_wp2_with fail;go_ret;exact⟨_,_,rfl,ae HR,ae HF,ae HS,ae HK,⟨va,vc,by show Value.slice va _ vc=Value.slice va l.length vc;rw [hN]⟩,by show l.length<=_;omega⟩
theorem IX{pb:Nat}{ts:List ak}(ht:bY ts){w:World}{st:RS}{D O:Nat->Prop}(h:RA w pb ts st D O)(hk:Ok ts st)(e5:an ts st≠5)(e6:an ts st≠6) :
  Calls prog 87 #[au pb 0] w λ e w'=>e=.returned (.bool false)/\RA w' pb ts st D O/\Fr O w O w':=by
 have HR:=af (h.alloc (.cells #[.string ⟨#[]⟩,.nilFunc,.nilFunc] 222));have HF:=af ((dw O w).alloc (.cells #[.string ⟨#[]⟩,.nilFunc,.nilFunc] 222));have HK:=af hk;have HT:=af ht;have n5:=af e5;have n6:=af e6;clear h hk ht e5 e6;have hsn:∀(w:World) (a:Addr),(store a .nilFunc).run prog w=stored prog w a .nilFunc .plain:=λ w a=>run_store prog w a .nilFunc .plain rfl
 go_enter func87,ntmps87
 go_wp2_with (first
  | (go_at_call 137;refine(aH (ae HR) (ae HK) (ae HT) 5 (ae n5)).mono ?_;rintro e w1 ⟨rfl,hr1,hf1⟩;replace HR:=af hr1;replace HF:=af ((ae HF).trans hf1);clear hr1 hf1 n5)
  | (go_at_call 137;refine(aH (ae HR) (ae HK) (ae HT) 6 (ae n6)).mono ?_;rintro e w1 ⟨rfl,hr1,hf1⟩;replace HR:=af hr1;replace HF:=af ((ae HF).trans hf1);clear hr1 hf1 n6))
 go_ret;exact⟨rfl,ae HR,ae HF⟩
def Ii(pb:Nat)(ts:List ak)(w:World)(O:Nat->Prop)(r:RS×List (Option aJ))(e:Ending)(w':World):Prop :=
 ∃ v O' D',e=.returned v/\RA w' pb ts r.1 D' O'/\Fr O w O' w'/\eT w' (cW O' (λ _=>False) w.heap.size) v r.2/\Ok ts r.1/\(∃ a c,v=.slice a r.2.length c)/\r.2.length<=1000000
theorem A8{pb:Nat}{ts:List ak}(ht:bY ts){tw:RS->Option (RS×Option (Option aJ))}(IH:ib pb ts tw)(n:Nat)(hn:n<=1000){w:World}{st:RS}{r:RS×List (Option aJ)}{D O:Nat->Prop}(h:RA w pb ts st D O)(hk:Ok ts st)(hr:jo ts n tw st=some r)(e5:an ts st≠5)(e6:an ts st≠6) :
  Calls prog 63 #[au pb 0] w (pz pb ts w D O r):=by
 unfold jo at hr;cases h1:cf tw n st []with
 | none=>rw [h1]at hr;cases hr
 | some p =>
  obtain⟨s1,l⟩:=p;rw [h1]at hr;have hmf:∀(fn:Fn) (first cap:Array Value) (w:World),(Instr.makeFunc fn first cap).run prog w=.ok (.func fn first cap) w:=λ _ _ _ _=>rfl
  have HD:=af (IX ht h hk e5 e6);have HO:=af (λ W (hW:RA W pb ts st D O)=>AZ ht IH n hn hW hk h1);have HT:=af ht;have hq:r=(if an ts (if l.length=0 then dL ts s1 else s1)=1 then(if l.length=0 then dL ts s1 else s1)else dL ts (if l.length=0 then dL ts s1 else s1),l):=(kd hr).symm;clear h hk ht IH h1 e5 e6 hr;generalize (if l.length=0 then dL ts s1 else s1)=s2 at *;by_cases e1:an ts s2=1
  ·rw [aS e1]at hq;have HQ:=af hq;have HE:=af e1;clear hq e1;go_enter func63,ntmps63;go_wp2_with fail;go_loopg [3] 0 (λ k i wr=>i=.int .i64 0/\wr=w)
   case atStart=>exact⟨rfl,rfl⟩
   case round =>
    obtain⟨rfl,rfl⟩:=hrel
    go_wp2_with (first
     | (go_at_call 87;refine(ae HD).mono ?_;rintro e w1 ⟨rfl,hr1,hf1⟩;have HR:=af hr1;have HF:=af hf1;clear hr1 hf1))
    refine((ae HO) _ (ae HR)).mono ?_;rintro e w2 ⟨v,O2,rfl,hr2,hf2,hs2,hk2,⟨va,vc,rfl⟩,hl2⟩;have HS:=af (hs2.fr (dw _ _) (ae HF).size);have HK:=af hk2;have HL:=af hl2;replace HR:=af hr2;replace HF:=af ((ae HF).trans hf2);clear hr2 hf2 hs2 hk2 hl2
    go_wp2_with (first
     | (go_at_call 90;refine(cY (ae HR) (ae HK) (ae HT) (ae HE)).mono ?_;rintro e w1 ⟨rfl,hr1,hf1⟩;replace HR:=af hr1;replace HS:=af ((ae HS).fr hf1 (aL _));replace HF:=af ((ae HF).trans hf1);clear hr1 hf1)
     | fail)
    go_ret;rw [ae HQ];exact⟨_,_,rfl,ae HR,ae HF,ae HS,ae HK,⟨_,_,rfl⟩,ae HL⟩
  rw [aG e1]at hq;have HQ:=af hq;have b1:(an ts s2 != 1)=true:=by simpa using e1
  clear hq e1;go_enter func63,ntmps63;go_wp2_with fail;go_loopg [3] 0 (λ k i wr=>i=.int .i64 0/\wr=w)
  case atStart=>exact⟨rfl,rfl⟩
  case round =>
   obtain⟨rfl,rfl⟩:=hrel
   go_wp2_with (first
    | (go_at_call 87;refine(ae HD).mono ?_;rintro e w1 ⟨rfl,hr1,hf1⟩;have HR:=af hr1;have HF:=af hf1;clear hr1 hf1))
   refine((ae HO) _ (ae HR)).mono ?_;rintro e w2 ⟨v,O2,rfl,hr2,hf2,hs2,hk2,⟨va,vc,rfl⟩,hl2⟩;have HS:=af (hs2.fr (dw _ _) (ae HF).size);have HK:=af hk2;have HL:=af hl2;replace HR:=af hr2;replace HF:=af ((ae HF).trans hf2);clear hr2 hf2 hs2 hk2 hl2
   go_wp2_with (first
    | (go_at_call 90;refine(cY (ae HR) (ae HK) (ae HT) rfl).mono ?_;rintro e w1 ⟨rfl,hr1,hf1⟩;replace HR:=af hr1;replace HS:=af ((ae HS).fr hf1 (aL _));replace HF:=af ((ae HF).trans hf1);clear hr1 hf1)
    | (go_at_call 91;refine(jf (ae HR) (ae HK).next (ae HT).n1).mono ?_;rintro e w1 ⟨rfl,hr1,hf1⟩;replace HR:=af hr1;replace HS:=af ((ae HS).fr hf1 (aL _));replace HF:=af ((ae HF).trans hf1);clear hr1 hf1))
   go_ret;rw [ae HQ];exact⟨_,_,rfl,ae HR,ae HF,ae HS,ij (ae HK),⟨_,_,rfl⟩,ae HL⟩
theorem lS{w:World}{a:Addr}{n k:Nat}(h:k≠a.block):(w.freeze a n).heap[k]?=w.heap[k]?:=by
 unfold World.freeze;split
 ·rfl
 simp [Array.getElem?_modify,Ne.symm h]
theorem ku(w:World)(a:Addr)(n:Nat):(w.freeze a n).os=w.os/\(w.freeze a n).tape=w.tape/\(w.freeze a n).output=w.output/\(w.freeze a n).heap.size=w.heap.size:=by
 unfold World.freeze;split
 ·exact⟨rfl,rfl,rfl,rfl⟩
 exact⟨rfl,rfl,rfl,by simp⟩
theorem Fr.freeze{O O':Nat->Prop}{w w':World}(h:Fr O w O' w'){p:Addr}(hp:O' p.block\/w.heap.size<=p.block)(n:Nat):Fr O w O' (w'.freeze p n) :=
 ⟨(ku w' p n).1.trans h.os,(ku w' p n).2.1.trans h.tape,(ku w' p n).2.2.1.trans h.output,by rw [(ku w' p n).2.2.2];exact h.size,
  λ k hk hn=>(lS (λ e=>by
   rcases hp with h1|h1
   ·rw [<-e]at h1;rcases h.own k h1 with h2|h2;exact hn h2;omega
   ·omega)).trans (h.block k hk hn),h.own⟩
theorem Tryz.cellsByte:prog.cellsOf 5=1:=by kernel_rfl
theorem D5{w:World}{pb:Nat}{ts:List ak}{st:RS}{D O:Nat->Prop}(h:RA w pb ts st D O)(h0:st.page≠[])(hn:st.page.length<=1000000) :
  Calls prog 92 #[au pb 4] w λ e w'=>e=.returned (.string ⟨st.page.toArray⟩)/\Fr O w O w'/\(∀ k,¬O k->w'.heap[k]?=w.heap[k]?)/\w'.heap[pb]?=w.heap[pb]?:=by
 obtain⟨tb,tc,dv,av,bv,h,rfl⟩:=h;have hl0:st.page.length≠0:=by simpa using h0
 obtain⟨g,cap,cur,rfl,hbg,hg,hnc,hcm,hcs,htake⟩:∃ g cap cur,bv=.slice (some ⟨g,0,none⟩) st.page.length cap/\0<=g/\w.heap[g]?=some (.cells cur 5 (0,0))/\st.page.length<=cap/\cap<=maxLen/\cur.size=cap*1/\cur.toList.take (st.page.length*1)=iJ st.page:=by
  rcases h.page.2 with⟨_,hz⟩|⟨g,cap,cur,hv,r⟩
  ·exact absurd hz hl0
  exact⟨g,cap,cur,hv,r⟩
 have c1:w.drew.cell? ⟨pb,5,none⟩=some (.slice (some ⟨g,0,none⟩) st.page.length cap):=ag (w:=w) h.blk
 have hSD:(Builtin.unsafeSliceData_ #[56] 237 #[.slice (some ⟨g,0,none⟩) st.page.length cap]).run prog w.drew=.ok (.pointer (some ⟨g,0,none⟩)) w.drew :=
  Lib.run_unsafeSliceData_row _ _ _ _ _ _ (by omega)
 have hUS:(Builtin.unsafeString_ #[237,3] 9 #[.pointer (some ⟨g,0,none⟩),.int .i64 st.page.length]).run prog w.drew=.ok (.string ⟨st.page.toArray⟩) (w.drew.freeze ⟨g,0,none⟩ st.page.length):=by
  refine Lib.run_unsafeString_row w.drew 237 3 9 5 underlying237 Tryz.cellsByte g cur.size (by have hg':w.drew.heap[g]?=some (.cells cur 5 (0,0)):=hg;simp [World.shape?,hg']) st.page h0 (by omega) (by unfold maxLen at hcm;omega) ?_;intro j x hx;have:=h.page.cells (g:=g) rfl j (.int .u8 x.toNat) (by simp [iJ,hx]);exact this
 have c1':w.cell? ⟨pb,5,none⟩=some (.slice (some ⟨g,0,none⟩) st.page.length cap):=ag (w:=w) h.blk;have HO:=af (show dV pb tb dv (.slice (some ⟨g,0,none⟩) st.page.length cap) g from inr (inr (inl rfl)));have hgp:pb≠g:=λ e=>h.ne2 (by rw [e];rfl)
 have AA:=af hgp;clear h hg hcm hcs htake hbg hgp;go_enter func92,ntmps92;go_wp2_with fail;go_region
 all_goals
  go_wp2_with fail;go_ret;exact⟨rfl,((dw _ _).drew).freeze (inl (ae HO)) _,λ k hk=>lS (λ e=>hk (by rw [show k=g from e];exact ae HO)),lS (ae AA)⟩
theorem IZ{w:World}{pb:Nat}{ts:List ak}{st:RS}{D O:Nat->Prop}(h:RA w pb ts st D O)(h0:st.page≠[])(hn:st.page.length<=1000000)(hg:st.gap.size<=1) :
  Calls prog 64 #[au pb 4] w λ e w'=>(∃ p,e=.returned (.string p))/\Fr O w O w':=by
 obtain⟨c6,_⟩:=h.cells;have HS:=af (D5 h.drew h0 hn);have HH:=af h;have hps:(⟨st.page.toArray⟩:ByteArray).size<=1000000:=by show st.page.toArray.size<=_;simpa using hn
 generalize (⟨st.page.toArray⟩:ByteArray)=PG at *;clear h h0 hn;go_enter func64,ntmps64;go_wp2_with fail;go_region_with (go_at_call 92;refine(ae HS).mono ?_;rintro e w1 ⟨rfl,hf1,hk1,hb1⟩;have c6':w1.cell? ⟨pb,6,none⟩=some (.string st.gap):=(by unfold World.cell? at c6 ⊢;rw [show w1.heap[pb]?=w.heap[pb]? from hb1];exact c6);have AA:=af hf1;clear hf1 hk1 hb1)
 all_goals
  go_wp2_with fail;go_ret;exact⟨⟨_,rfl⟩,((dw _ _).drew).trans (ae AA)⟩
