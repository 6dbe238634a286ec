/- part -/
import Derived.Test.YtphhnjljlllnlaaGreatDoorRunA
set_option maxRecDepth 100000
set_option maxHeartbeats 4000000
namespace Go.Proofs.YtphhnjljlllnlaaGreatDoor
open Go.Proofs.Tryz
open Or
open Go.RowKit
abbrev gW:=@List.getElem?_eq_getElem
theorem cS{W:World}{b o:Nat}{v:Value}(h:W.cell? ⟨b,o,none⟩=some v):b<W.heap.size:=by
 rcases Nat.lt_or_ge b W.heap.size with h1|h1
 ·exact h1
 simp [World.cell?,Array.getElem?_eq_none h1]at h
theorem K9(W:World)(b:Nat)(r:Rt)(pv mv:Value)(h:dp W b r pv mv)(va vb:Value)(ma mb:aR)(Ka Kb:Nat->Prop)(ha:qG va ma Ka W)(hb:∀ V,Below W.heap.size W V->qG vb mb Kb V)(B1 B2:Nat)
  (c1:W.cell? ⟨B1,0,none⟩=some va) (c2:W.cell? ⟨B2,0,none⟩=some vb) :
  Calls prog 264 (#[au b 0]++#[au B1 0,au B2 0]) W λ e W'=>e=.returned (jX (tn ma mb r))/\Below W.heap.size W W':=by
 have lb2:=cS c2;obtain⟨g,lb,rfl,eg,hc⟩:=ha;have e1:=cj eg;have HA:=af (hc b r pv mv h);have HB:=af (λ V (hV:Below W.heap.size W V)=>hb V hV);have HR:=af h;clear hc h eg hb;have EQ:=af (show tn ma mb r=(match ma r with|none=>none|some false=>some false|some true=>mb r)from rfl);cases hx:ma r with
 | none =>
  rw [hx]at HA EQ;have AA:Hid (Calls prog g (#[au b 0]++lb) W λ e W'=>e=.returned (.tuple #[.bool false,.bool false])/\Below W.heap.size W W'):=HA;clear HA HB;go_enter func264,ntmps264;go_wp2_with (go_at_fn g;refine(ae AA).mono ?_;rintro e w1 ⟨rfl,hw⟩)
  go_ret2
  exact⟨by rw [ae EQ];rfl,hw⟩
 | some x =>
  cases x with
  | false =>
   rw [hx]at HA EQ;have AA:Hid (Calls prog g (#[au b 0]++lb) W λ e W'=>e=.returned (.tuple #[.bool false,.bool true])/\Below W.heap.size W W'):=HA;clear HA HB;go_enter func264,ntmps264;go_wp2_with (go_at_fn g;refine(ae AA).mono ?_;rintro e w1 ⟨rfl,hw⟩)
   go_ret2
   exact⟨by rw [ae EQ];rfl,hw⟩
  | true =>
   rw [hx]at HA EQ;have AA:Hid (Calls prog g (#[au b 0]++lb) W λ e W'=>e=.returned (.tuple #[.bool true,.bool true])/\Below W.heap.size W W'):=HA;obtain⟨g2,lb2,rfl,eg2,_⟩:=(ae HB) W (aY _ _);have e2:=cj eg2;clear HA eg2;go_enter func264,ntmps264;go_wp2_with (go_at_fn g;refine(ae AA).mono ?_;rintro e w1 ⟨rfl,hw⟩;have c2':=(hw.cell (p:=⟨B2,0,none⟩) (by assumption)).trans c2;have HW:=af hw;clear hw)
   obtain⟨g3,lb3,he,_,hc3⟩:=(ae HB) w1 (ae HW);cases he
   refine(hc3 b r pv mv ((ae HR).below (ae HW))).mono ?_;rintro e w2 ⟨rfl,hw2⟩;have BA:=af hw2;clear hw2 hc3;unfold jX;go_wp2_with fail
   go_ret2
   exact⟨by rw [ae EQ];rfl,(ae HW).trans ((ae BA).mono (ae HW).size)⟩
theorem NK(W:World)(b:Nat)(r:Rt)(pv mv:Value)(h:dp W b r pv mv)(va vb:Value)(ma mb:aR)(Ka Kb:Nat->Prop)(ha:qG va ma Ka W)(hb:∀ V,Below W.heap.size W V->qG vb mb Kb V)(B1 B2:Nat)
  (c1:W.cell? ⟨B1,0,none⟩=some va) (c2:W.cell? ⟨B2,0,none⟩=some vb) :
  Calls prog 246 (#[au b 0]++#[au B1 0,au B2 0]) W λ e W'=>e=.returned (jX (Ia ma mb r))/\Below W.heap.size W W':=by
 have lb2:=cS c2;obtain⟨g,lb,rfl,eg,hc⟩:=ha;have e1:=cj eg;have HA:=af (hc b r pv mv h);have HB:=af (λ V (hV:Below W.heap.size W V)=>hb V hV);have HR:=af h;clear hc h eg hb;have EQ:=af (show Ia ma mb r=(match ma r with|none=>none|some true=>some true|some false=>mb r)from rfl);cases hx:ma r with
 | none =>
  rw [hx]at HA EQ;have AA:Hid (Calls prog g (#[au b 0]++lb) W λ e W'=>e=.returned (.tuple #[.bool false,.bool false])/\Below W.heap.size W W'):=HA;clear HA HB;go_enter func246,ntmps246;go_wp2_with (go_at_fn g;refine(ae AA).mono ?_;rintro e w1 ⟨rfl,hw⟩)
  go_ret2
  exact⟨by rw [ae EQ];rfl,hw⟩
 | some x =>
  cases x with
  | true =>
   rw [hx]at HA EQ;have AA:Hid (Calls prog g (#[au b 0]++lb) W λ e W'=>e=.returned (.tuple #[.bool true,.bool true])/\Below W.heap.size W W'):=HA;clear HA HB;go_enter func246,ntmps246;go_wp2_with (go_at_fn g;refine(ae AA).mono ?_;rintro e w1 ⟨rfl,hw⟩)
   go_ret2
   exact⟨by rw [ae EQ];rfl,hw⟩
  | false =>
   rw [hx]at HA EQ;have AA:Hid (Calls prog g (#[au b 0]++lb) W λ e W'=>e=.returned (.tuple #[.bool false,.bool true])/\Below W.heap.size W W'):=HA;obtain⟨g2,lb2,rfl,eg2,_⟩:=(ae HB) W (aY _ _);have e2:=cj eg2;clear HA eg2;go_enter func246,ntmps246;go_wp2_with (go_at_fn g;refine(ae AA).mono ?_;rintro e w1 ⟨rfl,hw⟩;have c2':=(hw.cell (p:=⟨B2,0,none⟩) (by assumption)).trans c2;have HW:=af hw;clear hw)
   obtain⟨g3,lb3,he,_,hc3⟩:=(ae HB) w1 (ae HW);cases he
   refine(hc3 b r pv mv ((ae HR).below (ae HW))).mono ?_;rintro e w2 ⟨rfl,hw2⟩;have BA:=af hw2;clear hw2 hc3;unfold jX;go_wp2_with fail
   go_ret2
   exact⟨by rw [ae EQ];rfl,(ae HW).trans ((ae BA).mono (ae HW).size)⟩
theorem Mb(W:World)(b:Nat)(r:Rt)(pv mv:Value)(h:dp W b r pv mv)(va:Value)(ma:aR)(Ka:Nat->Prop)(ha:qG va ma Ka W)(B1:Nat)(c1:W.cell? ⟨B1,0,none⟩=some va) :
  Calls prog 282 (#[au b 0]++#[au B1 0]) W λ e W'=>e=.returned (jX (Dx ma r))/\Below W.heap.size W W':=by
 obtain⟨g,lb,rfl,eg,hc⟩:=ha;have e1:=cj eg;have HA:=af (hc b r pv mv h);clear hc h eg;have EQ:=af (show Dx ma r=(ma r).map (λ x=>!x)from rfl);cases hx:ma r with
 | none =>
  rw [hx]at HA EQ;have AA:Hid (Calls prog g (#[au b 0]++lb) W λ e W'=>e=.returned (.tuple #[.bool false,.bool false])/\Below W.heap.size W W'):=HA;clear HA;go_enter func282,ntmps282;go_wp2_with (go_at_fn g;refine(ae AA).mono ?_;rintro e w1 ⟨rfl,hw⟩)
  go_ret2
  exact⟨by rw [ae EQ];rfl,hw⟩
 | some x =>
  rw [hx]at HA EQ;have AA:Hid (Calls prog g (#[au b 0]++lb) W λ e W'=>e=.returned (.tuple #[.bool x,.bool true])/\Below W.heap.size W W'):=HA;clear HA;go_enter func282,ntmps282;go_wp2_with (go_at_fn g;refine(ae AA).mono ?_;rintro e w1 ⟨rfl,hw⟩)
  go_ret2
  exact⟨by rw [ae EQ];rfl,hw⟩
theorem Iu(w:World)(va vb:Value)(ha:jD va)(hb:jD vb) :
  Calls prog 245 #[va,vb] w λ e w'=>e=.returned (.func (.func 264) #[] #[au w.heap.size 0,au (w.heap.size+1) 0])/\w'=((w.alloc (aE va 276)).alloc (aE vb 276)):=by
 have hmf:∀(fn:Fn) (first cap:Array Value) (w:World),(Instr.makeFunc fn first cap).run prog w=.ok (.func fn first cap) w:=λ _ _ _ _=>rfl
 rcases ha with⟨f,a,b,rfl⟩|rfl<;>rcases hb with⟨f',a',b',rfl⟩|rfl <;>
 ·go_enter func245,ntmps245;go_wp2_with fail;go_ret;exact⟨rfl,rfl⟩
theorem Mh(w:World)(va vb:Value)(ha:jD va)(hb:jD vb) :
  Calls prog 224 #[va,vb] w λ e w'=>e=.returned (.func (.func 246) #[] #[au w.heap.size 0,au (w.heap.size+1) 0])/\w'=((w.alloc (aE va 276)).alloc (aE vb 276)):=by
 have hmf:∀(fn:Fn) (first cap:Array Value) (w:World),(Instr.makeFunc fn first cap).run prog w=.ok (.func fn first cap) w:=λ _ _ _ _=>rfl
 rcases ha with⟨f,a,b,rfl⟩|rfl<;>rcases hb with⟨f',a',b',rfl⟩|rfl <;>
 ·go_enter func224,ntmps224;go_wp2_with fail;go_ret;exact⟨rfl,rfl⟩
theorem Tryz.entAnd:Enters prog 264:=enters_of func264 (by kernel_rfl) rfl
theorem Tryz.entOr:Enters prog 246:=enters_of func246 (by kernel_rfl) rfl
theorem wz{w:World}{va vb:Value}{ma mb:aR}{m:aR}{A:Nat->Prop}{g:Nat}(hA:∀ k,w.heap.size<=k->A k)(ha:gJ w A va (some ma))(hb:gJ w A vb (some mb))(ent:Enters prog g)
  (hrun:∀(W:World) (b:Nat) (r:Rt) (pv mv:Value) (Ka Kb:Nat->Prop),dp W b r pv mv->qG va ma Ka W->(∀ V,Below W.heap.size W V->qG vb mb Kb V)->W.cell? ⟨w.heap.size,0,none⟩=some va->W.cell? ⟨w.heap.size+1,0,none⟩=some vb ->
   Calls prog g (#[au b 0]++#[au w.heap.size 0,au (w.heap.size+1) 0]) W λ e W'=>e=.returned (jX (m r))/\Below W.heap.size W W') :
  gJ ((w.alloc (aE va 276)).alloc (aE vb 276)) A (.func (.func g) #[] #[au w.heap.size 0,au (w.heap.size+1) 0]) (some m):=by
 have h1:ax _ A (qG va ma):=(ha.alloc (aE va 276)).alloc (aE vb 276);have h2:ax _ A (qG vb mb):=(hb.alloc (aE va 276)).alloc (aE vb 276);obtain⟨n1,n2,sz⟩:=fp w (aE va 276) (aE vb 276);refine ax.two h1 h2 (λ k=>k=w.heap.size\/k=w.heap.size+1) (λ k hk=>⟨by omega,hA k (by omega)⟩) (λ K1 K2 _ a2 q1 q2 W hW hk=>?_);refine⟨_,_,rfl,ent,λ b r pv mv hr=>?_⟩
 exact hrun W b r pv mv K1 K2 hr (q1 W hW (λ k h=>hk k (inl h))) (λ V hV=>q2 V (gG hW hV.size) (λ k h=>(hV.block k (gY (a2 k h).1 hW)).trans (hk k (inr (inl h)))))
  (ag ((hk _ (inr (inr (inl rfl)))).trans n1)) (ag ((hk _ (inr (inr (inr rfl)))).trans n2))
theorem K8(w:World)(va vb:Value)(oa ob:Option aR)(A:Nat->Prop)(hA:∀ k,w.heap.size<=k->A k)(ha:gJ w A va oa)(hb:gJ w A vb ob) :
  Calls prog 245 #[va,vb] w λ e w'=>∃ v,e=.returned v/\w'=((w.alloc (aE va 276)).alloc (aE vb 276))/\gJ w' A v (IF tn oa ob):=by
 refine(Iu w va vb ha.fnv hb.fnv).mono ?_;rintro e w' ⟨rfl,rfl⟩;refine⟨_,rfl,rfl,?_⟩;cases oa with
 | none=>exact inl ⟨_,_,_,rfl⟩
 | some ma=>cases ob with
  | none=>exact inl ⟨_,_,_,rfl⟩
  | some mb=>exact wz hA ha hb Tryz.entAnd (λ W b r pv mv Ka Kb h1 h2 h3 h4 h5=>K9 W b r pv mv h1 va vb ma mb Ka Kb h2 h3 _ _ h4 h5)
theorem NJ(w:World)(va vb:Value)(oa ob:Option aR)(A:Nat->Prop)(hA:∀ k,w.heap.size<=k->A k)(ha:gJ w A va oa)(hb:gJ w A vb ob) :
  Calls prog 224 #[va,vb] w λ e w'=>∃ v,e=.returned v/\w'=((w.alloc (aE va 276)).alloc (aE vb 276))/\gJ w' A v (IF Ia oa ob):=by
 refine(Mh w va vb ha.fnv hb.fnv).mono ?_;rintro e w' ⟨rfl,rfl⟩;refine⟨_,rfl,rfl,?_⟩;cases oa with
 | none=>exact inl ⟨_,_,_,rfl⟩
 | some ma=>cases ob with
  | none=>exact inl ⟨_,_,_,rfl⟩
  | some mb=>exact wz hA ha hb Tryz.entOr (λ W b r pv mv Ka Kb h1 h2 h3 h4 h5=>NK W b r pv mv h1 va vb ma mb Ka Kb h2 h3 _ _ h4 h5)
theorem JO(w:World)(va:Value)(ha:jD va) :
  Calls prog 263 #[va] w λ e w'=>e=.returned (.func (.func 282) #[] #[au w.heap.size 0])/\w'=(w.alloc (aE va 276)):=by
 have hmf:∀(fn:Fn) (first cap:Array Value) (w:World),(Instr.makeFunc fn first cap).run prog w=.ok (.func fn first cap) w:=λ _ _ _ _=>rfl
 rcases ha with⟨f,a,b,rfl⟩|rfl <;>
 ·go_enter func263,ntmps263;go_wp2_with fail;go_ret;exact⟨rfl,rfl⟩
theorem Tryz.entNot:Enters prog 282:=enters_of func282 (by kernel_rfl) rfl
theorem L7(w:World)(va:Value)(oa:Option aR)(A:Nat->Prop)(hA:∀ k,w.heap.size<=k->A k)(ha:gJ w A va oa) :
  Calls prog 263 #[va] w λ e w'=>∃ v,e=.returned v/\w'=(w.alloc (aE va 276))/\gJ w' A v (oa.map Dx):=by
 refine(JO w va ha.fnv).mono ?_;rintro e w' ⟨rfl,rfl⟩;refine⟨_,rfl,rfl,?_⟩;cases oa with
 | none=>exact inl ⟨_,_,_,rfl⟩
 | some ma =>
  have h1:ax _ A (qG va ma):=ha.alloc (aE va 276);refine ax.one h1 (λ k=>k=w.heap.size) (λ k hk=>⟨by subst hk;simp,hA k (by omega)⟩) (λ K1 _ q1 W hW hk=>?_);exact⟨_,_,rfl,Tryz.entNot,λ b r pv mv hr=>Mb W b r pv mv hr va ma K1 (q1 W hW (λ k h=>hk k (inl h))) _ (ag ((hk _ (inr rfl)).trans (cM w _)))⟩
theorem ww{ts:List ak}{c:Int}{m:aR->aR->aR}{tm:RS->Option (RS×Option aR)}{k:Nat}{st:RS}{a:Option aR}{r:RS×Option aR}(h:iD ts c m tm k st a=some r):∃ g,k=g+1:=by
 cases k with
 | zero=>rw [iD]at h;cases h
 | succ g=>exact⟨g,rfl⟩
theorem Iw{pb:Nat}{ts:List ak}(ht:bY ts){tm:RS->Option (RS×Option aR)}(IH:fi 244 pb ts tm)(n:Nat):fi 223 pb ts (kq ts 19 tn tm n):=by
 intro w st D O r h hk hr;unfold kq at hr;cases h1:tm st with
 | none=>rw [h1]at hr;cases hr
 | some p =>
  obtain⟨st1,a⟩:=p;rw [h1]at hr;have HL:=af (show iD ts 19 tn tm n st1 a=some r from hr);have HT:=af ht;have AA:=af IH;have H1:=af (IH w st D O (st1,a) h hk h1);clear hr h hk h1 ht IH;go_enter func223,ntmps223;go_wp2_with fail;refine(ae H1).mono ?_;rintro e w1 ⟨v,O1,rfl,hr1,hf1,hv1,hk1⟩;have HR:=af hr1;have HF:=af hf1;have HV:=af hv1;have HK:=af hk1;clear hr1 hf1 hv1 hk1 H1;go_wp2_with fail;go_loopg [3] n (λ k v3 wr=>∃(su:RS) (o:Option aR) (Ou:Nat->Prop),RA wr pb ts su D Ou/\Fr O w Ou wr/\gJ wr (cW Ou D w.heap.size) v3 o/\Ok ts su/\iD ts 19 tn tm k su o=some r)
  case atStart=>exact⟨st1,a,O1,ae HR,ae HF,ae HV,ae HK,ae HL⟩
  case round =>
   clear HR HF HV HK HL;obtain⟨su,o,Ou,hr,hf,hv,hk,hl⟩:=hrel;obtain⟨g,rfl⟩:=ww hl;rw [iD]at hl;have HR:=af hr;have HF:=af hf;have HV:=af hv;have HK:=af hk;clear hr hf hv hk;by_cases e0:an ts su=19
   ·rw [aS e0]at hl;cases h2:tm (b9 ts su)with
    | none=>rw [h2]at hl;cases hl
    | some p =>
     obtain⟨st2,b⟩:=p;rw [h2]at hl;have CA:=af (show iD ts 19 tn tm g st2 (IF tn o b)=some r from hl);have DA:=af h2;have HE:=af e0;clear hl h2 e0;go_wp2_with (go_at_call 137;refine(bP (ae HR) (ae HK) (ae HT) 19 (ae HE)).mono ?_;rintro e w2 ⟨rfl,O2,hr2,hf2⟩;replace HV:=af ((ae HV).fr hf2 (aL _));replace HR:=af hr2;replace HF:=af ((ae HF).trans hf2);clear hr2 hf2)
     refine((ae AA) _ _ _ _ _ (ae HR) (bV (ae HK) (ae HT) (ae HE) (by decide)) (ae DA)).mono ?_;rintro e w3 ⟨v3,O3,rfl,hr3,hf3,hv3,hk3⟩;replace HV:=af ((ae HV).fr hf3 (aL _));have EA:=af (hv3.fr (dw _ _) (ae HF).size);replace HR:=af hr3;replace HF:=af ((ae HF).trans hf3);have BA:=af hk3;clear hr3 hf3 hv3 hk3;go_wp2_with fail;refine(K8 _ _ _ _ _ _ ((ae HR).newFree (ae HF)) (ae HV) (ae EA)).mono ?_;rintro e w4 ⟨v4,rfl,rfl,hv4⟩;have FA:=af hv4;clear hv4;go_wp2_with fail;go_roundg g
     case measure=>omega
     case rel=>exact⟨st2,_,O3,((ae HR).alloc _).alloc _,((ae HF).alloc _).alloc _,ae FA,ae BA,ae CA⟩
   rw [aG e0]at hl;have N0:=af e0;cases hl
   clear e0;have hfv:=(ae HV).fnv;rcases hfv with⟨f1,f2,f3,rfl⟩|rfl <;>
   ·go_wp2_with (go_at_call 137;refine(aH (ae HR) (ae HK) (ae HT) 19 (ae N0)).mono ?_;rintro e w2 ⟨rfl,hr2,hf2⟩;replace HV:=af ((ae HV).fr hf2 (aL _));replace HR:=af hr2;replace HF:=af ((ae HF).trans hf2);clear hr2 hf2)
    go_ret;exact⟨_,_,rfl,ae HR,ae HF,ae HV,ae HK⟩
theorem CO{pb:Nat}{ts:List ak}(ht:bY ts){tm:RS->Option (RS×Option aR)}(IH:fi 223 pb ts tm)(n:Nat):fi 187 pb ts (kq ts 18 Ia tm n):=by
 intro w st D O r h hk hr;unfold kq at hr;cases h1:tm st with
 | none=>rw [h1]at hr;cases hr
 | some p =>
  obtain⟨st1,a⟩:=p;rw [h1]at hr;have HL:=af (show iD ts 18 Ia tm n st1 a=some r from hr);have HT:=af ht;have AA:=af IH;have H1:=af (IH w st D O (st1,a) h hk h1);clear hr h hk h1 ht IH;go_enter func187,ntmps187;go_wp2_with fail;refine(ae H1).mono ?_;rintro e w1 ⟨v,O1,rfl,hr1,hf1,hv1,hk1⟩;have HR:=af hr1;have HF:=af hf1;have HV:=af hv1;have HK:=af hk1;clear hr1 hf1 hv1 hk1 H1;go_wp2_with fail;go_loopg [3] n (λ k v3 wr=>∃(su:RS) (o:Option aR) (Ou:Nat->Prop),RA wr pb ts su D Ou/\Fr O w Ou wr/\gJ wr (cW Ou D w.heap.size) v3 o/\Ok ts su/\iD ts 18 Ia tm k su o=some r)
  case atStart=>exact⟨st1,a,O1,ae HR,ae HF,ae HV,ae HK,ae HL⟩
  case round =>
   clear HR HF HV HK HL;obtain⟨su,o,Ou,hr,hf,hv,hk,hl⟩:=hrel;obtain⟨g,rfl⟩:=ww hl;rw [iD]at hl;have HR:=af hr;have HF:=af hf;have HV:=af hv;have HK:=af hk;clear hr hf hv hk;by_cases e0:an ts su=18
   ·rw [aS e0]at hl;cases h2:tm (b9 ts su)with
    | none=>rw [h2]at hl;cases hl
    | some p =>
     obtain⟨st2,b⟩:=p;rw [h2]at hl;have CA:=af (show iD ts 18 Ia tm g st2 (IF Ia o b)=some r from hl);have DA:=af h2;have HE:=af e0;clear hl h2 e0;go_wp2_with (go_at_call 137;refine(bP (ae HR) (ae HK) (ae HT) 18 (ae HE)).mono ?_;rintro e w2 ⟨rfl,O2,hr2,hf2⟩;replace HV:=af ((ae HV).fr hf2 (aL _));replace HR:=af hr2;replace HF:=af ((ae HF).trans hf2);clear hr2 hf2)
     refine((ae AA) _ _ _ _ _ (ae HR) (bV (ae HK) (ae HT) (ae HE) (by decide)) (ae DA)).mono ?_;rintro e w3 ⟨v3,O3,rfl,hr3,hf3,hv3,hk3⟩;replace HV:=af ((ae HV).fr hf3 (aL _));have EA:=af (hv3.fr (dw _ _) (ae HF).size);replace HR:=af hr3;replace HF:=af ((ae HF).trans hf3);have BA:=af hk3;clear hr3 hf3 hv3 hk3;go_wp2_with fail;refine(NJ _ _ _ _ _ _ ((ae HR).newFree (ae HF)) (ae HV) (ae EA)).mono ?_;rintro e w4 ⟨v4,rfl,rfl,hv4⟩;have FA:=af hv4;clear hv4;go_wp2_with fail;go_roundg g
     case measure=>omega
     case rel=>exact⟨st2,_,O3,((ae HR).alloc _).alloc _,((ae HF).alloc _).alloc _,ae FA,ae BA,ae CA⟩
   rw [aG e0]at hl;have N0:=af e0;cases hl
   clear e0;have hfv:=(ae HV).fnv;rcases hfv with⟨f1,f2,f3,rfl⟩|rfl <;>
   ·go_wp2_with (go_at_call 137;refine(aH (ae HR) (ae HK) (ae HT) 18 (ae N0)).mono ?_;rintro e w2 ⟨rfl,hr2,hf2⟩;replace HV:=af ((ae HV).fr hf2 (aL _));replace HR:=af hr2;replace HF:=af ((ae HF).trans hf2);clear hr2 hf2)
    go_ret;exact⟨_,_,rfl,ae HR,ae HF,ae HV,ae HK⟩
theorem qP{pb:Nat}{ts:List ak}(ht:bY ts){nt:RS->Option (RS×Option aR)}(IH:fi 244 pb ts nt)(n:Nat):fi 187 pb ts (jW ts nt n) :=
 CO ht (Iw ht IH n) n
def ff(b:Nat)(pv mv:Value)(k:Nat):Prop:=k=b\/pv.ownBlock=some k\/mv.ownBlock=some k
def ic(b:Nat)(pv mv:Value)(W:World)(p:Rt×Int)(e:Ending)(W':World):Prop :=
 e=.returned (.int .i64 p.2)/\∃ pv' mv',dp W' b p.1 pv' mv'/\Fr (ff b pv mv) W (ff b pv' mv') W'
def Fp(v:Value)(m:aJ)(K:Nat->Prop)(W:World):Prop :=
 Ig v λ g lb=>∀(b:Nat) (r:Rt) (pv mv:Value),dp W b r pv mv->(∀ k,ff b pv mv k->¬K k)->Calls prog g (#[au b 0]++lb) W (ic b pv mv W (m r))
def jG(w:World)(A:Nat->Prop)(v:Value):Option aJ->Prop
 | none=>jD v
 | some m=>ax w A (Fp v m)
theorem jG.fnv{w:World}{A:Nat->Prop}{v:Value}{o:Option aJ}(h:jG w A v o):jD v:=by
 cases o with
 | none=>exact h
 | some m =>
  obtain⟨K,g,lb,h1,_⟩:=ax.now h;exact inl ⟨_,_,_,h1⟩
theorem jG.fr{w w':World}{O O' D:Nat->Prop}{n m:Nat}{v:Value}{o:Option aJ}(h:jG w (cW O D n) v o)(hf:Fr O w O' w')(hm:m<=n):jG w' (cW O' D m) v o:=by
 cases o with
 | none=>exact h
 | some x=>exact ax.fr h hf hm
theorem yk(W:World)(B:Nat)(n:Int)(hb:W.cell? ⟨B,0,none⟩=some (.int .i64 n))(b:Nat)(r:Rt)(pv mv:Value)(h:dp W b r pv mv) :
  Calls prog 190 (#[au b 0]++#[au B 0]) W (ic b pv mv W (ci n r)):=by
 have HR:=af h;clear h;go_enter func190,ntmps190;go_wp2_with fail;go_ret;exact⟨rfl,pv,mv,ae HR,dw _ _⟩
theorem dp.put{W:World}{b o:Nat}{r r':Rt}{pv mv v:Value}(h:dp W b r pv mv)(hp:r'.path=r.path)(hm:r'.marks=r.marks)
  (hc:(#[.int .i64 r.addr,.int .i64 r.len,pv,mv,.int .i64 r.pref,.int .i64 r.med]:Array Value).setIfInBounds o v=#[.int .i64 r'.addr,.int .i64 r'.len,pv,mv,.int .i64 r'.pref,.int .i64 r'.med]) :
  dp (W.setCell ⟨b,o,none⟩ v) b r' pv mv:=by
 refine⟨by rw [aV h.blk,hc],?_,?_,h.ne1,h.ne2,h.ne3,by rw [hp];exact h.n1,by rw [hm];exact h.n2,by rw [hm];exact h.srt⟩
 ·rw [hp];exact ay h.path (λ k e=>ai (λ e2=>h.ne1 (by rw [e,e2])))
 rw [hm];exact ay h.marks (λ k e=>ai (λ e2=>h.ne2 (by rw [e,e2])))
theorem Bz(W:World)(b:Nat)(r:Rt)(pv mv:Value)(h:dp W b r pv mv)(va:Value)(ma:bh)(Ka:Nat->Prop)(ha:js va ma Ka W)(B1 B2:Nat)
  (c1:W.cell? ⟨B1,0,none⟩=some va) (c2:W.cell? ⟨B2,0,none⟩=some (.func (.func 147) #[] #[])) :
  Calls prog 191 (#[au b 0]++#[au B1 0,au B2 0]) W (ic b pv mv W (gy ma r)):=by
 obtain⟨g,lb,rfl,eg,hc⟩:=ha;have e1:=cj eg;have HA:=af (hc b r pv mv h);have HR:=af h;have c4:W.cell? ⟨b,4,none⟩=some (.int .i64 r.pref):=ag h.blk;have z4:W.frozen? ⟨b,4,none⟩=false:=aj h.blk;clear hc h eg;have EQ:=af (show gy ma r=(match ma r with|none=>(r,3)|some n=>({ r with pref:=n },0))from rfl);cases hx:ma r with
 | none =>
  rw [hx]at HA EQ;have AA:Hid (Calls prog g (#[au b 0]++lb) W λ e W'=>e=.returned (.tuple #[.int .i64 0,.bool false])/\W'=W):=HA;clear HA;go_enter func191,ntmps191;go_wp2_with (go_at_fn g;refine(ae AA).mono ?_;rintro e w1 ⟨rfl,rfl⟩)
  go_ret;rw [ae EQ];exact⟨rfl,pv,mv,ae HR,dw _ _⟩
 | some x =>
  rw [hx]at HA EQ;have AA:Hid (Calls prog g (#[au b 0]++lb) W λ e W'=>e=.returned (.tuple #[.int .i64 x,.bool true])/\W'=W):=HA;clear HA;go_enter func191,ntmps191;go_wp2_with (first|(go_at_fn g;refine(ae AA).mono ?_;rintro e w1 ⟨rfl,rfl⟩)|go_in)
  go_end0
  go_wp2_with fail;go_ret;rw [ae EQ];exact⟨rfl,pv,mv,(ae HR).put rfl rfl rfl,(dw _ _).setCell (inl (inl rfl)) _⟩
theorem DU(W:World)(b:Nat)(r:Rt)(pv mv:Value)(h:dp W b r pv mv)(va:Value)(ma:bh)(Ka:Nat->Prop)(ha:js va ma Ka W)(B1 B2:Nat)
  (c1:W.cell? ⟨B1,0,none⟩=some va) (c2:W.cell? ⟨B2,0,none⟩=some (.func (.func 148) #[] #[])) :
  Calls prog 191 (#[au b 0]++#[au B1 0,au B2 0]) W (ic b pv mv W (iX ma r)):=by
 obtain⟨g,lb,rfl,eg,hc⟩:=ha;have e1:=cj eg;have HA:=af (hc b r pv mv h);have HR:=af h;have c4:W.cell? ⟨b,5,none⟩=some (.int .i64 r.med):=ag h.blk;have z4:W.frozen? ⟨b,5,none⟩=false:=aj h.blk;clear hc h eg;have EQ:=af (show iX ma r=(match ma r with|none=>(r,3)|some n=>({ r with med:=n },0))from rfl);cases hx:ma r with
 | none =>
  rw [hx]at HA EQ;have AA:Hid (Calls prog g (#[au b 0]++lb) W λ e W'=>e=.returned (.tuple #[.int .i64 0,.bool false])/\W'=W):=HA;clear HA;go_enter func191,ntmps191;go_wp2_with (go_at_fn g;refine(ae AA).mono ?_;rintro e w1 ⟨rfl,rfl⟩)
  go_ret;rw [ae EQ];exact⟨rfl,pv,mv,ae HR,dw _ _⟩
 | some x =>
  rw [hx]at HA EQ;have AA:Hid (Calls prog g (#[au b 0]++lb) W λ e W'=>e=.returned (.tuple #[.int .i64 x,.bool true])/\W'=W):=HA;clear HA;go_enter func191,ntmps191;go_wp2_with (first|(go_at_fn g;refine(ae AA).mono ?_;rintro e w1 ⟨rfl,rfl⟩)|go_in)
  go_end0
  go_wp2_with fail;go_ret;rw [ae EQ];exact⟨rfl,pv,mv,(ae HR).put rfl rfl rfl,(dw _ _).setCell (inl (inl rfl)) _⟩
theorem mF{W w:World}{k:Nat}{v:Value}{T:TypeId}(hk:W.heap[k]?=w.heap[k]?)(h:w.heap[k]?=some (aE v T)):W.cell? ⟨k,0,none⟩=some v:=ag (hk.trans h)
theorem vO(w:World)(n:Int) :
  Calls prog 144 #[.int .i64 n] w λ e w'=>e=.returned (.func (.func 190) #[] #[au w.heap.size 0])/\w'=w.alloc (aE (.int .i64 n) 3):=by
 have hmf:∀(fn:Fn) (first cap:Array Value) (w:World),(Instr.makeFunc fn first cap).run prog w=.ok (.func fn first cap) w:=λ _ _ _ _=>rfl
 go_enter func144,ntmps144;go_wp2_with fail;go_ret;exact⟨rfl,rfl⟩
theorem Tryz.entConclude:Enters prog 190:=enters_of func190 (by kernel_rfl) rfl
theorem pK(w:World)(n:Int)(A:Nat->Prop)(hA:∀ k,w.heap.size<=k->A k) :
  Calls prog 144 #[.int .i64 n] w λ e w'=>∃ v,e=.returned v/\w'=w.alloc (aE (.int .i64 n) 3)/\jG w' A v (some (ci n)):=by
 refine(vO w n).mono ?_;rintro e w' ⟨rfl,rfl⟩;refine⟨_,rfl,rfl,ax.new (λ k=>k=w.heap.size) (λ k hk=>⟨by subst hk;simp,hA k (by omega)⟩) (λ W hW hk=>?_)⟩;exact⟨_,_,rfl,Tryz.entConclude,λ b r pv mv hr _=>yk W _ n (mF (hk _ rfl) (cM w _)) b r pv mv hr⟩
theorem zN(w:World)(va vb:Value)(ha:jD va)(hb:jD vb) :
  Calls prog 145 #[va,vb] w λ e w'=>e=.returned (.func (.func 191) #[] #[au w.heap.size 0,au (w.heap.size+1) 0])/\w'=((w.alloc (aE va 232)).alloc (aE vb 234)):=by
 have hmf:∀(fn:Fn) (first cap:Array Value) (w:World),(Instr.makeFunc fn first cap).run prog w=.ok (.func fn first cap) w:=λ _ _ _ _=>rfl
 rcases ha with⟨f,a,b,rfl⟩|rfl<;>rcases hb with⟨f',a',b',rfl⟩|rfl <;>
 ·go_enter func145,ntmps145;go_wp2_with fail;go_ret;exact⟨rfl,rfl⟩
theorem Tryz.entAssign:Enters prog 191:=enters_of func191 (by kernel_rfl) rfl
theorem tA(w:World)(va:Value)(oa:Option bh)(g:Nat)(m:bh->aJ)(A:Nat->Prop)(hA:∀ k,w.heap.size<=k->A k)(ha:iA w A va oa)
  (hrun:∀(W:World) (b:Nat) (r:Rt) (pv mv:Value) (ma:bh) (Ka:Nat->Prop),dp W b r pv mv->js va ma Ka W->W.cell? ⟨w.heap.size,0,none⟩=some va->W.cell? ⟨w.heap.size+1,0,none⟩=some (.func (.func g) #[] #[]) ->
   Calls prog 191 (#[au b 0]++#[au w.heap.size 0,au (w.heap.size+1) 0]) W (ic b pv mv W (m ma r))) :
  Calls prog 145 #[va,.func (.func g) #[] #[]] w λ e w'=>∃ v,e=.returned v/\w'=((w.alloc (aE va 232)).alloc (aE (.func (.func g) #[] #[]) 234))/\jG w' A v (oa.map m):=by
 refine(zN w va (.func (.func g) #[] #[]) ha.fnv (inl ⟨_,_,_,rfl⟩)).mono ?_;rintro e w' ⟨rfl,rfl⟩;refine⟨_,rfl,rfl,?_⟩;cases oa with
 | none=>exact inl ⟨_,_,_,rfl⟩
 | some ma =>
  have h1:ax _ A (js va ma):=(ha.alloc (aE va 232)).alloc (aE (.func (.func g) #[] #[]) 234);obtain⟨n1,n2,sz⟩:=fp w (aE va 232) (aE (.func (.func g) #[] #[]) 234);refine ax.one h1 (λ k=>k=w.heap.size\/k=w.heap.size+1) (λ k hk=>⟨by omega,hA k (by omega)⟩) (λ K1 _ q1 W hW hk=>?_);refine⟨_,_,rfl,Tryz.entAssign,λ b r pv mv hr _=>?_⟩;exact hrun W b r pv mv ma K1 hr (q1 W hW (λ k h=>hk k (inl h))) (mF (hk _ (inr (inl rfl))) n1) (mF (hk _ (inr (inr rfl))) n2)
theorem tt(w:World)(va:Value)(oa:Option bh)(A:Nat->Prop)(hA:∀ k,w.heap.size<=k->A k)(ha:iA w A va oa) :
  Calls prog 145 #[va,.func (.func 147) #[] #[]] w λ e w'=>∃ v,e=.returned v/\w'=((w.alloc (aE va 232)).alloc (aE (.func (.func 147) #[] #[]) 234))/\jG w' A v (oa.map gy) :=
 tA w va oa _ gy A hA ha (λ W b r pv mv ma Ka h1 h2 h3 h4=>Bz W b r pv mv h1 va ma Ka h2 _ _ h3 h4)
theorem vK(w:World)(va:Value)(oa:Option bh)(A:Nat->Prop)(hA:∀ k,w.heap.size<=k->A k)(ha:iA w A va oa) :
  Calls prog 145 #[va,.func (.func 148) #[] #[]] w λ e w'=>∃ v,e=.returned v/\w'=((w.alloc (aE va 232)).alloc (aE (.func (.func 148) #[] #[]) 234))/\jG w' A v (oa.map iX) :=
 tA w va oa _ iX A hA ha (λ W b r pv mv ma Ka h1 h2 h3 h4=>DU W b r pv mv h1 va ma Ka h2 _ _ h3 h4)
def Nh(W:World)(K:Nat->Prop)(sv:Value)(vs:List Value):Prop :=
 (vs=[]/\sv=.slice none 0 0)\/∃ S cap,sv=.slice (some ⟨S,0,none⟩) vs.length cap/\K S/\∀ i v,vs[i]?=some v->W.cell? ⟨S,i,none⟩=some v
def iG(sv:Value)(ms:List aJ)(K:Nat->Prop)(W:World):Prop :=
 ms.length<=1000000/\∃ vs:List Value,vs.length=ms.length/\Nh W K sv vs/\∀(i:Nat) (v:Value) (m:aJ),vs[i]?=some v->ms[i]?=some m->Fp v m K W
theorem kz(w0:World)(K:Nat->Prop)(sv:Value)(ms:List aJ)(hK:∀ k,K k->k<w0.heap.size)(HS:∀ V,w0.heap.size<=V.heap.size->(∀ k,K k->V.heap[k]?=w0.heap[k]?)->iG sv ms K V)
  (W:World) (hW:w0.heap.size<=W.heap.size) (hag:∀ k,K k->W.heap[k]?=w0.heap[k]?) (b:Nat) (r:Rt) (pv mv:Value) (h:dp W b r pv mv) (hd:∀ k,ff b pv mv k->¬K k) :
  Calls prog 61 #[sv,au b 0] W (ic b pv mv W (bd ms r)):=by
 obtain⟨hl,vs0,hvl,hrow,_⟩:=HS W hW hag;have H0:=af (show dp W b r pv mv from h);have GA:=af hK;have JA:=af HS;have HD:=af hd;have HA:=af hag;clear h hK HS hd hag
 obtain⟨sa,sc,hsv⟩:∃ a c,sv=.slice a ms.length c:=by
  rcases hrow with⟨h1,h2⟩|⟨S,cap,h1,_⟩
  ·exact⟨none,0,by rw [h2,<-hvl,h1];rfl⟩
  exact⟨_,cap,by rw [h1,hvl]⟩
 have EA:=af hrow;clear hrow;subst hsv;go_enter func61,ntmps61;go_wp2_with fail;generalize hN:ms.length=N at *;go_loopg [10] N (λ k i wr=>∃(j:Nat) (rj:Rt) (pj mj:Value),i=.int .i64 (j:Int)/\j+k=N/\dp wr b rj pj mj/\Fr (ff b pv mv) W (ff b pj mj) wr/\bd (ms.drop j) rj=bd ms r)
 case atStart=>exact⟨0,r,pv,mv,rfl,by omega,ae H0,dw _ _,rfl⟩
 case round =>
  clear EA;obtain⟨j,rj,pj,mj,rfl,hjk,hrt,hf,hpf⟩:=hrel;have hagr:∀ k,K k->wr.heap[k]?=w0.heap[k]?:=λ k hk=>(hf.block k (gY ((ae GA) k hk) hW) (λ ho=>(ae HD) k ho hk)).trans ((ae HA) k hk)
  have hdj:∀ k,ff b pj mj k->¬K k:=λ k ho hk=>by
   rcases hf.own k ho with h1|h1
   ·exact(ae HD) k h1 hk
   have:=(ae GA) k hk;omega
  have HF:=af hf;have IA:=af hrt;have CA:=af hpf;by_cases hj:j<N
  ·obtain⟨_,vs,hvl',hrow,hst⟩:=(ae JA) wr (gG hW hf.size) hagr;have hj':j<vs.length:=by omega
   have hjm:j<ms.length:=by omega
   have hv:vs[j]?=some vs[j]:=gW hj';have hm:ms[j]?=some ms[j]:=gW hjm;obtain⟨g,lb,hvj,eg,hc⟩:=hst j _ _ hv hm;have hdrop:ms.drop j=ms[j]::ms.drop (j+1):=List.drop_eq_getElem_cons hjm;have HC:=af (hc b rj pj mj hrt hdj);have e1:=cj eg;rcases hrow with⟨h1,_⟩|⟨S,cap,h1,_,hcell⟩
   ·rw [h1]at hj';simp at hj'
   injection h1 with h2 h3 h4
   subst h2 h4;have hcl:wr.cell? ⟨S,j,none⟩=some (.func (.func g) #[] lb):=(hcell j _ hv).trans (by rw [hvj]);have FA:=af hdrop;generalize hmj:ms[j]=mjj at *;clear hcell hst hc eg hvj hm hv h3 hrt hf hpf hagr hdj hdrop;by_cases hz:(mjj rj).2=0
   ·have HM:=af (show bd (ms.drop j) rj=bd (ms.drop (j+1)) (mjj rj).1 by rw [ae FA,bd,aS hz])
    have AA:Hid (Calls prog g (#[au b 0]++lb) wr λ e W'=>e=.returned (.int .i64 0)/\∃ pv' mv',dp W' b (mjj rj).1 pv' mv'/\Fr (ff b pj mj) wr (ff b pv' mv') W'):=by
     unfold Hid;rw [<-hz];exact ae HC
    clear HC;go_wp2_with (go_at_fn g;refine(ae AA).mono ?_;rintro e w1 ⟨rfl,pv1,mv1,hr1,hf1⟩;have DA:=af hr1;have BA:=af hf1;clear hr1 hf1)
    go_roundg (N-(j+1))
    case measure=>omega
    case rel=>exact⟨j+1,_,pv1,mv1,by simp,by omega,ae DA,(ae HF).trans (ae BA),(ae HM).symm.trans (ae CA)⟩
   have HM:=af (show bd (ms.drop j) rj=mjj rj by rw [ae FA,bd,aG hz]);have hne:((mjj rj).2 != 0)=true:=by simpa using hz
   have AA:Hid (Calls prog g (#[au b 0]++lb) wr λ e W'=>e=.returned (.int .i64 (mjj rj).2)/\∃ pv' mv',dp W' b (mjj rj).1 pv' mv'/\Fr (ff b pj mj) wr (ff b pv' mv') W'):=HC;clear HC;go_wp2_with (go_at_fn g;refine(ae AA).mono ?_;rintro e w1 ⟨rfl,pv1,mv1,hr1,hf1⟩;have DA:=af hr1;have BA:=af hf1;clear hr1 hf1)
   go_ret;rw [<-ae CA,ae HM];exact⟨rfl,pv1,mv1,ae DA,(ae HF).trans (ae BA)⟩
  have hdn:ms.drop j=[]:=List.drop_eq_nil_of_le (by omega);have HM:=af (show bd (ms.drop j) rj=(rj,0)by rw [hdn,bd]);clear hrt hf hpf hagr hdj hdn;go_wp2_with fail;go_ret;rw [<-ae CA,ae HM];exact⟨rfl,pj,mj,ae IA,ae HF⟩
