/- part -/
import Derived.Test.YtgdeeodifnegiaaGreatDoorWayP
import Derived.Test.YtgdeeodifnegiaaGreatDoorRdrO
import Derived.Test.YtgdeeodifnegiaaGreatDoorDefB
set_option maxRecDepth 100000
set_option maxHeartbeats 4000000
namespace Go.Proofs.YtgdeeodifnegiaaGreatDoor
open Go.Proofs.Tryz
open Or
open Go.RowKit
def oC(pb:Nat)(ts:List aw)(w:World)(D O:Nat->Prop)(r:RS×Option aH)(e:Ending)(w':World):Prop :=
 ∃ v O',e=.returned (.tuple #[v,.bool r.2.isSome])/\RA w' pb ts r.1 D O'/\Fr O w O' w'/\jl v/\(∀ m,r.2=some m->nn w' (dk O' D w.heap.size) v m)/\Ok ts r.1
def oD(pb:Nat)(ts:List aw)(tw:RS->Option (RS×Option aH)):Prop:=∀(w:World) (st:RS) (D O:Nat->Prop) (r:RS×Option aH),RA w pb ts st D O->Ok ts st->tw st=some r->Calls prog 264 #[ay pb 0] w (oC pb ts w D O r)
theorem ui{r:Option (RS×aH)}{q:RS×Option aH}(h:someR r=some q):∃ p,r=some p/\q=(p.1,some p.2):=by
 unfold someR at h;split at h
 ·cases h
 exact⟨_,rfl,(fZ h).symm⟩
theorem Hy{pb:Nat}{ts:List aw}(ht:cE ts)(n:Nat){w:World}{st:RS}{D O:Nat->Prop}(h:RA w pb ts st D O)(hk:Ok ts st)(e:am ts st=2){r:RS×aH}(hr:di ts n (Fb (aE ts 1 65535 st).2) (aE ts 1 65535 st).1=some r) :
  Calls prog 264 #[ay pb 0] w (oC pb ts w D O (r.1,some r.2)):=by
 have AA:=ae (λ(W:World) (h:RA W pb ts st D O)=>ur ht h hk);have BA:=ae (gO (a:=1) (b:=65535) hk ht);have HR:=ae h;have HF:=ae (bE O w);have HK:=ae hk;have HT:=ae ht;have HE:=ae e;have HQ:=ae hr;clear h hk ht e hr;generalize aE ts 1 65535 st=P at *;obtain⟨s1,x1⟩:=P;dsimp only at BA HQ AA;go_enter func264,ntmps264
 go_wp2_with (first
  | (go_at_call 170;refine(dR (ab HR) (ab HK) (ab HT) (ab HE)).mono ?_;rintro e w1 ⟨rfl,hr1,hf1⟩;replace HR:=ae hr1;replace HF:=ae ((ab HF).trans hf1);clear hr1 hf1)
  | (go_at_call 227;refine((ab AA) _ (ab HR)).mono ?_;clear AA;rintro e w2 ⟨rfl,O2,hr2,hf2⟩;replace HR:=ae hr2;replace HF:=ae ((ab HF).trans hf2);clear hr2 hf2)
  | (go_at_call 307;refine(Ax _ x1 _ ((ab HR).newFree (ab HF))).mono ?_;rintro e w3 ⟨v3,rfl,hfv,rfl,hv⟩;obtain⟨K3,g3,lb3,hv3,_⟩:=az.now hv;have HV:=ae hv;replace HR:=ae ((ab HR).alloc (aF (.int .i64 x1) 3));replace HF:=ae ((ab HF).alloc (aF (.int .i64 x1) 3));clear hv hfv;subst hv3)
  | (go_at_call 306;refine(lI (ab HT) n (ab HR) (ab BA) (ab HF) (ab HV) (ab HQ)).mono ?_;rintro e w4 ⟨v4,O4,rfl,hr4,hf4,hfv4,hv4,hk4⟩;obtain⟨K4,g4,lb4,hv5,_⟩:=az.now hv4;have GA:=ae hv4;have DA:=ae hfv4;have FA:=ae hr4;have CA:=ae hf4;have EA:=ae hk4;clear hv4 hfv4 hr4 hf4 hk4;subst hv5))
 go_ret2
 refine⟨_,_,rfl,ab FA,ab CA,ab DA,λ m hm=>?_,ab EA⟩;cases hm;exact ab GA
theorem Hx{pb:Nat}{ts:List aw}(ht:cE ts)(n:Nat){w:World}{st:RS}{D O:Nat->Prop}(h:RA w pb ts st D O)(hk:Ok ts st)(e:am ts st=41){r:RS×aH}(hr:di ts n Ew (bg ts st)=some r) :
  Calls prog 264 #[ay pb 0] w (oC pb ts w D O (r.1,some r.2)):=by
 have htk:ar ts 41 st=(bg ts st,bL ts st):=by unfold ar;rw [aC e]
 have AA:=ae (λ(W:World) (O:Nat->Prop) (h:RA W pb ts st D O)=>aN h hk ht 41);rw [htk]at AA;have DA:=ae (cu hk ht e (by decide));have HR:=ae h;have HF:=ae (bE O w);have HK:=ae hk;have HT:=ae ht;have HE:=ae e;have HQ:=ae hr;clear h hk ht e hr htk;go_enter func264,ntmps264
 go_wp2_with (first
  | (go_at_call 170;refine(dR (ab HR) (ab HK) (ab HT) (ab HE)).mono ?_;rintro e w1 ⟨rfl,hr1,hf1⟩;replace HR:=ae hr1;replace HF:=ae ((ab HF).trans hf1);clear hr1 hf1)
  | (go_at_call 213;refine((ab AA) _ _ (ab HR)).mono ?_;clear AA;rintro e w2 ⟨rfl,O2,hr2,hf2⟩;replace HR:=ae hr2;replace HF:=ae ((ab HF).trans hf2);clear hr2 hf2)
  | (go_at_call 306;refine(lI (ab HT) n (ab HR) (ab DA) (ab HF) (Hk _ _) (ab HQ)).mono ?_;rintro e w4 ⟨v4,O4,rfl,hr4,hf4,hfv4,hv4,hk4⟩;obtain⟨K4,g4,lb4,hv5,_⟩:=az.now hv4;have GA:=ae hv4;have CA:=ae hfv4;have FA:=ae hr4;have BA:=ae hf4;have EA:=ae hk4;clear hv4 hfv4 hr4 hf4 hk4;subst hv5))
 go_ret2
 refine⟨_,_,rfl,ab FA,ab BA,ab CA,λ m hm=>?_,ab EA⟩;cases hm;exact ab GA
theorem Hz{pb:Nat}{ts:List aw}(ht:cE ts)(n:Nat){ei:RS->Option (RS×aH)}(IE:mP 215 pb ts ei){w:World}{st s1:RS}{m1:aH}{D O:Nat->Prop}(h:RA w pb ts st D O)(hk:Ok ts st)(e:am ts st=33)(h1:ei (dt ts 33 st)=some (s1,m1)){r:RS×aH}(hr:di ts n m1 (gx ts 34 s1)=some r) :
  Calls prog 264 #[ay pb 0] w (oC pb ts w D O (r.1,some r.2)):=by
 have EA:=ae (mB (k:=33) hk ht (by decide));have DA:=ae IE;have HR:=ae h;have HF:=ae (bE O w);have HK:=ae hk;have HT:=ae ht;have HE:=ae e;have HQ:=ae hr;have H1:=ae h1;clear h hk ht e hr IE h1;go_enter func264,ntmps264
 go_wp2_with (first
  | (go_at_call 170;refine(dR (ab HR) (ab HK) (ab HT) (ab HE)).mono ?_;rintro e w1 ⟨rfl,hr1,hf1⟩;replace HR:=ae hr1;replace HF:=ae ((ab HF).trans hf1);clear hr1 hf1)
  | (go_at_call 309;refine(mC (ab HR) (ab HK) (ab HT) 33).mono ?_;rintro e w2 ⟨rfl,O2,hr2,hf2⟩;replace HR:=ae hr2;replace HF:=ae ((ab HF).trans hf2);clear hr2 hf2))
 refine((ab DA) _ _ _ _ _ (ab HR) (ab EA) (ab H1)).mono ?_;rintro e w3 ⟨v3,O3,rfl,hr3,hf3,hfv3,hv3,hk3⟩;obtain⟨K3,g3,lb3,hv4,_⟩:=az.now hv3;have HV:=ae (az.fr hv3 (bE _ _) (ab HF).size);have AA:=ae hk3;replace HR:=ae hr3;replace HF:=ae ((ab HF).trans hf3);clear hv3 hr3 hf3 hk3 hfv3;subst hv4;go_wp2_with (go_at_call 310;refine(pD (ab HR) (ab AA) (ab HT) 34).mono ?_;rintro e w4 ⟨rfl,O4,hr4,hf4⟩;replace HR:=ae hr4;replace HV:=ae (az.fr (ab HV) hf4 (aD _));replace HF:=ae ((ab HF).trans hf4);clear hr4 hf4)
 refine(lI (ab HT) n (ab HR) (pC (ab AA) (ab HT) (by decide)) (ab HF) (ab HV) (ab HQ)).mono ?_;rintro e w5 ⟨v4,O4,rfl,hr4,hf4,hfv4,hv4,hk4⟩;obtain⟨K4,g4,lb4,hv5,_⟩:=az.now hv4;have HA:=ae hv4;have CA:=ae hfv4;have GA:=ae hr4;have BA:=ae hf4;have FA:=ae hk4;clear hv4 hfv4 hr4 hf4 hk4;subst hv5;go_wp2_with fail
 go_ret2
 refine⟨_,_,rfl,ab GA,ab BA,ab CA,λ m hm=>?_,ab FA⟩;cases hm;exact ab HA
theorem EO{pb:Nat}{ts:List aw}(ht:cE ts){w:World}{st:RS}{D O:Nat->Prop}(h:RA w pb ts st D O)(hk:Ok ts st)(e2:am ts st≠2)(e41:am ts st≠41)(e33:am ts st≠33) :
  Calls prog 264 #[ay pb 0] w (oC pb ts w D O (st,none)):=by
 have HR:=ae h;have HF:=ae (bE O w);have HK:=ae hk;have HT:=ae ht;have b2:(am ts st==2)=false:=by simpa using e2
 have b41:(am ts st==41)=false:=by simpa using e41
 have b33:(am ts st==33)=false:=by simpa using e33
 clear h hk ht e2 e41 e33;go_enter func264,ntmps264;go_wp2_with (go_at_call 170;refine(dR (ab HR) (ab HK) (ab HT) rfl).mono ?_;rintro e w1 ⟨rfl,hr1,hf1⟩;replace HR:=ae hr1;replace HF:=ae ((ab HF).trans hf1);clear hr1 hf1)
 go_ret2
 exact⟨_,_,rfl,ab HR,ab HF,inr rfl,λ m hm=>(by cases hm),ab HK⟩
theorem EP{pb:Nat}{ts:List aw}(ht:cE ts)(n:Nat){ei:RS->Option (RS×aH)}(IE:mP 215 pb ts ei):oD pb ts (dM ts n ei):=by
 intro w st D O r h hk hr;unfold dM at hr;by_cases e2:am ts st=2
 ·rw [aC e2]at hr;obtain⟨p,h1,rfl⟩:=ui hr;exact Hy ht n h hk e2 h1
 rw [au e2]at hr;by_cases e41:am ts st=41
 ·rw [aC e41]at hr;obtain⟨p,h1,rfl⟩:=ui hr;exact Hx ht n h hk e41 h1
 rw [au e41]at hr;by_cases e33:am ts st=33
 ·rw [aC e33]at hr;cases h1:ei (dt ts 33 st)with
  | none=>rw [h1]at hr;cases hr
  | some q =>
   obtain⟨s1,m1⟩:=q;rw [h1]at hr;dsimp only at hr;obtain⟨p,h2,rfl⟩:=ui hr;exact Hz ht n IE h hk e33 h1 h2
 rw [au e33]at hr;cases hr
 exact EO ht h hk e2 e41 e33
theorem re{tw:RS->Option (RS×Option aH)}{k:Nat}{st:RS}{l:List aH}{r:RS×List aH}(h:bO tw k st l=some r):∃ g,k=g+1:=by
 cases k with
 | zero=>rw [bO]at h;cases h
 | succ g=>exact⟨g,rfl⟩
def Is(tw:RS->Option (RS×Option aH))(k:Nat)(su:RS)(x:Option aH)(l:List aH):Option (RS×List aH) :=
 match x with
 | none=>some (su,l)
 | some y=>bO tw k su (l++[y])
theorem oY{tw:RS->Option (RS×Option aH)}{k:Nat}{st:RS}{l:List aH}{r:RS×List aH}(h:bO tw (k+1) st l=some r) :
  ∃ su x,tw st=some (su,x)/\Is tw k su x l=some r:=by
 rw [bO]at h;cases h1:tw st with
 | none=>rw [h1]at h;cases h
 | some p =>
  obtain⟨su,x⟩:=p;rw [h1]at h;refine⟨su,x,rfl,?_⟩;cases x with
  | none=>exact h
  | some y=>exact h
theorem Tryz.infoWay:(prog.info? 305).map (λ i=>(i.zero,i.size,i.bytes))=some (some .nilFunc,1,8):=by kernel_rfl
def wS(pb:Nat)(ts:List aw)(w:World)(D O:Nat->Prop)(r:RS×List aH)(e:Ending)(w':World):Prop :=
 ∃ v O',e=.returned v/\RA w' pb ts r.1 D O'/\Fr O w O' w'/\az w' (dk O' D w.heap.size) (oF v r.2)/\Ok ts r.1/\(∃ a c,v=.slice a r.2.length c)/\r.2.length<=1000000
theorem B4{pb:Nat}{ts:List aw}{tw:RS->Option (RS×Option aH)}(IH:oD pb ts tw)(n:Nat)(hn:n<=1000){w:World}{st:RS}{D O:Nat->Prop}{r:RS×List aH}(h:RA w pb ts st D O)(hk:Ok ts st)(hr:bO tw n st []=some r) :
  Calls prog 305 #[.func (.func 264) #[ay pb 0] #[]] w (wS pb ts w D O r):=by
 obtain⟨n,rfl⟩:=re hr;obtain⟨su,x,h1,h2⟩:=oY hr;obtain⟨i0,hi0,hz0,hz1,hz2⟩:=info_parts Tryz.infoWay;have OA:=ae IH;have H1:=ae (IH w st D O (su,x) h hk h1);have HL:=ae h2;have HH:=ae h;clear hr h hk h1 h2 IH;go_enter func305,ntmps305;go_wp2_with fail;refine(ab H1).mono ?_;rintro e w1 ⟨v,O1,rfl,hr1,hf1,hfv,hv1,hk1⟩;have HR:=ae hr1;have HF:=ae hf1;have HV:=ae hv1;have HK:=ae hk1;have JA:=ae hfv;clear hr1 hf1 hv1 hk1 H1 hfv;go_wp2_with fail;go_loopg [3,4,5] n (λ k s3 v4 b5 wr=>∃(su:RS) (x:Option aH) (acc:List aH) (vs:List Value) (Ou:Nat->Prop),b5=.bool x.isSome/\acc.length+k<=n/\RA wr pb ts su D Ou/\Fr O w Ou wr/\kw 305 kB wr w.heap.size Ou D s3 acc vs/\jl v4/\(∀ o,x=some o->az wr (λ k=>dk Ou D w.heap.size k/\s3.ownBlock≠some k) (kB v4 o))/\Ok ts su/\Is tw k su x acc=some r)
 case atStart =>
  refine⟨su,x,[],[],O1,rfl,by simp,ab HR,ab HF,⟨jX _ _ _ _,λ k e=>by simp [Value.ownBlock]at e,λ i v o hv=>by simp at hv⟩,ab JA,λ o ho=>?_,ab HK,ab HL⟩;exact((ab HV) o ho).mono (aD _) (λ k _ ha=>⟨rfl,ha,by simp [Value.ownBlock]⟩) (λ _ _ h=>h)
 case round =>
  clear HR HF HV HK HL JA;obtain⟨su,x,acc,vs,Ou,rfl,hlen,hr,hf,hacc,hfv,hv,hk,hl⟩:=hrel;have HR:=ae hr;have HF:=ae hf;have HA:=ae hacc;have HK:=ae hk;obtain⟨sa,sc,hsv⟩:=bi hacc.own;subst hsv;cases x with
  | none =>
   cases hl
   clear hr hf hacc hk hv;go_wp2_with fail;go_ret;refine⟨_,_,rfl,ab HR,ab HF,AO (ab HA).own (show acc.length<=1000000 by omega) (λ k e=>⟨((ab HA).new k e).2,inr ((ab HA).new k e).1⟩) (λ i v o h1 h2=>((ab HA).elt i v o h1 h2).mono (aD _) (λ k _ ha=>⟨rfl,ha.1⟩) (λ _ _ h=>h)),ab HK,⟨_,_,rfl⟩,by show acc.length<=_;omega⟩
  | some y =>
   have hl':bO tw _ su (acc++[y])=some r:=hl;obtain⟨g,rfl⟩:=re hl';obtain⟨su2,x2,h3,h4⟩:=oY hl';have HS:=ae h3;have HL:=ae h4;have HV:=ae (hv y rfl);have JA:=ae hfv;have hln:acc.length<=1000:=by omega
   clear hr hf hacc hk hv hl hl' h3 h4;have DA:=ae ((ab HR).alloc (aF u4 305));have AA:=ae ((ab HA).alloc (aF u4 305));have FA:=ae ((ab HV).mono (bK wr (aF u4 305) (λ k=>dk Ou D w.heap.size k/\(Value.slice sa acc.length sc).ownBlock≠some k)).1 (bK wr (aF u4 305) _).2 (λ _ _ h=>h));rcases hfv with⟨f1,f2,f3,rfl⟩|rfl
   ·
    go_wp2_with (at_builtin;refine wpList_append_lies _ rfl _ _ _ rfl 0 305 i0 _ 1 8 underlying353 hi0 hz0 hz1 hz2 rfl (by omega) (.slice sa acc.length sc) acc.length vs rfl (ab AA).own ⟨wr.heap.size,0,none⟩ 1 1 [.func f1 f2 f3] rfl rfl (World.news_of_block (cs:=#[.func f1 f2 f3]) (t:=305) (fr:=(0,0)) (cN _ _)) (by simp [Value.oneCell']) (by omega) (by simp [maxLen];omega) (by omega) (iL _) (wr.heap.size+1) (by simp) ?_;intro gg cap w2 hown hgrow hat hltg)
    have LA:=ae ((ab DA).grown hgrow (λ k e=>⟨((ab AA).new k e).2,λ hd=>by have h1:=((ab AA).new k e).1;have h2:=((ab HH).free hd).1;omega⟩));have EA:=ae (((ab HF).alloc (aF (.func f1 f2 f3) 305)).grown hgrow (λ k e=>inr ((ab AA).new k e).1));have BA:=ae (kw.snoc (ab AA) (λ k ho=>(ab DA).lt ho) (by have:=(ab HF).size;simp;omega) (ab FA) hgrow (hat.imp id (λ h=>by simp;omega)) hown);have hs2:=hgrow.size;clear hown hgrow hat hltg DA AA FA HV HA;refine((ab OA) _ _ _ _ _ (ab LA) (ab HK) (ab HS)).mono ?_;rintro e w3 ⟨v3,O3,rfl,hr3,hf3,hfv3,hv3,hk3⟩;have MA:=ae hr3;have IA:=ae ((ab EA).trans hf3);have GA:=ae ((ab BA).fr hf3);have KA:=ae hk3;have CA:=ae hfv3
    have NA:Hid (∀ o,x2=some o->az w3 (λ k=>dk O3 D w.heap.size k/\(Value.slice (some ⟨gg,0,none⟩) (acc.length+1) cap).ownBlock≠some k) (kB v3 o)):=by
     intro o ho;refine(hv3 o ho).mono (aD _) (λ k _ ha=>⟨rfl,⟨ha.1,?_⟩,λ e=>?_⟩) (λ _ _ h=>h)
     ·rcases ha.2 with h1|h1
      ·exact inl h1
      exact inr (by have:=(ab EA).size;omega)
     have e':gg=k:=by simpa [Value.ownBlock]using e
     have hl2:=((ab BA).own.lt gg rfl).2;rcases ha.2 with h1|h1
     ·have h2:=((ab BA).new gg rfl).1;have h3:=((ab HH).free h1).1;omega
     omega
    clear hr3 hf3 hv3 hk3 hfv3;go_wp2_with fail;go_roundg g
    case measure=>omega
    case rel=>exact⟨su2,x2,acc++[y],_,O3,rfl,by rw [List.length_append,List.length_singleton];omega,ab MA,ab IA,ab GA,ab CA,ab NA,ab KA,ab HL⟩
   ·
    go_wp2_with (at_builtin;refine wpList_append_lies _ rfl _ _ _ rfl 0 305 i0 _ 1 8 underlying353 hi0 hz0 hz1 hz2 rfl (by omega) (.slice sa acc.length sc) acc.length vs rfl (ab AA).own ⟨wr.heap.size,0,none⟩ 1 1 [.nilFunc] rfl rfl (World.news_of_block (cs:=#[.nilFunc]) (t:=305) (fr:=(0,0)) (cN _ _)) (by simp [Value.oneCell']) (by omega) (by simp [maxLen];omega) (by omega) (iL _) (wr.heap.size+1) (by simp) ?_;intro gg cap w2 hown hgrow hat hltg)
    have LA:=ae ((ab DA).grown hgrow (λ k e=>⟨((ab AA).new k e).2,λ hd=>by have h1:=((ab AA).new k e).1;have h2:=((ab HH).free hd).1;omega⟩));have EA:=ae (((ab HF).alloc (aF (.nilFunc) 305)).grown hgrow (λ k e=>inr ((ab AA).new k e).1));have BA:=ae (kw.snoc (ab AA) (λ k ho=>(ab DA).lt ho) (by have:=(ab HF).size;simp;omega) (ab FA) hgrow (hat.imp id (λ h=>by simp;omega)) hown);have hs2:=hgrow.size;clear hown hgrow hat hltg DA AA FA HV HA;refine((ab OA) _ _ _ _ _ (ab LA) (ab HK) (ab HS)).mono ?_;rintro e w3 ⟨v3,O3,rfl,hr3,hf3,hfv3,hv3,hk3⟩;have MA:=ae hr3;have IA:=ae ((ab EA).trans hf3);have GA:=ae ((ab BA).fr hf3);have KA:=ae hk3;have CA:=ae hfv3
    have NA:Hid (∀ o,x2=some o->az w3 (λ k=>dk O3 D w.heap.size k/\(Value.slice (some ⟨gg,0,none⟩) (acc.length+1) cap).ownBlock≠some k) (kB v3 o)):=by
     intro o ho;refine(hv3 o ho).mono (aD _) (λ k _ ha=>⟨rfl,⟨ha.1,?_⟩,λ e=>?_⟩) (λ _ _ h=>h)
     ·rcases ha.2 with h1|h1
      ·exact inl h1
      exact inr (by have:=(ab EA).size;omega)
     have e':gg=k:=by simpa [Value.ownBlock]using e
     have hl2:=((ab BA).own.lt gg rfl).2;rcases ha.2 with h1|h1
     ·have h2:=((ab BA).new gg rfl).1;have h3:=((ab HH).free h1).1;omega
     omega
    clear hr3 hf3 hv3 hk3 hfv3;go_wp2_with fail;go_roundg g
    case measure=>omega
    case rel=>exact⟨su2,x2,acc++[y],_,O3,rfl,by rw [List.length_append,List.length_singleton];omega,ab MA,ab IA,ab GA,ab CA,ab NA,ab KA,ab HL⟩
theorem Fe{pb:Nat}{ts:List aw}(ht:cE ts){tw:RS->Option (RS×Option aH)}(IH:oD pb ts tw)(n:Nat)(hn:n<=1000){w:World}{st s1:RS}{l:List aH}{D O:Nat->Prop}(h:RA w pb ts st D O)(hk:Ok ts st)(hr:bO tw n st []=some (s1,l)) :
  Calls prog 263 #[ay pb 0,.func (.func 264) #[ay pb 0] #[]] w (wS pb ts w D O (if l.length=0 then cC ts s1 else s1,l)):=by
 have HM:=ae (B4 IH n hn h hk hr);have HT:=ae ht;clear h hk ht IH hr;by_cases h0:l.length=0
 ·rw [aC h0];have hb:(((l.length:Nat):Int)==0)=true:=by simp [h0]
  go_enter func263,ntmps263;go_wp2_with fail;refine(ab HM).mono ?_;rintro e w2 ⟨v,O2,rfl,hr2,hf2,hs2,hk2,⟨va,vc,rfl⟩,hl2⟩;have HS:=ae hs2;have HK:=ae hk2;have HR:=ae hr2;have HF:=ae hf2;have hl3:l.length<=1000000:=hl2;clear hr2 hf2 hs2 hk2 HM hl2;dsimp only;generalize hN:l.length=N at *;subst h0;go_wp2_with (go_at_call 171;refine(gb (ab HR) (ab HK).next (ab HT).n1).mono ?_;rintro e w1 ⟨rfl,hr1,hf1⟩;replace HR:=ae hr1;replace HS:=ae (az.fr (ab HS) hf1 (aD _));replace HF:=ae ((ab HF).trans hf1);clear hr1 hf1)
  go_ret;exact⟨_,_,rfl,ab HR,ab HF,ab HS,iV (ab HK),⟨va,vc,by show Value.slice va _ vc=Value.slice va l.length vc;rw [hN]⟩,by show l.length<=_;omega⟩
 rw [au h0];have hb:(((l.length:Nat):Int)==0)=false:=by simpa using h0
 go_enter func263,ntmps263;go_wp2_with fail;refine(ab HM).mono ?_;rintro e w2 ⟨v,O2,rfl,hr2,hf2,hs2,hk2,⟨va,vc,rfl⟩,hl2⟩;have HS:=ae hs2;have HK:=ae hk2;have HR:=ae hr2;have HF:=ae hf2;have hl3:l.length<=1000000:=hl2;clear hr2 hf2 hs2 hk2 HM hl2;dsimp only;generalize hN:l.length=N at *;go_wp2_with fail;go_ret;exact⟨_,_,rfl,ab HR,ab HF,ab HS,ab HK,⟨va,vc,by show Value.slice va _ vc=Value.slice va l.length vc;rw [hN]⟩,by show l.length<=_;omega⟩
theorem Ec{ts:List aw}{rd:RS->Option (RS×aH)}{k:Nat}{st:RS}{l:List aH}{r:RS×List aH}(h:altLp ts rd k st l=some r):∃ g,k=g+1:=by
 cases k with
 | zero=>cases h
 | succ g=>exact⟨g,rfl⟩
def Di(pb:Nat)(ts:List aw)(n:Nat)(it:RS->Option (RS×Option aH)):Prop:=∀(w:World) (st:RS) (D O:Nat->Prop) (s:RS) (m:aH),RA w pb ts st D O->Ok ts st->gw ts n it st=some (s,m) ->
 ∃ l,m=jM l/\Calls prog 263 #[ay pb 0,.func (.func 264) #[ay pb 0] #[]] w (wS pb ts w D O (s,l))
theorem Mz{pb:Nat}{ts:List aw}(ht:cE ts){it:RS->Option (RS×Option aH)}(IH:oD pb ts it)(n:Nat)(hn:n<=1000):Di pb ts n it:=by
 intro w st D O s m h hk hr;unfold gw at hr;cases h1:bO it n st []with
 | none=>rw [h1]at hr;cases hr
 | some p =>
  obtain⟨s1,l⟩:=p;rw [h1]at hr;cases hr
  exact⟨l,rfl,Fe ht IH n hn h hk h1⟩
theorem Ex{pb:Nat}{ts:List aw}(ht:cE ts){it:RS->Option (RS×Option aH)}(n:Nat)(hn:n<=1000)(IR:Di pb ts n it):mP 215 pb ts (nU ts n (gw ts n it)):=by
 intro w st D O r h hk hr;unfold nU at hr;cases h1:gw ts n it st with
 | none=>rw [h1]at hr;cases hr
 | some p =>
  obtain⟨s2,m2⟩:=p;rw [h1]at hr;dsimp only at hr
  obtain⟨r1,hr1,hr2⟩:∃ r1,altLp ts (gw ts n it) n s2 [m2]=some r1/\r=(r1.1,kj r1.2):=by
   split at hr
   ·cases hr
   rename_i s l hx;exact⟨(s,l),hx,(fZ hr).symm⟩
  obtain⟨l2,hl2,hc2⟩:=IR w st D O s2 m2 h hk h1;have hmf:∀(fn:Fn) (first cap:Array Value) (w:World),(Instr.makeFunc fn first cap).run prog w=.ok (.func fn first cap) w:=λ _ _ _ _=>rfl
  obtain⟨i0,hi0,hz0,hz1,hz2⟩:=info_parts Tryz.infoWay;have HH:=ae h;have HT:=ae ht;have HL:=ae hr1;have HC:=ae hc2;have MA:=ae IR;clear h hk ht hr hr1 h1 IR hc2;subst hr2 hl2;go_enter func215,ntmps215;go_wp2_with fail;refine(ab HC).mono ?_;rintro e w2 ⟨v2,O2,rfl,hr2,hf2,hs2,hk2,⟨va,vc,rfl⟩,hln⟩;have HR:=ae hr2;have HF:=ae hf2;have HS:=ae hs2;have FA:=ae hk2;clear hr2 hf2 hs2 hk2 HC hln;dsimp only at HS;go_wp2_with (go_at_call 262;refine(zY _ _ l2 _ ((ab HR).newFree (ab HF)) (ab HS) ⟨_,_,_,rfl⟩).mono ?_;rintro e w3 ⟨v3,rfl,hfv,hw3,hv⟩;obtain⟨K0,g0,lb0,hv0,_⟩:=az.now hv;have HV:=ae hv;replace HR:=ae ((ab HR).alloc (aF (.slice va l2.length vc) 353));replace HF:=ae ((ab HF).alloc (aF (.slice va l2.length vc) 353));rw [<-hw3]at HR HF;clear hv hfv hw3;subst hv0)
  have DA:=ae (kw.one (T:=305) (Q:=kB) (ab HV) (λ k ho=>(ab HR).lt ho) (ab HF).size rfl);have GA:=ae ((ab HR).alloc (aF (.func (.func g0) #[] lb0) 305));have EA:=ae ((ab HF).alloc (aF (.func (.func g0) #[] lb0) 305));clear HV HR HF HS;go_loopg [3] n (λ k s3 wr=>∃(su:RS) (acc:List aH) (vs:List Value) (Ou:Nat->Prop),acc.length+k<=n+1/\RA wr pb ts su D Ou/\Fr O w Ou wr/\kw 305 kB wr w.heap.size Ou D s3 acc vs/\Ok ts su/\altLp ts (gw ts n it) k su acc=some r1)
  case atStart=>exact⟨s2,[jM l2],_,O2,by simp;omega,ab GA,ab EA,ab DA,ab FA,ab HL⟩
  case round =>
   clear DA GA EA FA HL;obtain⟨su,acc,vs,Ou,hlen,hr,hf,hacc,hk,hl⟩:=hrel;obtain⟨g,rfl⟩:=Ec hl;obtain⟨sa,sc,hsv⟩:=bi hacc.own;subst hsv;have hln:acc.length<=1001:=by omega
   by_cases h35:am ts su=35
   ·rw [altLp,aC h35]at hl;cases h1:gw ts n it (bg ts su)with
    | none=>rw [h1]at hl;cases hl
    | some p =>
     obtain⟨s5,m5⟩:=p;rw [h1]at hl;dsimp only at hl;have BA:=ae (bY hr hk (ab HT) 35 h35);have OA:=ae (cu hk (ab HT) h35 (by decide));have PA:=ae hl;have HF:=ae hf;have HA:=ae hacc;have H1:=ae h1;clear hr hf hacc hk hl h35 h1;go_wp2_with (go_at_call 211;refine(ab BA).mono ?_;clear BA;rintro e w3 ⟨rfl,O3,hr3,hf3⟩;have HR:=ae hr3;replace HA:=ae ((ab HA).fr hf3);replace HF:=ae ((ab HF).trans hf3);clear hr3 hf3)
     obtain⟨l5,rfl,hc5⟩:=(ab MA) _ _ _ _ _ _ (ab HR) (ab OA) (ab H1);refine hc5.mono ?_;rintro e w4 ⟨v4,O4,rfl,hr4,hf4,hs4,hk4,⟨wa,wc,rfl⟩,hln4⟩;clear hc5;have hlt3:=((ab HA).own.lt)
     have HS:=ae (show az w4 (λ k=>dk O4 D w.heap.size k/\(Value.slice sa acc.length sc).ownBlock≠some k) (oF (.slice wa l5.length wc) l5)from hs4.mono (aD _) (λ k _ ha=>⟨rfl,⟨ha.1,ha.2.imp id (λ h=>by have:=(ab HF).size;omega)⟩,λ e=>by
      rcases ha.2 with h1|h1
      ·have h2:=((ab HA).new k e).1;have h3:=((ab HH).free h1).1;omega
      ·have h2:=(hlt3 k e).2;omega⟩) (λ _ _ h=>h))
     replace HA:=ae ((ab HA).fr hf4);replace HF:=ae ((ab HF).trans hf4);replace HR:=ae hr4;have NA:=ae hk4;have hlt4:=ae ((ab HA).own.lt);clear hr4 hf4 hs4 hk4 hln4 hlt3;dsimp only
     go_wp2_with (first
      | (go_at_call 262;refine(zY _ _ l5 _ (λ k hk=>⟨(ab HR).newFree (ab HF) k hk,λ e=>by have:=((ab hlt4) k e).2;omega⟩) (ab HS) ⟨_,_,_,rfl⟩).mono ?_;rintro e w5 ⟨v5,rfl,hfv,hw5,hv⟩;obtain⟨K1,g1,lb1,hv1,_⟩:=az.now hv;have HV:=ae hv;replace HR:=ae ((ab HR).alloc (aF (.slice wa l5.length wc) 353));replace HF:=ae ((ab HF).alloc (aF (.slice wa l5.length wc) 353));replace HA:=ae ((ab HA).alloc (aF (.slice wa l5.length wc) 353));rw [<-hw5]at HR HF HA;clear hv hfv hw5;subst hv1;have AA:=ae ((ab HA).alloc (aF (.func (.func g1) #[] lb1) 305));have CA:=ae ((ab HR).alloc (aF (.func (.func g1) #[] lb1) 305));have IA:=ae ((ab HV).mono (bK _ (aF (.func (.func g1) #[] lb1) 305) (λ k=>dk O4 D w.heap.size k/\(Value.slice sa acc.length sc).ownBlock≠some k)).1 (bK _ (aF (.func (.func g1) #[] lb1) 305) _).2 (λ _ _ h=>h)))
      | (at_builtin;refine wpList_append_lies _ rfl _ _ _ rfl 0 305 i0 _ 1 8 underlying353 hi0 hz0 hz1 hz2 rfl (by omega) (.slice sa acc.length sc) acc.length vs rfl (ab AA).own ⟨w5.heap.size,0,none⟩ 1 1 [.func (.func g1) #[] lb1] rfl rfl (World.news_of_block (cs:=#[.func (.func g1) #[] lb1]) (t:=305) (fr:=(0,0)) (cN _ _)) (by simp [Value.oneCell']) (by omega) (by simp [maxLen];omega) (by omega) (iL _) (w5.heap.size+1) (by simp) ?_;intro gg cap w6 hown hgrow hat hltg))
     have QA:=ae ((ab CA).grown hgrow (λ k e=>⟨((ab AA).new k e).2,λ hd=>by have h1:=((ab AA).new k e).1;have h2:=((ab HH).free hd).1;omega⟩));have KA:=ae (((ab HF).alloc (aF (.func (.func g1) #[] lb1) 305)).grown hgrow (λ k e=>inr ((ab AA).new k e).1));have JA:=ae (kw.snoc (ab AA) (λ k ho=>(ab CA).lt ho) (by have:=(ab HF).size;simp;omega) (ab IA) hgrow (hat.imp id (λ h=>by simp;omega)) hown);clear hown hgrow hat hltg CA AA IA HV HA;go_roundg g
     case measure=>omega
     case rel=>exact⟨s5,acc++[jM l5],_,O4,by rw [List.length_append,List.length_singleton];omega,ab QA,ab KA,ab JA,ab NA,ab PA⟩
   have hl':(su,acc)=r1:=by rw [altLp,au h35]at hl;exact fZ hl
   have BA:=ae (aL hr hk (ab HT) 35 h35);have HF:=ae hf;have HA:=ae hacc;have HK:=ae hk;subst hl';dsimp only;clear hr hf hacc hk hl h35
   go_wp2_with (first
    | (go_at_call 211;refine(ab BA).mono ?_;clear BA;rintro e w3 ⟨rfl,hr3,hf3⟩;have HR:=ae hr3;replace HA:=ae ((ab HA).fr hf3);replace HF:=ae ((ab HF).trans hf3);clear hr3 hf3)
    | (go_at_call 265;refine(Ca _ _ acc (dk Ou D w.heap.size) ((ab HR).newFree (ab HF)) (AO (ab HA).own (by omega) (λ k e=>⟨((ab HA).new k e).2,inr ((ab HA).new k e).1⟩) (λ i v o h1 h2=>((ab HA).elt i v o h1 h2).mono (aD _) (λ k _ ha=>⟨rfl,ha.1⟩) (λ _ _ h=>h))) ⟨_,_,_,rfl⟩).mono ?_;rintro e w5 ⟨v,rfl,hfv,rfl,hv⟩;obtain⟨K1,g1,lb1,hv1,_⟩:=az.now hv;have HV:=ae hv;have LA:=ae hfv;clear hv hfv;subst hv1))
   go_ret;exact⟨_,_,rfl,(ab HR).alloc _,(ab HF).alloc _,ab LA,ab HV,ab HK⟩
theorem qS{pb:Nat}{ts:List aw}(ht:cE ts)(n:Nat)(hn:n<=1000):∀ f,mP 215 pb ts (eithTw ts n f)
 | 0=>λ w st D O r h hk hr=>by cases hr
 | f+1=>Ex ht n hn (Mz ht (EP ht n (qS ht n hn f)) n hn)
theorem nA.addWay{w w1 w2:World}{pb:Nat}{ts:List aw}{st:RS}{D:Nat->Prop}{tb tc:Nat}{dv av bv:Value}(h:nA w pb ts st D tb tc dv av bv)(hb:Below w.heap.size w w1){g cap n0:Nat}{name:ByteArray}{v:Value}{m:aH}
  (hv:az w (dk (dS pb tb dv bv) D n0) (kB v m)) {xs:List (ByteArray×Value×Value)} (hx2:xs.length=st.defs.length) (hx3:∀(i:Nat) (d:fe) (x:ByteArray×Value×Value),st.defs[i]?=some d->xs[i]?=some x->kX w (λ k=>¬dS pb tb dv bv k/\D k) d x)
  (hown:w2.ownsRow 0 307 3 (.slice (some ⟨g,0,none⟩) (st.defs.length+1) cap) (st.defs.length+1) (bI xs++[.string name,.nilFunc,v])) (hg:w1.grownBy w2 dv.ownBlock) (hat:dv.ownBlock=some g\/g=w1.heap.size) :
  ∃ D',(∀ k,D' k->D k\/n0<=k)/\RA (w2.setCell ⟨pb,3,none⟩ (.slice (some ⟨g,0,none⟩) (st.defs.length+1) cap)) pb ts (eQ st ⟨name,none,some m⟩) D' (dS pb tb (.slice (some ⟨g,0,none⟩) (st.defs.length+1) cap) bv) /\
   Fr (dS pb tb dv bv) w (dS pb tb (.slice (some ⟨g,0,none⟩) (st.defs.length+1) cap) bv) (w2.setCell ⟨pb,3,none⟩ (.slice (some ⟨g,0,none⟩) (st.defs.length+1) cap)):=by
 obtain⟨K,hK,hQ⟩:=hv;have hpl:=ai h.blk;have hs1:=hb.size;have hs2:=hg.size
 have hag:∀ k,k<w.heap.size->k≠pb->dv.ownBlock≠some k->(w2.setCell ⟨pb,3,none⟩ (.slice (some ⟨g,0,none⟩) (st.defs.length+1) cap)).heap[k]?=w.heap[k]?:=λ k hk hne hd =>
  (ah hne).trans ((hg.block k (by omega) (λ e=>hd e.symm)).trans (hb.block k hk))
 have hpb:w2.heap[pb]?=w.heap[pb]?:=(hg.block pb (by omega) (λ e=>h.ne4 e.symm)).trans (hb.block pb hpl)
 have hgp:g≠pb:=λ e=>by
  rcases hat with h1|h1
  ·exact h.ne4 (by rw [h1,e])
  omega
 have hss:(w2.setCell ⟨pb,3,none⟩ (.slice (some ⟨g,0,none⟩) (st.defs.length+1) cap)).heap.size=w2.heap.size:=by simp [World.setCell]
 have hgo:∀ k,k<w.heap.size->dv.ownBlock≠some k->g≠k:=λ k hk hd e=>by
  rcases hat with h1|h1
  ·exact hd (by rw [h1,e])
  omega
 have hno:∀ k,k<w.heap.size->¬dS pb tb dv bv k->¬dS pb tb (.slice (some ⟨g,0,none⟩) (st.defs.length+1) cap) bv k:=λ k hk hn ho=>by
  rcases ho with e|e|e|e
  ·exact hn (inl e)
  ·exact hn (inr (inl e))
  ·exact hn (inr (inr (inl e)))
  have e':g=k:=by simpa [Value.ownBlock]using e
  exact hgo k hk (λ e2=>hn (inr (inr (inr e2)))) e'
 have hagn:∀ k,k<w.heap.size->¬dS pb tb dv bv k->(w2.setCell ⟨pb,3,none⟩ (.slice (some ⟨g,0,none⟩) (st.defs.length+1) cap)).heap[k]?=w.heap[k]?:=λ k hk hn =>
  hag k hk (λ e=>hn (inl e)) (λ e=>hn (inr (inr (inr e))))
 refine⟨λ k=>D k\/K k,λ k hk=>hk.elim inl (λ h1=>(hK k h1).2.2),⟨tb,tc,_,av,bv,⟨?_,?_,?_,h.used,?_,h.ne1,h.ne2,h.ne3,?_,?_,?_,?_⟩,rfl⟩,?_⟩
 ·rw [aB (hpb.trans h.blk)];rfl
 ·exact ap h.toks (λ k e=>by
   have e':tb=k:=by simpa [Value.ownBlock]using e
   subst e';exact hag tb (h.lt (inr (inl rfl))) h.ne1 h.ne5)
 ·exact ap h.page (λ k e=>hag k (h.lt (inr (inr (inl e)))) (λ e2=>h.ne2 (by rw [e,e2])) (λ e2=>by
   rcases h.ne6 with h1|h1
   ·rw [h1]at e;cases e
   ·exact h1 (e.trans e2.symm)))
 ·refine⟨xs++[(name,.nilFunc,v)],?_,by simp [eQ,hx2],λ i d x hd hx=>?_⟩
  ·have e1:bI (xs++[(name,.nilFunc,v)])=bI xs++[.string name,.nilFunc,v]:=by simp [bI]
   rw [e1];have e2:(eQ st ⟨name,none,some m⟩).defs.length=st.defs.length+1:=by simp [eQ]
   rw [e2]
   exact ap hown (λ k e=>by
    have e':g=k:=by simpa [Value.ownBlock]using e
    subst e';exact ah hgp)
  have hd':(st.defs++[(⟨name,none,some m⟩:fe)])[i]?=some d:=hd;rcases Nat.lt_or_ge i st.defs.length with hi|hi
  ·rw [List.getElem?_append_left hi]at hd';rw [List.getElem?_append_left (by omega)]at hx;exact(hx3 i d x hd' hx).mono (by omega) (λ k hk ha=>⟨hagn k hk ha.1,hno k hk ha.1,inl ha.2⟩)
  rw [List.getElem?_append_right hi]at hd';rw [List.getElem?_append_right (by omega)]at hx
  have hi0:i-st.defs.length=0:=by
   rcases yj (i-st.defs.length)with h1|h1
   ·exact h1
   rw [List.getElem?_eq_none (by simp;omega)]at hd';cases hd'
  rw [hi0]at hd';rw [hx2,hi0]at hx;simp at hd' hx;subst hd' hx;refine⟨rfl,rfl,⟨K,λ k hk=>⟨by have:=(hK k hk).1;omega,hno k (hK k hk).1 (hK k hk).2.1,inr hk⟩,λ V hV hk=>hQ V (by omega) (λ k h1=>(hk k h1).trans (hagn k (hK k h1).1 (hK k h1).2.1))⟩⟩
 ·intro e;have e':g=pb:=by simpa [Value.ownBlock]using e
  exact hgp e'
 ·intro e;have e':g=tb:=by simpa [Value.ownBlock]using e
  exact hgo tb (h.lt (inr (inl rfl))) h.ne5 e'
 ·cases hbo:bv.ownBlock with
  | none=>exact inl rfl
  | some k =>
   right;intro e;have e':k=g:=by simpa [Value.ownBlock]using e
   have hkl:=h.lt (inr (inr (inl hbo)));refine hgo k hkl (λ e2=>?_) e'.symm;rcases h.ne6 with h1|h1
   ·rw [h1]at hbo;cases hbo
   exact h1 (hbo.trans e2.symm)
 ·intro k hk;rcases hk with h1|h1
  ·exact⟨by have:=(h.free k h1).1;omega,hno k (h.free k h1).1 (h.free k h1).2⟩
  exact⟨by have:=(hK k h1).1;omega,hno k (hK k h1).1 (hK k h1).2.1⟩
 have hF:Fr (dS pb tb dv bv) w (dS pb tb dv bv) w2:=(Fr.of_below hb).grown hg (λ k e=>inl (inr (inr (inr e))));refine(hF.reown (O2:=dS pb tb (.slice (some ⟨g,0,none⟩) (st.defs.length+1) cap) bv) (λ k hk=>?_)).setCell (inl (inl rfl)) _;rcases hk with e|e|e|e
 ·exact inl (inl e)
 ·exact inl (inr (inl e))
 ·exact inl (inr (inr (inl e)))
 have e':g=k:=by simpa [Value.ownBlock]using e
 rcases hat with h1|h1
 ·exact inl (inr (inr (inr (by rw [h1,e']))))
 exact inr (by omega)
theorem xu{pb:Nat}{ts:List aw}(ht:cE ts){ei:RS->Option (RS×aH)}(IE:mP 215 pb ts ei){w:World}{st:RS}{D O:Nat->Prop}(h:RA w pb ts st D O)(hk:Ok ts st)(e5:am ts st=6){s:RS}{m:aH}(hdl:(ar ts 27 s).1.defs.length<=1000)
  (hr:ei (ar ts 26 (aI ts (bg ts st)).1).1=some (s,m)) :
  Calls prog 167 #[ay pb 0] w (Gt pb ts w D O (eQ (ar ts 27 s).1 ⟨(aI ts (bg ts st)).2,none,some m⟩,true)):=by
 have HT:=ae ht;have HK:=ae hk;have HE:=ae e5;have HA:=ae IE;have n5:=ae (show am ts st≠5 by rw [e5];decide);have HG:=ae (cu hk ht e5 (by decide));have AA:=ae (rk (ab HG) ht);have FA:=ae (ch (k:=26) (ab AA) ht (by decide));have HS:=ae hr;have HF:=ae ((bE O w).alloc (jf ⟨#[]⟩ .nilFunc .nilFunc));have HR:=ae (h.alloc (jf ⟨#[]⟩ .nilFunc .nilFunc));have DA:Hid (¬D w.heap.size):=λ hd=>by have:=(h.free hd).1;omega
 have HB:=ae (And.intro (cN w (jf ⟨#[]⟩ .nilFunc .nilFunc)) (show ¬O w.heap.size from λ ho=>by have:=h.lt ho;omega));clear h hk ht e5 IE hr;generalize hNN:aI ts (bg ts st)=NN at *;obtain⟨s2,nm⟩:=NN;dsimp only at AA FA HS ⊢;go_enter func167,ntmps167
 go_wp2_with (first
  | (go_at_call 211;refine(aL (ab HR) (ab HK) (ab HT) 5 (ab n5)).mono ?_;rintro e w1 ⟨rfl,hr1,hf1⟩;replace HB:=ae (bD hf1 (ab HB).1 (ab HB).2);replace HR:=ae hr1;replace HF:=ae ((ab HF).trans hf1);clear hr1 hf1 n5)
  | (go_at_call 211;refine(bY (ab HR) (ab HK) (ab HT) 6 (ab HE)).mono ?_;clear HE;rintro e w1 ⟨rfl,O1,hr1,hf1⟩;replace HB:=ae (bD hf1 (ab HB).1 (ab HB).2);replace HR:=ae hr1;replace HF:=ae ((ab HF).trans hf1);clear hr1 hf1)
  | (go_at_call 212;refine(rm (ab HT) (ab HR) (ab HG)).mono ?_;rw [hNN];rintro e w2 ⟨rfl,O2,hr2,hf2⟩;dsimp only;replace HB:=ae (bD hf2 (ab HB).1 (ab HB).2);have c0:w2.cell? ⟨w.heap.size,0,none⟩=some (.string ⟨#[]⟩):=af (ab HB).1;have z0:w2.frozen? ⟨w.heap.size,0,none⟩=false:=ak (ab HB).1;replace HR:=ae (hr2.other ⟨(ab HB).2,ab DA⟩ 0 (.string nm));replace HF:=ae (((ab HF).trans hf2).setCell (p:=⟨w.heap.size,0,none⟩) (inr (aD _)) (.string nm));replace HB:=ae (And.intro (show(w2.setCell ⟨w.heap.size,0,none⟩ (.string nm)).heap[w.heap.size]?=some (jf nm .nilFunc .nilFunc)from(aB (ab HB).1).trans rfl) (ab HB).2);clear hr2 hf2)
  | (go_at_call 213;refine(aN (ab HR) (ab AA) (ab HT) 26).mono ?_;clear AA;rintro e w3 ⟨rfl,O3,hr3,hf3⟩;replace HB:=ae (bD hf3 (ab HB).1 (ab HB).2);replace HR:=ae hr3;replace HF:=ae ((ab HF).trans hf3);clear hr3 hf3 c0 z0)
  | (go_at_call 215;refine((ab HA) _ _ _ _ _ (ab HR) (ab FA) (ab HS)).mono ?_;clear HA;rintro e w4 ⟨v,O4,rfl,hr4,hf4,hfv,hv,hk4⟩;have hbd:w.heap.size<w3.heap.size:=ai (ab HB).1;obtain⟨K1,g1,lb1,hv1,_⟩:=az.now hv;replace HB:=ae (bD hf4 (ab HB).1 (ab HB).2);have c1:w4.cell? ⟨w.heap.size,2,none⟩=some .nilFunc:=af (ab HB).1;have z1:w4.frozen? ⟨w.heap.size,2,none⟩=false:=ak (ab HB).1;have HV:=ae (show az (w4.setCell ⟨w.heap.size,2,none⟩ v) (dk O4 D w3.heap.size) (kB v m)from hv.mono (by simp [World.setCell]) (λ k hk ha=>⟨ah (λ e=>by(have e':k=w.heap.size:=e);subst e';(rcases ha.2 with h1|h1);(exact(ab DA) h1);omega),ha⟩) (λ _ _ h=>h));replace HR:=ae (hr4.other ⟨(ab HB).2,ab DA⟩ 2 v);replace HF:=ae (((ab HF).trans hf4).setCell (p:=⟨w.heap.size,2,none⟩) (inr (aD _)) v);replace HB:=ae (And.intro (show(w4.setCell ⟨w.heap.size,2,none⟩ v).heap[w.heap.size]?=some (jf nm .nilFunc v)from(aB (ab HB).1).trans rfl) (ab HB).2);have GA:=ae hk4;clear hr4 hf4 hv hk4 hfv;subst hv1)
  | (go_at_call 213;refine(aN (ab HR) (ab GA) (ab HT) 27).mono ?_;rintro e w5 ⟨rfl,O5,hr5,hf5⟩;replace HB:=ae (bD hf5 (ab HB).1 (ab HB).2);replace HV:=ae (az.fr (ab HV) hf5 (aD _));replace HR:=ae hr5;replace HF:=ae ((ab HF).trans hf5);clear hr5 hf5 c1 z1))
 have BA:=ae (ch (k:=27) (ab GA) (ab HT) (by decide));generalize ar ts 27 s=P5 at *;obtain⟨s5,t5⟩:=P5;dsimp only at BA hdl HR ⊢;obtain⟨tb,tc,dv,av,bv,hrt,hO5⟩:=ab HR;subst hO5;obtain⟨xs,hx1,hx2,hx3⟩:=hrt.defs;obtain⟨i0,hi0,hz0,hz1,hz2⟩:=info_parts Tryz.infoDef;obtain⟨da,dc,hdv⟩:=bi hx1;have hbe:Below w5.heap.size w5 (w5.alloc (jf nm .nilFunc (.func (.func g1) #[] lb1))).drew:=((aX _ _).alloc (aD _) _).drew;have cdv:w5.cell? ⟨pb,3,none⟩=some dv:=af hrt.blk;have hpl:=ai hrt.blk;have d0:w5.cell? ⟨w.heap.size,0,none⟩=some (.string nm):=af (ab HB).1;have d1:w5.cell? ⟨w.heap.size,1,none⟩=some .nilFunc:=af (ab HB).1;have d2:w5.cell? ⟨w.heap.size,2,none⟩=some (.func (.func g1) #[] lb1):=af (ab HB).1;have ld:=ai (ab HB).1;have LA:=ae hx1;have MA:=ae hx2;have NA:=ae hx3;have EA:=ae hrt;have CA:=ae hbe;clear hbe hx1 hx2 hx3 hrt HR HB;subst hdv
 go_region_law ((refine step_append_lies _ (by rfl) _ _ _ (by rfl) 0 307 i0 _ 3 32 underlying201 hi0 hz0 hz1 hz2 rfl (by omega) (.slice da s5.defs.length dc) s5.defs.length (bI xs) (by rfl) (((ab LA).alloc _).drew) ⟨w5.heap.size,0,none⟩ 1 1 [.string nm,.nilFunc,.func (.func g1) #[] lb1] (by rfl) rfl (World.news_of_block (cs:=#[.string nm,.nilFunc,.func (.func g1) #[] lb1]) (t:=307) (fr:=(0,0)) (cN w5 _)) (by simp [Value.oneCell']) (by omega) (by unfold maxLen;omega) (by omega) (iL _) _ rfl ?_);(intro g cap w7 hown hg hat hgl;obtain⟨D',hDD,hra,hfr⟩:=(ab EA).addWay (ab CA) (ab HV) (ab MA) (ab NA) hown hg hat;have hp7:w7.heap[pb]?=w5.heap[pb]?:=(hg.block pb (eV hpl (ab CA).size) (λ e=>(ab EA).ne4 e.symm)).trans ((ab CA).block pb hpl);have cd7:w7.cell? ⟨pb,3,none⟩=some (.slice da s5.defs.length dc):=(World.cell?_of_block (a:=⟨pb,3,none⟩) hp7).trans cdv;have zd7:w7.frozen? ⟨pb,3,none⟩=false:=(World.frozen?_of_block (a:=⟨pb,3,none⟩) hp7).trans (ak (ab EA).blk);have IA:=ae hDD;have KA:=ae hra;have JA:=ae hfr;clear hDD hra hfr hown hg hat hp7))
 all_goals
  go_wp2_with fail;go_ret;exact⟨rfl,_,_,ab KA,(ab HF).trans (ab JA),λ k hk=>((ab IA) k hk).imp id (λ h=>by omega),⟨(ab BA).next,(ab BA).page,(ab BA).gap⟩⟩
theorem dA(ts:List aw)(k:Int)(st:RS):(ar ts k st).1.defs=st.defs:=by
 unfold ar;split<;>rfl
theorem lP(ts:List aw)(a b:Int)(st:RS):(aE ts a b st).1.defs=st.defs:=by
 unfold aE;dsimp only;split
 ·exact dA ts 2 st
 exact dA ts 2 st
theorem nJ(ts:List aw)(st:RS):(aI ts st).1.defs=st.defs:=by
 unfold aI;dsimp only;split
 ·exact dA ts 4 st
 exact dA ts 4 st
theorem mA(ts:List aw)(st:RS):(aZ ts st).1.defs=st.defs:=by
 unfold aZ;split
 ·dsimp only;rw [lP,lP,dA]
 exact dA ts 3 st
theorem nK(ts:List aw):∀(n:Nat) (st:RS) (l:List dU) (r:RS×List dU),rangesLp ts n st l=some r->r.1.defs=st.defs
 | 0,_,_,_,h=>by cases h
 | n+1,st,l,r,h=>by
  rw [rangesLp]at h;split at h
  ·rw [nK ts n _ _ r h,mA];rfl
  cases h;rfl
theorem xR{ts:List aw}{n:Nat}{st:RS}{r:RS×dU}(h:gv ts n st=some r):r.1.defs=st.defs:=by
 unfold gv at h;split at h
 ·cases h
 rename_i s l hx;cases h
 dsimp only;rw [dA,nK ts n _ _ _ hx,mA,dA]
theorem fk.allow{w:World}{A A':Nat->Prop}{v:Value}{l:List (Option aM)}(h:fk w A v l)(hb:∀ k,k<w.heap.size->A k->A' k):fk w A' v l :=
 ⟨h.1,λ ms hms=>(h.2 ms hms).allow hb⟩
