/- part -/
import Derived.Test.YtphhnjljlllnlaaGreatDoorWayP
import Derived.Test.YtphhnjljlllnlaaGreatDoorRdrO
import Derived.Test.YtphhnjljlllnlaaGreatDoorDefB
set_option maxRecDepth 100000
set_option maxHeartbeats 4000000
namespace Go.Proofs.YtphhnjljlllnlaaGreatDoor
open Go.Proofs.Tryz
open Or
open Go.RowKit
def ph(pb:Nat)(ts:List ak)(w:World)(D O:Nat->Prop)(r:RS×Option aP)(e:Ending)(w':World):Prop :=
 ∃ v O',e=.returned (.tuple #[v,.bool r.2.isSome])/\RA w' pb ts r.1 D O'/\Fr O w O' w'/\jD v/\(∀ m,r.2=some m->nX w' (cW O' D w.heap.size) v m)/\Ok ts r.1
def pk(pb:Nat)(ts:List ak)(tw:RS->Option (RS×Option aP)):Prop:=∀(w:World) (st:RS) (D O:Nat->Prop) (r:RS×Option aP),RA w pb ts st D O->Ok ts st->tw st=some r->Calls prog 185 #[au pb 0] w (ph pb ts w D O r)
theorem uZ{r:Option (RS×aP)}{q:RS×Option aP}(h:ql r=some q):∃ p,r=some p/\q=(p.1,some p.2):=by
 unfold ql at h;split at h
 ·cases h
 exact⟨_,rfl,(kd h).symm⟩
theorem Jn{pb:Nat}{ts:List ak}(ht:bY ts)(n:Nat){w:World}{st:RS}{D O:Nat->Prop}(h:RA w pb ts st D O)(hk:Ok ts st)(e:an ts st=2){r:RS×aP}(hr:dY ts n (Dy (aM ts 1 65535 st).2) (aM ts 1 65535 st).1=some r) :
  Calls prog 185 #[au pb 0] w (ph pb ts w D O (r.1,some r.2)):=by
 have AA:=af (λ(W:World) (h:RA W pb ts st D O)=>vj ht h hk);have BA:=af (gO (a:=1) (b:=65535) hk ht);have HR:=af h;have HF:=af (dw O w);have HK:=af hk;have HT:=af ht;have HE:=af e;have HQ:=af hr;clear h hk ht e hr;generalize aM ts 1 65535 st=P at *;obtain⟨s1,x1⟩:=P;dsimp only at BA HQ AA;go_enter func185,ntmps185
 go_wp2_with (first
  | (go_at_call 90;refine(cY (ae HR) (ae HK) (ae HT) (ae HE)).mono ?_;rintro e w1 ⟨rfl,hr1,hf1⟩;replace HR:=af hr1;replace HF:=af ((ae HF).trans hf1);clear hr1 hf1)
  | (go_at_call 153;refine((ae AA) _ (ae HR)).mono ?_;clear AA;rintro e w2 ⟨rfl,O2,hr2,hf2⟩;replace HR:=af hr2;replace HF:=af ((ae HF).trans hf2);clear hr2 hf2)
  | (go_at_call 218;refine(BS _ x1 _ ((ae HR).newFree (ae HF))).mono ?_;rintro e w3 ⟨v3,rfl,hfv,rfl,hv⟩;obtain⟨K3,g3,lb3,hv3,_⟩:=ax.now hv;have HV:=af hv;replace HR:=af ((ae HR).alloc (aE (.int .i64 x1) 3));replace HF:=af ((ae HF).alloc (aE (.int .i64 x1) 3));clear hv hfv;subst hv3)
  | (go_at_call 217;refine(mh (ae HT) n (ae HR) (ae BA) (ae HF) (ae HV) (ae HQ)).mono ?_;rintro e w4 ⟨v4,O4,rfl,hr4,hf4,hfv4,hv4,hk4⟩;obtain⟨K4,g4,lb4,hv5,_⟩:=ax.now hv4;have GA:=af hv4;have DA:=af hfv4;have FA:=af hr4;have CA:=af hf4;have EA:=af hk4;clear hv4 hfv4 hr4 hf4 hk4;subst hv5))
 go_ret2
 refine⟨_,_,rfl,ae FA,ae CA,ae DA,λ m hm=>?_,ae EA⟩;cases hm;exact ae GA
theorem Jl{pb:Nat}{ts:List ak}(ht:bY ts)(n:Nat){w:World}{st:RS}{D O:Nat->Prop}(h:RA w pb ts st D O)(hk:Ok ts st)(e:an ts st=41){r:RS×aP}(hr:dY ts n CV (b9 ts st)=some r) :
  Calls prog 185 #[au pb 0] w (ph pb ts w D O (r.1,some r.2)):=by
 have htk:aC ts 41 st=(b9 ts st,dH ts st):=by unfold aC;rw [aS e]
 have AA:=af (λ(W:World) (O:Nat->Prop) (h:RA W pb ts st D O)=>bL h hk ht 41);rw [htk]at AA;have DA:=af (bV hk ht e (by decide));have HR:=af h;have HF:=af (dw O w);have HK:=af hk;have HT:=af ht;have HE:=af e;have HQ:=af hr;clear h hk ht e hr htk;go_enter func185,ntmps185
 go_wp2_with (first
  | (go_at_call 90;refine(cY (ae HR) (ae HK) (ae HT) (ae HE)).mono ?_;rintro e w1 ⟨rfl,hr1,hf1⟩;replace HR:=af hr1;replace HF:=af ((ae HF).trans hf1);clear hr1 hf1)
  | (go_at_call 139;refine((ae AA) _ _ (ae HR)).mono ?_;clear AA;rintro e w2 ⟨rfl,O2,hr2,hf2⟩;replace HR:=af hr2;replace HF:=af ((ae HF).trans hf2);clear hr2 hf2)
  | (go_at_call 217;refine(mh (ae HT) n (ae HR) (ae DA) (ae HF) (I0 _ _) (ae HQ)).mono ?_;rintro e w4 ⟨v4,O4,rfl,hr4,hf4,hfv4,hv4,hk4⟩;obtain⟨K4,g4,lb4,hv5,_⟩:=ax.now hv4;have GA:=af hv4;have CA:=af hfv4;have FA:=af hr4;have BA:=af hf4;have EA:=af hk4;clear hv4 hfv4 hr4 hf4 hk4;subst hv5))
 go_ret2
 refine⟨_,_,rfl,ae FA,ae BA,ae CA,λ m hm=>?_,ae EA⟩;cases hm;exact ae GA
theorem Jo{pb:Nat}{ts:List ak}(ht:bY ts)(n:Nat){ei:RS->Option (RS×aP)}(IE:nH 141 pb ts ei){w:World}{st s1:RS}{m1:aP}{D O:Nat->Prop}(h:RA w pb ts st D O)(hk:Ok ts st)(e:an ts st=33)(h1:ei (ft ts 33 st)=some (s1,m1)){r:RS×aP}(hr:dY ts n m1 (ka ts 34 s1)=some r) :
  Calls prog 185 #[au pb 0] w (ph pb ts w D O (r.1,some r.2)):=by
 have EA:=af (nj (k:=33) hk ht (by decide));have DA:=af IE;have HR:=af h;have HF:=af (dw O w);have HK:=af hk;have HT:=af ht;have HE:=af e;have HQ:=af hr;have H1:=af h1;clear h hk ht e hr IE h1;go_enter func185,ntmps185
 go_wp2_with (first
  | (go_at_call 90;refine(cY (ae HR) (ae HK) (ae HT) (ae HE)).mono ?_;rintro e w1 ⟨rfl,hr1,hf1⟩;replace HR:=af hr1;replace HF:=af ((ae HF).trans hf1);clear hr1 hf1)
  | (go_at_call 220;refine(nk (ae HR) (ae HK) (ae HT) 33).mono ?_;rintro e w2 ⟨rfl,O2,hr2,hf2⟩;replace HR:=af hr2;replace HF:=af ((ae HF).trans hf2);clear hr2 hf2))
 refine((ae DA) _ _ _ _ _ (ae HR) (ae EA) (ae H1)).mono ?_;rintro e w3 ⟨v3,O3,rfl,hr3,hf3,hfv3,hv3,hk3⟩;obtain⟨K3,g3,lb3,hv4,_⟩:=ax.now hv3;have HV:=af (ax.fr hv3 (dw _ _) (ae HF).size);have AA:=af hk3;replace HR:=af hr3;replace HF:=af ((ae HF).trans hf3);clear hv3 hr3 hf3 hk3 hfv3;subst hv4;go_wp2_with (go_at_call 221;refine(qk (ae HR) (ae AA) (ae HT) 34).mono ?_;rintro e w4 ⟨rfl,O4,hr4,hf4⟩;replace HR:=af hr4;replace HV:=af (ax.fr (ae HV) hf4 (aL _));replace HF:=af ((ae HF).trans hf4);clear hr4 hf4)
 refine(mh (ae HT) n (ae HR) (qj (ae AA) (ae HT) (by decide)) (ae HF) (ae HV) (ae HQ)).mono ?_;rintro e w5 ⟨v4,O4,rfl,hr4,hf4,hfv4,hv4,hk4⟩;obtain⟨K4,g4,lb4,hv5,_⟩:=ax.now hv4;have HA:=af hv4;have CA:=af hfv4;have GA:=af hr4;have BA:=af hf4;have FA:=af hk4;clear hv4 hfv4 hr4 hf4 hk4;subst hv5;go_wp2_with fail
 go_ret2
 refine⟨_,_,rfl,ae GA,ae BA,ae CA,λ m hm=>?_,ae FA⟩;cases hm;exact ae HA
theorem Gg{pb:Nat}{ts:List ak}(ht:bY ts){w:World}{st:RS}{D O:Nat->Prop}(h:RA w pb ts st D O)(hk:Ok ts st)(e2:an ts st≠2)(e41:an ts st≠41)(e33:an ts st≠33) :
  Calls prog 185 #[au pb 0] w (ph pb ts w D O (st,none)):=by
 have HR:=af h;have HF:=af (dw O w);have HK:=af hk;have HT:=af ht;have b2:(an ts st==2)=false:=by simpa using e2
 have b41:(an ts st==41)=false:=by simpa using e41
 have b33:(an ts st==33)=false:=by simpa using e33
 clear h hk ht e2 e41 e33;go_enter func185,ntmps185;go_wp2_with (go_at_call 90;refine(cY (ae HR) (ae HK) (ae HT) rfl).mono ?_;rintro e w1 ⟨rfl,hr1,hf1⟩;replace HR:=af hr1;replace HF:=af ((ae HF).trans hf1);clear hr1 hf1)
 go_ret2
 exact⟨_,_,rfl,ae HR,ae HF,inr rfl,λ m hm=>(by cases hm),ae HK⟩
theorem Gh{pb:Nat}{ts:List ak}(ht:bY ts)(n:Nat){ei:RS->Option (RS×aP)}(IE:nH 141 pb ts ei):pk pb ts (iM ts n ei):=by
 intro w st D O r h hk hr;unfold iM at hr;by_cases e2:an ts st=2
 ·rw [aS e2]at hr;obtain⟨p,h1,rfl⟩:=uZ hr;exact Jn ht n h hk e2 h1
 rw [aG e2]at hr;by_cases e41:an ts st=41
 ·rw [aS e41]at hr;obtain⟨p,h1,rfl⟩:=uZ hr;exact Jl ht n h hk e41 h1
 rw [aG e41]at hr;by_cases e33:an ts st=33
 ·rw [aS e33]at hr;cases h1:ei (ft ts 33 st)with
  | none=>rw [h1]at hr;cases hr
  | some q =>
   obtain⟨s1,m1⟩:=q;rw [h1]at hr;dsimp only at hr;obtain⟨p,h2,rfl⟩:=uZ hr;exact Jo ht n IE h hk e33 h1 h2
 rw [aG e33]at hr;cases hr
 exact Gg ht h hk e2 e41 e33
theorem rN{tw:RS->Option (RS×Option aP)}{k:Nat}{st:RS}{l:List aP}{r:RS×List aP}(h:cf tw k st l=some r):∃ g,k=g+1:=by
 cases k with
 | zero=>rw [cf]at h;cases h
 | succ g=>exact⟨g,rfl⟩
def JI(tw:RS->Option (RS×Option aP))(k:Nat)(su:RS)(x:Option aP)(l:List aP):Option (RS×List aP) :=
 match x with
 | none=>some (su,l)
 | some y=>cf tw k su (l++[y])
theorem pV{tw:RS->Option (RS×Option aP)}{k:Nat}{st:RS}{l:List aP}{r:RS×List aP}(h:cf tw (k+1) st l=some r) :
  ∃ su x,tw st=some (su,x)/\JI tw k su x l=some r:=by
 rw [cf]at h;cases h1:tw st with
 | none=>rw [h1]at h;cases h
 | some p =>
  obtain⟨su,x⟩:=p;rw [h1]at h;refine⟨su,x,rfl,?_⟩;cases x with
  | none=>exact h
  | some y=>exact h
theorem Tryz.infoWay:(prog.info? 220).map (λ i=>(i.zero,i.size,i.bytes))=some (some .nilFunc,1,8):=by kernel_rfl
def yd(pb:Nat)(ts:List ak)(w:World)(D O:Nat->Prop)(r:RS×List aP)(e:Ending)(w':World):Prop :=
 ∃ v O',e=.returned v/\RA w' pb ts r.1 D O'/\Fr O w O' w'/\ax w' (cW O' D w.heap.size) (pC v r.2)/\Ok ts r.1/\(∃ a c,v=.slice a r.2.length c)/\r.2.length<=1000000
theorem Do{pb:Nat}{ts:List ak}{tw:RS->Option (RS×Option aP)}(IH:pk pb ts tw)(n:Nat)(hn:n<=1000){w:World}{st:RS}{D O:Nat->Prop}{r:RS×List aP}(h:RA w pb ts st D O)(hk:Ok ts st)(hr:cf tw n st []=some r) :
  Calls prog 216 #[.func (.func 185) #[au pb 0] #[]] w (yd pb ts w D O r):=by
 obtain⟨n,rfl⟩:=rN hr;obtain⟨su,x,h1,h2⟩:=pV hr;obtain⟨i0,hi0,hz0,hz1,hz2⟩:=info_parts Tryz.infoWay;have OA:=af IH;have H1:=af (IH w st D O (su,x) h hk h1);have HL:=af h2;have HH:=af h;clear hr h hk h1 h2 IH;go_enter func216,ntmps216;go_wp2_with fail;refine(ae H1).mono ?_;rintro e w1 ⟨v,O1,rfl,hr1,hf1,hfv,hv1,hk1⟩;have HR:=af hr1;have HF:=af hf1;have HV:=af hv1;have HK:=af hk1;have JA:=af hfv;clear hr1 hf1 hv1 hk1 H1 hfv;go_wp2_with fail;go_loopg [3,4,5] n (λ k s3 v4 b5 wr=>∃(su:RS) (x:Option aP) (acc:List aP) (vs:List Value) (Ou:Nat->Prop),b5=.bool x.isSome/\acc.length+k<=n/\RA wr pb ts su D Ou/\Fr O w Ou wr/\kL 220 kP wr w.heap.size Ou D s3 acc vs/\jD v4/\(∀ o,x=some o->ax wr (λ k=>cW Ou D w.heap.size k/\s3.ownBlock≠some k) (kP v4 o))/\Ok ts su/\JI tw k su x acc=some r)
 case atStart =>
  refine⟨su,x,[],[],O1,rfl,by simp,ae HR,ae HF,⟨i7 _ _ _ _,λ k e=>by simp [Value.ownBlock]at e,λ i v o hv=>by simp at hv⟩,ae JA,λ o ho=>?_,ae HK,ae HL⟩;exact((ae HV) o ho).mono (aL _) (λ k _ ha=>⟨rfl,ha,by simp [Value.ownBlock]⟩) (λ _ _ h=>h)
 case round =>
  clear HR HF HV HK HL JA;obtain⟨su,x,acc,vs,Ou,rfl,hlen,hr,hf,hacc,hfv,hv,hk,hl⟩:=hrel;have HR:=af hr;have HF:=af hf;have HA:=af hacc;have HK:=af hk;obtain⟨sa,sc,hsv⟩:=al hacc.own;subst hsv;cases x with
  | none =>
   cases hl
   clear hr hf hacc hk hv;go_wp2_with fail;go_ret;refine⟨_,_,rfl,ae HR,ae HF,B9 (ae HA).own (show acc.length<=1000000 by omega) (λ k e=>⟨((ae HA).new k e).2,inr ((ae HA).new k e).1⟩) (λ i v o h1 h2=>((ae HA).elt i v o h1 h2).mono (aL _) (λ k _ ha=>⟨rfl,ha.1⟩) (λ _ _ h=>h)),ae HK,⟨_,_,rfl⟩,by show acc.length<=_;omega⟩
  | some y =>
   have hl':cf tw _ su (acc++[y])=some r:=hl;obtain⟨g,rfl⟩:=rN hl';obtain⟨su2,x2,h3,h4⟩:=pV hl';have HS:=af h3;have HL:=af h4;have HV:=af (hv y rfl);have JA:=af hfv;have hln:acc.length<=1000:=by omega
   clear hr hf hacc hk hv hl hl' h3 h4;have DA:=af ((ae HR).alloc (aE u4 220));have AA:=af ((ae HA).alloc (aE u4 220));have FA:=af ((ae HV).mono (bE wr (aE u4 220) (λ k=>cW Ou D w.heap.size k/\(Value.slice sa acc.length sc).ownBlock≠some k)).1 (bE wr (aE u4 220) _).2 (λ _ _ h=>h));rcases hfv with⟨f1,f2,f3,rfl⟩|rfl
   ·
    go_wp2_with (at_builtin;refine wpList_append_lies _ rfl _ _ _ rfl 0 220 i0 _ 1 8 underlying271 hi0 hz0 hz1 hz2 rfl (by omega) (.slice sa acc.length sc) acc.length vs rfl (ae AA).own ⟨wr.heap.size,0,none⟩ 1 1 [.func f1 f2 f3] rfl rfl (World.news_of_block (cs:=#[.func f1 f2 f3]) (t:=220) (fr:=(0,0)) (cM _ _)) (by simp [Value.oneCell']) (by omega) (by simp [maxLen];omega) (by omega) (dG _) (wr.heap.size+1) (by simp) ?_;intro gg cap w2 hown hgrow hat hltg)
    have LA:=af ((ae DA).grown hgrow (λ k e=>⟨((ae AA).new k e).2,λ hd=>by have h1:=((ae AA).new k e).1;have h2:=((ae HH).free hd).1;omega⟩));have EA:=af (((ae HF).alloc (aE (.func f1 f2 f3) 220)).grown hgrow (λ k e=>inr ((ae AA).new k e).1));have BA:=af (kL.snoc (ae AA) (λ k ho=>(ae DA).lt ho) (by have:=(ae HF).size;simp;omega) (ae FA) hgrow (hat.imp id (λ h=>by simp;omega)) hown);have hs2:=hgrow.size;clear hown hgrow hat hltg DA AA FA HV HA;refine((ae OA) _ _ _ _ _ (ae LA) (ae HK) (ae HS)).mono ?_;rintro e w3 ⟨v3,O3,rfl,hr3,hf3,hfv3,hv3,hk3⟩;have MA:=af hr3;have IA:=af ((ae EA).trans hf3);have GA:=af ((ae BA).fr hf3);have KA:=af hk3;have CA:=af hfv3
    have NA:Hid (∀ o,x2=some o->ax w3 (λ k=>cW O3 D w.heap.size k/\(Value.slice (some ⟨gg,0,none⟩) (acc.length+1) cap).ownBlock≠some k) (kP v3 o)):=by
     intro o ho;refine(hv3 o ho).mono (aL _) (λ k _ ha=>⟨rfl,⟨ha.1,?_⟩,λ e=>?_⟩) (λ _ _ h=>h)
     ·rcases ha.2 with h1|h1
      ·exact inl h1
      exact inr (by have:=(ae EA).size;omega)
     have e':gg=k:=by simpa [Value.ownBlock]using e
     have hl2:=((ae BA).own.lt gg rfl).2;rcases ha.2 with h1|h1
     ·have h2:=((ae BA).new gg rfl).1;have h3:=((ae HH).free h1).1;omega
     omega
    clear hr3 hf3 hv3 hk3 hfv3;go_wp2_with fail;go_roundg g
    case measure=>omega
    case rel=>exact⟨su2,x2,acc++[y],_,O3,rfl,by rw [List.length_append,List.length_singleton];omega,ae MA,ae IA,ae GA,ae CA,ae NA,ae KA,ae HL⟩
   ·
    go_wp2_with (at_builtin;refine wpList_append_lies _ rfl _ _ _ rfl 0 220 i0 _ 1 8 underlying271 hi0 hz0 hz1 hz2 rfl (by omega) (.slice sa acc.length sc) acc.length vs rfl (ae AA).own ⟨wr.heap.size,0,none⟩ 1 1 [.nilFunc] rfl rfl (World.news_of_block (cs:=#[.nilFunc]) (t:=220) (fr:=(0,0)) (cM _ _)) (by simp [Value.oneCell']) (by omega) (by simp [maxLen];omega) (by omega) (dG _) (wr.heap.size+1) (by simp) ?_;intro gg cap w2 hown hgrow hat hltg)
    have LA:=af ((ae DA).grown hgrow (λ k e=>⟨((ae AA).new k e).2,λ hd=>by have h1:=((ae AA).new k e).1;have h2:=((ae HH).free hd).1;omega⟩));have EA:=af (((ae HF).alloc (aE (.nilFunc) 220)).grown hgrow (λ k e=>inr ((ae AA).new k e).1));have BA:=af (kL.snoc (ae AA) (λ k ho=>(ae DA).lt ho) (by have:=(ae HF).size;simp;omega) (ae FA) hgrow (hat.imp id (λ h=>by simp;omega)) hown);have hs2:=hgrow.size;clear hown hgrow hat hltg DA AA FA HV HA;refine((ae OA) _ _ _ _ _ (ae LA) (ae HK) (ae HS)).mono ?_;rintro e w3 ⟨v3,O3,rfl,hr3,hf3,hfv3,hv3,hk3⟩;have MA:=af hr3;have IA:=af ((ae EA).trans hf3);have GA:=af ((ae BA).fr hf3);have KA:=af hk3;have CA:=af hfv3
    have NA:Hid (∀ o,x2=some o->ax w3 (λ k=>cW O3 D w.heap.size k/\(Value.slice (some ⟨gg,0,none⟩) (acc.length+1) cap).ownBlock≠some k) (kP v3 o)):=by
     intro o ho;refine(hv3 o ho).mono (aL _) (λ k _ ha=>⟨rfl,⟨ha.1,?_⟩,λ e=>?_⟩) (λ _ _ h=>h)
     ·rcases ha.2 with h1|h1
      ·exact inl h1
      exact inr (by have:=(ae EA).size;omega)
     have e':gg=k:=by simpa [Value.ownBlock]using e
     have hl2:=((ae BA).own.lt gg rfl).2;rcases ha.2 with h1|h1
     ·have h2:=((ae BA).new gg rfl).1;have h3:=((ae HH).free h1).1;omega
     omega
    clear hr3 hf3 hv3 hk3 hfv3;go_wp2_with fail;go_roundg g
    case measure=>omega
    case rel=>exact⟨su2,x2,acc++[y],_,O3,rfl,by rw [List.length_append,List.length_singleton];omega,ae MA,ae IA,ae GA,ae CA,ae NA,ae KA,ae HL⟩
theorem GI{pb:Nat}{ts:List ak}(ht:bY ts){tw:RS->Option (RS×Option aP)}(IH:pk pb ts tw)(n:Nat)(hn:n<=1000){w:World}{st s1:RS}{l:List aP}{D O:Nat->Prop}(h:RA w pb ts st D O)(hk:Ok ts st)(hr:cf tw n st []=some (s1,l)) :
  Calls prog 184 #[au pb 0,.func (.func 185) #[au pb 0] #[]] w (yd pb ts w D O (if l.length=0 then dL ts s1 else s1,l)):=by
 have HM:=af (Do IH n hn h hk hr);have HT:=af ht;clear h hk ht IH hr;by_cases h0:l.length=0
 ·rw [aS h0];have hb:(((l.length:Nat):Int)==0)=true:=by simp [h0]
  go_enter func184,ntmps184;go_wp2_with fail;refine(ae HM).mono ?_;rintro e w2 ⟨v,O2,rfl,hr2,hf2,hs2,hk2,⟨va,vc,rfl⟩,hl2⟩;have HS:=af hs2;have HK:=af hk2;have HR:=af hr2;have HF:=af hf2;have hl3:l.length<=1000000:=hl2;clear hr2 hf2 hs2 hk2 HM hl2;dsimp only;generalize hN:l.length=N at *;subst h0;go_wp2_with (go_at_call 91;refine(jf (ae HR) (ae HK).next (ae HT).n1).mono ?_;rintro e w1 ⟨rfl,hr1,hf1⟩;replace HR:=af hr1;replace HS:=af (ax.fr (ae HS) hf1 (aL _));replace HF:=af ((ae HF).trans hf1);clear hr1 hf1)
  go_ret;exact⟨_,_,rfl,ae HR,ae HF,ae HS,ij (ae HK),⟨va,vc,by show Value.slice va _ vc=Value.slice va l.length vc;rw [hN]⟩,by show l.length<=_;omega⟩
 rw [aG h0];have hb:(((l.length:Nat):Int)==0)=false:=by simpa using h0
 go_enter func184,ntmps184;go_wp2_with fail;refine(ae HM).mono ?_;rintro e w2 ⟨v,O2,rfl,hr2,hf2,hs2,hk2,⟨va,vc,rfl⟩,hl2⟩;have HS:=af hs2;have HK:=af hk2;have HR:=af hr2;have HF:=af hf2;have hl3:l.length<=1000000:=hl2;clear hr2 hf2 hs2 hk2 HM hl2;dsimp only;generalize hN:l.length=N at *;go_wp2_with fail;go_ret;exact⟨_,_,rfl,ae HR,ae HF,ae HS,ae HK,⟨va,vc,by show Value.slice va _ vc=Value.slice va l.length vc;rw [hN]⟩,by show l.length<=_;omega⟩
theorem Fw{ts:List ak}{rd:RS->Option (RS×aP)}{k:Nat}{st:RS}{l:List aP}{r:RS×List aP}(h:ou ts rd k st l=some r):∃ g,k=g+1:=by
 cases k with
 | zero=>cases h
 | succ g=>exact⟨g,rfl⟩
def Ep(pb:Nat)(ts:List ak)(n:Nat)(it:RS->Option (RS×Option aP)):Prop:=∀(w:World) (st:RS) (D O:Nat->Prop) (s:RS) (m:aP),RA w pb ts st D O->Ok ts st->li ts n it st=some (s,m) ->
 ∃ l,m=qh l/\Calls prog 184 #[au pb 0,.func (.func 185) #[au pb 0] #[]] w (yd pb ts w D O (s,l))
theorem NQ{pb:Nat}{ts:List ak}(ht:bY ts){it:RS->Option (RS×Option aP)}(IH:pk pb ts it)(n:Nat)(hn:n<=1000):Ep pb ts n it:=by
 intro w st D O s m h hk hr;unfold li at hr;cases h1:cf it n st []with
 | none=>rw [h1]at hr;cases hr
 | some p =>
  obtain⟨s1,l⟩:=p;rw [h1]at hr;cases hr
  exact⟨l,rfl,GI ht IH n hn h hk h1⟩
theorem FW{pb:Nat}{ts:List ak}(ht:bY ts){it:RS->Option (RS×Option aP)}(n:Nat)(hn:n<=1000)(IR:Ep pb ts n it):nH 141 pb ts (oX ts n (li ts n it)):=by
 intro w st D O r h hk hr;unfold oX at hr;cases h1:li ts n it st with
 | none=>rw [h1]at hr;cases hr
 | some p =>
  obtain⟨s2,m2⟩:=p;rw [h1]at hr;dsimp only at hr
  obtain⟨r1,hr1,hr2⟩:∃ r1,ou ts (li ts n it) n s2 [m2]=some r1/\r=(r1.1,tq r1.2):=by
   split at hr
   ·cases hr
   rename_i s l hx;exact⟨(s,l),hx,(kd hr).symm⟩
  obtain⟨l2,hl2,hc2⟩:=IR w st D O s2 m2 h hk h1;have hmf:∀(fn:Fn) (first cap:Array Value) (w:World),(Instr.makeFunc fn first cap).run prog w=.ok (.func fn first cap) w:=λ _ _ _ _=>rfl
  obtain⟨i0,hi0,hz0,hz1,hz2⟩:=info_parts Tryz.infoWay;have HH:=af h;have HT:=af ht;have HL:=af hr1;have HC:=af hc2;have MA:=af IR;clear h hk ht hr hr1 h1 IR hc2;subst hr2 hl2;go_enter func141,ntmps141;go_wp2_with fail;refine(ae HC).mono ?_;rintro e w2 ⟨v2,O2,rfl,hr2,hf2,hs2,hk2,⟨va,vc,rfl⟩,hln⟩;have HR:=af hr2;have HF:=af hf2;have HS:=af hs2;have FA:=af hk2;clear hr2 hf2 hs2 hk2 HC hln;dsimp only at HS;go_wp2_with (go_at_call 183;refine(Bo _ _ l2 _ ((ae HR).newFree (ae HF)) (ae HS) ⟨_,_,_,rfl⟩).mono ?_;rintro e w3 ⟨v3,rfl,hfv,hw3,hv⟩;obtain⟨K0,g0,lb0,hv0,_⟩:=ax.now hv;have HV:=af hv;replace HR:=af ((ae HR).alloc (aE (.slice va l2.length vc) 271));replace HF:=af ((ae HF).alloc (aE (.slice va l2.length vc) 271));rw [<-hw3]at HR HF;clear hv hfv hw3;subst hv0)
  have DA:=af (kL.one (T:=220) (Q:=kP) (ae HV) (λ k ho=>(ae HR).lt ho) (ae HF).size rfl);have GA:=af ((ae HR).alloc (aE (.func (.func g0) #[] lb0) 220));have EA:=af ((ae HF).alloc (aE (.func (.func g0) #[] lb0) 220));clear HV HR HF HS;go_loopg [3] n (λ k s3 wr=>∃(su:RS) (acc:List aP) (vs:List Value) (Ou:Nat->Prop),acc.length+k<=n+1/\RA wr pb ts su D Ou/\Fr O w Ou wr/\kL 220 kP wr w.heap.size Ou D s3 acc vs/\Ok ts su/\ou ts (li ts n it) k su acc=some r1)
  case atStart=>exact⟨s2,[qh l2],_,O2,by simp;omega,ae GA,ae EA,ae DA,ae FA,ae HL⟩
  case round =>
   clear DA GA EA FA HL;obtain⟨su,acc,vs,Ou,hlen,hr,hf,hacc,hk,hl⟩:=hrel;obtain⟨g,rfl⟩:=Fw hl;obtain⟨sa,sc,hsv⟩:=al hacc.own;subst hsv;have hln:acc.length<=1001:=by omega
   by_cases h35:an ts su=35
   ·rw [ou,aS h35]at hl;cases h1:li ts n it (b9 ts su)with
    | none=>rw [h1]at hl;cases hl
    | some p =>
     obtain⟨s5,m5⟩:=p;rw [h1]at hl;dsimp only at hl;have BA:=af (bP hr hk (ae HT) 35 h35);have OA:=af (bV hk (ae HT) h35 (by decide));have PA:=af hl;have HF:=af hf;have HA:=af hacc;have H1:=af h1;clear hr hf hacc hk hl h35 h1;go_wp2_with (go_at_call 137;refine(ae BA).mono ?_;clear BA;rintro e w3 ⟨rfl,O3,hr3,hf3⟩;have HR:=af hr3;replace HA:=af ((ae HA).fr hf3);replace HF:=af ((ae HF).trans hf3);clear hr3 hf3)
     obtain⟨l5,rfl,hc5⟩:=(ae MA) _ _ _ _ _ _ (ae HR) (ae OA) (ae H1);refine hc5.mono ?_;rintro e w4 ⟨v4,O4,rfl,hr4,hf4,hs4,hk4,⟨wa,wc,rfl⟩,hln4⟩;clear hc5;have hlt3:=((ae HA).own.lt)
     have HS:=af (show ax w4 (λ k=>cW O4 D w.heap.size k/\(Value.slice sa acc.length sc).ownBlock≠some k) (pC (.slice wa l5.length wc) l5)from hs4.mono (aL _) (λ k _ ha=>⟨rfl,⟨ha.1,ha.2.imp id (λ h=>by have:=(ae HF).size;omega)⟩,λ e=>by
      rcases ha.2 with h1|h1
      ·have h2:=((ae HA).new k e).1;have h3:=((ae HH).free h1).1;omega
      ·have h2:=(hlt3 k e).2;omega⟩) (λ _ _ h=>h))
     replace HA:=af ((ae HA).fr hf4);replace HF:=af ((ae HF).trans hf4);replace HR:=af hr4;have NA:=af hk4;have hlt4:=af ((ae HA).own.lt);clear hr4 hf4 hs4 hk4 hln4 hlt3;dsimp only
     go_wp2_with (first
      | (go_at_call 183;refine(Bo _ _ l5 _ (λ k hk=>⟨(ae HR).newFree (ae HF) k hk,λ e=>by have:=((ae hlt4) k e).2;omega⟩) (ae HS) ⟨_,_,_,rfl⟩).mono ?_;rintro e w5 ⟨v5,rfl,hfv,hw5,hv⟩;obtain⟨K1,g1,lb1,hv1,_⟩:=ax.now hv;have HV:=af hv;replace HR:=af ((ae HR).alloc (aE (.slice wa l5.length wc) 271));replace HF:=af ((ae HF).alloc (aE (.slice wa l5.length wc) 271));replace HA:=af ((ae HA).alloc (aE (.slice wa l5.length wc) 271));rw [<-hw5]at HR HF HA;clear hv hfv hw5;subst hv1;have AA:=af ((ae HA).alloc (aE (.func (.func g1) #[] lb1) 220));have CA:=af ((ae HR).alloc (aE (.func (.func g1) #[] lb1) 220));have IA:=af ((ae HV).mono (bE _ (aE (.func (.func g1) #[] lb1) 220) (λ k=>cW O4 D w.heap.size k/\(Value.slice sa acc.length sc).ownBlock≠some k)).1 (bE _ (aE (.func (.func g1) #[] lb1) 220) _).2 (λ _ _ h=>h)))
      | (at_builtin;refine wpList_append_lies _ rfl _ _ _ rfl 0 220 i0 _ 1 8 underlying271 hi0 hz0 hz1 hz2 rfl (by omega) (.slice sa acc.length sc) acc.length vs rfl (ae AA).own ⟨w5.heap.size,0,none⟩ 1 1 [.func (.func g1) #[] lb1] rfl rfl (World.news_of_block (cs:=#[.func (.func g1) #[] lb1]) (t:=220) (fr:=(0,0)) (cM _ _)) (by simp [Value.oneCell']) (by omega) (by simp [maxLen];omega) (by omega) (dG _) (w5.heap.size+1) (by simp) ?_;intro gg cap w6 hown hgrow hat hltg))
     have QA:=af ((ae CA).grown hgrow (λ k e=>⟨((ae AA).new k e).2,λ hd=>by have h1:=((ae AA).new k e).1;have h2:=((ae HH).free hd).1;omega⟩));have KA:=af (((ae HF).alloc (aE (.func (.func g1) #[] lb1) 220)).grown hgrow (λ k e=>inr ((ae AA).new k e).1));have JA:=af (kL.snoc (ae AA) (λ k ho=>(ae CA).lt ho) (by have:=(ae HF).size;simp;omega) (ae IA) hgrow (hat.imp id (λ h=>by simp;omega)) hown);clear hown hgrow hat hltg CA AA IA HV HA;go_roundg g
     case measure=>omega
     case rel=>exact⟨s5,acc++[qh l5],_,O4,by rw [List.length_append,List.length_singleton];omega,ae QA,ae KA,ae JA,ae NA,ae PA⟩
   have hl':(su,acc)=r1:=by rw [ou,aG h35]at hl;exact kd hl
   have BA:=af (aH hr hk (ae HT) 35 h35);have HF:=af hf;have HA:=af hacc;have HK:=af hk;subst hl';dsimp only;clear hr hf hacc hk hl h35
   go_wp2_with (first
    | (go_at_call 137;refine(ae BA).mono ?_;clear BA;rintro e w3 ⟨rfl,hr3,hf3⟩;have HR:=af hr3;replace HA:=af ((ae HA).fr hf3);replace HF:=af ((ae HF).trans hf3);clear hr3 hf3)
    | (go_at_call 186;refine(DE _ _ acc (cW Ou D w.heap.size) ((ae HR).newFree (ae HF)) (B9 (ae HA).own (by omega) (λ k e=>⟨((ae HA).new k e).2,inr ((ae HA).new k e).1⟩) (λ i v o h1 h2=>((ae HA).elt i v o h1 h2).mono (aL _) (λ k _ ha=>⟨rfl,ha.1⟩) (λ _ _ h=>h))) ⟨_,_,_,rfl⟩).mono ?_;rintro e w5 ⟨v,rfl,hfv,rfl,hv⟩;obtain⟨K1,g1,lb1,hv1,_⟩:=ax.now hv;have HV:=af hv;have LA:=af hfv;clear hv hfv;subst hv1))
   go_ret;exact⟨_,_,rfl,(ae HR).alloc _,(ae HF).alloc _,ae LA,ae HV,ae HK⟩
theorem rD{pb:Nat}{ts:List ak}(ht:bY ts)(n:Nat)(hn:n<=1000):∀ f,nH 141 pb ts (gL ts n f)
 | 0=>λ w st D O r h hk hr=>by cases hr
 | f+1=>FW ht n hn (NQ ht (Gh ht n (rD ht n hn f)) n hn)
theorem oS.addWay{w w1 w2:World}{pb:Nat}{ts:List ak}{st:RS}{D:Nat->Prop}{tb tc:Nat}{dv av bv:Value}(h:oS w pb ts st D tb tc dv av bv)(hb:Below w.heap.size w w1){g cap n0:Nat}{name:ByteArray}{v:Value}{m:aP}
  (hv:ax w (cW (dV pb tb dv bv) D n0) (kP v m)) {xs:List (ByteArray×Value×Value)} (hx2:xs.length=st.defs.length) (hx3:∀(i:Nat) (d:i8) (x:ByteArray×Value×Value),st.defs[i]?=some d->xs[i]?=some x->lG w (λ k=>¬dV pb tb dv bv k/\D k) d x)
  (hown:w2.ownsRow 0 222 3 (.slice (some ⟨g,0,none⟩) (st.defs.length+1) cap) (st.defs.length+1) (dr xs++[.string name,.nilFunc,v])) (hg:w1.grownBy w2 dv.ownBlock) (hat:dv.ownBlock=some g\/g=w1.heap.size) :
  ∃ D',(∀ k,D' k->D k\/n0<=k)/\RA (w2.setCell ⟨pb,3,none⟩ (.slice (some ⟨g,0,none⟩) (st.defs.length+1) cap)) pb ts (ee st ⟨name,none,some m⟩) D' (dV pb tb (.slice (some ⟨g,0,none⟩) (st.defs.length+1) cap) bv) /\
   Fr (dV pb tb dv bv) w (dV pb tb (.slice (some ⟨g,0,none⟩) (st.defs.length+1) cap) bv) (w2.setCell ⟨pb,3,none⟩ (.slice (some ⟨g,0,none⟩) (st.defs.length+1) cap)):=by
 obtain⟨K,hK,hQ⟩:=hv;have hpl:=ah h.blk;have hs1:=hb.size;have hs2:=hg.size
 have hag:∀ k,k<w.heap.size->k≠pb->dv.ownBlock≠some k->(w2.setCell ⟨pb,3,none⟩ (.slice (some ⟨g,0,none⟩) (st.defs.length+1) cap)).heap[k]?=w.heap[k]?:=λ k hk hne hd =>
  (ai hne).trans ((hg.block k (by omega) (λ e=>hd e.symm)).trans (hb.block k hk))
 have hpb:w2.heap[pb]?=w.heap[pb]?:=(hg.block pb (by omega) (λ e=>h.ne4 e.symm)).trans (hb.block pb hpl)
 have hgp:g≠pb:=λ e=>by
  rcases hat with h1|h1
  ·exact h.ne4 (by rw [h1,e])
  omega
 have hss:(w2.setCell ⟨pb,3,none⟩ (.slice (some ⟨g,0,none⟩) (st.defs.length+1) cap)).heap.size=w2.heap.size:=by simp [World.setCell]
 have hgo:∀ k,k<w.heap.size->dv.ownBlock≠some k->g≠k:=λ k hk hd e=>by
  rcases hat with h1|h1
  ·exact hd (by rw [h1,e])
  omega
 have hno:∀ k,k<w.heap.size->¬dV pb tb dv bv k->¬dV pb tb (.slice (some ⟨g,0,none⟩) (st.defs.length+1) cap) bv k:=λ k hk hn ho=>by
  rcases ho with e|e|e|e
  ·exact hn (inl e)
  ·exact hn (inr (inl e))
  ·exact hn (inr (inr (inl e)))
  have e':g=k:=by simpa [Value.ownBlock]using e
  exact hgo k hk (λ e2=>hn (inr (inr (inr e2)))) e'
 have hagn:∀ k,k<w.heap.size->¬dV pb tb dv bv k->(w2.setCell ⟨pb,3,none⟩ (.slice (some ⟨g,0,none⟩) (st.defs.length+1) cap)).heap[k]?=w.heap[k]?:=λ k hk hn =>
  hag k hk (λ e=>hn (inl e)) (λ e=>hn (inr (inr (inr e))))
 refine⟨λ k=>D k\/K k,λ k hk=>hk.elim inl (λ h1=>(hK k h1).2.2),⟨tb,tc,_,av,bv,⟨?_,?_,?_,h.used,?_,h.ne1,h.ne2,h.ne3,?_,?_,?_,?_⟩,rfl⟩,?_⟩
 ·rw [aV (hpb.trans h.blk)];rfl
 ·exact ay h.toks (λ k e=>by
   have e':tb=k:=by simpa [Value.ownBlock]using e
   subst e';exact hag tb (h.lt (inr (inl rfl))) h.ne1 h.ne5)
 ·exact ay h.page (λ k e=>hag k (h.lt (inr (inr (inl e)))) (λ e2=>h.ne2 (by rw [e,e2])) (λ e2=>by
   rcases h.ne6 with h1|h1
   ·rw [h1]at e;cases e
   ·exact h1 (e.trans e2.symm)))
 ·refine⟨xs++[(name,.nilFunc,v)],?_,by simp [ee,hx2],λ i d x hd hx=>?_⟩
  ·have e1:dr (xs++[(name,.nilFunc,v)])=dr xs++[.string name,.nilFunc,v]:=by simp [dr]
   rw [e1];have e2:(ee st ⟨name,none,some m⟩).defs.length=st.defs.length+1:=by simp [ee]
   rw [e2]
   exact ay hown (λ k e=>by
    have e':g=k:=by simpa [Value.ownBlock]using e
    subst e';exact ai hgp)
  have hd':(st.defs++[(⟨name,none,some m⟩:i8)])[i]?=some d:=hd;rcases Nat.lt_or_ge i st.defs.length with hi|hi
  ·rw [List.getElem?_append_left hi]at hd';rw [List.getElem?_append_left (by omega)]at hx;exact(hx3 i d x hd' hx).mono (by omega) (λ k hk ha=>⟨hagn k hk ha.1,hno k hk ha.1,inl ha.2⟩)
  rw [List.getElem?_append_right hi]at hd';rw [List.getElem?_append_right (by omega)]at hx
  have hi0:i-st.defs.length=0:=by
   rcases Ic (i-st.defs.length)with h1|h1
   ·exact h1
   rw [List.getElem?_eq_none (by simp;omega)]at hd';cases hd'
  rw [hi0]at hd';rw [hx2,hi0]at hx;simp at hd' hx;subst hd' hx;refine⟨rfl,rfl,⟨K,λ k hk=>⟨by have:=(hK k hk).1;omega,hno k (hK k hk).1 (hK k hk).2.1,inr hk⟩,λ V hV hk=>hQ V (by omega) (λ k h1=>(hk k h1).trans (hagn k (hK k h1).1 (hK k h1).2.1))⟩⟩
 ·intro e;have e':g=pb:=by simpa [Value.ownBlock]using e
  exact hgp e'
 ·intro e;have e':g=tb:=by simpa [Value.ownBlock]using e
  exact hgo tb (h.lt (inr (inl rfl))) h.ne5 e'
 ·cases hbo:bv.ownBlock with
  | none=>exact inl rfl
  | some k =>
   right;intro e;have e':k=g:=by simpa [Value.ownBlock]using e
   have hkl:=h.lt (inr (inr (inl hbo)));refine hgo k hkl (λ e2=>?_) e'.symm;rcases h.ne6 with h1|h1
   ·rw [h1]at hbo;cases hbo
   exact h1 (hbo.trans e2.symm)
 ·intro k hk;rcases hk with h1|h1
  ·exact⟨by have:=(h.free k h1).1;omega,hno k (h.free k h1).1 (h.free k h1).2⟩
  exact⟨by have:=(hK k h1).1;omega,hno k (hK k h1).1 (hK k h1).2.1⟩
 have hF:Fr (dV pb tb dv bv) w (dV pb tb dv bv) w2:=(Fr.of_below hb).grown hg (λ k e=>inl (inr (inr (inr e))));refine(hF.reown (O2:=dV pb tb (.slice (some ⟨g,0,none⟩) (st.defs.length+1) cap) bv) (λ k hk=>?_)).setCell (inl (inl rfl)) _;rcases hk with e|e|e|e
 ·exact inl (inl e)
 ·exact inl (inr (inl e))
 ·exact inl (inr (inr (inl e)))
 have e':g=k:=by simpa [Value.ownBlock]using e
 rcases hat with h1|h1
 ·exact inl (inr (inr (inr (by rw [h1,e']))))
 exact inr (by omega)
theorem Lt{pb:Nat}{ts:List ak}(ht:bY ts){ei:RS->Option (RS×aP)}(IE:nH 141 pb ts ei){w:World}{st:RS}{D O:Nat->Prop}(h:RA w pb ts st D O)(hk:Ok ts st)(e5:an ts st=6){s:RS}{m:aP}(hdl:(aC ts 27 s).1.defs.length<=1000)
  (hr:ei (aC ts 26 (bI ts (b9 ts st)).1).1=some (s,m)) :
  Calls prog 87 #[au pb 0] w (If pb ts w D O (ee (aC ts 27 s).1 ⟨(bI ts (b9 ts st)).2,none,some m⟩,true)):=by
 have HT:=af ht;have HK:=af hk;have HE:=af e5;have HA:=af IE;have n5:=af (show an ts st≠5 by rw [e5];decide);have HG:=af (bV hk ht e5 (by decide));have AA:=af (rR (ae HG) ht);have FA:=af (bT (k:=26) (ae AA) ht (by decide));have HS:=af hr;have HF:=af ((dw O w).alloc (ju ⟨#[]⟩ .nilFunc .nilFunc));have HR:=af (h.alloc (ju ⟨#[]⟩ .nilFunc .nilFunc));have DA:Hid (¬D w.heap.size):=λ hd=>by have:=(h.free hd).1;omega
 have HB:=af (And.intro (cM w (ju ⟨#[]⟩ .nilFunc .nilFunc)) (show ¬O w.heap.size from λ ho=>by have:=h.lt ho;omega));clear h hk ht e5 IE hr;generalize hNN:bI ts (b9 ts st)=NN at *;obtain⟨s2,nm⟩:=NN;dsimp only at AA FA HS ⊢;go_enter func87,ntmps87
 go_wp2_with (first
  | (go_at_call 137;refine(aH (ae HR) (ae HK) (ae HT) 5 (ae n5)).mono ?_;rintro e w1 ⟨rfl,hr1,hf1⟩;replace HB:=af (bH hf1 (ae HB).1 (ae HB).2);replace HR:=af hr1;replace HF:=af ((ae HF).trans hf1);clear hr1 hf1 n5)
  | (go_at_call 137;refine(bP (ae HR) (ae HK) (ae HT) 6 (ae HE)).mono ?_;clear HE;rintro e w1 ⟨rfl,O1,hr1,hf1⟩;replace HB:=af (bH hf1 (ae HB).1 (ae HB).2);replace HR:=af hr1;replace HF:=af ((ae HF).trans hf1);clear hr1 hf1)
  | (go_at_call 138;refine(rS (ae HT) (ae HR) (ae HG)).mono ?_;rw [hNN];rintro e w2 ⟨rfl,O2,hr2,hf2⟩;dsimp only;replace HB:=af (bH hf2 (ae HB).1 (ae HB).2);have c0:w2.cell? ⟨w.heap.size,0,none⟩=some (.string ⟨#[]⟩):=ag (ae HB).1;have z0:w2.frozen? ⟨w.heap.size,0,none⟩=false:=aj (ae HB).1;replace HR:=af (hr2.other ⟨(ae HB).2,ae DA⟩ 0 (.string nm));replace HF:=af (((ae HF).trans hf2).setCell (p:=⟨w.heap.size,0,none⟩) (inr (aL _)) (.string nm));replace HB:=af (And.intro (show(w2.setCell ⟨w.heap.size,0,none⟩ (.string nm)).heap[w.heap.size]?=some (ju nm .nilFunc .nilFunc)from(aV (ae HB).1).trans rfl) (ae HB).2);clear hr2 hf2)
  | (go_at_call 139;refine(bL (ae HR) (ae AA) (ae HT) 26).mono ?_;clear AA;rintro e w3 ⟨rfl,O3,hr3,hf3⟩;replace HB:=af (bH hf3 (ae HB).1 (ae HB).2);replace HR:=af hr3;replace HF:=af ((ae HF).trans hf3);clear hr3 hf3 c0 z0)
  | (go_at_call 141;refine((ae HA) _ _ _ _ _ (ae HR) (ae FA) (ae HS)).mono ?_;clear HA;rintro e w4 ⟨v,O4,rfl,hr4,hf4,hfv,hv,hk4⟩;have hbd:w.heap.size<w3.heap.size:=ah (ae HB).1;obtain⟨K1,g1,lb1,hv1,_⟩:=ax.now hv;replace HB:=af (bH hf4 (ae HB).1 (ae HB).2);have c1:w4.cell? ⟨w.heap.size,2,none⟩=some .nilFunc:=ag (ae HB).1;have z1:w4.frozen? ⟨w.heap.size,2,none⟩=false:=aj (ae HB).1;have HV:=af (show ax (w4.setCell ⟨w.heap.size,2,none⟩ v) (cW O4 D w3.heap.size) (kP v m)from hv.mono (by simp [World.setCell]) (λ k hk ha=>⟨ai (λ e=>by(have e':k=w.heap.size:=e);subst e';(rcases ha.2 with h1|h1);(exact(ae DA) h1);omega),ha⟩) (λ _ _ h=>h));replace HR:=af (hr4.other ⟨(ae HB).2,ae DA⟩ 2 v);replace HF:=af (((ae HF).trans hf4).setCell (p:=⟨w.heap.size,2,none⟩) (inr (aL _)) v);replace HB:=af (And.intro (show(w4.setCell ⟨w.heap.size,2,none⟩ v).heap[w.heap.size]?=some (ju nm .nilFunc v)from(aV (ae HB).1).trans rfl) (ae HB).2);have GA:=af hk4;clear hr4 hf4 hv hk4 hfv;subst hv1)
  | (go_at_call 139;refine(bL (ae HR) (ae GA) (ae HT) 27).mono ?_;rintro e w5 ⟨rfl,O5,hr5,hf5⟩;replace HB:=af (bH hf5 (ae HB).1 (ae HB).2);replace HV:=af (ax.fr (ae HV) hf5 (aL _));replace HR:=af hr5;replace HF:=af ((ae HF).trans hf5);clear hr5 hf5 c1 z1))
 have BA:=af (bT (k:=27) (ae GA) (ae HT) (by decide));generalize aC ts 27 s=P5 at *;obtain⟨s5,t5⟩:=P5;dsimp only at BA hdl HR ⊢;obtain⟨tb,tc,dv,av,bv,hrt,hO5⟩:=ae HR;subst hO5;obtain⟨xs,hx1,hx2,hx3⟩:=hrt.defs;obtain⟨i0,hi0,hz0,hz1,hz2⟩:=info_parts Tryz.infoDef;obtain⟨da,dc,hdv⟩:=al hx1;have hbe:Below w5.heap.size w5 (w5.alloc (ju nm .nilFunc (.func (.func g1) #[] lb1))).drew:=((aY _ _).alloc (aL _) _).drew;have cdv:w5.cell? ⟨pb,3,none⟩=some dv:=ag hrt.blk;have hpl:=ah hrt.blk;have d0:w5.cell? ⟨w.heap.size,0,none⟩=some (.string nm):=ag (ae HB).1;have d1:w5.cell? ⟨w.heap.size,1,none⟩=some .nilFunc:=ag (ae HB).1;have d2:w5.cell? ⟨w.heap.size,2,none⟩=some (.func (.func g1) #[] lb1):=ag (ae HB).1;have ld:=ah (ae HB).1;have LA:=af hx1;have MA:=af hx2;have NA:=af hx3;have EA:=af hrt;have CA:=af hbe;clear hbe hx1 hx2 hx3 hrt HR HB;subst hdv
 go_region_law ((refine step_append_lies _ (by rfl) _ _ _ (by rfl) 0 222 i0 _ 3 32 underlying125 hi0 hz0 hz1 hz2 rfl (by omega) (.slice da s5.defs.length dc) s5.defs.length (dr xs) (by rfl) (((ae LA).alloc _).drew) ⟨w5.heap.size,0,none⟩ 1 1 [.string nm,.nilFunc,.func (.func g1) #[] lb1] (by rfl) rfl (World.news_of_block (cs:=#[.string nm,.nilFunc,.func (.func g1) #[] lb1]) (t:=222) (fr:=(0,0)) (cM w5 _)) (by simp [Value.oneCell']) (by omega) (by unfold maxLen;omega) (by omega) (dG _) _ rfl ?_);(intro g cap w7 hown hg hat hgl;obtain⟨D',hDD,hra,hfr⟩:=(ae EA).addWay (ae CA) (ae HV) (ae MA) (ae NA) hown hg hat;have hp7:w7.heap[pb]?=w5.heap[pb]?:=(hg.block pb (gY hpl (ae CA).size) (λ e=>(ae EA).ne4 e.symm)).trans ((ae CA).block pb hpl);have cd7:w7.cell? ⟨pb,3,none⟩=some (.slice da s5.defs.length dc):=(World.cell?_of_block (a:=⟨pb,3,none⟩) hp7).trans cdv;have zd7:w7.frozen? ⟨pb,3,none⟩=false:=(World.frozen?_of_block (a:=⟨pb,3,none⟩) hp7).trans (aj (ae EA).blk);have IA:=af hDD;have KA:=af hra;have JA:=af hfr;clear hDD hra hfr hown hg hat hp7))
 all_goals
  go_wp2_with fail;go_ret;exact⟨rfl,_,_,ae KA,(ae HF).trans (ae JA),λ k hk=>((ae IA) k hk).imp id (λ h=>by omega),⟨(ae BA).next,(ae BA).page,(ae BA).gap⟩⟩
theorem aU(ts:List ak)(k:Int)(st:RS):(aC ts k st).1.defs=st.defs:=by
 unfold aC;split<;>rfl
theorem fq(ts:List ak)(a b:Int)(st:RS):(aM ts a b st).1.defs=st.defs:=by
 unfold aM;dsimp only;split
 ·exact aU ts 2 st
 exact aU ts 2 st
theorem oH(ts:List ak)(st:RS):(bI ts st).1.defs=st.defs:=by
 unfold bI;dsimp only;split
 ·exact aU ts 4 st
 exact aU ts 4 st
theorem ni(ts:List ak)(st:RS):(cL ts st).1.defs=st.defs:=by
 unfold cL;split
 ·dsimp only;rw [fq,fq,aU]
 exact aU ts 3 st
theorem oK(ts:List ak):∀(n:Nat) (st:RS) (l:List dU) (r:RS×List dU),fe ts n st l=some r->r.1.defs=st.defs
 | 0,_,_,_,h=>by cases h
 | n+1,st,l,r,h=>by
  rw [fe]at h;split at h
  ·rw [oK ts n _ _ r h,ni];rfl
  cases h;rfl
theorem yW{ts:List ak}{n:Nat}{st:RS}{r:RS×dU}(h:iv ts n st=some r):r.1.defs=st.defs:=by
 unfold iv at h;split at h
 ·cases h
 rename_i s l hx;cases h
 dsimp only;rw [aU,oK ts n _ _ _ hx,ni,aU]
theorem eT.allow{w:World}{A A':Nat->Prop}{v:Value}{l:List (Option aJ)}(h:eT w A v l)(hb:∀ k,k<w.heap.size->A k->A' k):eT w A' v l :=
 ⟨h.1,λ ms hms=>(h.2 ms hms).allow hb⟩
