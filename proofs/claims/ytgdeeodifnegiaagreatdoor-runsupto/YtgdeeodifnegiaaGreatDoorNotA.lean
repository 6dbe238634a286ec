/- part -/
import Derived.Test.YtgdeeodifnegiaaGreatDoorKnA
set_option maxRecDepth 100000
set_option maxHeartbeats 4000000
namespace Go.Proofs.YtgdeeodifnegiaaGreatDoor
open Go.Proofs.Tryz
open Or
open Go.RowKit
open Go.RowKit Go.Shelf
theorem Ir{W:World}{b:Nat}{r:Rt}{pv mv:Value}(h:dK W b r pv mv):gy W mv r.marks:=by
 rcases h.marks.2 with⟨h1,h0⟩|⟨g,cap,cur,hv,_,hg,hnc,_,hcs,htk⟩
 ·have hnil:r.marks=[]:=List.length_eq_zero_iff.mp h0;exact⟨none,0,by rw [h1,hnil];rfl,inl hnil⟩
 refine⟨_,_,hv,inr ⟨g,0,rfl,ai hg,λ j hj=>?_⟩⟩;rw [af hg];have h2:(cur.toList.take (r.marks.length*1))[j]?=some (.int .i64 r.marks[j]):=by rw [htk];simp [aq,hj]
 rw [List.getElem?_take,aC (by omega)]at h2;simpa using h2
theorem EL(V:World)(mv:Value)(l:List Int)(n:Int)(hp:gy V mv l)(hl:l.length<=8) :
  Calls prog 390 #[mv,.int .i64 n] V λ e V'=>(∃ k:Int,e=.returned (.int .i64 k) /\ -1<=k/\k<=8/\(0<=k↔n∈l))/\Below V.heap.size V V':=by
 obtain⟨p,c,rfl,hr⟩:=hp;have HR:=ae hr;clear hr;have hN:(l.length:Int)<=8:=by omega
 go_enter func390,ntmps390;go_wp2_with fail;go_loopw [8] (λ i wr=>∃ j:Nat,j<=l.length/\i=.int .i64 (j:Nat)/\Hid (∀ k,(h:k<l.length)->k<j->n≠l[k])/\Below V.heap.size V wr) (λ i _=>l.length-(intOf i).toNat)
 case atStart=>exact⟨0,iL _,rfl,λ k _ hk=>absurd hk (Nat.not_lt_zero _),aX _ _⟩
 case round =>
  obtain⟨j,hj,rfl,HF,hbl⟩:=hrel;have HB:=ae hbl;clear hbl;by_cases hlt:j<l.length
  ·rcases ab HR with h|⟨b,o,rfl,hb,hcc⟩
   ·rw [h]at hlt;simp at hlt
   have hcl:=((ab HB).cell (p:=⟨b,o+j,none⟩) hb).trans (hcc j hlt);clear hcc;by_cases he:n=l[j]
   ·have hb1:(n==l[j])=true:=by simpa using he
    have HM:=ae (show n∈l by rw [he];exact nN _);clear he;go_wp2_with fail;go_ret;exact⟨⟨(j:Int),rfl,by omega,by omega,λ _=>ab HM,λ _=>by omega⟩,ab HB⟩
   have hb1:(n==l[j])=false:=by simpa using he
   have AA:Hid (∀ k,(h:k<l.length)->k<j+1->n≠l[k]):=λ k hk hk2=>by
    rcases Nat.lt_or_ge k j with h1|h1
    ·exact(ab HF) k hk h1
    obtain rfl:k=j:=by omega
    exact he
   clear he;go_wp2_with fail;exact⟨⟨j+1,by omega,by go_num,AA,ab HB⟩,by simp [intOf];omega⟩
  have AA:Hid (¬n∈l):=λ hm=>by
   obtain⟨k,hk,he⟩:=List.mem_iff_getElem.1 hm;exact(ab HF) k hk (by omega) he.symm
  go_wp2_with fail;go_ret;exact⟨⟨-1,rfl,by omega,by omega,λ h=>by omega,λ h=>absurd h (ab AA)⟩,ab HB⟩
theorem xp(V:World)(mv:Value)(l:List Int)(n:Int)(hp:gy V mv l)(hl:l.length<=8) :
  Calls prog 387 #[mv,.int .i64 n] V λ e V'=>e=.returned (.bool (l.contains n))/\Below V.heap.size V V':=by
 have HI:=ae (EL V mv l n hp hl);obtain⟨p,c,rfl,_⟩:=hp;clear hl;go_enter func387,ntmps387;go_wp2_with (go_at_call 390;refine(ab HI).mono ?_;clear HI;rintro e w1 ⟨⟨k,rfl,hk1,hk2,hk⟩,hb1⟩;have HX:=ae (And.intro hk hb1);clear hk hb1)
 go_ret;refine⟨bQ ?_,(ab HX).2⟩;rw [Bool.eq_iff_iff,List.contains_iff_mem,<-(ab HX).1];simp
theorem BX(W:World)(b:Nat)(r:Rt)(pv mv:Value)(h:dK W b r pv mv)(B1:Nat)(n:Int)(c1:W.cell? ⟨B1,0,none⟩=some (.int .i64 n)) :
  Calls prog 386 (#[ay b 0]++#[ay B1 0]) W λ e W'=>e=.returned (jI (jx n r))/\Below W.heap.size W W':=by
 have r3:W.cell? ⟨b,3,none⟩=some mv:=af h.blk;have HP:=ae (Ir h);have hn:=h.n2;have HA:=ae (λ(V:World) (hV:Below W.heap.size W V)=>xp V mv r.marks n ((ab HP).below hV) hn);obtain⟨a,c,hmv⟩:=bi h.marks;have EQ:Hid (jI (jx n r)=.tuple #[.bool (r.marks.contains n),.bool true]):=rfl;clear h hn HP;rw [ab EQ];subst hmv;generalize r.marks.contains n=M at *;go_enter func386,ntmps386;go_wp2_with fail;go_region_with (go_at_call 387;refine((ab HA) _ (aX _ _).drew).mono ?_;rintro e w1 ⟨rfl,hb1⟩;have AA:=ae (((aX W.heap.size W).drew).trans (hb1.mono (aD _)));clear hb1)
 all_goals
  go_wp2_with fail
  go_ret2
  exact⟨rfl,ab AA⟩
theorem Tryz.entMarked:Enters prog 386:=enters_of func386 (by kernel_rfl) rfl
theorem zC(w:World)(n:Int) :
  Calls prog 377 #[.int .i64 n] w λ e w'=>e=.returned (.func (.func 386) #[] #[ay w.heap.size 0])/\w'=w.alloc (aF (.int .i64 n) 3):=by
 have hmf:∀(fn:Fn) (first cap:Array Value) (w:World),(Instr.makeFunc fn first cap).run prog w=.ok (.func fn first cap) w:=λ _ _ _ _=>rfl
 go_enter func377,ntmps377;go_wp2_with fail;go_ret;exact⟨rfl,rfl⟩
theorem gK(w:World)(n:Int)(A:Nat->Prop)(hA:∀ k,w.heap.size<=k->A k) :
  Calls prog 377 #[.int .i64 n] w λ e w'=>∃ v,e=.returned v/\w'=w.alloc (aF (.int .i64 n) 3)/\gH w' A v (some (jx n)):=by
 refine(zC w n).mono ?_;rintro e w' ⟨rfl,rfl⟩;refine⟨_,rfl,rfl,az.new (λ k=>k=w.heap.size) (λ k hk=>⟨by subst hk;simp,hA k (by omega)⟩) (λ W _ hk=>?_)⟩;exact⟨_,_,rfl,Tryz.entMarked,λ b r pv mv hr=>BX W b r pv mv hr _ n (af ((hk _ rfl).trans (cN w _)))⟩
theorem AE{pb:Nat}{ts:List aw}(ht:cE ts){w:World}{st:RS}{D O:Nat->Prop}(h:RA w pb ts st D O)(hk:Ok ts st)(e25:am ts st=25) :
  Calls prog 358 #[ay pb 0] w (kW pb ts w D O ((aE ts 0 65535 (bg ts st)).1,some (jx (aE ts 0 65535 (bg ts st)).2))):=by
 have HR:=ae h;have HF:=ae (bE O w);have HK:=ae hk;have HT:=ae ht;have HE:=ae e25;have n21:=ae (show am ts st≠21 by rw [e25];decide);have n23:=ae (show am ts st≠23 by rw [e25];decide);have HG:=ae (cu hk ht e25 (by decide));have AA:=ae (gO (a:=0) (b:=65535) (ab HG) ht);have HM:=ae (λ(W:World) (O:Nat->Prop) (h:RA W pb ts (bg ts st) D O)=>tF ht h (ab HG));clear h hk ht e25;generalize aE ts 0 65535 (bg ts st)=P at *;obtain⟨s1,x1⟩:=P;dsimp only at AA HM ⊢;go_enter func358,ntmps358
 go_wp2_with (first
  | (go_at_call 211;refine(aL (ab HR) (ab HK) (ab HT) 21 (ab n21)).mono ?_;rintro e w1 ⟨rfl,hr1,hf1⟩;replace HR:=ae hr1;replace HF:=ae ((ab HF).trans hf1);clear hr1 hf1 n21)
  | (go_at_call 211;refine(aL (ab HR) (ab HK) (ab HT) 23 (ab n23)).mono ?_;rintro e w1 ⟨rfl,hr1,hf1⟩;replace HR:=ae hr1;replace HF:=ae ((ab HF).trans hf1);clear hr1 hf1 n23)
  | (go_at_call 211;refine(bY (ab HR) (ab HK) (ab HT) 25 (ab HE)).mono ?_;rintro e w1 ⟨rfl,O1,hr1,hf1⟩;replace HR:=ae hr1;replace HF:=ae ((ab HF).trans hf1);clear hr1 hf1)
  | (go_at_call 224;refine((ab HM) _ _ (ab HR)).mono ?_;clear HM;rintro e w2 ⟨rfl,O2,hr2,hf2⟩;replace HR:=ae hr2;replace HF:=ae ((ab HF).trans hf2);clear hr2 hf2)
  | (go_at_call 377;refine(gK _ x1 _ ((ab HR).newFree (ab HF))).mono ?_;rintro e w4 ⟨v4,rfl,rfl,hv4⟩;have BA:=ae hv4;replace HR:=ae ((ab HR).alloc (aF (.int .i64 x1) 3));replace HF:=ae ((ab HF).alloc (aF (.int .i64 x1) 3));have hfv:=hv4.fnv;clear hv4))
 rcases hfv with⟨f1,f2,f3,rfl⟩|rfl <;>
 ·go_wp2_with fail;go_ret;exact⟨_,_,rfl,ab HR,ab HF,ab BA,ab AA⟩
theorem JH{pb:Nat}{ts:List aw}(ht:cE ts){cnd:RS->Option (RS×Option aQ)}(IC:fT 266 pb ts cnd){w:World}{st s1:RS}{c:Option aQ}{D O:Nat->Prop}(h:RA w pb ts st D O)(hk:Ok ts st)(e31:am ts st=31)(hc:cnd (dt ts 31 st)=some (s1,c)) :
  Calls prog 358 #[ay pb 0] w (kW pb ts w D O (gx ts 32 s1,c)):=by
 have HR:=ae h;have HF:=ae (bE O w);have HK:=ae hk;have HT:=ae ht;have HE:=ae e31;have n21:=ae (show am ts st≠21 by rw [e31];decide);have n23:=ae (show am ts st≠23 by rw [e31];decide);have n25:=ae (show am ts st≠25 by rw [e31];decide);have CA:=ae (mB (k:=31) hk ht (by decide));have BA:=ae IC;have HC:=ae hc;clear h hk ht e31 IC hc;go_enter func358,ntmps358
 go_wp2_with (first
  | (go_at_call 211;refine(aL (ab HR) (ab HK) (ab HT) 21 (ab n21)).mono ?_;rintro e w1 ⟨rfl,hr1,hf1⟩;replace HR:=ae hr1;replace HF:=ae ((ab HF).trans hf1);clear hr1 hf1 n21)
  | (go_at_call 211;refine(aL (ab HR) (ab HK) (ab HT) 23 (ab n23)).mono ?_;rintro e w1 ⟨rfl,hr1,hf1⟩;replace HR:=ae hr1;replace HF:=ae ((ab HF).trans hf1);clear hr1 hf1 n23)
  | (go_at_call 211;refine(aL (ab HR) (ab HK) (ab HT) 25 (ab n25)).mono ?_;rintro e w1 ⟨rfl,hr1,hf1⟩;replace HR:=ae hr1;replace HF:=ae ((ab HF).trans hf1);clear hr1 hf1 n25)
  | (go_at_call 170;refine(dR (ab HR) (ab HK) (ab HT) (ab HE)).mono ?_;rintro e w1 ⟨rfl,hr1,hf1⟩;replace HR:=ae hr1;replace HF:=ae ((ab HF).trans hf1);clear hr1 hf1)
  | (go_at_call 309;refine(mC (ab HR) (ab HK) (ab HT) 31).mono ?_;rintro e w2 ⟨rfl,O2,hr2,hf2⟩;replace HR:=ae hr2;replace HF:=ae ((ab HF).trans hf2);clear hr2 hf2))
 refine((ab BA) _ _ _ _ _ (ab HR) (ab CA) (ab HC)).mono ?_;rintro e w3 ⟨v,O3,rfl,hr3,hf3,hv3,hk3⟩;have hfv:=hv3.fnv;have HV:=ae (hv3.fr (bE _ _) (ab HF).size);have AA:=ae hk3;replace HR:=ae hr3;replace HF:=ae ((ab HF).trans hf3);clear hr3 hf3 hv3 hk3;rcases hfv with⟨f1,f2,f3,rfl⟩|rfl <;>
 ·go_wp2_with (go_at_call 310;refine(pD (ab HR) (ab AA) (ab HT) 32).mono ?_;rintro e w4 ⟨rfl,O4,hr4,hf4⟩;replace HR:=ae hr4;replace HV:=ae ((ab HV).fr hf4 (aD _));replace HF:=ae ((ab HF).trans hf4);clear hr4 hf4)
  go_ret;exact⟨_,_,rfl,ab HR,ab HF,ab HV,pC (ab AA) (ab HT) (by decide)⟩
theorem KG{pb:Nat}{ts:List aw}(ht:cE ts){nt:RS->Option (RS×Option aQ)}(IH:fT 339 pb ts nt){w:World}{st s1:RS}{c:Option aQ}{D O:Nat->Prop}(h:RA w pb ts st D O)(hk:Ok ts st)(e20:am ts st=20)(hc:nt (dt ts 20 st)=some (s1,c)) :
  Calls prog 339 #[ay pb 0] w (kW pb ts w D O (nT s1,c.map tK)):=by
 have HR:=ae h;have HF:=ae (bE O w);have HK:=ae hk;have HT:=ae ht;have HE:=ae e20;have AA:=ae (mB (k:=20) hk ht (by decide));have HI:=ae IH;have HC:=ae hc;clear h hk ht e20 IH hc;go_enter func339,ntmps339
 go_wp2_with (first
  | (go_at_call 170;refine(dR (ab HR) (ab HK) (ab HT) (ab HE)).mono ?_;rintro e w1 ⟨rfl,hr1,hf1⟩;replace HR:=ae hr1;replace HF:=ae ((ab HF).trans hf1);clear hr1 hf1)
  | (go_at_call 309;refine(mC (ab HR) (ab HK) (ab HT) 20).mono ?_;rintro e w2 ⟨rfl,O2,hr2,hf2⟩;replace HR:=ae hr2;replace HF:=ae ((ab HF).trans hf2);clear hr2 hf2))
 refine((ab HI) _ _ _ _ _ (ab HR) (ab AA) (ab HC)).mono ?_;rintro e w3 ⟨v,O3,rfl,hr3,hf3,hv3,hk3⟩;have HV:=ae (hv3.fr (bE _ _) (ab HF).size);have BA:=ae hk3;replace HR:=ae hr3;replace HF:=ae ((ab HF).trans hf3);clear hr3 hf3 hv3 hk3;go_wp2_with fail;refine(KF _ _ _ _ ((ab HR).newFree (ab HF)) (ab HV)).mono ?_;rintro e w4 ⟨v4,rfl,hw4,hv4⟩;have hfv:=hv4.fnv;have CA:=ae hv4;have hR4:=(ab HR).alloc (aF v 358);have hF4:=(ab HF).alloc (aF v 358);rw [<-hw4]at hR4 hF4;replace HR:=ae hR4;replace HF:=ae hF4;obtain⟨_,_,d1,zd1,_⟩:=hR4.cells;clear hv4 hR4 hF4 hw4;rcases hfv with⟨f1,f2,f3,rfl⟩|rfl <;>
 ·go_wp2_with fail;go_ret;exact⟨_,_,rfl,(ab HR).putDepth _,(ab HF).setCell (inl (ab HR).own) _,(ab CA).fr ((bE _ _).setCell (inl (ab HR).own) _) (aD _),Ke (ab BA)⟩
theorem Ix{pb:Nat}{ts:List aw}(ht:cE ts){w:World}{st:RS}{D O:Nat->Prop}{r:RS×Option aQ}(h:RA w pb ts st D O)(hk:Ok ts st)(e20:am ts st≠20)(hT:∀ W,RA W pb ts st D O->Calls prog 358 #[ay pb 0] W (kW pb ts W D O r)) :
  Calls prog 339 #[ay pb 0] w (kW pb ts w D O r):=by
 have BA:=ae hT;have HR:=ae h;have HF:=ae (bE O w);have HK:=ae hk;have HT:=ae ht;have b20:(am ts st != 20)=true:=by simpa using e20
 clear h hk ht hT e20;go_enter func339,ntmps339;go_wp2_with (go_at_call 170;refine(dR (ab HR) (ab HK) (ab HT) rfl).mono ?_;rintro e w1 ⟨rfl,hr1,hf1⟩;replace HR:=ae hr1;replace HF:=ae ((ab HF).trans hf1);clear hr1 hf1)
 refine((ab BA) _ (ab HR)).mono ?_;rintro e w2 ⟨v,O2,rfl,hr2,hf2,hv2,hk2⟩;have HV:=ae (hv2.fr (bE _ _) (ab HF).size);have AA:=ae hk2;replace HR:=ae hr2;replace HF:=ae ((ab HF).trans hf2);clear hr2 hf2 hv2 hk2;go_wp2_with fail;go_ret;exact⟨_,_,rfl,ab HR,ab HF,ab HV,ab AA⟩
theorem zD{pb:Nat}{ts:List aw}(ht:cE ts){sum:RS->Option (RS×Option bh)}(IS:iN pb ts sum)(n:Nat):∀ f,fT 339 pb ts (notTw ts n sum f)
 | 0=>λ w st D O r h hk hr=>by cases hr
 | f+1=>λ w st D O r h hk hr=>by
  have IH:=zD ht IS n f;rw [notTw]at hr;by_cases e20:am ts st=20
  ·rw [aC e20]at hr;cases h1:notTw ts n sum f (dt ts 20 st)with
   | none=>rw [h1]at hr;cases hr
   | some p =>
    obtain⟨s1,c⟩:=p;rw [h1]at hr;cases hr
    exact KG ht IH h hk e20 h1
  rw [au e20]at hr;refine Ix ht h hk e20 (λ W hW=>?_);by_cases e21:am ts st=21
  ·rw [aC e21]at hr;cases hr
   exact JJ ht hW hk e21
  rw [au e21]at hr;by_cases e23:am ts st=23
  ·rw [aC e23]at hr;cases hr
   exact Gh ht hW hk e23
  rw [au e23]at hr;by_cases e25:am ts st=25
  ·rw [aC e25]at hr;cases hr
   exact AE ht hW hk e25
  rw [au e25]at hr;by_cases e31:am ts st=31
  ·rw [aC e31]at hr;cases h1:ig ts (notTw ts n sum f) n (dt ts 31 st)with
   | none=>rw [h1]at hr;cases hr
   | some p =>
    obtain⟨s1,c⟩:=p;rw [h1]at hr;cases hr
    exact JH ht (vJ ht IH n) hW hk e31 h1
  rw [au e31]at hr;exact JI ht (xd ht IS) hW hk hr e21 e23 e25 e31
attribute [local go_sem] Oper.semAt_some
theorem tV(s:ByteArray)(hs:s.size<=600)(w:World)(ht:bB w)(_hts:cE (cO s))(hl0:0<(cO s).length){st:RS}{l:List (Option aM)}{a er:Int}
  (hpol:∀(pb:Nat) (W:World) (O:Nat->Prop),RA W pb (cO s) lJ (λ _=>False) O->Ok (cO s) lJ->Calls prog 110 #[ay pb 0] W (wP pb (cO s) W O (st,l))) (hx:(st.syn=some a/\er=2)\/(st.syn=none/\st.nam=some a/\er=3)\/(st.syn=none/\st.nam=none/\st.num=some a/\er=4)) :
  Calls prog 65 #[.string s] w λ e w'=>e=.returned (.tuple #[.agg #[.string ⟨#[]⟩,.slice none 0 0],.int .i64 er,.int .i64 a])/\Below w.heap.size w w':=by
 obtain⟨x1,f1⟩:∃ x,st.syn=x:=⟨_,rfl⟩
 obtain⟨x2,f2⟩:∃ x,st.nam=x:=⟨_,rfl⟩
 obtain⟨x3,f3⟩:∃ x,st.num=x:=⟨_,rfl⟩
 rw [f1,f2,f3]at hx;rcases hx with⟨rfl,her⟩|⟨rfl,rfl,her⟩|⟨rfl,rfl,rfl,her⟩
 all_goals
  obtain⟨i0,hi0,hz0,hz1,hz2⟩:=info_parts Tryz.infoTok;refine(callsIn_wide (n:=6)).1 ?_;refine callsIn_of_wp_marks func65 rfl trivial ?_ rfl;simp only [ntmps65,List.size_toArray,List.length_cons,List.length_nil,Nat.reduceAdd,Nat.reduceSub,Array.replicate_succ,Array.replicate_zero,List.push_toArray,List.append_toArray,List.nil_append,List.cons_append]
  gi_wp2_with (refine⟨trivial,?_⟩;gi_at_call 109;refine((callsIn_wide).2 (ym _ _)).mono ?_;rintro e w' ⟨rfl,rfl⟩)
  obtain⟨n1,n2,n3,sz⟩:=g6 w oj (kO (.slice none 0 0)) (aF (.string s) 9);have hB0:=sE s w;have hsz0:=oE s w
  refine wpIn_rangeFunc_ownH (w0:=nk s w) rfl (by decide) (gf:=164) (lb:=#[ay (w.heap.size+1+1) 0]) rfl trivial (enters_of func164 (by kernel_rfl) rfl)
   (vt 5 (by decide) s hs w ht) (λ h g=>vq.trans h g) (λ W l o o' hl hlo ho _=>vq.putObj (by have h:(nk s w).heap.size<=l:=hl;omega) hlo ho) (aX _ _) (λ _=>rfl)
   (Gr w (w.heap.size+1) (w.heap.size+3)) (λ _ _ _=>False) ?hI (λ _ _ _ _ _ h _ _=>h) ?h0 (D7 s w (w.heap.size+1) (w.heap.size+3)) ?hAx ?assign ?body ?done ?stop
  case hI=>have h:=Gr.own w (w.heap.size+1) (w.heap.size+3) (by omega);exact(show OwnFrom (nk s w).heap.size _ by rw [hsz0];exact h)
  case h0=>exact⟨⟨_,n2,jX _ _ _ _,λ k e=>by simp [Value.ownBlock]at e⟩,n1,hB0,Nat.le_of_eq hsz0.symm⟩
  case hAx=>intro x a';have h:=D7.own s w (w.heap.size+1) (w.heap.size+3) (by omega) x a';exact(show OwnFrom (nk s w).heap.size _ by rw [hsz0];exact h)
  case assign =>
   rintro l pre x W K hi hK;have HI:=ae hi;obtain⟨⟨v,hb,ho,hn⟩,hR,hBw,hzz⟩:=hi;have hpw:w.heap.size+1<W.heap.size:=ai hb;have GA:=ae (show ir (w.heap.size+1) W≠some W.heap.size from λ e=>by rw [kP hb]at e;have:=(ho.lt _ e).2;omega);have HK:=ae hK;clear hb ho hn hR hBw hK
   gi_wp2
   refine(ab HK) _ _ ((KeepsOthers.alloc _ _).from _) (vq.of_below hpw ((aX _ _).alloc (aD _) _)) ((Gr.own w (w.heap.size+1) (w.heap.size+3) (by omega)).alloc _ (ab HI)) ⟨W.heap.size,hzz,fp W _ _,?_,by rw [World.size_alloc];omega,rfl⟩;rw [gX hpw ((aX _ _).alloc (aD _) _)];exact ab GA
  case body =>
   rintro l pre x a' W hl ⟨r,hr⟩ ⟨⟨v,hb,ho,hn⟩,hR,hBw,hnW⟩ ⟨Bx,hBx,hbx,hrow,hpw,rfl⟩ hlt;have c0:W.cell? ⟨w.heap.size+1,0,none⟩=some v:=af hb;have z0:W.frozen? ⟨w.heap.size+1,0,none⟩=false:=ak hb;obtain⟨t0,t1,t2,t3,t4,t5,tz⟩:=ov hbx;obtain⟨va,vc,rfl⟩:=bi ho;have HB:=ae hb;have HO:=ae ho;have HN:=ae hn;have HR:=ae hR;have AA:=ae hBw;have hln:pre.length<=1000:=by omega
   clear hb ho hn hR hBw hbx;unfold Cj
   gi_wp2_with (gi_at_builtin;refine wpListIn_append_own_at _ rfl _ _ 200 rfl 0 216 i0 _ 6 56 underlying200 hi0 hz0 hz1 hz2 rfl (by decide) (.slice va pre.length vc) pre.length (cj pre) rfl ((ab HO).alloc (aR x)) ⟨W.heap.size,0,none⟩ 1 1 [.int .i64 x.kind,.int .i64 x.at_,.string x.text,.int .i64 x.number,.int .i64 x.addr,.int .i64 x.len] rfl rfl (World.news_of_block (cs:=#[.int .i64 x.kind,.int .i64 x.at_,.string x.text,.int .i64 x.number,.int .i64 x.addr,.int .i64 x.len]) (t:=216) (fr:=(0,0)) (cN _ _)) (by simp [Value.oneCell']) (by simp [maxLen];omega) (by omega) (iL _) ?_;intro v' w1 hown hgrow hnil hat;obtain⟨fa,fb,hfv⟩:=bi hown;have hpb1:w1.heap[w.heap.size+1]?=some (kO (.slice va pre.length vc)):=(hgrow.block _ (by rw [World.size_alloc];omega) (λ e=>by have:=(ab HN) _ e.symm;omega)).trans ((eW _ _ _ hpw).trans (ab HB));have d0:w1.cell? ⟨w.heap.size+1,0,none⟩=some (.slice va pre.length vc):=af hpb1;have dz:w1.frozen? ⟨w.heap.size+1,0,none⟩=false:=ak hpb1;have BA:=ae (Gr.snoc (ab HB) (ab HO) (ab HN) (ab HR) (ab AA) (by omega) (by omega) hnW hown hgrow hat);clear hown hgrow hat hnil hpb1;subst hfv)
   exact⟨(show KeepsFrom (nk s w).heap.size _ _ by rw [hsz0];exact(ab BA).1),(ab BA).2.1,(ab BA).2.2⟩
  case done =>
   rintro D xs W hD rfl ⟨⟨v,hb,ho,hn0⟩,hR,hBw,hz⟩ hK;have hD0:(nk s w).heap.size<=D:=hD;obtain⟨tb,tc,rfl,_,htb⟩:=World.ownsRow.form ho hl0;have htn:w.heap.size+3<=tb:=hn0 tb rfl
   have hra:nA W (w.heap.size+1) (cO s) lJ (λ _=>False) tb tc (.slice none 0 0) (.pointer none) (.slice none 0 0) :=
    ⟨hb,ho,jX _ _ _ _,inl rfl,⟨[],jX _ _ _ _,rfl,λ i d x hi=>by simp [lJ]at hi⟩,by omega,by simp [Value.ownBlock],by simp [Value.ownBlock],by simp [Value.ownBlock],by simp [Value.ownBlock],inl rfl,λ k h=>h.elim⟩
   have FA:Hid (RA W (w.heap.size+1) (cO s) lJ (λ _=>False) (dS (w.heap.size+1) tb (.slice none 0 0) (.slice none 0 0))):=⟨tb,tc,_,_,_,hra,rfl⟩
   have hDt:tb≠D:=λ e=>by
    obtain⟨_,h2⟩:=ho;rcases h2 with⟨h2,_⟩|⟨g,cap,cur,hv,_,hg,_⟩
    ·cases h2
    cases hv;rw [e,hK]at hg;cases hg
   have hOD:¬dS (w.heap.size+1) tb (.slice none 0 0) (.slice none 0 0) D:=λ h=>by
    rcases h with h|h|h|h
    ·omega
    ·exact hDt h.symm
    ·cases h
    cases h
   have hOR:¬dS (w.heap.size+1) tb (.slice none 0 0) (.slice none 0 0) w.heap.size:=λ h=>by
    rcases h with h|h|h|h
    ·omega
    ·omega
    ·cases h
    cases h
   have hOlow:Hid (∀ k,k<w.heap.size->¬dS (w.heap.size+1) tb (.slice none 0 0) (.slice none 0 0) k):=λ k hk h=>by
    rcases h with h|h|h|h
    ·omega
    ·omega
    ·cases h
    cases h
   have DA:Hid (Ok (cO s) lJ):=⟨hl0,by simp [lJ],by simp [lJ,ByteArray.size]⟩
   have EA:=ae (hpol _ _ _ (ab FA) (ab DA));have AA:=ae hBw;have hsW:W.heap.size=W.heap.size:=rfl;clear hra ho hb hn0 hBw hz
   gi_wp2_with (refine⟨trivial,?_⟩;gi_at_call 110;refine((callsIn_wide).2 (ab EA)).mono ?_;rintro e w2 ⟨sv,O2,D2,rfl,hr2,hf2,hs2,hk2,⟨sa,sc,rfl⟩,hl2⟩;have g1:=bD hf2 hK hOD;have g2:=bD hf2 hR hOR;have IA:=ae hr2;have CA:=ae hf2;have JA:=ae hs2;have HA:=ae hk2;have G1:=ae g1;have G2:=ae g2;obtain⟨tb2,tc2,dv2,av2,bv2,h2,hO2⟩:=hr2;have q7:w2.cell? ⟨w.heap.size+1,7,none⟩=some (nr st.syn):=af h2.blk;rw [f1]at q7;have q8:w2.cell? ⟨w.heap.size+1,8,none⟩=some (rK st.syn):=af h2.blk;rw [f1]at q8;have q9:w2.cell? ⟨w.heap.size+1,9,none⟩=some (nr st.nam):=af h2.blk;rw [f2]at q9;have q10:w2.cell? ⟨w.heap.size+1,10,none⟩=some (rK st.nam):=af h2.blk;rw [f2]at q10;have q11:w2.cell? ⟨w.heap.size+1,11,none⟩=some (nr st.num):=af h2.blk;rw [f3]at q11;have q12:w2.cell? ⟨w.heap.size+1,12,none⟩=some (rK st.num):=af h2.blk;rw [f3]at q12;dsimp only [nr,rK,Option.isSome,Option.getD]at q7 q8 q9 q10 q11 q12;have s0:w2.cell? ⟨w.heap.size,0,none⟩=some (.string ⟨#[]⟩):=af g2.1;have s1:w2.cell? ⟨w.heap.size,1,none⟩=some (.slice none 0 0):=af g2.1;have sz0:∀ o,w2.frozen? ⟨w.heap.size,o,none⟩=false:=λ o=>ak g2.1;clear g1 g2 hf2 hs2 hk2 h2 hO2)
   gi_region
   all_goals
    gi_wp2
    have hRD:w.heap.size≠D:=by omega
    obtain⟨W5,hW5⟩:∃ W5,((w2.setCell ⟨w.heap.size,0,none⟩ (.string ⟨#[]⟩)).setCell ⟨w.heap.size,1,none⟩ (.slice none 0 0)).drew=W5:=⟨_,rfl⟩
    have hKf:W5.heap[D]?=some (.deferred (some [])):=by
     rw [<-hW5];show((w2.setCell ⟨w.heap.size,0,none⟩ (.string ⟨#[]⟩)).setCell ⟨w.heap.size,1,none⟩ (.slice none 0 0)).heap[D]?=_;rw [ah (Ne.symm hRD),ah (Ne.symm hRD)];exact(ab G1).1
    have hRf:W5.heap[w.heap.size]?=some (.cells #[.string ⟨#[]⟩,.slice none 0 0] 109 (0,0)):=by
     rw [<-hW5];show((w2.setCell ⟨w.heap.size,0,none⟩ (.string ⟨#[]⟩)).setCell ⟨w.heap.size,1,none⟩ (.slice none 0 0)).heap[w.heap.size]?=_;rw [aB (aB (ab G2).1)];rfl
    have hDW:D<W.heap.size:=ai hK;have hRW:w.heap.size<W.heap.size:=ai hR;rw [hW5];refine⟨by simp,.inl ⟨_,_,rfl,run_takeDeferred hKf,?_⟩⟩
    have hblk:∀ k,k≠w.heap.size->k≠D->(W5.putObj D (.deferred none)).heap[k]?=w2.heap[k]?:=λ k h1 h2=>by
     rw [World.putObj_heap_other h2,<-hW5];show((w2.setCell ⟨w.heap.size,0,none⟩ (.string ⟨#[]⟩)).setCell ⟨w.heap.size,1,none⟩ (.slice none 0 0)).heap[k]?=_;rw [ah h1,ah h1]
    have hR6:(W5.putObj D (.deferred none)).heap[w.heap.size]?=some (.cells #[.string ⟨#[]⟩,.slice none 0 0] 109 (0,0)):=by
     rw [World.putObj_heap_other hRD];exact hRf
    have hs6:(W5.putObj D (.deferred none)).heap.size=w2.heap.size:=by rw [<-hW5];simp [World.setCell,World.drew]
    have hos:(W5.putObj D (.deferred none)).os=w2.os/\(W5.putObj D (.deferred none)).tape=w2.tape/\(W5.putObj D (.deferred none)).output=w2.output:=by rw [<-hW5];exact⟨rfl,rfl,rfl⟩
    obtain⟨W6,hW6⟩:∃ W6,W5.putObj D (.deferred none)=W6:=⟨_,rfl⟩
    rw [hW6]at hblk hR6 hs6 hos ⊢;have u0:W6.cell? ⟨w.heap.size,0,none⟩=some (.string ⟨#[]⟩):=af hR6;have u1:W6.cell? ⟨w.heap.size,1,none⟩=some (.slice none 0 0):=af hR6;refine⟨.tuple #[.agg #[.string ⟨#[]⟩,.slice none 0 0],.int .i64 er,.int .i64 a],by simp [results,results65,go_sem,u0,u1,her],rfl,?_⟩;refine⟨hos.1.trans ((ab CA).os.trans (ab AA).os),hos.2.1.trans ((ab CA).tape.trans (ab AA).tape),hos.2.2.trans ((ab CA).output.trans (ab AA).output),by have h1:=(ab CA).size;have h2:=(ab AA).size;omega,λ k hk=>?_⟩;rw [hblk k (by omega) (by omega),(ab CA).block k (by omega) ((ab hOlow) k hk)];exact(ab AA).block k hk
  case stop=>intro D c pre W _ _ h _;exact h.elim
theorem J1(a b:List UInt8):gA (a++b)=gA a++gA b:=by
 have h:(gA a++gA b).data=(gA (a++b)).data:=by rw [ByteArray.data_append];simp
 cases hx:gA a++gA b with
 | mk d=>rw [hx]at h;simp only at h;rw [h]
