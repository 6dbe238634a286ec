/- part -/
import Derived.Test.YtphhnjljlllnlaaGreatDoorSidP
set_option maxRecDepth 100000
set_option maxHeartbeats 4000000
namespace Go.Proofs.YtphhnjljlllnlaaGreatDoor
open Go.Proofs.Tryz
open Or
open Go.RowKit
open Go.RowKit Go.Shelf
theorem JF{W:World}{b:Nat}{r:Rt}{pv mv:Value}(h:dp W b r pv mv):f9 W mv r.marks:=by
 rcases h.marks.2 with⟨h1,h0⟩|⟨g,cap,cur,hv,_,hg,hnc,_,hcs,htk⟩
 ·have hnil:r.marks=[]:=List.length_eq_zero_iff.mp h0;exact⟨none,0,by rw [h1,hnil];rfl,inl hnil⟩
 refine⟨_,_,hv,inr ⟨g,0,rfl,ah hg,λ j hj=>?_⟩⟩;rw [ag hg];have h2:(cur.toList.take (r.marks.length*1))[j]?=some (.int .i64 r.marks[j]):=by rw [htk];simp [aB,hj]
 rw [List.getElem?_take,aS (by omega)]at h2;simpa using h2
theorem Gd(V:World)(mv:Value)(l:List Int)(n:Int)(hp:f9 V mv l)(hl:l.length<=8) :
  Calls prog 293 #[mv,.int .i64 n] V λ e V'=>(∃ k:Int,e=.returned (.int .i64 k) /\ -1<=k/\k<=8/\(0<=k↔n∈l))/\Below V.heap.size V V':=by
 obtain⟨p,c,rfl,hr⟩:=hp;have HR:=af hr;clear hr;have hN:(l.length:Int)<=8:=by omega
 go_enter func293,ntmps293;go_wp2_with fail;go_loopw [8] (λ i wr=>∃ j:Nat,j<=l.length/\i=.int .i64 (j:Nat)/\Hid (∀ k,(h:k<l.length)->k<j->n≠l[k])/\Below V.heap.size V wr) (λ i _=>l.length-(intOf i).toNat)
 case atStart=>exact⟨0,dG _,rfl,λ k _ hk=>absurd hk (Nat.not_lt_zero _),aY _ _⟩
 case round =>
  obtain⟨j,hj,rfl,HF,hbl⟩:=hrel;have HB:=af hbl;clear hbl;by_cases hlt:j<l.length
  ·rcases ae HR with h|⟨b,o,rfl,hb,hcc⟩
   ·rw [h]at hlt;simp at hlt
   have hcl:=((ae HB).cell (p:=⟨b,o+j,none⟩) hb).trans (hcc j hlt);clear hcc;by_cases he:n=l[j]
   ·have hb1:(n==l[j])=true:=by simpa using he
    have HM:=af (show n∈l by rw [he];exact ej _);clear he;go_wp2_with fail;go_ret;exact⟨⟨(j:Int),rfl,by omega,by omega,λ _=>ae HM,λ _=>by omega⟩,ae HB⟩
   have hb1:(n==l[j])=false:=by simpa using he
   have AA:Hid (∀ k,(h:k<l.length)->k<j+1->n≠l[k]):=λ k hk hk2=>by
    rcases Nat.lt_or_ge k j with h1|h1
    ·exact(ae HF) k hk h1
    obtain rfl:k=j:=by omega
    exact he
   clear he;go_wp2_with fail;exact⟨⟨j+1,by omega,by go_num,AA,ae HB⟩,by simp [intOf];omega⟩
  have AA:Hid (¬n∈l):=λ hm=>by
   obtain⟨k,hk,he⟩:=List.mem_iff_getElem.1 hm;exact(ae HF) k hk (by omega) he.symm
  go_wp2_with fail;go_ret;exact⟨⟨-1,rfl,by omega,by omega,λ h=>by omega,λ h=>absurd h (ae AA)⟩,ae HB⟩
theorem yp(V:World)(mv:Value)(l:List Int)(n:Int)(hp:f9 V mv l)(hl:l.length<=8) :
  Calls prog 290 #[mv,.int .i64 n] V λ e V'=>e=.returned (.bool (l.contains n))/\Below V.heap.size V V':=by
 have HI:=af (Gd V mv l n hp hl);obtain⟨p,c,rfl,_⟩:=hp;clear hl;go_enter func290,ntmps290;go_wp2_with (go_at_call 293;refine(ae HI).mono ?_;clear HI;rintro e w1 ⟨⟨k,rfl,hk1,hk2,hk⟩,hb1⟩;have HX:=af (And.intro hk hb1);clear hk hb1)
 go_ret;refine⟨aO ?_,(ae HX).2⟩;rw [Bool.eq_iff_iff,List.contains_iff_mem,<-(ae HX).1];simp
theorem Dg(W:World)(b:Nat)(r:Rt)(pv mv:Value)(h:dp W b r pv mv)(B1:Nat)(n:Int)(c1:W.cell? ⟨B1,0,none⟩=some (.int .i64 n)) :
  Calls prog 289 (#[au b 0]++#[au B1 0]) W λ e W'=>e=.returned (jX (nN n r))/\Below W.heap.size W W':=by
 have r3:W.cell? ⟨b,3,none⟩=some mv:=ag h.blk;have HP:=af (JF h);have hn:=h.n2;have HA:=af (λ(V:World) (hV:Below W.heap.size W V)=>yp V mv r.marks n ((ae HP).below hV) hn);obtain⟨a,c,hmv⟩:=al h.marks;have EQ:Hid (jX (nN n r)=.tuple #[.bool (r.marks.contains n),.bool true]):=rfl;clear h hn HP;rw [ae EQ];subst hmv;generalize r.marks.contains n=M at *;go_enter func289,ntmps289;go_wp2_with fail;go_region_with (go_at_call 290;refine((ae HA) _ (aY _ _).drew).mono ?_;rintro e w1 ⟨rfl,hb1⟩;have AA:=af (((aY W.heap.size W).drew).trans (hb1.mono (aL _)));clear hb1)
 all_goals
  go_wp2_with fail
  go_ret2
  exact⟨rfl,ae AA⟩
theorem Tryz.entMarked:Enters prog 289:=enters_of func289 (by kernel_rfl) rfl
theorem Az(w:World)(n:Int) :
  Calls prog 280 #[.int .i64 n] w λ e w'=>e=.returned (.func (.func 289) #[] #[au w.heap.size 0])/\w'=w.alloc (aE (.int .i64 n) 3):=by
 have hmf:∀(fn:Fn) (first cap:Array Value) (w:World),(Instr.makeFunc fn first cap).run prog w=.ok (.func fn first cap) w:=λ _ _ _ _=>rfl
 go_enter func280,ntmps280;go_wp2_with fail;go_ret;exact⟨rfl,rfl⟩
theorem Df(w:World)(n:Int)(A:Nat->Prop)(hA:∀ k,w.heap.size<=k->A k) :
  Calls prog 280 #[.int .i64 n] w λ e w'=>∃ v,e=.returned v/\w'=w.alloc (aE (.int .i64 n) 3)/\gJ w' A v (some (nN n)):=by
 refine(Az w n).mono ?_;rintro e w' ⟨rfl,rfl⟩;refine⟨_,rfl,rfl,ax.new (λ k=>k=w.heap.size) (λ k hk=>⟨by subst hk;simp,hA k (by omega)⟩) (λ W _ hk=>?_)⟩;exact⟨_,_,rfl,Tryz.entMarked,λ b r pv mv hr=>Dg W b r pv mv hr _ n (ag ((hk _ rfl).trans (cM w _)))⟩
theorem BZ{pb:Nat}{ts:List ak}(ht:bY ts){w:World}{st:RS}{D O:Nat->Prop}(h:RA w pb ts st D O)(hk:Ok ts st)(e25:an ts st=25) :
  Calls prog 262 #[au pb 0] w (lF pb ts w D O ((aM ts 0 65535 (b9 ts st)).1,some (nN (aM ts 0 65535 (b9 ts st)).2))):=by
 have HR:=af h;have HF:=af (dw O w);have HK:=af hk;have HT:=af ht;have HE:=af e25;have n21:=af (show an ts st≠21 by rw [e25];decide);have n23:=af (show an ts st≠23 by rw [e25];decide);have HG:=af (bV hk ht e25 (by decide));have AA:=af (gO (a:=0) (b:=65535) (ae HG) ht);have HM:=af (λ(W:World) (O:Nat->Prop) (h:RA W pb ts (b9 ts st) D O)=>uo ht h (ae HG));clear h hk ht e25;generalize aM ts 0 65535 (b9 ts st)=P at *;obtain⟨s1,x1⟩:=P;dsimp only at AA HM ⊢;go_enter func262,ntmps262
 go_wp2_with (first
  | (go_at_call 137;refine(aH (ae HR) (ae HK) (ae HT) 21 (ae n21)).mono ?_;rintro e w1 ⟨rfl,hr1,hf1⟩;replace HR:=af hr1;replace HF:=af ((ae HF).trans hf1);clear hr1 hf1 n21)
  | (go_at_call 137;refine(aH (ae HR) (ae HK) (ae HT) 23 (ae n23)).mono ?_;rintro e w1 ⟨rfl,hr1,hf1⟩;replace HR:=af hr1;replace HF:=af ((ae HF).trans hf1);clear hr1 hf1 n23)
  | (go_at_call 137;refine(bP (ae HR) (ae HK) (ae HT) 25 (ae HE)).mono ?_;rintro e w1 ⟨rfl,O1,hr1,hf1⟩;replace HR:=af hr1;replace HF:=af ((ae HF).trans hf1);clear hr1 hf1)
  | (go_at_call 150;refine((ae HM) _ _ (ae HR)).mono ?_;clear HM;rintro e w2 ⟨rfl,O2,hr2,hf2⟩;replace HR:=af hr2;replace HF:=af ((ae HF).trans hf2);clear hr2 hf2)
  | (go_at_call 280;refine(Df _ x1 _ ((ae HR).newFree (ae HF))).mono ?_;rintro e w4 ⟨v4,rfl,rfl,hv4⟩;have BA:=af hv4;replace HR:=af ((ae HR).alloc (aE (.int .i64 x1) 3));replace HF:=af ((ae HF).alloc (aE (.int .i64 x1) 3));have hfv:=hv4.fnv;clear hv4))
 rcases hfv with⟨f1,f2,f3,rfl⟩|rfl <;>
 ·go_wp2_with fail;go_ret;exact⟨_,_,rfl,ae HR,ae HF,ae BA,ae AA⟩
theorem Kz{pb:Nat}{ts:List ak}(ht:bY ts){cnd:RS->Option (RS×Option aR)}(IC:fi 187 pb ts cnd){w:World}{st s1:RS}{c:Option aR}{D O:Nat->Prop}(h:RA w pb ts st D O)(hk:Ok ts st)(e31:an ts st=31)(hc:cnd (ft ts 31 st)=some (s1,c)) :
  Calls prog 262 #[au pb 0] w (lF pb ts w D O (ka ts 32 s1,c)):=by
 have HR:=af h;have HF:=af (dw O w);have HK:=af hk;have HT:=af ht;have HE:=af e31;have n21:=af (show an ts st≠21 by rw [e31];decide);have n23:=af (show an ts st≠23 by rw [e31];decide);have n25:=af (show an ts st≠25 by rw [e31];decide);have CA:=af (nj (k:=31) hk ht (by decide));have BA:=af IC;have HC:=af hc;clear h hk ht e31 IC hc;go_enter func262,ntmps262
 go_wp2_with (first
  | (go_at_call 137;refine(aH (ae HR) (ae HK) (ae HT) 21 (ae n21)).mono ?_;rintro e w1 ⟨rfl,hr1,hf1⟩;replace HR:=af hr1;replace HF:=af ((ae HF).trans hf1);clear hr1 hf1 n21)
  | (go_at_call 137;refine(aH (ae HR) (ae HK) (ae HT) 23 (ae n23)).mono ?_;rintro e w1 ⟨rfl,hr1,hf1⟩;replace HR:=af hr1;replace HF:=af ((ae HF).trans hf1);clear hr1 hf1 n23)
  | (go_at_call 137;refine(aH (ae HR) (ae HK) (ae HT) 25 (ae n25)).mono ?_;rintro e w1 ⟨rfl,hr1,hf1⟩;replace HR:=af hr1;replace HF:=af ((ae HF).trans hf1);clear hr1 hf1 n25)
  | (go_at_call 90;refine(cY (ae HR) (ae HK) (ae HT) (ae HE)).mono ?_;rintro e w1 ⟨rfl,hr1,hf1⟩;replace HR:=af hr1;replace HF:=af ((ae HF).trans hf1);clear hr1 hf1)
  | (go_at_call 220;refine(nk (ae HR) (ae HK) (ae HT) 31).mono ?_;rintro e w2 ⟨rfl,O2,hr2,hf2⟩;replace HR:=af hr2;replace HF:=af ((ae HF).trans hf2);clear hr2 hf2))
 refine((ae BA) _ _ _ _ _ (ae HR) (ae CA) (ae HC)).mono ?_;rintro e w3 ⟨v,O3,rfl,hr3,hf3,hv3,hk3⟩;have hfv:=hv3.fnv;have HV:=af (hv3.fr (dw _ _) (ae HF).size);have AA:=af hk3;replace HR:=af hr3;replace HF:=af ((ae HF).trans hf3);clear hr3 hf3 hv3 hk3;rcases hfv with⟨f1,f2,f3,rfl⟩|rfl <;>
 ·go_wp2_with (go_at_call 221;refine(qk (ae HR) (ae AA) (ae HT) 32).mono ?_;rintro e w4 ⟨rfl,O4,hr4,hf4⟩;replace HR:=af hr4;replace HV:=af ((ae HV).fr hf4 (aL _));replace HF:=af ((ae HF).trans hf4);clear hr4 hf4)
  go_ret;exact⟨_,_,rfl,ae HR,ae HF,ae HV,qj (ae AA) (ae HT) (by decide)⟩
theorem Ma{pb:Nat}{ts:List ak}(ht:bY ts){nt:RS->Option (RS×Option aR)}(IH:fi 244 pb ts nt){w:World}{st s1:RS}{c:Option aR}{D O:Nat->Prop}(h:RA w pb ts st D O)(hk:Ok ts st)(e20:an ts st=20)(hc:nt (ft ts 20 st)=some (s1,c)) :
  Calls prog 244 #[au pb 0] w (lF pb ts w D O (IW s1,c.map Dx)):=by
 have HR:=af h;have HF:=af (dw O w);have HK:=af hk;have HT:=af ht;have HE:=af e20;have AA:=af (nj (k:=20) hk ht (by decide));have HI:=af IH;have HC:=af hc;clear h hk ht e20 IH hc;go_enter func244,ntmps244
 go_wp2_with (first
  | (go_at_call 90;refine(cY (ae HR) (ae HK) (ae HT) (ae HE)).mono ?_;rintro e w1 ⟨rfl,hr1,hf1⟩;replace HR:=af hr1;replace HF:=af ((ae HF).trans hf1);clear hr1 hf1)
  | (go_at_call 220;refine(nk (ae HR) (ae HK) (ae HT) 20).mono ?_;rintro e w2 ⟨rfl,O2,hr2,hf2⟩;replace HR:=af hr2;replace HF:=af ((ae HF).trans hf2);clear hr2 hf2))
 refine((ae HI) _ _ _ _ _ (ae HR) (ae AA) (ae HC)).mono ?_;rintro e w3 ⟨v,O3,rfl,hr3,hf3,hv3,hk3⟩;have HV:=af (hv3.fr (dw _ _) (ae HF).size);have BA:=af hk3;replace HR:=af hr3;replace HF:=af ((ae HF).trans hf3);clear hr3 hf3 hv3 hk3;go_wp2_with fail;refine(L7 _ _ _ _ ((ae HR).newFree (ae HF)) (ae HV)).mono ?_;rintro e w4 ⟨v4,rfl,hw4,hv4⟩;have hfv:=hv4.fnv;have CA:=af hv4;have hR4:=(ae HR).alloc (aE v 276);have hF4:=(ae HF).alloc (aE v 276);rw [<-hw4]at hR4 hF4;replace HR:=af hR4;replace HF:=af hF4;obtain⟨_,_,d1,zd1,_⟩:=hR4.cells;clear hv4 hR4 hF4 hw4;rcases hfv with⟨f1,f2,f3,rfl⟩|rfl <;>
 ·go_wp2_with fail;go_ret;exact⟨_,_,rfl,(ae HR).putDepth _,(ae HF).setCell (inl (ae HR).own) _,(ae CA).fr ((dw _ _).setCell (inl (ae HR).own) _) (aL _),Lp (ae BA)⟩
theorem JP{pb:Nat}{ts:List ak}(ht:bY ts){w:World}{st:RS}{D O:Nat->Prop}{r:RS×Option aR}(h:RA w pb ts st D O)(hk:Ok ts st)(e20:an ts st≠20)(hT:∀ W,RA W pb ts st D O->Calls prog 262 #[au pb 0] W (lF pb ts W D O r)) :
  Calls prog 244 #[au pb 0] w (lF pb ts w D O r):=by
 have BA:=af hT;have HR:=af h;have HF:=af (dw O w);have HK:=af hk;have HT:=af ht;have b20:(an ts st != 20)=true:=by simpa using e20
 clear h hk ht hT e20;go_enter func244,ntmps244;go_wp2_with (go_at_call 90;refine(cY (ae HR) (ae HK) (ae HT) rfl).mono ?_;rintro e w1 ⟨rfl,hr1,hf1⟩;replace HR:=af hr1;replace HF:=af ((ae HF).trans hf1);clear hr1 hf1)
 refine((ae BA) _ (ae HR)).mono ?_;rintro e w2 ⟨v,O2,rfl,hr2,hf2,hv2,hk2⟩;have HV:=af (hv2.fr (dw _ _) (ae HF).size);have AA:=af hk2;replace HR:=af hr2;replace HF:=af ((ae HF).trans hf2);clear hr2 hf2 hv2 hk2;go_wp2_with fail;go_ret;exact⟨_,_,rfl,ae HR,ae HF,ae HV,ae AA⟩
theorem AV{pb:Nat}{ts:List ak}(ht:bY ts){sum:RS->Option (RS×Option bh)}(IS:gA pb ts sum)(n:Nat):∀ f,fi 244 pb ts (gw ts n sum f)
 | 0=>λ w st D O r h hk hr=>by cases hr
 | f+1=>λ w st D O r h hk hr=>by
  have IH:=AV ht IS n f;rw [gw]at hr;by_cases e20:an ts st=20
  ·rw [aS e20]at hr;cases h1:gw ts n sum f (ft ts 20 st)with
   | none=>rw [h1]at hr;cases hr
   | some p =>
    obtain⟨s1,c⟩:=p;rw [h1]at hr;cases hr
    exact Ma ht IH h hk e20 h1
  rw [aG e20]at hr;refine JP ht h hk e20 (λ W hW=>?_);by_cases e21:an ts st=21
  ·rw [aS e21]at hr;cases hr
   exact KD ht hW hk e21
  rw [aG e21]at hr;by_cases e23:an ts st=23
  ·rw [aS e23]at hr;cases hr
   exact Hv ht hW hk e23
  rw [aG e23]at hr;by_cases e25:an ts st=25
  ·rw [aS e25]at hr;cases hr
   exact BZ ht hW hk e25
  rw [aG e25]at hr;by_cases e31:an ts st=31
  ·rw [aS e31]at hr;cases h1:jW ts (gw ts n sum f) n (ft ts 31 st)with
   | none=>rw [h1]at hr;cases hr
   | some p =>
    obtain⟨s1,c⟩:=p;rw [h1]at hr;cases hr
    exact Kz ht (qP ht IH n) hW hk e31 h1
  rw [aG e31]at hr;exact BY ht (pJ ht IS) hW hk hr e21 e23 e25 e31
attribute [local go_sem] Oper.semAt_some
theorem gB(a b:List UInt8):br (a++b)=br a++br b:=by
 have h:(br a++br b).data=(br (a++b)).data:=by rw [ByteArray.data_append];simp
 cases hx:br a++br b with
 | mk d=>rw [hx]at h;simp only at h;rw [h]
theorem fy{u:Nat}(h:u<10):Lib.decDigits u=[UInt8.ofNat (48+u)]:=by rw [dW,aS h]
theorem N6:Lib.decDigits 16=[49,54]:=by rw [dW,aG (by decide),fy (by decide)];rfl
theorem N7:Lib.decDigits 24=[50,52]:=by rw [dW,aG (by decide),fy (by decide)];rfl
theorem N5:Lib.decDigits 10=[49,48]:=by rw [dW,aG (by decide),fy (by decide)];rfl
theorem Oi:jn ⟨10,0,0,0⟩ 8=[49,48,46,48,46,48,46,48,47,56]:=by
 simp only [jn,nY,N5,fy (u:=0) (by decide),fy (u:=8) (by decide)];rfl
theorem Ib:(wd 0).data.toList=[115,101,116]/\(wd 1).data.toList=[119,97,121]/\(wd 2).data.toList=[97,99,99,101,112,116]/\(wd 3).data.toList=[114,101,106,101,99,116]/\(wd 6).data.toList=[109,97,114,107]/\(wd 7).data.toList=[117,110,109,97,114,107]/\(wd 8).data.toList=[112,114,101,112,101,110,100]/\(wd 9).data.toList=[105,102]/\(wd 10).data.toList=[116,104,101,110]/\(wd 11).data.toList=[101,108,115,101]:=by decide +kernel
def MT:List UInt8:=[115,101,116,32,115,32,61,32,123,32,49,48,46,48,46,48,46,48,47,56,32,49,54,32,50,52,32,125,59,32,119,97,121,32,119,32,61,32,49,32,46,32,42,59,32]
theorem FV(l:List Pc):aD (NW++l)=MT++aD l:=by
 rw [j6]
 congr 1
 simp only [NW,aD,fH,gN,sJ,OH,r7,xP,Ib.1,Ib.2.1,N6,N7,Oi,fy (u:=1) (by decide)]
 rfl
theorem Tc.hd(q:Tc)(R:List Pc):aD (q.pc R)=aD (q.pc [])++aD R:=by
 cases q with
 | one a=>exact a.hd R
 | or a b =>
  show aD (a.pc (.sp::fH 13::.sp::b.pc R))=aD (a.pc (.sp::fH 13::.sp::b.pc []))++_;rw [a.hd,a.hd (.sp::fH 13::.sp::b.pc [])];simp only [aD,fH];rw [b.hd];simp
def Tc.bs(q:Tc):List UInt8:=aD (q.pc [])
theorem At(q:Tc)(R:List Pc):aD (NW++(fH 9::.sp::q.pc (.sp::fH 10::.sp::R)))=MT++([105,102,32]++(q.bs++([32,116,104,101,110,32]++aD R))):=by
 rw [FV]
 congr 1
 show(wd 9).data.toList++32::aD (q.pc _)=_;rw [q.hd,Ib.2.2.2.2.2.2.2.1];simp only [aD,fH,Ib.2.2.2.2.2.2.2.2.1,Tc.bs];simp
theorem Bg{s:ByteArray}{ts:List ak}(hts:fJ s=ts)(hs:s.size<=600){ms:List aJ}{f:Nat}{st:RS}(hp:mf ts 100 20 (oo ts f) qE=some (st,ms.map some))(f1:st.syn=none)(f2:st.nam=none)(f3:st.num=none)(hpage:st.page≠[]):oT s ms:=by
 intro w ht;subst hts;obtain⟨h1,h2⟩:=Eu hs;have IS:∀ pb,gA pb (fJ s) (iQ (fJ s)):=λ pb=>vh h1 100 20
 have IH:∀ pb,ib pb (fJ s) (oo (fJ s) f):=λ pb =>
  xH h1 100 (by decide) H8 (λ _=>qc) (λ _=>oC) (λ _=>p8) (IS pb) (qP h1 (AV h1 (IS pb) 100 20) 100) f
 exact Bh s hs w ht h1 h2 (λ pb W O h hk=>yR h1 (Is s) (IH pb) 100 20 (by decide) (rD h1 100 (by decide) 20) h hk rfl hp) f1 f2 f3 (pD ms) hpage
theorem OQ(R:List Pc):sP (.sp::R):=kc R
abbrev sO(r:Rt)(pv mv:Value):Value:=.agg #[.int .i64 r.addr,.int .i64 r.len,pv,mv,.int .i64 r.pref,.int .i64 r.med]
abbrev dS(r:Rt)(pv mv:Value):Obj:=.cells #[.int .i64 r.addr,.int .i64 r.len,pv,mv,.int .i64 r.pref,.int .i64 r.med] 65
theorem bk{w:World}{x:Value}{m:Nat}{news:List Value}(h:eP w x m news):∃ a n c,x=.slice a n c:=by
 rcases h with⟨h,_⟩|⟨ad,c,h,_⟩
 ·exact⟨_,_,_,h⟩
 exact⟨_,_,_,h⟩
theorem bf{w:World}{v:Value}{l:List Int}(h:aA w v l):eP w v l.length (aB l):=by
 obtain⟨p,c,rfl,hcap,hl,hin,hr⟩:=h;rcases hr with⟨rfl,h0⟩|⟨b,o,rfl,hb,hc⟩
 ·cases p with
  | none=>exact inl ⟨by rw [h0 rfl];rfl,rfl,rfl⟩
  | some ad=>exact inr ⟨ad,c,rfl,λ j u hu=>by simp [aB]at hu⟩
 refine inr ⟨⟨b,o,none⟩,c,rfl,λ j u hu=>?_⟩;rw [aB,List.getElem?_map]at hu;obtain⟨x,hx,rfl⟩:=Option.map_eq_some_iff.1 hu
 have hj:j<l.length:=by
  rcases Nat.lt_or_ge j l.length with h|h
  ·exact h
  rw [List.getElem?_eq_none h]at hx;cases hx
 rw [gW hj]at hx;cases hx
 have e:(⟨b,o,none⟩:Addr).add j=⟨b,o+j,none⟩:=by unfold Addr.add;split<;>simp_all
 rw [e];exact hc j hj
theorem pP(l:List Int):∀ u∈aB l,u.oneCell'=true:=λ u hu=>by
 obtain⟨x,_,rfl⟩:=List.mem_map.1 hu;rfl
theorem rf{w:World}{b:Nat}{r:Rt}{pv mv:Value}(h:w.heap[b]?=some (dS r pv mv)) :
  w.cell? ⟨b,0,none⟩=some (.int .i64 r.addr)/\w.cell? ⟨b,1,none⟩=some (.int .i64 r.len)/\w.cell? ⟨b,2,none⟩=some pv/\w.cell? ⟨b,3,none⟩=some mv/\w.cell? ⟨b,4,none⟩=some (.int .i64 r.pref)/\w.cell? ⟨b,5,none⟩=some (.int .i64 r.med)/\∀ o,w.frozen? ⟨b,o,none⟩=false :=
 ⟨ag h,ag h,ag h,ag h,ag h,ag h,λ _=>aj h⟩
theorem Tryz.infoIntR:(prog.info? 3).map (λ i=>(i.zero,i.size,i.bytes))=some (some (.int .i64 0),1,8):=by kernel_rfl
theorem wK{w W w1:World}{c c':Array Value}{o:Nat}{v:Value}{R:Obj}{n:Nat}{l:List Int}(hB:Below w.heap.size w W)(hq:W.heap[w.heap.size]?=some (.cells c 65 (0,0)))(hr:W.heap[w.heap.size+1]?=some R)(hown:w1.ownsRow w.heap.size 3 1 v n (aB l))(hg:W.grownBy w1 none)(hat:v.ownBlock=none\/v.ownBlock=some W.heap.size)
  (hc:c.setIfInBounds o v=c') :
  (w1.cell? ⟨w.heap.size,o,none⟩=c[o]?/\w1.frozen? ⟨w.heap.size,o,none⟩=false)/\(w1.setCell ⟨w.heap.size,o,none⟩ v).heap[w.heap.size]?=some (.cells c' 65 (0,0))/\(w1.setCell ⟨w.heap.size,o,none⟩ v).heap[w.heap.size+1]?=some R/\(w1.setCell ⟨w.heap.size,o,none⟩ v).ownsRow w.heap.size 3 1 v n (aB l)/\Below w.heap.size w (w1.setCell ⟨w.heap.size,o,none⟩ v)/\(∀ k,k<W.heap.size->k≠w.heap.size->(w1.setCell ⟨w.heap.size,o,none⟩ v).heap[k]?=W.heap[k]?)/\W.heap.size<=(w1.setCell ⟨w.heap.size,o,none⟩ v).heap.size:=by
 have lq:=ah hq;have lr:=ah hr
 have hold:∀ k,k<W.heap.size->k≠w.heap.size->(w1.setCell ⟨w.heap.size,o,none⟩ v).heap[k]?=W.heap[k]?:=λ k hk hn=>by
  rw [ai hn,hg.block k hk (λ e=>by cases e)]
 have hq1:w1.heap[w.heap.size]?=some (.cells c 65 (0,0)):=(hg.block _ lq (λ e=>by cases e)).trans hq;refine⟨⟨ag hq1,aj hq1⟩,by rw [aV hq1,hc],(hold _ lr (by omega)).trans hr,ay hown (λ k e=>ai (λ e2=>?_)),?_,hold,by have:=hg.size;simp [World.setCell];omega⟩
 ·have e3:k=w.heap.size:=e2;rcases hat with h1|h1
  ·rw [h1]at e;cases e
  rw [h1]at e;cases e;omega
 exact(hB.grown hg hB.size (λ k e=>by cases e)).setCell (p:=⟨w.heap.size,o,none⟩) (aL _) v
theorem Ab(r:Rt)(pv mv:Value)(w:World)(hp:aA w pv r.path)(hm:aA w mv r.marks)(n1:r.path.length<=12)(n2:r.marks.length<=8) :
  Calls prog 39 #[sO r pv mv] w λ e w'=>∃ pv' mv',e=.returned (sO r pv' mv')/\w'.ownsRow w.heap.size 3 1 pv' r.path.length (aB r.path)/\w'.ownsRow w.heap.size 3 1 mv' r.marks.length (aB r.marks)/\(pv'.ownBlock=none\/pv'.ownBlock≠mv'.ownBlock)/\Below w.heap.size w w':=by
 obtain⟨i0,hi0,hz0,hz1,hz2⟩:=info_parts Tryz.infoIntR;obtain⟨a1,b1,c1,hpv⟩:=bk (bf hp);obtain⟨a2,b2,c2,hmv⟩:=bk (bf hm);have r0:Rt:=⟨0,0,[],[],0,0⟩
 obtain⟨W0,hW0⟩:∃ W0,(w.alloc (dS r pv mv)).alloc (.cells #[.int .i64 0,.int .i64 0,.slice none 0 0,.slice none 0 0,.int .i64 0,.int .i64 0] 65)=W0:=⟨_,rfl⟩
 have hb0:Below w.heap.size w W0:=by rw [<-hW0];exact((aY _ _).alloc (aL _) _).alloc (by rw [World.size_alloc];omega) _
 obtain⟨q1,q2,qs⟩:=fp w (dS r pv mv) (.cells #[.int .i64 0,.int .i64 0,.slice none 0 0,.slice none 0 0,.int .i64 0,.int .i64 0] 65);rw [hW0]at q1 q2 qs;have HP:=af (bf (hp.below hb0));have HM:=af hm;have GA:=af hb0;obtain⟨c0,c1',c2',c3,c4,c5,cz⟩:=rf q1;have MA:=af q1;have NA:=af q2;clear hp hm hb0 q1 q2;subst hpv hmv;go_enter func39,ntmps39
 go_wp2_with (first
  | (at_builtin;refine bC rfl _ _ _ rfl w.heap.size 3 i0 _ 1 8 underlying22 hi0 hz0 hz1 hz2 rfl (by omega) (.slice none 0 0) 0 [] rfl (i7 _ _ _ _) (.slice a1 b1 c1) r.path.length (aB r.path) rfl (ae HP) (by simp [aB]) (pP _) (by unfold maxLen;omega) (by omega) (by omega) ?_;intro v1 w1 hown1 hgrow1 hat1;rw [List.nil_append,Nat.zero_add]at hown1;obtain⟨⟨d2,dz⟩,e1,e2,e3,e4,e5,e6⟩:=wK (o:=2) (ae GA) (ae MA) (ae NA) hown1 hgrow1 hat1 rfl;obtain⟨fa,fc,hfv⟩:=al hown1;have HA:=af e1;have IA:=af e2;have BA:=af e3;have DA:=af e4;have OA:=af e5;have EA:=af e6;have CA:=af hat1;have FA:=af (bf ((ae HM).below (ae DA)));obtain⟨g0,g1,g2,g3,g4,g5,gz⟩:=rf (r:=r) (pv:=v1) e1;clear HP HM hown1 hgrow1 hat1 e1 e2 e3 e4 e5 e6 c0 c1' c2' c3 c4 c5 cz;subst hfv)
  | (at_builtin;refine bC rfl _ _ _ rfl w.heap.size 3 i0 _ 1 8 underlying22 hi0 hz0 hz1 hz2 rfl (by omega) (.slice none 0 0) 0 [] rfl (i7 _ _ _ _) (.slice a2 b2 c2) r.marks.length (aB r.marks) rfl (ae FA) (by simp [aB]) (pP _) (by unfold maxLen;omega) (by omega) (by have h1:=ae EA;omega) ?_;intro v2 w2 hown2 hgrow2 hat2;rw [List.nil_append,Nat.zero_add]at hown2;obtain⟨⟨d3,dz3⟩,k1,k2,k3,k4,k5,k6⟩:=wK (o:=3) (ae DA) (ae HA) (ae IA) hown2 hgrow2 hat2 rfl;obtain⟨fa2,fc2,hfv2⟩:=al hown2;have PA:=af k1;have QA:=af k2;have JA:=af k3;have KA:=af k4;have LA:=af k5;have AA:=af hat2;obtain⟨m0,m1,m2,m3,m4,m5,mz⟩:=rf (r:=r) (mv:=v2) k1;obtain⟨z0,z1,z2,z3,z4,z5,zz⟩:=rf (r:=⟨0,0,[],[],0,0⟩) (pv:=.slice none 0 0) (mv:=.slice none 0 0) k2;clear FA hown2 hgrow2 hat2 k1 k2 k3 k4 k5 k6 g0 g1 g2 g3 g4 g5 gz;subst hfv2))
 have hR:∀(X:World) (v0 v1 v2 v3 v4 v5:Value) (k:Nat),k≠w.heap.size+1->((((((X.setCell ⟨w.heap.size+1,0,none⟩ v0).setCell ⟨w.heap.size+1,1,none⟩ v1).setCell ⟨w.heap.size+1,2,none⟩ v2).setCell ⟨w.heap.size+1,3,none⟩ v3).setCell ⟨w.heap.size+1,4,none⟩ v4).setCell ⟨w.heap.size+1,5,none⟩ v5).heap[k]?=X.heap[k]?:=λ X v0 v1 v2 v3 v4 v5 k hk=>by
  rw [ai hk,ai hk,ai hk,ai hk,ai hk,ai hk]
 refine gH (v:=sO r (.slice fa r.path.length fc) (.slice fa2 r.marks.length fc2)) (by simp [results,results39,go_sem,z0,z1,z2,z3,z4,z5]) rfl ⟨_,_,rfl,?_,?_,?_,?_⟩
 ·refine ay (ae BA) (λ k e=>?_)
  have hk:w.heap.size+2<=k:=by
   rcases ae CA with h1|h1
   ·rw [h1]at e;cases e
   rw [h1]at e;cases e;omega
  rw [hR _ _ _ _ _ _ _ k (by omega),(ae LA) k ((ae BA).lt k e).2 (by omega)]
 ·refine ay (ae JA) (λ k e=>?_)
  have hk:w.heap.size+2<=k:=by
   rcases ae AA with h1|h1
   ·rw [h1]at e;cases e
   rw [h1]at e;cases e;have:=ae EA;omega
  rw [hR _ _ _ _ _ _ _ k (by omega)]
 ·rcases ae CA with h1|h1
  ·exact inl h1
  right;intro e;rw [h1]at e;have h3:=((ae BA).lt _ h1).2;rcases ae AA with h2|h2
  ·rw [h2]at e;cases e
  rw [h2]at e;have e4:=kd e;omega
 refine Below.setCell (p:=⟨w.heap.size+1,5,none⟩) (Below.setCell (p:=⟨w.heap.size+1,4,none⟩) (Below.setCell (p:=⟨w.heap.size+1,3,none⟩) (Below.setCell (p:=⟨w.heap.size+1,2,none⟩) (Below.setCell (p:=⟨w.heap.size+1,1,none⟩) (Below.setCell (p:=⟨w.heap.size+1,0,none⟩) (ae KA) (Nat.le_succ _) _) (Nat.le_succ _) _) (Nat.le_succ _) _) (Nat.le_succ _) _) (Nat.le_succ _) _) (Nat.le_succ _) _
def Bp:Rt:=⟨0,0,[],[],0,0⟩
def dl(ms:List aJ)(r:Rt):Rt×Int:=if(bd ms r).2=1 then((bd ms r).1,1)else(Bp,if(bd ms r).2=3 then 3 else 2)
def mE(w:World)(n0:Nat)(r:Rt)(pv mv:Value):Prop :=
 w.ownsRow 0 3 1 pv r.path.length (aB r.path)/\w.ownsRow 0 3 1 mv r.marks.length (aB r.marks)/\(∀ k,pv.ownBlock=some k->n0<=k)/\(∀ k,mv.ownBlock=some k->n0<=k)/\(pv.ownBlock=none\/pv.ownBlock≠mv.ownBlock)
theorem mE.zero(w:World)(n0:Nat):mE w n0 Bp (.slice none 0 0) (.slice none 0 0) :=
 ⟨i7 _ _ _ _,i7 _ _ _ _,λ k e=>by simp [Value.ownBlock]at e,λ k e=>by simp [Value.ownBlock]at e,inl rfl⟩
theorem bg{X:World}{b k:Nat}{v0 v1 v2 v3 v4 v5:Value}(hk:k≠b):((((((X.setCell ⟨b,0,none⟩ v0).setCell ⟨b,1,none⟩ v1).setCell ⟨b,2,none⟩ v2).setCell ⟨b,3,none⟩ v3).setCell ⟨b,4,none⟩ v4).setCell ⟨b,5,none⟩ v5).heap[k]?=X.heap[k]?:=by
 rw [ai hk,ai hk,ai hk,ai hk,ai hk,ai hk]
theorem gT{X:World}{b:Nat}{c0 c1 c2 c3 c4 c5 v0 v1 v2 v3 v4 v5:Value}{T:TypeId}(h:X.heap[b]?=some (.cells #[c0,c1,c2,c3,c4,c5] T (0,0))):((((((X.setCell ⟨b,0,none⟩ v0).setCell ⟨b,1,none⟩ v1).setCell ⟨b,2,none⟩ v2).setCell ⟨b,3,none⟩ v3).setCell ⟨b,4,none⟩ v4).setCell ⟨b,5,none⟩ v5).heap[b]?=some (.cells #[v0,v1,v2,v3,v4,v5] T (0,0)):=by
 rw [aV (aV (aV (aV (aV (aV h)))))];rfl
theorem fm{w X:World}{n b:Nat}{v0 v1 v2 v3 v4 v5:Value}(h:Below n w X)(hb:n<=b):Below n w ((((((X.setCell ⟨b,0,none⟩ v0).setCell ⟨b,1,none⟩ v1).setCell ⟨b,2,none⟩ v2).setCell ⟨b,3,none⟩ v3).setCell ⟨b,4,none⟩ v4).setCell ⟨b,5,none⟩ v5) :=
 Below.setCell (p:=⟨b,5,none⟩) (Below.setCell (p:=⟨b,4,none⟩) (Below.setCell (p:=⟨b,3,none⟩) (Below.setCell (p:=⟨b,2,none⟩) (Below.setCell (p:=⟨b,1,none⟩) (Below.setCell (p:=⟨b,0,none⟩) h hb _) hb _) hb _) hb _) hb _) hb _
theorem ll{X:World}{b:Nat}{v0 v1 v2 v3 v4 v5:Value}:((((((X.setCell ⟨b,0,none⟩ v0).setCell ⟨b,1,none⟩ v1).setCell ⟨b,2,none⟩ v2).setCell ⟨b,3,none⟩ v3).setCell ⟨b,4,none⟩ v4).setCell ⟨b,5,none⟩ v5).heap.size=X.heap.size:=by simp [World.setCell]
theorem E9{w1 W2:World}{b n:Nat}{r:Rt}{pv mv:Value}(h1:w1.ownsRow n 3 1 pv r.path.length (aB r.path))(h2:w1.ownsRow n 3 1 mv r.marks.length (aB r.marks))(hne:pv.ownBlock=none\/pv.ownBlock≠mv.ownBlock)(hb:W2.heap[b]?=some (dS r pv mv))(ho:∀ k,n<=k->W2.heap[k]?=w1.heap[k]?)(hbn:b<n)(n1:r.path.length<=12)(n2:r.marks.length<=8)(hso:r.marks.Pairwise (· < ·)):dp W2 b r pv mv:=by
 have k1:=aZ h1 (dG n);have k2:=aZ h2 (dG n);exact⟨hb,ay k1 (λ k e=>ho k (h1.lt k e).1),ay k2 (λ k e=>ho k (h2.lt k e).1),λ e=>by have:=(h1.lt b e).1;omega,λ e=>by have:=(h2.lt b e).1;omega,hne,n1,n2,hso⟩
theorem xC{w W0 w1 W2:World}{v0 v1 v2 v3 v4 v5:Value}(h0:Below w.heap.size w W0)(h1:Below W0.heap.size W0 w1)(hW:(((((w1.setCell ⟨w.heap.size+1,0,none⟩ v0).setCell ⟨w.heap.size+1,1,none⟩ v1).setCell ⟨w.heap.size+1,2,none⟩ v2).setCell ⟨w.heap.size+1,3,none⟩ v3).setCell ⟨w.heap.size+1,4,none⟩ v4).setCell ⟨w.heap.size+1,5,none⟩ v5=W2):Below w.heap.size w W2:=by
 rw [<-hW];exact fm (h0.trans (h1.mono h0.size)) (Nat.le_succ _)
theorem Fa{w1:World}{b n:Nat}{T:TypeId}{pv mv:Value}{a c:Nat}{xs ys:List Value}(h1:w1.ownsRow n T 1 pv a xs)(h2:w1.ownsRow n T 1 mv c ys):∀ k,ff b pv mv k->k=b\/n<=k:=by
 intro k h;rcases h with h|h|h
 ·exact inl h
 ·exact inr (h1.lt k h).1
 exact inr (h2.lt k h).1
theorem wM{w W2 w3:World}{O O':Nat->Prop}(h:Below w.heap.size w W2)(hf:Fr O W2 O' w3)(hO:∀ k,k<w.heap.size->¬O k):Below w.heap.size w w3 :=
 ⟨hf.os.trans h.os,hf.tape.trans h.tape,hf.output.trans h.output,gG h.size hf.size,λ k hk=>(hf.block k (gY hk h.size) (hO k hk)).trans (h.block k hk)⟩
theorem Ly{W2 w3:World}{b n:Nat}{O O':Nat->Prop}(hO:∀ k,O k->k=b\/n<=k)(hf:Fr O W2 O' w3):∀ k,O' k->k=b\/n<=k\/W2.heap.size<=k:=by
 intro k h;rcases hf.own k h with h1|h1
 ·rcases hO k h1 with h2|h2
  ·exact inl h2
  exact inr (inl h2)
 exact inr (inr h1)
theorem Ba(w0:World)(K:Nat->Prop)(p:ByteArray)(sv:Value)(ms:List aJ)(hK:∀ k,K k->k<w0.heap.size)(HS:∀ V,w0.heap.size<=V.heap.size->(∀ k,K k->V.heap[k]?=w0.heap[k]?)->iG sv ms K V)
  (w:World) (hw:w0.heap.size<=w.heap.size) (hag:∀ k,K k->w.heap[k]?=w0.heap[k]?) (r:Rt) (pv mv:Value) (hp:aA w pv r.path) (hm:aA w mv r.marks) (n1:r.path.length<=12) (n2:r.marks.length<=8) (hso:r.marks.Pairwise (· < ·)) :
  Calls prog 42 #[.agg #[.string p,sv],sO r pv mv] w λ e w'=>∃ pv' mv',e=.returned (.tuple #[sO (dl ms r).1 pv' mv',.int .i64 (dl ms r).2])/\mE w' w.heap.size (dl ms r).1 pv' mv'/\Below w.heap.size w w':=by
 have UA:=af hso;clear hso
 have hsf:∃ a n c,sv=.slice a n c:=by
  obtain⟨_,vs,_,h2,_⟩:=HS w hw hag;rcases h2 with⟨_,h2⟩|⟨S,cap,h2,_⟩
  ·exact⟨_,_,_,h2⟩
  exact⟨_,_,_,h2⟩
 obtain⟨sa,sn,sc,rfl⟩:=hsf;obtain⟨a1,b1,c1,hpv⟩:=bk (bf hp);obtain⟨a2,b2,c2,hmv⟩:=bk (bf hm);obtain⟨q1,q2,q3,qs⟩:=iR w (.cells #[.string p,.slice sa sn sc] 81) (dS r pv mv) (dS Bp (.slice none 0 0) (.slice none 0 0));obtain⟨W0,hW0⟩:∃ W0,((w.alloc (.cells #[.string p,.slice sa sn sc] 81)).alloc (dS r pv mv)).alloc (dS Bp (.slice none 0 0) (.slice none 0 0))=W0:=⟨_,rfl⟩
 have hb0:Below w.heap.size w W0:=by rw [<-hW0];exact(((aY _ _).alloc (aL _) _).alloc (by rw [World.size_alloc];omega) _).alloc (by rw [World.size_alloc,World.size_alloc];omega) _
 rw [hW0]at q1 q2 q3 qs;have HC:=af (Ab r pv mv W0 (hp.below hb0) (hm.below hb0) n1 n2);obtain⟨c0,c1',c2',c3,c4,c5,cz⟩:=rf q2;have RA:=af q1;have SA:=af q2;have TA:=af q3;have OA:=af hb0;have QA:=af HS;have CA:=af hK;have NA:=af hag;clear hp hm hb0 q1 q2 q3 HS hK hag;subst hpv hmv;have hW0':=hW0;unfold dS Bp at hW0';have KA:=af (show dl ms r=if(bd ms r).2=1 then((bd ms r).1,1)else(Bp,if(bd ms r).2=3 then 3 else 2)from rfl);by_cases v1:(bd ms r).2=1
 ·
  go_enter func42,ntmps42;go_wp2_with fail;refine(ae HC).mono ?_;rintro e w1 ⟨pv1,mv1,rfl,ho1,ho2,hne,hb1⟩;obtain⟨x1,x2,hx⟩:=al ho1;obtain⟨y1,y2,hy⟩:=al ho2;have p1:=(hb1.block (w.heap.size+1) (by omega)).trans (ae SA);have p0:=(hb1.block w.heap.size (by omega)).trans (ae RA);have p2:=(hb1.block (w.heap.size+1+1) (by omega)).trans (ae TA);obtain⟨s0,s1,s2,s3,s4,s5,hz⟩:=rf p1;obtain⟨W2,hW2⟩:∃ W2,(((((w1.setCell ⟨w.heap.size+1,0,none⟩ (.int .i64 r.addr)).setCell ⟨w.heap.size+1,1,none⟩ (.int .i64 r.len)).setCell ⟨w.heap.size+1,2,none⟩ pv1).setCell ⟨w.heap.size+1,3,none⟩ mv1).setCell ⟨w.heap.size+1,4,none⟩ (.int .i64 r.pref)).setCell ⟨w.heap.size+1,5,none⟩ (.int .i64 r.med)=W2:=⟨_,rfl⟩
  have hsW2:W2.heap.size=w1.heap.size:=(by rw [<-hW2];exact ll)
  have o2:∀ k,k≠w.heap.size+1->W2.heap[k]?=w1.heap[k]?:=(λ k hk=>by rw [<-hW2];exact bg hk)
  have e1:W2.heap[w.heap.size+1]?=some (dS r pv1 mv1):=(by rw [<-hW2];exact gT p1)
  have d1:W2.cell? ⟨w.heap.size,1,none⟩=some (.slice sa sn sc):=ag ((o2 _ (by omega)).trans p0);have MA:=af (E9 ho1 ho2 hne e1 (λ k hk=>o2 k (by omega)) (by omega) n1 n2 (ae UA));have JA:=af ((o2 _ (by omega)).trans p2);have EA:=af (xC (ae OA) hb1 hW2);have BA:=af (Fa (b:=w.heap.size+1) ho1 ho2);have hsz2:=hb1.size;clear p0 p1 p2 o2 e1 ho1 ho2 hne hb1;subst hx hy;go_wp2_with fail;have FA:=af (kz w0 K (.slice sa sn sc) ms (ae CA) (ae QA) W2 (by omega) (λ k hk=>((ae EA).block k (by have:=(ae CA) k hk;omega)).trans ((ae NA) k hk)) (w.heap.size+1) r _ _ (ae MA) (λ k ho hk=>by have h1:=(ae BA) k ho;have h2:=(ae CA) k hk;omega));clear hW2 s0 s1 s2 s3 s4 s5 hz
  have AA:Hid (Calls prog 61 #[.slice sa sn sc,au (w.heap.size+1) 0] W2 λ e W3=>e=.returned (.int .i64 1)/\∃ pv3 mv3,dp W3 (w.heap.size+1) (bd ms r).1 pv3 mv3/\Fr (ff (w.heap.size+1) (.slice x1 r.path.length x2) (.slice y1 r.marks.length y2)) W2 (ff (w.heap.size+1) pv3 mv3) W3):=by
   have h:=ae FA;unfold ic at h;rw [v1]at h;exact h
  refine(ae AA).mono ?_;rintro e w3 ⟨rfl,pv3,mv3,hr3,hf3⟩;have g3:=bH hf3 (ae JA) (λ ho=>by rcases(ae BA) _ ho with h|h<;>omega);obtain⟨z0,z1,z2,z3,z4,z5,zz⟩:=rf g3.1;have DA:=af hr3;have PA:=af hf3;have IA:=af (wM (ae EA) hf3 (λ k hk ho=>by rcases(ae BA) _ ho with h|h<;>omega));clear hr3 hf3 g3 FA AA;obtain⟨t0,t1,t2,t3,t4,t5,tz⟩:=rf (ae DA).blk;obtain⟨f1,f2,hf1⟩:=al (ae DA).path;obtain⟨f3,f4,hf3'⟩:=al (ae DA).marks;have LA:=af (ae DA);have HA:=af (Ly (ae BA) (ae PA));clear DA;subst hf1 hf3';go_wp2_with fail;refine gH (v:=.tuple #[sO (bd ms r).1 (.slice f1 (bd ms r).1.path.length f2) (.slice f3 (bd ms r).1.marks.length f4),.int .i64 1]) (by simp [results,results42,go_sem,z0,z1,z2,z3,z4,z5]) rfl ?_;rw [ae KA,aS v1];refine⟨_,_,rfl,⟨ay (ae LA).path (λ k e=>bg (λ e2=>?_)),ay (ae LA).marks (λ k e=>bg (λ e2=>?_)),λ k e=>?_,λ k e=>?_,(ae LA).ne3⟩,fm (ae IA) (by omega)⟩
  ·have:=(ae HA) k (inr (inl e));omega
  ·have:=(ae HA) k (inr (inr e));omega
  ·have:=(ae HA) k (inr (inl e));omega
  have:=(ae HA) k (inr (inr e));omega
 have hv1:((bd ms r).2==1)=false:=by simpa using v1
 have hv3:((bd ms r).2==3)=true/\dl ms r=(Bp,3)\/((bd ms r).2==3)=false/\dl ms r=(Bp,2):=by
  by_cases v3:(bd ms r).2=3
  ·exact inl ⟨by simpa using v3,by rw [ae KA,aG v1,aS v3]⟩
  exact inr ⟨by simpa using v3,by rw [ae KA,aG v1,aG v3]⟩
 have VA:=af hv3;clear hv3;rcases ae VA with⟨hb3,hrm⟩|⟨hb3,hrm⟩
 all_goals
  have GA:=af hrm;clear hrm;go_enter func42,ntmps42;go_wp2_with fail;refine(ae HC).mono ?_;rintro e w1 ⟨pv1,mv1,rfl,ho1,ho2,hne,hb1⟩;obtain⟨x1,x2,hx⟩:=al ho1;obtain⟨y1,y2,hy⟩:=al ho2;have p1:=(hb1.block (w.heap.size+1) (by omega)).trans (ae SA);have p0:=(hb1.block w.heap.size (by omega)).trans (ae RA);have p2:=(hb1.block (w.heap.size+1+1) (by omega)).trans (ae TA);obtain⟨s0,s1,s2,s3,s4,s5,hz⟩:=rf p1;obtain⟨W2,hW2⟩:∃ W2,(((((w1.setCell ⟨w.heap.size+1,0,none⟩ (.int .i64 r.addr)).setCell ⟨w.heap.size+1,1,none⟩ (.int .i64 r.len)).setCell ⟨w.heap.size+1,2,none⟩ pv1).setCell ⟨w.heap.size+1,3,none⟩ mv1).setCell ⟨w.heap.size+1,4,none⟩ (.int .i64 r.pref)).setCell ⟨w.heap.size+1,5,none⟩ (.int .i64 r.med)=W2:=⟨_,rfl⟩
  have hsW2:W2.heap.size=w1.heap.size:=(by rw [<-hW2];exact ll)
  have o2:∀ k,k≠w.heap.size+1->W2.heap[k]?=w1.heap[k]?:=(λ k hk=>by rw [<-hW2];exact bg hk)
  have e1:W2.heap[w.heap.size+1]?=some (dS r pv1 mv1):=(by rw [<-hW2];exact gT p1)
  have d1:W2.cell? ⟨w.heap.size,1,none⟩=some (.slice sa sn sc):=ag ((o2 _ (by omega)).trans p0);have MA:=af (E9 ho1 ho2 hne e1 (λ k hk=>o2 k (by omega)) (by omega) n1 n2 (ae UA));have JA:=af ((o2 _ (by omega)).trans p2);have EA:=af (xC (ae OA) hb1 hW2);have BA:=af (Fa (b:=w.heap.size+1) ho1 ho2);have hsz2:=hb1.size;clear p0 p1 p2 o2 e1 ho1 ho2 hne hb1;subst hx hy;go_wp2_with fail;have FA:=af (kz w0 K (.slice sa sn sc) ms (ae CA) (ae QA) W2 (by omega) (λ k hk=>((ae EA).block k (by have:=(ae CA) k hk;omega)).trans ((ae NA) k hk)) (w.heap.size+1) r _ _ (ae MA) (λ k ho hk=>by have h1:=(ae BA) k ho;have h2:=(ae CA) k hk;omega));clear hW2 s0 s1 s2 s3 s4 s5 hz
  have AA:Hid (Calls prog 61 #[.slice sa sn sc,au (w.heap.size+1) 0] W2 λ e W3=>e=.returned (.int .i64 (bd ms r).2)/\∃ pv3 mv3,dp W3 (w.heap.size+1) (bd ms r).1 pv3 mv3/\Fr (ff (w.heap.size+1) (.slice x1 r.path.length x2) (.slice y1 r.marks.length y2)) W2 (ff (w.heap.size+1) pv3 mv3) W3):=by
   have h:=ae FA;unfold ic at h;exact h
  refine(ae AA).mono ?_;rintro e w3 ⟨rfl,pv3,mv3,hr3,hf3⟩;have g3:=bH hf3 (ae JA) (λ ho=>by rcases(ae BA) _ ho with h|h<;>omega);obtain⟨z0,z1,z2,z3,z4,z5,zz⟩:=rf g3.1;have DA:=af hr3;have PA:=af hf3;have IA:=af (wM (ae EA) hf3 (λ k hk ho=>by rcases(ae BA) _ ho with h|h<;>omega));clear hr3 hf3 g3 FA AA;go_wp2_with fail;refine gH (v:=.tuple #[sO Bp (.slice none 0 0) (.slice none 0 0),.int .i64 (dl ms r).2]) (by rw [ae GA];simp [results,results42,go_sem,z0,z1,z2,z3,z4,z5,Bp]) rfl ?_;rw [ae GA];exact⟨_,_,rfl,mE.zero _ _,fm (ae IA) (by omega)⟩
def dh(r:Rt):Bool:=ix (r.addr,r.len) r.path r.marks r.pref r.med
theorem qf:∀{l:List Int} {n:Int},gx n l->l.Pairwise (· < ·)/\∀ x∈l,n<=x
 | [],_,_=>⟨List.Pairwise.nil,λ x hx=>by cases hx⟩
 | y::l,n,h=>by
  obtain⟨h1,_,h3⟩:=fQ.1 h;obtain⟨i1,i2⟩:=qf h3;refine⟨List.pairwise_cons.2 ⟨λ x hx=>by have:=i2 x hx;omega,i1⟩,λ x hx=>?_⟩;rcases List.mem_cons.1 hx with rfl|hx
  ·exact h1
  have:=i2 x hx;omega
theorem Bt{r:Rt}(h:dh r=true):r.marks.Pairwise (· < ·):=by
 have h1:mn (r.addr,r.len) r.path r.marks r.pref r.med:=of_decide_eq_true h;exact(qf h1.2.2.1.2).1
theorem II(w0:World)(K:Nat->Prop)(pp:Nat)(ms:List aJ)(hK:∀ k,K k->k<w0.heap.size)(HS:∀ V,w0.heap.size<=V.heap.size->(∀ k,K k->V.heap[k]?=w0.heap[k]?)->Fo pp ms K V)
  (w:World) (hw:w0.heap.size<=w.heap.size) (hag:∀ k,K k->w.heap[k]?=w0.heap[k]?) (r:Rt) (pv mv:Value) (hp:aA w pv r.path) (hm:aA w mv r.marks) (i1:eN r.addr) (i2:eN r.len) (n1:r.path.length<=12) (n2:r.marks.length<=8) (hok:dh r=true) :
  Calls prog 24 #[au pp 0,sO r pv mv] w λ e w'=>∃ pv' mv',e=.returned (.tuple #[sO (dl ms r).1 pv' mv',.int .i64 (dl ms r).2,.int .i64 0])/\mE w' w.heap.size (dl ms r).1 pv' mv'/\Below w.heap.size w w':=by
 obtain⟨kp,p,sv,hpb,hst⟩:=HS w hw hag
 obtain⟨sa,sn,sc,hsv⟩:∃ a n c,sv=.slice a n c:=by
  obtain⟨_,vs,_,h2,_⟩:=hst;rcases h2 with⟨_,h2⟩|⟨S,cap,h2,_⟩
  ·exact⟨_,_,_,h2⟩
  exact⟨_,_,_,h2⟩
 have hst2:∀ V,w0.heap.size<=V.heap.size->(∀ k,K k->V.heap[k]?=w0.heap[k]?)->iG sv ms K V:=λ V hV hk=>by
  obtain⟨_,p2,sv2,hb2,hs2⟩:=HS V hV hk;have e:=hb2.symm.trans ((hk pp kp).trans ((hag pp kp).symm.trans hpb));simp only [Option.some.injEq,Obj.cells.injEq,and_true]at e;have e2:sv2=sv:=by have:=jC (λ a=>a[1]?) e;simpa using this
  rw [<-e2];exact hs2
 obtain⟨a1,b1,c1,hpv⟩:=bk (bf hp);obtain⟨a2,b2,c2,hmv⟩:=bk (bf hm);obtain⟨q1,q2,qs⟩:=fp w (dS r pv mv) (dS Bp (.slice none 0 0) (.slice none 0 0));obtain⟨W0,hW0⟩:∃ W0,(w.alloc (dS r pv mv)).alloc (dS Bp (.slice none 0 0) (.slice none 0 0))=W0:=⟨_,rfl⟩
 have hb0:Below w.heap.size w W0:=by rw [<-hW0];exact((aY _ _).alloc (aL _) _).alloc (by rw [World.size_alloc];omega) _
 rw [hW0]at q1 q2 qs;have HV:=af (td (r.addr,r.len) r.path r.marks r.pref r.med pv mv W0 i1 i2 (hp.below hb0) (hm.below hb0));rw [show ix (r.addr,r.len) r.path r.marks r.pref r.med=true from hok]at HV;obtain⟨c0,c1',c2',c3,c4,c5,cz⟩:=rf q1;have JA:=af q1;have KA:=af q2;have CA:=af hb0;have FA:=af hst2;have DA:=af hK;have EA:=af hag;have HP:=af hp;have HM:=af hm;have HA:=af hpb;have lpp:pp<w.heap.size:=ah hpb;clear hp hm hb0 q1 q2 HS hK hag hst hst2 hpb;subst hpv hmv hsv;have hW0':=hW0;unfold dS Bp at hW0';go_enter func24,ntmps24;go_wp2_with fail;refine(ae HV).mono ?_;rintro e w1 ⟨rfl,hb1⟩;have p1:=(hb1.block w.heap.size (by omega)).trans (ae JA);have p2:=(hb1.block (w.heap.size+1) (by omega)).trans (ae KA);have p3:=(hb1.block pp (by omega)).trans (((ae CA).block pp lpp).trans (ae HA));obtain⟨s0,s1,s2,s3,s4,s5,hz⟩:=rf p1;obtain⟨z0,z1,z2,z3,z4,z5,zz⟩:=rf p2;have u0:w1.cell? ⟨pp,0,none⟩=some (.string p):=ag p3;have u1:w1.cell? ⟨pp,1,none⟩=some (.slice sa sn sc):=ag p3;have hBw1:=(ae CA).trans (hb1.mono (ae CA).size);have AA:=af hBw1;have GA:=af p2;have hs1:=hb1.size;have IA:=af (λ(W:World) (hW:Below w1.heap.size w1 W)=>Ba w0 K p (.slice sa sn sc) ms (ae DA) (ae FA) W (by have:=hW.size;omega) (λ k hk=>(hW.block k (by have:=(ae DA) k hk;omega)).trans ((hBw1.block k (by have:=(ae DA) k hk;omega)).trans ((ae EA) k hk))) r _ _ (((ae HP).below hBw1).below hW) (((ae HM).below hBw1).below hW) n1 n2 (Bt hok));have lw:w.heap.size<w1.heap.size:=by omega
 have lpw:pp<w1.heap.size:=by omega
 have hal:=(tD ((aY w1.heap.size w1).alloc (aL _) (.cells #[.int .i64 0,.int .i64 0,.slice none 0 0,.slice none 0 0,.int .i64 0,.int .i64 0] 65))).1;have s0':=(hal w.heap.size 0 lw).trans s0;have s1':=(hal w.heap.size 1 lw).trans s1;have s2':=(hal w.heap.size 2 lw).trans s2;have s3':=(hal w.heap.size 3 lw).trans s3;have s4':=(hal w.heap.size 4 lw).trans s4;have s5':=(hal w.heap.size 5 lw).trans s5;have u0':=(hal pp 0 lpw).trans u0;have u1':=(hal pp 1 lpw).trans u1;clear hal;clear hb1 p1 p2 p3 hBw1 c0 c1' c2' c3 c4 c5 cz;go_wp2_with fail;go_region_with (go_at_call 42;refine((ae IA) _ (by first|exact(aY _ _).drew|exact((aY _ _).alloc (aL _) _).drew|exact(aY _ _).drew.alloc (aL _) _)).mono ?_;rintro e w2 ⟨pv2,mv2,rfl,hrv,hb2⟩;obtain⟨f1,f2,hf1⟩:=al hrv.1;obtain⟨f3,f4,hf3⟩:=al hrv.2.1;(try (have zb:w2.heap[w1.heap.size]?=some (dS Bp (.slice none 0 0) (.slice none 0 0)):=(hb2.block w1.heap.size (by simp)).trans (cM w1 _);obtain⟨y0,y1,y2,y3,y4,y5,yz⟩:=rf zb;have ZB:=af zb;clear zb));have hbx:Below w1.heap.size w1 w2:=(by first|exact((aY _ _).drew).trans (hb2.mono (aL _))|exact(((aY _ _).alloc (aL _) _).drew).trans (hb2.mono (by simp)));have BA:=af hbx;have LA:=af hrv;clear hrv hb2 hbx;subst hf1 hf3)
 all_goals
  obtain⟨g0,g1,g2,g3,g4,g5,gz⟩:=rf (((ae BA).block (w.heap.size+1) (by omega)).trans (ae GA));have lx:w.heap.size+1<w2.heap.size:=by have h:=(ae BA).size;omega
  have lx1:w1.heap.size<=w2.heap.size:=(ae BA).size
  first|(have zb2:Hid (w2.heap[w1.heap.size]?=some (dS Bp (.slice none 0 0) (.slice none 0 0))):=by assumption;have zb3:=rf (ae zb2);obtain⟨y0,y1,y2,y3,y4,y5,yz⟩:=zb3)|skip
  go_wp2_with fail;refine gH (v:=.tuple #[sO (dl ms r).1 (.slice f1 (dl ms r).1.path.length f2) (.slice f3 (dl ms r).1.marks.length f4),.int .i64 (dl ms r).2,.int .i64 0]) (by simp [results,results24,go_sem,g0,g1,g2,g3,g4,g5,lx]) rfl ?_;have hv:=ae LA;have hbw:=(ae AA).trans ((ae BA).mono (ae AA).size);have hk1:∀ k,(Value.slice f1 (dl ms r).1.path.length f2).ownBlock=some k->w1.heap.size<=k:=λ k e=>by have h:=hv.2.2.1 k e;simp at h;omega
  have hk2:∀ k,(Value.slice f3 (dl ms r).1.marks.length f4).ownBlock=some k->w1.heap.size<=k:=λ k e=>by have h:=hv.2.2.2.1 k e;simp at h;omega
  refine⟨_,_,rfl,⟨?_,?_,λ k e=>by have h:=hk1 k e;omega,λ k e=>by have h:=hk2 k e;omega,hv.2.2.2.2⟩,?_⟩
  ·refine ay hv.1 (λ k e=>?_);have h:=hk1 k e;have h2:=hv.2.2.1 k e
   first
    | (rw [bg (by omega),bg (by simp at h2;omega)])
    | (rw [mC _ _ _ (by rw [ll];exact(hv.1.lt k e).2),bg (by omega)])
  ·refine ay hv.2.1 (λ k e=>?_);have h:=hk2 k e;have h2:=hv.2.2.2.1 k e
   first
    | (rw [bg (by omega),bg (by simp at h2;omega)])
    | (rw [mC _ _ _ (by rw [ll];exact(hv.2.1.lt k e).2),bg (by omega)])
  first
   | with_reducible exact fm (fm hbw (by omega)) (by omega)
   | (with_reducible refine Below.alloc (fm hbw (by omega)) ?_ _);(rw [ll];omega)
