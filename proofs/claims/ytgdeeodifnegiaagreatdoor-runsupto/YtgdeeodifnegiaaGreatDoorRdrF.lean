/- part -/
import Derived.Test.YtgdeeodifnegiaaGreatDoorRdrB
set_option maxRecDepth 100000
set_option maxHeartbeats 2000000
namespace Go.Proofs.YtgdeeodifnegiaaGreatDoor
open Go.Proofs.Tryz
open Or
open Go.RowKit
theorem RA.noNew{w:World}{pb:Nat}{ts:List aw}{st:RS}{D O:Nat->Prop}(h:RA w pb ts st D O){k:Nat}(hk:w.heap.size<=k):¬O k/\¬D k :=
 ⟨λ ho=>by have:=h.lt ho;omega,λ hd=>by have:=(h.free hd).1;omega⟩
theorem bD{w w':World}{O O':Nat->Prop}{k:Nat}{o:Obj}(hf:Fr O w O' w')(hb:w.heap[k]?=some o)(hn:¬O k):w'.heap[k]?=some o/\¬O' k:=by
 have hl:k<w.heap.size:=ai hb;refine⟨(hf.block k hl hn).trans hb,λ ho=>?_⟩;rcases hf.own k ho with h1|h1
 ·exact hn h1
 omega
theorem kH{w:World}{pb:Nat}{ts:List aw}{st:RS}{D O:Nat->Prop}(h:RA w pb ts st D O)(hk:st.next<ts.length)(hn:ts.length<=601) :
  Calls prog 170 #[ay pb 0] w λ e w'=>e=.returned (.int .i64 (am ts st))/\RA w' pb ts st D O/\Fr O w O w'/\w'.heap=w.heap:=by
 refine(iW h hk hn).mono ?_;rintro e w' ⟨rfl,q,rfl⟩;exact⟨rfl,h.drewN q,(bE _ _).drewN q,rfl⟩
theorem ov{w:World}{b:Nat}{t:aw}(h:w.heap[b]?=some (aR t)) :
  w.cell? ⟨b,0,none⟩=some (.int .i64 t.kind)/\w.cell? ⟨b,1,none⟩=some (.int .i64 t.at_)/\w.cell? ⟨b,2,none⟩=some (.string t.text)/\w.cell? ⟨b,3,none⟩=some (.int .i64 t.number)/\w.cell? ⟨b,4,none⟩=some (.int .i64 t.addr)/\w.cell? ⟨b,5,none⟩=some (.int .i64 t.len)/\∀ o,w.frozen? ⟨b,o,none⟩=false :=
 ⟨af h,af h,af h,af h,af h,af h,λ _=>ak h⟩
def L5(pb:Nat)(ts:List aw)(w:World)(D O:Nat->Prop)(r:RS×aw)(e:Ending)(w':World):Prop :=
 e=.returned (eG r.2)/\∃ O',RA w' pb ts r.1 D O'/\Fr O w O' w'
theorem Jy{w:World}{pb:Nat}{ts:List aw}{st:RS}{D O:Nat->Prop}(h:RA w pb ts st D O)(hk:st.next<ts.length)(hn:ts.length<=601)(k:Int)(hne:am ts st≠k) :
  Calls prog 213 #[ay pb 0,.int .i64 k] w (L5 pb ts w D O (cC ts st,jz)):=by
 have HH:=ae h;have HK:=ae (kH (h.alloc (aR jz)) hk hn);have hb:(am ts st != k)=true:=by simpa using hne
 have HN:=ae (h.noNew (aD _));clear h hne;go_enter func213,ntmps213
 go_wp2_with (first
  | (go_at_call 170;refine(ab HK).mono ?_;rintro e w1 ⟨rfl,hr1,hf1,_⟩;have EA:=ae hr1;have BA:=ae hf1;clear hr1 hf1)
  | (go_at_call 171;refine(gb (ab EA) hk hn).mono ?_;rintro e w2 ⟨rfl,hr2,hf2⟩;have hb2:=bD ((ab BA).trans hf2) (fp w _ _) (ab HN).1;have FA:=ae hr2;have DA:=ae (((bE _ w).alloc _).trans ((ab BA).trans hf2));have CA:=ae hb2.1;have AA:=ae hb2.2;clear hr2 hf2 hb2;obtain⟨s0,s1,s2,s3,s4,s5,hz⟩:=ov (ab CA)))
 refine eO (v:=eG jz) (by simp [results,results213,go_sem,s0,s1,s2,s3,s4,s5,jz]) rfl ⟨rfl,O,?_,?_⟩
 ·exact((((((ab FA).other ⟨ab AA,(ab HN).2⟩ _ _).other ⟨ab AA,(ab HN).2⟩ _ _).other ⟨ab AA,(ab HN).2⟩ _ _).other ⟨ab AA,(ab HN).2⟩ _ _).other ⟨ab AA,(ab HN).2⟩ _ _).other ⟨ab AA,(ab HN).2⟩ _ _
 exact((((((ab DA).setCell (inr (aD _)) _).setCell (inr (aD _)) _).setCell (inr (aD _)) _).setCell (inr (aD _)) _).setCell (inr (aD _)) _).setCell (inr (aD _)) _
theorem RA.step1{w:World}{pb:Nat}{ts:List aw}{st:RS}{D O:Nat->Prop}(h:RA w pb ts st D O):RA (w.setCell ⟨pb,1,none⟩ (.int .i64 ((st.next:Int)+1))) pb ts { st with next:=st.next+1 } D O:=by
 have:=h.putNext (st.next+1);simpa using this
theorem ut{w:World}{pb:Nat}{ts:List aw}{st:RS}{D O:Nat->Prop}(h:RA w pb ts st D O)(hk:Ok ts st)(hn:ts.length<=601)(ht:(bL ts st).text.size<=600)(k:Int)(hne:am ts st=k) :
  Calls prog 213 #[ay pb 0,.int .i64 k] w (L5 pb ts w D O (bg ts st,bL ts st)):=by
 have HH:=ae h;have HK:=ae (kH (h.alloc (aR jz)) hk.next hn);have hb:(am ts st != k)=false:=by simpa using hne
 have HN:=ae (h.noNew (aD _));have hk1:=hk.next;have BA:=ae hk;clear h hne hk;go_enter func213,ntmps213;go_wp2_with (go_at_call 170;refine(ab HK).mono ?_;rintro e w1 ⟨rfl,hr1,hf1,hh1⟩;have hs1:w1.heap.size=w.heap.size+1:=(by rw [hh1];simp);have GA:=ae (show w1.heap[w.heap.size]?=some (aR jz)by rw [hh1];exact fp w _ _);clear hh1;have EA:=ae hr1;have KA:=ae hf1;obtain⟨_,_,_,_,n1,zn1⟩:=hr1.cells;obtain⟨tb,tc,dv,av,bv,h1,hO1⟩:=hr1;have c0:w1.cell? ⟨pb,0,none⟩=some (.slice (some ⟨tb,0,none⟩) ts.length tc):=af h1.blk;obtain⟨t0,t1,t2,t3,t4,t5⟩:=h1.tok hk1;have lp:pb<w1.heap.size:=ai h1.blk;have ltb:tb<w1.heap.size:=h1.lt (inr (inl rfl));clear h1 hO1 hf1;have hal:=(GR ((aX w1.heap.size w1).alloc (aD _) (.cells #[.int .i64 0,.int .i64 0,.string ⟨#[]⟩,.int .i64 0,.int .i64 0,.int .i64 0] 216))).1;have c0':=(hal pb 0 lp).trans c0;have n1':=(hal pb 1 lp).trans n1;have t0':=(hal tb _ ltb).trans t0;have t1':=(hal tb _ ltb).trans t1;have t2':=(hal tb _ ltb).trans t2;have t3':=(hal tb _ ltb).trans t3;have t4':=(hal tb _ ltb).trans t4;have t5':=(hal tb _ ltb).trans t5;clear hal;generalize hx:st.next=n at *;generalize hl:ts.length=N at *;generalize htk:bL ts st=T at *)
 go_region
 have lR:w.heap.size<w1.heap.size:=by omega
 have CA:=ae (((ab EA).alloc (aR T)).drew);have hb2:((w1.alloc (aR T)).drew).heap[w.heap.size+1]?=some (aR T):=by rw [<-hs1];exact fp w1 _ _
 have hb3:((w1.alloc (aR T)).drew).heap[w.heap.size]?=some (aR jz):=(eW w1 (aR T) _ lR).trans (ab GA);have LA:=ae ((((bE O w).alloc _).trans (ab KA)).alloc (aR T)).drew;have hs2:((w1.alloc (aR T)).drew).heap.size=w.heap.size+2:=by simp [hs1]
 have NA:=ae (show ¬O (w.heap.size+1)/\¬D (w.heap.size+1)by rw [<-hs1];exact(ab EA).noNew (aD _));obtain⟨_,_,_,_,m1,zm1⟩:=(ab CA).cells;clear c0 c0' n1 n1' t0 t0' t1 t1' t2 t2' t3 t3' t4 t4' t5 t5' zn1;have lp2:pb<((w1.alloc (aR T)).drew).heap.size:=by rw [hs2];omega
 generalize ((w1.alloc (aR T)).drew)=W2 at *;rw [hx]at m1;have hb2':(W2.setCell ⟨pb,1,none⟩ (.int .i64 ((n:Int)+1))).heap[w.heap.size+1]?=some (aR T):=by rw [ah (by show w.heap.size+1≠pb;omega)];exact hb2
 have hb3':(W2.setCell ⟨pb,1,none⟩ (.int .i64 ((n:Int)+1))).heap[w.heap.size]?=some (aR jz):=by rw [ah (by show w.heap.size≠pb;have:=(ab HH).lt (ab HH).own;omega)];exact hb3
 have FA:=ae (show RA (W2.setCell ⟨pb,1,none⟩ (.int .i64 ((n:Int)+1))) pb ts { st with next:=st.next+1 } D O by rw [<-hx];exact(ab CA).step1);have DA:=ae ((ab LA).setCell (p:=⟨pb,1,none⟩) (inl (ab CA).own) (.int .i64 ((n:Int)+1)));obtain⟨W3,hW3⟩:∃ W3,W2.setCell ⟨pb,1,none⟩ (.int .i64 ((n:Int)+1))=W3:=⟨_,rfl⟩
 rw [hW3]at hb2' hb3' FA DA;have JA:=ae hb3';have IA:=ae hb2';obtain⟨u0,u1,u2,u3,u4,u5,hu⟩:=ov hb2';clear hb2' hb3' hb2 hb3;go_wp2_with fail;clear hW3;have HA:=ae (JX (ab FA).drew T ht (ab BA).gap (by have:=(ab BA).page;have h2:=(ab BA).next;show st.page.length<=_;omega));go_region_with (go_at_call 259;refine(ab HA).mono ?_;rintro e w4 ⟨rfl,O4,hr4,hf4⟩)
 all_goals
  have hf4':=((bE _ _).drew).trans hf4;have g2:=bD hf4' (ab IA) (ab NA).1;have g3:=bD hf4' (ab JA) (ab HN).1;have OA:=ae hr4;have MA:=ae ((ab DA).trans hf4');have AA:=ae g3.2;obtain⟨v0,v1,v2,v3,v4,v5,hv⟩:=ov g2.1;obtain⟨s0,s1,s2,s3,s4,s5,hz⟩:=ov g3.1;clear g2 g3 hr4 hf4 hf4' u0 u1 u2 u3 u4 u5 hu;go_wp2_with fail;refine eO (v:=eG T) (by simp [results,results213,go_sem,s0,s1,s2,s3,s4,s5]) rfl ⟨rfl,O4,?_,?_⟩
  ·rw [show bg ts st=rG { st with next:=st.next+1 } T by rw [bg,htk]];exact((((((ab OA).other ⟨ab AA,(ab HN).2⟩ _ _).other ⟨ab AA,(ab HN).2⟩ _ _).other ⟨ab AA,(ab HN).2⟩ _ _).other ⟨ab AA,(ab HN).2⟩ _ _).other ⟨ab AA,(ab HN).2⟩ _ _).other ⟨ab AA,(ab HN).2⟩ _ _
  exact((((((ab MA).setCell (inr (aD _)) _).setCell (inr (aD _)) _).setCell (inr (aD _)) _).setCell (inr (aD _)) _).setCell (inr (aD _)) _).setCell (inr (aD _)) _
theorem JL{ts:List aw}{st:RS}(h:st.next<ts.length):bL ts st∈ts:=by rw [lO h];exact nN h
theorem aN{w:World}{pb:Nat}{ts:List aw}{st:RS}{D O:Nat->Prop}(h:RA w pb ts st D O)(hk:Ok ts st)(ht:cE ts)(k:Int) :
  Calls prog 213 #[ay pb 0,.int .i64 k] w (L5 pb ts w D O (ar ts k st)):=by
 unfold ar;by_cases hne:am ts st=k
 ·rw [aC hne];exact ut h hk ht.n1 (by rw [lO hk.next];exact ht.text _ hk.next) k hne
 rw [au hne];exact Jy h hk.next ht.n1 k hne
theorem Mf{ts:List aw}{st:RS}(h:Ok ts st)(ht:cE ts)(hk:2<=(bL ts st).kind):Ok ts (bg ts st):=by
 have hn:=h.next;have h1:=ht.last st.next hn (by rw [lO hn]at hk;exact hk);have h2:(bL ts st).text.size<=600:=by rw [lO hn];exact ht.text _ hn
 have h3:=h.page;have h4:st.gap.data.size<=1:=h.gap;have h5:(bL ts st).text.data.size<=600:=h2;refine⟨h1,?_,?_⟩
 ·show(if _ then _ else _:List UInt8).length<=700*(st.next+1);split<;>simp only [List.length_append,Array.length_toList]<;>omega
 show(if _ then qc else fH:ByteArray).size<=1;split<;>decide
theorem iV{ts:List aw}{st:RS}(h:Ok ts st):Ok ts (cC ts st):=⟨h.next,h.page,h.gap⟩
theorem mS{ts:List aw}{st:RS}{k:Int}(h:am ts st=k)(hk:2<=k):(bL ts st).kind=k/\st.syn=none:=by
 unfold am at h;cases hs:st.syn with
 | none=>rw [hs]at h;exact⟨h,rfl⟩
 | some x=>rw [hs]at h;simp at h;omega
theorem cu{ts:List aw}{st:RS}{k:Int}(h:Ok ts st)(ht:cE ts)(e:am ts st=k)(hk:2<=k):Ok ts (bg ts st) :=
 Mf h ht (by rw [(mS e hk).1];exact hk)
theorem ch{ts:List aw}{st:RS}{k:Int}(h:Ok ts st)(ht:cE ts)(hk:2<=k):Ok ts (ar ts k st).1:=by
 unfold ar;by_cases e:am ts st=k
 ·rw [aC e];exact cu h ht e hk
 rw [au e];exact iV h
theorem td{ts:List aw}{st:RS}(h:Ok ts st)(d:Int):Ok ts { st with depth:=d }:=⟨h.next,h.page,h.gap⟩
theorem mB{ts:List aw}{st:RS}{k:Int}(h:Ok ts st)(ht:cE ts)(hk:2<=k):Ok ts (dt ts k st):=by
 unfold dt;refine td (ch ?_ ht hk) _;split
 ·exact iV h
 exact h
theorem pC{ts:List aw}{st:RS}{k:Int}(h:Ok ts st)(ht:cE ts)(hk:2<=k):Ok ts (gx ts k st):=td (ch h ht hk) _
theorem Ke{ts:List aw}{st:RS}(h:Ok ts st):Ok ts (nT st):=td h _
theorem qT{ts:List aw}{st:RS}(h:Ok ts st):Ok ts (eA st):=⟨h.next,h.page,by show qc.size<=1;decide⟩
theorem gO{ts:List aw}{st:RS}{a b:Int}(h:Ok ts st)(ht:cE ts):Ok ts (aE ts a b st).1:=by
 have h1:=ch (k:=2) h ht (by decide);show Ok ts (if _ then _ else _);split
 ·exact⟨h1.next,h1.page,h1.gap⟩
 exact h1
theorem bY{w:World}{pb:Nat}{ts:List aw}{st:RS}{D O:Nat->Prop}(h:RA w pb ts st D O)(hk:Ok ts st)(ht:cE ts)(k:Int)(e:am ts st=k) :
  Calls prog 211 #[ay pb 0,.int .i64 k] w λ e w'=>e=.returned (.bool true)/\∃ O',RA w' pb ts (bg ts st) D O'/\Fr O w O' w':=by
 have HK:=ae (kH h hk.next ht.n1);have hb:(am ts st != k)=false:=by simpa using e
 have HT:=ae (λ W (hW:RA W pb ts st D O)=>ut hW hk ht.n1 (by rw [lO hk.next];exact ht.text _ hk.next) k e);clear h e hk ht;go_enter func211,ntmps211
 go_wp2_with (first
  | (go_at_call 170;refine(ab HK).mono ?_;rintro e w1 ⟨rfl,hr1,hf1,_⟩;have CA:=ae hr1;have AA:=ae hf1;clear hr1 hf1)
  | (go_at_call 213;refine((ab HT) _ (ab CA)).mono ?_;rintro e w2 ⟨rfl,O2,hr2,hf2⟩;have DA:=ae hr2;have BA:=ae ((ab AA).trans hf2);clear hr2 hf2))
 go_ret;exact⟨rfl,_,ab DA,ab BA⟩
theorem aL{w:World}{pb:Nat}{ts:List aw}{st:RS}{D O:Nat->Prop}(h:RA w pb ts st D O)(hk:Ok ts st)(ht:cE ts)(k:Int)(e:am ts st≠k) :
  Calls prog 211 #[ay pb 0,.int .i64 k] w λ e w'=>e=.returned (.bool false)/\RA w' pb ts st D O/\Fr O w O w':=by
 have HK:=ae (kH h hk.next ht.n1);have hb:(am ts st != k)=true:=by simpa using e
 clear h e hk ht;go_enter func211,ntmps211;go_wp2_with (go_at_call 170;refine(ab HK).mono ?_;rintro e w1 ⟨rfl,hr1,hf1,_⟩;have BA:=ae hr1;have AA:=ae hf1;clear hr1 hf1)
 go_ret;exact⟨rfl,ab BA,ab AA⟩
theorem pD{w:World}{pb:Nat}{ts:List aw}{st:RS}{D O:Nat->Prop}(h:RA w pb ts st D O)(hk:Ok ts st)(ht:cE ts)(k:Int) :
  Calls prog 310 #[ay pb 0,.int .i64 k] w λ e w'=>e=.returned (.tuple #[])/\∃ O',RA w' pb ts (gx ts k st) D O'/\Fr O w O' w':=by
 have HT:=ae (aN h hk ht k);clear h hk ht;go_enter func310,ntmps310;go_wp2_with (go_at_call 213;refine(ab HT).mono ?_;rintro e w2 ⟨rfl,O2,hr2,hf2⟩;obtain⟨_,_,d1,zd1,_⟩:=hr2.cells;have AA:=ae hr2;have BA:=ae hf2;clear hr2 hf2)
 go_end0
 exact⟨rfl,O2,(ab AA).putDepth _,(ab BA).setCell (inl (ab AA).own) _⟩
theorem mC{w:World}{pb:Nat}{ts:List aw}{st:RS}{D O:Nat->Prop}(h:RA w pb ts st D O)(hk:Ok ts st)(ht:cE ts)(k:Int) :
  Calls prog 309 #[ay pb 0,.int .i64 k] w λ e w'=>e=.returned (.tuple #[])/\∃ O',RA w' pb ts (dt ts k st) D O'/\Fr O w O' w':=by
 obtain⟨_,_,d1,zd1,_⟩:=h.cells;by_cases h8:st.depth=8
 ·have HF:=ae (gb h hk.next ht.n1);have HT:=ae (λ W (hW:RA W pb ts (cC ts st) D O)=>aN hW (iV hk) ht k);have hb:(st.depth==8)=true:=by simpa using h8
  have HQ:=ae (show dt ts k st={ (ar ts k (cC ts st)).1 with depth:=jW ((ar ts k (cC ts st)).1.depth+1) }by simp [dt,h8]);clear h hk ht h8;go_enter func309,ntmps309
  go_wp2_with (first
   | (go_at_call 171;refine(ab HF).mono ?_;rintro e w1 ⟨rfl,hr1,hf1⟩;have DA:=ae hr1;have CA:=ae hf1;clear hr1 hf1)
   | (go_at_call 213;refine((ab HT) _ (ab DA)).mono ?_;rintro e w2 ⟨rfl,O2,hr2,hf2⟩;obtain⟨_,_,d2,zd2,_⟩:=hr2.cells;have AA:=ae hr2;have BA:=ae ((ab CA).trans hf2);clear hr2 hf2))
  go_end0
  exact⟨rfl,O2,by rw [ab HQ];exact(ab AA).putDepth _,(ab BA).setCell (inl (ab AA).own) _⟩
 have HT:=ae (aN h hk ht k);have hb:(st.depth==8)=false:=by simpa using h8
 have HQ:=ae (show dt ts k st={ (ar ts k st).1 with depth:=jW ((ar ts k st).1.depth+1) }by simp [dt,h8]);clear h hk ht h8;go_enter func309,ntmps309;go_wp2_with (go_at_call 213;refine(ab HT).mono ?_;rintro e w2 ⟨rfl,O2,hr2,hf2⟩;obtain⟨_,_,d2,zd2,_⟩:=hr2.cells;have AA:=ae hr2;have BA:=ae hf2;clear hr2 hf2)
 go_end0
 exact⟨rfl,O2,by rw [ab HQ];exact(ab AA).putDepth _,(ab BA).setCell (inl (ab AA).own) _⟩
def aq(l:List Int):List Value:=l.map (Value.int .i64)
structure dK(W:World)(b:Nat)(r:Rt)(pv mv:Value):Prop where
 blk:W.heap[b]?=some (.cells #[.int .i64 r.addr,.int .i64 r.len,pv,mv,.int .i64 r.pref,.int .i64 r.med] 28 (0,0))
 path:W.ownsRow 0 3 1 pv r.path.length (aq r.path)
 marks:W.ownsRow 0 3 1 mv r.marks.length (aq r.marks)
 ne1:pv.ownBlock≠some b
 ne2:mv.ownBlock≠some b
 ne3:pv.ownBlock=none\/pv.ownBlock≠mv.ownBlock
 n1:r.path.length<=12
 n2:r.marks.length<=8
 srt:r.marks.Pairwise (· < ·)
theorem bi{w:World}{base:Nat}{e:TypeId}{size:Nat}{v:Value}{n:Nat}{xs:List Value}(h:w.ownsRow base e size v n xs):∃ a c,v=.slice a n c:=by
 rcases h.2 with⟨h1,h0⟩|⟨g,cap,cur,h1,_⟩
 ·exact⟨none,0,by rw [h1,h0]⟩
 exact⟨_,_,h1⟩
def A5(o:Option Int):Value:=.tuple #[.int .i64 (o.getD 0),.bool o.isSome]
def je(v:Value)(m:bh)(_K:Nat->Prop)(W:World):Prop :=
 Gw v λ g lb=>∀(b:Nat) (r:Rt) (pv mv:Value),dK W b r pv mv->Calls prog g (#[ay b 0]++lb) W λ e W'=>e=.returned (A5 (m r))/\W'=W
theorem xj(W:World)(B:Nat)(n:Int)(hb:W.cell? ⟨B,0,none⟩=some (.int .i64 n))(b:Nat) :
  Calls prog 361 (#[ay b 0]++#[ay B 0]) W λ e W'=>e=.returned (A5 (some n))/\W'=W:=by
 go_enter func361,ntmps361;go_wp2_with fail
 go_ret2
 exact⟨rfl,rfl⟩
theorem AF(W:World)(b:Nat)(r:Rt)(pv mv:Value)(h:dK W b r pv mv) :
  Calls prog 343 (#[ay b 0]++#[]) W λ e W'=>e=.returned (A5 (some r.pref))/\W'=W:=by
 have c4:W.cell? ⟨b,4,none⟩=some (.int .i64 r.pref):=af h.blk;clear h;go_enter func343,ntmps343;go_wp2_with fail
 go_ret2
 exact⟨rfl,rfl⟩
theorem CL(W:World)(b:Nat)(r:Rt)(pv mv:Value)(h:dK W b r pv mv) :
  Calls prog 344 (#[ay b 0]++#[]) W λ e W'=>e=.returned (A5 (some r.med))/\W'=W:=by
 have c4:W.cell? ⟨b,5,none⟩=some (.int .i64 r.med):=af h.blk;clear h;go_enter func344,ntmps344;go_wp2_with fail
 go_ret2
 exact⟨rfl,rfl⟩
theorem CK(W:World)(b:Nat)(r:Rt)(pv mv:Value)(h:dK W b r pv mv) :
  Calls prog 345 (#[ay b 0]++#[]) W λ e W'=>e=.returned (A5 (some (r.path.length:Int)))/\W'=W:=by
 have c4:W.cell? ⟨b,2,none⟩=some pv:=af h.blk;obtain⟨a,c,rfl⟩:=bi h.path;have hn:=h.n1;clear h;generalize r.path.length=N at *;go_enter func345,ntmps345;go_wp2_with fail
 go_ret2
 exact⟨rfl,rfl⟩
theorem cL{g:Nat}(h:Enters prog g):∀ args w,(callFunc g args).run prog w=.ok (.enter g args) w:=h
theorem yK(W:World)(b:Nat)(r:Rt)(pv mv:Value)(h:dK W b r pv mv)(va vb:Value)(ma mb:bh)(Ka Kb:Nat->Prop)(ha:je va ma Ka W)(hb:je vb mb Kb W) :
  Calls prog 347 #[va,vb,ay b 0] W λ e W'=>(∃ x y,e=.returned (.tuple #[.int .i64 x,.int .i64 y,.bool ((ma r).isSome&&(mb r).isSome)])/\((ma r).isSome=true->(mb r).isSome=true->ma r=some x/\mb r=some y))/\W'=W:=by
 obtain⟨g,lb,rfl,eg,hc⟩:=ha;obtain⟨g2,lb2,rfl,eg2,hc2⟩:=hb;have e1:=cL eg;have e2:=cL eg2;have HA:=ae (hc b r pv mv h);have HB:=ae (hc2 b r pv mv h);clear hc hc2 h eg eg2;cases hx:ma r with
 | none =>
  rw [hx]at HA;have AA:Hid (Calls prog g (#[ay b 0]++lb) W λ e W'=>e=.returned (.tuple #[.int .i64 0,.bool false])/\W'=W):=HA;go_enter func347,ntmps347;go_wp2_with (go_at_fn g;refine(ab AA).mono ?_;rintro e w' ⟨rfl,rfl⟩)
  refine eO (v:=.tuple #[.int .i64 0,.int .i64 0,.bool false]) (by simp [results,results347,go_sem]) rfl ?_;exact⟨⟨0,0,rfl,λ h=>by cases h⟩,rfl⟩
 | some x =>
  rw [hx]at HA;have AA:Hid (Calls prog g (#[ay b 0]++lb) W λ e W'=>e=.returned (.tuple #[.int .i64 x,.bool true])/\W'=W):=HA;have BA:Hid (Calls prog g2 (#[ay b 0]++lb2) W λ e W'=>e=.returned (.tuple #[.int .i64 ((mb r).getD 0),.bool (mb r).isSome])/\W'=W):=HB;go_enter func347,ntmps347;go_wp2_with (go_at_fn g;refine(ab AA).mono ?_;rintro e w' ⟨rfl,rfl⟩)
  refine(ab BA).mono ?_;rintro e w2 ⟨rfl,rfl⟩;go_wp2_with fail;refine eO (v:=.tuple #[.int .i64 x,.int .i64 ((mb r).getD 0),.bool (mb r).isSome]) (by simp [results,results347,go_sem]) rfl ?_;refine⟨⟨x,_,rfl,λ _ h=>⟨rfl,?_⟩⟩,rfl⟩;cases hy:mb r with
  | none=>rw [hy]at h;cases h
  | some y=>rfl
theorem sS(W:World)(b:Nat)(r:Rt)(pv mv:Value)(h:dK W b r pv mv)(va vb:Value)(ma mb:bh)(Ka Kb:Nat->Prop)(ha:je va ma Ka W)(hb:je vb mb Kb W){x y:Int}(hx:ma r=some x)(hy:mb r=some y) :
  Calls prog 347 #[va,vb,ay b 0] W λ e W'=>e=.returned (.tuple #[.int .i64 x,.int .i64 y,.bool true])/\W'=W:=by
 refine(yK W b r pv mv h va vb ma mb Ka Kb ha hb).mono ?_;rintro e w' ⟨⟨x',y',rfl,hxy⟩,rfl⟩;obtain⟨h1,h2⟩:=hxy (by rw [hx];rfl) (by rw [hy];rfl);rw [hx]at h1;rw [hy]at h2;cases h1;cases h2
 rw [hx,hy];exact⟨rfl,rfl⟩
theorem wZ(W:World)(b:Nat)(r:Rt)(pv mv:Value)(h:dK W b r pv mv)(va vb:Value)(ma mb:bh)(Ka Kb:Nat->Prop)(ha:je va ma Ka W)(hb:je vb mb Kb W)(hx:((ma r).isSome&&(mb r).isSome)=false) :
  Calls prog 347 #[va,vb,ay b 0] W λ e W'=>(∃ x y,e=.returned (.tuple #[.int .i64 x,.int .i64 y,.bool false]))/\W'=W:=by
 refine(yK W b r pv mv h va vb ma mb Ka Kb ha hb).mono ?_;rintro e w' ⟨⟨x',y',rfl,hxy⟩,rfl⟩;rw [hx];exact⟨⟨x',y',rfl⟩,rfl⟩
theorem eL{v:Value}{m:bh}{K:Nat->Prop}{W:World}(h:je v m K W):∃ g lb,v=.func (.func g) #[] lb:=by
 obtain⟨g,lb,h1,_⟩:=h;exact⟨g,lb,h1⟩
theorem NX(W:World)(b:Nat)(r:Rt)(pv mv:Value)(h:dK W b r pv mv)(va vb:Value)(ma mb:bh)(Ka Kb:Nat->Prop)(ha:je va ma Ka W)(hb:je vb mb Kb W)(B1 B2 B3:Nat)(s:Int)
  (c1:W.cell? ⟨B1,0,none⟩=some va) (c2:W.cell? ⟨B2,0,none⟩=some vb) (c3:W.cell? ⟨B3,0,none⟩=some (.int .i64 s)) :
  Calls prog 346 (#[ay b 0]++#[ay B1 0,ay B2 0,ay B3 0]) W λ e W'=>e=.returned (A5 (jm ma mb s r))/\W'=W:=by
 have EQ:=ae (show jm ma mb s r=match ma r with|none=>none|some x=>match mb r with|none=>none|some y=>lW s x y from rfl);cases hB:((ma r).isSome&&(mb r).isSome)with
 | false =>
  have HB:=ae (wZ W b r pv mv h va vb ma mb Ka Kb ha hb hB)
  have HN:Hid (jm ma mb s r=none):=by
   unfold Hid;rw [ab EQ];cases hx:ma r with
   | none=>rfl
   | some x=>cases hy:mb r with
    | none=>rfl
    | some y=>rw [hx,hy]at hB;cases hB
  obtain⟨g,lb,rfl⟩:=eL ha;obtain⟨g2,lb2,rfl⟩:=eL hb;clear h ha hb hB EQ;go_enter func346,ntmps346;go_wp2_with (go_at_call 347;refine(ab HB).mono ?_;rintro e w' ⟨⟨x,y,rfl⟩,rfl⟩)
  go_ret2
  exact⟨by rw [ab HN];rfl,rfl⟩
 | true =>
  rw [Bool.and_eq_true]at hB;obtain⟨x,hx⟩:=Option.isSome_iff_exists.1 hB.1;obtain⟨y,hy⟩:=Option.isSome_iff_exists.1 hB.2;have HB:=ae (sS W b r pv mv h va vb ma mb Ka Kb ha hb hx hy);have HE:Hid (jm ma mb s r=lW s x y):=by unfold Hid;rw [ab EQ,hx,hy]
  obtain⟨g,lb,rfl⟩:=eL ha;obtain⟨g2,lb2,rfl⟩:=eL hb;clear h ha hb hB EQ hx hy;have AA:=ae (show lW s x y=if 0<=wrap64 (x+wrap64 (s*y))/\wrap64 (x+wrap64 (s*y))<=4294967295 then some (wrap64 (x+wrap64 (s*y)))else none from rfl);by_cases h1:0<=wrap64 (x+wrap64 (s*y))
  ·by_cases h2:wrap64 (x+wrap64 (s*y))<=4294967295
   ·have HP:Hid (lW s x y=some (wrap64 (x+wrap64 (s*y)))):=by unfold Hid;rw [ab AA,aC ⟨h1,h2⟩]
    clear AA;go_enter func346,ntmps346;go_wp2_with (go_at_call 347;refine(ab HB).mono ?_;rintro e w' ⟨rfl,rfl⟩)
    go_ret2
    exact⟨by rw [ab HE,ab HP];rfl,rfl⟩
   have HP:Hid (lW s x y=none):=by unfold Hid;rw [ab AA,au (λ h=>h2 h.2)]
   clear AA;go_enter func346,ntmps346;go_wp2_with (go_at_call 347;refine(ab HB).mono ?_;rintro e w' ⟨rfl,rfl⟩)
   go_ret2
   exact⟨by rw [ab HE,ab HP];rfl,rfl⟩
  have HP:Hid (lW s x y=none):=by unfold Hid;rw [ab AA,au (λ h=>h1 h.1)]
  clear AA;go_enter func346,ntmps346;go_wp2_with (go_at_call 347;refine(ab HB).mono ?_;rintro e w' ⟨rfl,rfl⟩)
  go_ret2
  exact⟨by rw [ab HE,ab HP];rfl,rfl⟩
theorem dK.below{W V:World}{b:Nat}{r:Rt}{pv mv:Value}(h:dK W b r pv mv)(hb:Below W.heap.size W V):dK V b r pv mv :=
 ⟨(hb.block b (ai h.blk)).trans h.blk,ap h.path (λ k e=>hb.block k (h.path.lt k e).2),ap h.marks (λ k e=>hb.block k (h.marks.lt k e).2),h.ne1,h.ne2,h.ne3,h.n1,h.n2,h.srt⟩
def jI(o:Option Bool):Value:=.tuple #[.bool (o.getD false),.bool o.isSome]
def pS(v:Value)(m:aQ)(_K:Nat->Prop)(W:World):Prop :=
 Gw v λ g lb=>∀(b:Nat) (r:Rt) (pv mv:Value),dK W b r pv mv->Calls prog g (#[ay b 0]++lb) W λ e W'=>e=.returned (jI (m r))/\Below W.heap.size W W'
theorem az.new{w:World}{A:Nat->Prop}{Q:(Nat->Prop)->World->Prop}(B:Nat->Prop)(hB:∀ k,B k->k<w.heap.size/\A k)(hq:∀ W,w.heap.size<=W.heap.size->(∀ k,B k->W.heap[k]?=w.heap[k]?)->Q B W):az w A Q :=
 ⟨B,hB,hq⟩
theorem az.one{w:World}{A:Nat->Prop}{Q1 Q:(Nat->Prop)->World->Prop}(h1:az w A Q1)(B:Nat->Prop)(hB:∀ k,B k->k<w.heap.size/\A k)
  (hq:∀ K1,(∀ k,K1 k->k<w.heap.size/\A k)->(∀ W,w.heap.size<=W.heap.size->(∀ k,K1 k->W.heap[k]?=w.heap[k]?)->Q1 K1 W)->∀ W,w.heap.size<=W.heap.size->(∀ k,K1 k\/B k->W.heap[k]?=w.heap[k]?)->Q (λ k=>K1 k\/B k) W):az w A Q:=by
 obtain⟨K1,a1,b1⟩:=h1;refine⟨λ k=>K1 k\/B k,λ k hk=>?_,λ W hW hk=>hq K1 a1 b1 W hW hk⟩;rcases hk with h|h
 ·exact a1 k h
 exact hB k h
theorem az.two{w:World}{A:Nat->Prop}{Q1 Q2 Q:(Nat->Prop)->World->Prop}(h1:az w A Q1)(h2:az w A Q2)(B:Nat->Prop)(hB:∀ k,B k->k<w.heap.size/\A k)
  (hq:∀ K1 K2,(∀ k,K1 k->k<w.heap.size/\A k)->(∀ k,K2 k->k<w.heap.size/\A k)->(∀ W,w.heap.size<=W.heap.size->(∀ k,K1 k->W.heap[k]?=w.heap[k]?)->Q1 K1 W)->(∀ W,w.heap.size<=W.heap.size->(∀ k,K2 k->W.heap[k]?=w.heap[k]?)->Q2 K2 W) ->
   ∀ W,w.heap.size<=W.heap.size->(∀ k,K1 k\/K2 k\/B k->W.heap[k]?=w.heap[k]?)->Q (λ k=>K1 k\/K2 k\/B k) W):az w A Q:=by
 obtain⟨K1,a1,b1⟩:=h1;obtain⟨K2,a2,b2⟩:=h2;refine⟨λ k=>K1 k\/K2 k\/B k,λ k hk=>?_,λ W hW hk=>hq K1 K2 a1 a2 b1 b2 W hW hk⟩;rcases hk with h|h|h
 ·exact a1 k h
 ·exact a2 k h
 exact hB k h
def jl(v:Value):Prop:=(∃ f a b,v=.func f a b)\/v=.nilFunc
def iy(w:World)(A:Nat->Prop)(v:Value):Option bh->Prop
 | none=>jl v
 | some m=>az w A (je v m)
def gH(w:World)(A:Nat->Prop)(v:Value):Option aQ->Prop
 | none=>jl v
 | some m=>az w A (pS v m)
theorem az.now{w:World}{A:Nat->Prop}{Q:(Nat->Prop)->World->Prop}(h:az w A Q):∃ K,Q K w:=by
 obtain⟨K,_,b⟩:=h;exact⟨K,b w (aD _) (λ _ _=>rfl)⟩
theorem iy.fnv{w:World}{A:Nat->Prop}{v:Value}{o:Option bh}(h:iy w A v o):jl v:=by
 cases o with
 | none=>exact h
 | some m =>
  obtain⟨K,g,lb,h1,_⟩:=az.now h;exact inl ⟨_,_,_,h1⟩
theorem gH.fnv{w:World}{A:Nat->Prop}{v:Value}{o:Option aQ}(h:gH w A v o):jl v:=by
 cases o with
 | none=>exact h
 | some m =>
  obtain⟨K,g,lb,h1,_⟩:=az.now h;exact inl ⟨_,_,_,h1⟩
theorem iy.mono{w w':World}{A A':Nat->Prop}{v:Value}{o:Option bh}(h:iy w A v o)(hs:w.heap.size<=w'.heap.size)(hb:∀ k,k<w.heap.size->A k->w'.heap[k]?=w.heap[k]?/\A' k):iy w' A' v o:=by
 cases o with
 | none=>exact h
 | some m=>exact az.mono h hs hb (λ _ _ h=>h)
theorem gH.mono{w w':World}{A A':Nat->Prop}{v:Value}{o:Option aQ}(h:gH w A v o)(hs:w.heap.size<=w'.heap.size)(hb:∀ k,k<w.heap.size->A k->w'.heap[k]?=w.heap[k]?/\A' k):gH w' A' v o:=by
 cases o with
 | none=>exact h
 | some m=>exact az.mono h hs hb (λ _ _ h=>h)
theorem uS(w:World)(n:Int) :
  Calls prog 342 #[.int .i64 n] w λ e w'=>e=.returned (.func (.func 361) #[] #[ay w.heap.size 0])/\w'=w.alloc (.cells #[.int .i64 n] 3):=by
 have hmf:∀(fn:Fn) (first cap:Array Value) (w:World),(Instr.makeFunc fn first cap).run prog w=.ok (.func fn first cap) w:=λ _ _ _ _=>rfl
 go_enter func342,ntmps342;go_wp2_with fail;go_ret;exact⟨rfl,rfl⟩
theorem Tryz.entConst:Enters prog 361:=enters_of func361 (by kernel_rfl) rfl
theorem xi(w:World)(n:Int)(A:Nat->Prop)(hA:A w.heap.size) :
  Calls prog 342 #[.int .i64 n] w λ e w'=>∃ v,e=.returned v/\w'=w.alloc (.cells #[.int .i64 n] 3)/\az w' A (je v (sY n)):=by
 refine(uS w n).mono ?_;rintro e w' ⟨rfl,rfl⟩;refine⟨_,rfl,rfl,az.new (λ k=>k=w.heap.size) (λ k hk=>?_) (λ W hW hk=>?_)⟩
 ·subst hk;exact⟨by simp,hA⟩
 have hc:W.cell? ⟨w.heap.size,0,none⟩=some (.int .i64 n):=af ((hk _ rfl).trans (cN w _));exact⟨_,_,rfl,Tryz.entConst,λ b r pv mv _=>xj W _ n hc b⟩
theorem bK(w:World)(o:Obj)(A:Nat->Prop):w.heap.size<=(w.alloc o).heap.size/\∀ k,k<w.heap.size->A k->(w.alloc o).heap[k]?=w.heap[k]?/\A k :=
 ⟨by simp,λ k hk ha=>⟨eW _ _ _ hk,ha⟩⟩
theorem iy.alloc{w:World}{A:Nat->Prop}{v:Value}{o:Option bh}(h:iy w A v o)(b:Obj):iy (w.alloc b) A v o:=h.mono (bK w b A).1 (bK w b A).2
theorem gH.alloc{w:World}{A:Nat->Prop}{v:Value}{o:Option aQ}(h:gH w A v o)(b:Obj):gH (w.alloc b) A v o:=h.mono (bK w b A).1 (bK w b A).2
abbrev aF(v:Value)(T:TypeId):Obj:=.cells #[v] T
theorem Fm(w:World)(va vb:Value)(s:Int)(ha:jl va)(hb:jl vb) :
  Calls prog 316 #[va,vb,.int .i64 s] w λ e w'=>e=.returned (.func (.func 346) #[] #[ay w.heap.size 0,ay (w.heap.size+1) 0,ay (w.heap.size+1+1) 0])/\w'=((w.alloc (aF va 317)).alloc (aF vb 317)).alloc (aF (.int .i64 s) 3):=by
 have hmf:∀(fn:Fn) (first cap:Array Value) (w:World),(Instr.makeFunc fn first cap).run prog w=.ok (.func fn first cap) w:=λ _ _ _ _=>rfl
 rcases ha with⟨f,a,b,rfl⟩|rfl<;>rcases hb with⟨f',a',b',rfl⟩|rfl <;>
 ·go_enter func316,ntmps316;go_wp2_with fail;go_ret;exact⟨rfl,rfl⟩
theorem Tryz.entPlus:Enters prog 346:=enters_of func346 (by kernel_rfl) rfl
theorem g6(w:World)(a b c:Obj):(((w.alloc a).alloc b).alloc c).heap[w.heap.size]?=some a/\(((w.alloc a).alloc b).alloc c).heap[w.heap.size+1]?=some b/\(((w.alloc a).alloc b).alloc c).heap[w.heap.size+1+1]?=some c/\(((w.alloc a).alloc b).alloc c).heap.size=w.heap.size+3:=by
 have s1:(w.alloc a).heap.size=w.heap.size+1:=by simp
 have s2:((w.alloc a).alloc b).heap.size=w.heap.size+1+1:=by simp
 refine⟨?_,?_,?_,by simp⟩
 ·rw [eW _ _ _ (by omega),eW _ _ _ (by omega)];exact cN w _
 ·rw [eW _ _ _ (by omega),<-s1];exact cN _ _
 rw [<-s2];exact cN _ _
theorem iu(w:World)(a b:Obj):((w.alloc a).alloc b).heap[w.heap.size]?=some a/\((w.alloc a).alloc b).heap[w.heap.size+1]?=some b/\((w.alloc a).alloc b).heap.size=w.heap.size+2:=by
 have s1:(w.alloc a).heap.size=w.heap.size+1:=by simp
 refine⟨?_,?_,by simp⟩
 ·rw [eW _ _ _ (by omega)];exact cN w _
 rw [<-s1];exact cN _ _
theorem zM(w:World)(va vb:Value)(oa ob:Option bh)(s:Int)(A:Nat->Prop)(hA:∀ k,w.heap.size<=k->A k)(ha:iy w A va oa)(hb:iy w A vb ob) :
  Calls prog 316 #[va,vb,.int .i64 s] w λ e w'=>∃ v,e=.returned v/\w'=((w.alloc (aF va 317)).alloc (aF vb 317)).alloc (aF (.int .i64 s) 3)/\iy w' A v (rq oa ob s):=by
 refine(Fm w va vb s ha.fnv hb.fnv).mono ?_;rintro e w' ⟨rfl,rfl⟩;refine⟨_,rfl,rfl,?_⟩;cases oa with
 | none=>exact inl ⟨_,_,_,rfl⟩
 | some ma=>cases ob with
  | none=>exact inl ⟨_,_,_,rfl⟩
  | some mb =>
   have h1:az _ A (je va ma):=((ha.alloc (aF va 317)).alloc (aF vb 317)).alloc (aF (.int .i64 s) 3);have h2:az _ A (je vb mb):=((hb.alloc (aF va 317)).alloc (aF vb 317)).alloc (aF (.int .i64 s) 3);obtain⟨n1,n2,n3,sz⟩:=g6 w (aF va 317) (aF vb 317) (aF (.int .i64 s) 3);refine az.two h1 h2 (λ k=>k=w.heap.size\/k=w.heap.size+1\/k=w.heap.size+1+1) (λ k hk=>⟨by omega,hA k (by omega)⟩) (λ K1 K2 _ _ q1 q2 W hW hk=>?_);refine⟨_,_,rfl,Tryz.entPlus,λ b r pv mv hr=>?_⟩
   exact NX W b r pv mv hr va vb ma mb K1 K2 (q1 W hW (λ k h=>hk k (inl h))) (q2 W hW (λ k h=>hk k (inr (inl h)))) _ _ _ s
    (af ((hk _ (inr (inr (inl rfl)))).trans n1)) (af ((hk _ (inr (inr (inr (inl rfl))))).trans n2)) (af ((hk _ (inr (inr (inr (inr rfl))))).trans n3))
theorem If(W:World)(b:Nat)(r:Rt)(pv mv:Value)(h:dK W b r pv mv)(va vb:Value)(ma mb:bh)(Ka Kb:Nat->Prop)(ha:je va ma Ka W)(hb:je vb mb Kb W)(B1 B2:Nat)
  (c1:W.cell? ⟨B1,0,none⟩=some va) (c2:W.cell? ⟨B2,0,none⟩=some vb) :
  Calls prog 391 (#[ay b 0]++#[ay B1 0,ay B2 0]) W λ e W'=>e=.returned (jI (LG ma mb r))/\W'=W:=by
 cases hB:((ma r).isSome&&(mb r).isSome)with
 | false =>
  have HB:=ae (wZ W b r pv mv h va vb ma mb Ka Kb ha hb hB)
  have HN:Hid (LG ma mb r=none):=by
   unfold Hid LG rI;cases hx:ma r with
   | none=>rfl
   | some x=>cases hy:mb r with
    | none=>rfl
    | some y=>rw [hx,hy]at hB;cases hB
  obtain⟨g,lb,rfl⟩:=eL ha;obtain⟨g2,lb2,rfl⟩:=eL hb;clear h ha hb hB;go_enter func391,ntmps391;go_wp2_with (go_at_call 347;refine(ab HB).mono ?_;rintro e w' ⟨⟨x,y,rfl⟩,rfl⟩)
  go_ret2
  exact⟨by rw [ab HN];rfl,rfl⟩
 | true =>
  rw [Bool.and_eq_true]at hB;obtain⟨x,hx⟩:=Option.isSome_iff_exists.1 hB.1;obtain⟨y,hy⟩:=Option.isSome_iff_exists.1 hB.2;have HB:=ae (sS W b r pv mv h va vb ma mb Ka Kb ha hb hx hy);have HE:Hid (LG ma mb r=some (decide (x<y))):=by unfold Hid LG rI;rw [hx,hy]
  obtain⟨g,lb,rfl⟩:=eL ha;obtain⟨g2,lb2,rfl⟩:=eL hb;clear h ha hb hB hx hy;go_enter func391,ntmps391;go_wp2_with (go_at_call 347;refine(ab HB).mono ?_;rintro e w' ⟨rfl,rfl⟩)
  go_ret2
  exact⟨by rw [ab HE];rfl,rfl⟩
theorem ED(W:World)(b:Nat)(r:Rt)(pv mv:Value)(h:dK W b r pv mv)(va vb:Value)(ma mb:bh)(Ka Kb:Nat->Prop)(ha:je va ma Ka W)(hb:je vb mb Kb W)(B1 B2:Nat)
  (c1:W.cell? ⟨B1,0,none⟩=some va) (c2:W.cell? ⟨B2,0,none⟩=some vb) :
  Calls prog 392 (#[ay b 0]++#[ay B1 0,ay B2 0]) W λ e W'=>e=.returned (jI (LD ma mb r))/\W'=W:=by
 cases hB:((ma r).isSome&&(mb r).isSome)with
 | false =>
  have HB:=ae (wZ W b r pv mv h va vb ma mb Ka Kb ha hb hB)
  have HN:Hid (LD ma mb r=none):=by
   unfold Hid LD rI;cases hx:ma r with
   | none=>rfl
   | some x=>cases hy:mb r with
    | none=>rfl
    | some y=>rw [hx,hy]at hB;cases hB
  obtain⟨g,lb,rfl⟩:=eL ha;obtain⟨g2,lb2,rfl⟩:=eL hb;clear h ha hb hB;go_enter func392,ntmps392;go_wp2_with (go_at_call 347;refine(ab HB).mono ?_;rintro e w' ⟨⟨x,y,rfl⟩,rfl⟩)
  go_ret2
  exact⟨by rw [ab HN];rfl,rfl⟩
 | true =>
  rw [Bool.and_eq_true]at hB;obtain⟨x,hx⟩:=Option.isSome_iff_exists.1 hB.1;obtain⟨y,hy⟩:=Option.isSome_iff_exists.1 hB.2;have HB:=ae (sS W b r pv mv h va vb ma mb Ka Kb ha hb hx hy)
  have HE:Hid (LD ma mb r=some (x==y)):=by
   unfold Hid LD rI;rw [hx,hy];by_cases e:x=y
   ·subst e;simp
   simp [e]
  obtain⟨g,lb,rfl⟩:=eL ha;obtain⟨g2,lb2,rfl⟩:=eL hb;clear h ha hb hB hx hy;go_enter func392,ntmps392;go_wp2_with (go_at_call 347;refine(ab HB).mono ?_;rintro e w' ⟨rfl,rfl⟩)
  go_ret2
  exact⟨by rw [ab HE];rfl,rfl⟩
theorem EX(w:World)(va vb:Value)(ha:jl va)(hb:jl vb) :
  Calls prog 388 #[va,vb] w λ e w'=>e=.returned (.func (.func 391) #[] #[ay w.heap.size 0,ay (w.heap.size+1) 0])/\w'=((w.alloc (aF va 317)).alloc (aF vb 317)):=by
 have hmf:∀(fn:Fn) (first cap:Array Value) (w:World),(Instr.makeFunc fn first cap).run prog w=.ok (.func fn first cap) w:=λ _ _ _ _=>rfl
 rcases ha with⟨f,a,b,rfl⟩|rfl<;>rcases hb with⟨f',a',b',rfl⟩|rfl <;>
 ·go_enter func388,ntmps388;go_wp2_with fail;go_ret;exact⟨rfl,rfl⟩
theorem Bu(w:World)(va vb:Value)(ha:jl va)(hb:jl vb) :
  Calls prog 389 #[va,vb] w λ e w'=>e=.returned (.func (.func 392) #[] #[ay w.heap.size 0,ay (w.heap.size+1) 0])/\w'=((w.alloc (aF va 317)).alloc (aF vb 317)):=by
 have hmf:∀(fn:Fn) (first cap:Array Value) (w:World),(Instr.makeFunc fn first cap).run prog w=.ok (.func fn first cap) w:=λ _ _ _ _=>rfl
 rcases ha with⟨f,a,b,rfl⟩|rfl<;>rcases hb with⟨f',a',b',rfl⟩|rfl <;>
 ·go_enter func389,ntmps389;go_wp2_with fail;go_ret;exact⟨rfl,rfl⟩
theorem Tryz.entLess:Enters prog 391:=enters_of func391 (by kernel_rfl) rfl
theorem Tryz.entEqual:Enters prog 392:=enters_of func392 (by kernel_rfl) rfl
theorem Ie(w:World)(va vb:Value)(oa ob:Option bh)(A:Nat->Prop)(hA:∀ k,w.heap.size<=k->A k)(ha:iy w A va oa)(hb:iy w A vb ob) :
  Calls prog 388 #[va,vb] w λ e w'=>∃ v,e=.returned v/\w'=((w.alloc (aF va 317)).alloc (aF vb 317))/\gH w' A v (Eo LG oa ob):=by
 refine(EX w va vb ha.fnv hb.fnv).mono ?_;rintro e w' ⟨rfl,rfl⟩;refine⟨_,rfl,rfl,?_⟩;cases oa with
 | none=>exact inl ⟨_,_,_,rfl⟩
 | some ma=>cases ob with
  | none=>exact inl ⟨_,_,_,rfl⟩
  | some mb =>
   have h1:az _ A (je va ma):=(ha.alloc (aF va 317)).alloc (aF vb 317);have h2:az _ A (je vb mb):=(hb.alloc (aF va 317)).alloc (aF vb 317);obtain⟨n1,n2,sz⟩:=iu w (aF va 317) (aF vb 317);refine az.two h1 h2 (λ k=>k=w.heap.size\/k=w.heap.size+1) (λ k hk=>⟨by omega,hA k (by omega)⟩) (λ K1 K2 _ _ q1 q2 W hW hk=>?_);refine⟨_,_,rfl,Tryz.entLess,λ b r pv mv hr=>?_⟩
   refine(If W b r pv mv hr va vb ma mb K1 K2 (q1 W hW (λ k h=>hk k (inl h))) (q2 W hW (λ k h=>hk k (inr (inl h)))) _ _
    (af ((hk _ (inr (inr (inl rfl)))).trans n1)) (af ((hk _ (inr (inr (inr rfl)))).trans n2))).mono ?_
   rintro e w' ⟨rfl,rfl⟩;exact⟨rfl,aX _ _⟩
theorem Ez(w:World)(va vb:Value)(oa ob:Option bh)(A:Nat->Prop)(hA:∀ k,w.heap.size<=k->A k)(ha:iy w A va oa)(hb:iy w A vb ob) :
  Calls prog 389 #[va,vb] w λ e w'=>∃ v,e=.returned v/\w'=((w.alloc (aF va 317)).alloc (aF vb 317))/\gH w' A v (Eo LD oa ob):=by
 refine(Bu w va vb ha.fnv hb.fnv).mono ?_;rintro e w' ⟨rfl,rfl⟩;refine⟨_,rfl,rfl,?_⟩;cases oa with
 | none=>exact inl ⟨_,_,_,rfl⟩
 | some ma=>cases ob with
  | none=>exact inl ⟨_,_,_,rfl⟩
  | some mb =>
   have h1:az _ A (je va ma):=(ha.alloc (aF va 317)).alloc (aF vb 317);have h2:az _ A (je vb mb):=(hb.alloc (aF va 317)).alloc (aF vb 317);obtain⟨n1,n2,sz⟩:=iu w (aF va 317) (aF vb 317);refine az.two h1 h2 (λ k=>k=w.heap.size\/k=w.heap.size+1) (λ k hk=>⟨by omega,hA k (by omega)⟩) (λ K1 K2 _ _ q1 q2 W hW hk=>?_);refine⟨_,_,rfl,Tryz.entEqual,λ b r pv mv hr=>?_⟩
   refine(ED W b r pv mv hr va vb ma mb K1 K2 (q1 W hW (λ k h=>hk k (inl h))) (q2 W hW (λ k h=>hk k (inr (inl h)))) _ _
    (af ((hk _ (inr (inr (inl rfl)))).trans n1)) (af ((hk _ (inr (inr (inr rfl)))).trans n2))).mono ?_
   rintro e w' ⟨rfl,rfl⟩;exact⟨rfl,aX _ _⟩
