/- part -/
import Derived.Test.YtphhnjljlllnlaaGreatDoorMem
set_option maxRecDepth 100000
set_option maxHeartbeats 2000000
namespace Go.Proofs.YtphhnjljlllnlaaGreatDoor
open Go.Proofs.Tryz
open Or
open Go.RowKit
abbrev mC:=@Below.heap_alloc
theorem vN(l:List UInt8)(s:ByteArray):iJ l++Lib.strCells s=iJ (l++s.data.toList):=by
 simp [iJ,Lib.strCells]
def jB(st:RS)(s:ByteArray):RS:={ st with page:=st.page++s.data.toList }
theorem oS.wrote{w w2:World}{pb:Nat}{ts:List ak}{st:RS}{D:Nat->Prop}{tb tc:Nat}{dv bv v':Value}{s:ByteArray}(h:oS w pb ts st D tb tc dv (au pb 4) bv)
  (hown:w2.ownsRow 0 5 1 v' (st.page.length+s.size) (iJ st.page++Lib.strCells s)) (hg:w.grownBy w2 bv.ownBlock) (hat:v'.ownBlock=bv.ownBlock\/v'.ownBlock=some w.heap.size) :
  oS (w2.setCell ⟨pb,5,none⟩ v') pb ts (jB st s) D tb tc dv (au pb 4) v'/\Fr (dV pb tb dv bv) w (dV pb tb dv v') (w2.setCell ⟨pb,5,none⟩ v'):=by
 have lp:pb<w.heap.size:=ah h.blk;have lt:tb<w.heap.size:=h.lt (inr (inl rfl))
 have hne:∀ k,k<w.heap.size->bv.ownBlock≠some k->v'.ownBlock≠some k:=λ k hk hb e=>by
  rcases hat with h1|h1
  ·exact hb (h1▸e)
  rw [h1]at e;cases e;omega
 have hs:w.heap.size<=(w2.setCell ⟨pb,5,none⟩ v').heap.size:=by have:=hg.size;simp [World.setCell];omega
 have hold:∀ k,k<w.heap.size->k≠pb->bv.ownBlock≠some k->(w2.setCell ⟨pb,5,none⟩ v').heap[k]?=w.heap[k]?:=λ k hk hp hb=>by
  rw [ai hp,hg.block k hk (λ e=>hb e.symm)]
 have hdn:∀ k,dv.ownBlock=some k->k<w.heap.size/\k≠pb/\bv.ownBlock≠some k:=λ k hk =>
  ⟨h.lt (inr (inr (inr hk))),λ e=>h.ne4 (by rw [hk,e]),λ e=>by
   rcases h.ne6 with h6|h6
   ·rw [h6]at e;cases e
   ·exact h6 (by rw [e,hk])⟩
 have hro:∀ k,k<w.heap.size->¬dV pb tb dv bv k->¬dV pb tb dv v' k:=λ k hk hn ho=>by
  rcases ho with h1|h1|h1|h1
  ·exact hn (inl h1)
  ·exact hn (inr (inl h1))
  ·exact hne k hk (λ e=>hn (inr (inr (inl e)))) h1
  exact hn (inr (inr (inr h1)))
 refine⟨⟨?_,?_,?_,h.used,?_,h.ne1,hne pb lp h.ne2,hne tb lt h.ne3,h.ne4,h.ne5,?_,?_⟩,?_⟩
 ·rw [aV ((hg.block pb lp (λ e=>h.ne2 e.symm)).trans h.blk)];rfl
 ·exact ay h.toks (λ k e=>by
   obtain rfl:tb=k:=by simpa [Value.ownBlock]using e
   exact hold tb lt h.ne1 h.ne3)
 ·rw [vN]at hown;have e:(jB st s).page.length=st.page.length+s.size:=by show(st.page++s.data.toList).length=_;rw [List.length_append,Array.length_toList];rfl
  rw [e];exact ay hown (λ k e=>ai (λ e2=>hne pb lp h.ne2 (by rw [e,e2])))
 ·exact h.defs.mono hs (λ k e=>hold k (hdn k e).1 (hdn k e).2.1 (hdn k e).2.2) (λ k hk ha=>⟨hold k hk (λ e=>ha.1 (inl e)) (λ e=>ha.1 (inr (inr (inl e)))),hro k hk ha.1,ha.2⟩)
 ·cases hd:dv.ownBlock with
  | none =>
   cases hv:v'.ownBlock with
   | none=>exact inl rfl
   | some k=>exact inr (by simp)
  | some k =>
   right;exact hne k (hdn k hd).1 (hdn k hd).2.2
 ·exact λ k hk=>⟨gY (h.free k hk).1 hs,hro k (h.free k hk).1 (h.free k hk).2⟩
 have f1:=((dw (dV pb tb dv bv) w).grown hg (λ k e=>inl (inr (inr (inl e))))).setCell (p:=⟨pb,5,none⟩) (inl (inl rfl)) v';refine f1.reown (λ k ho=>?_);rcases ho with h1|h1|h1|h1
 ·exact inl (inl h1)
 ·exact inl (inr (inl h1))
 ·rcases hat with h2|h2
  ·exact inl (inr (inr (inl (h2▸h1))))
  rw [h2]at h1;cases h1;exact inr (aL _)
 exact inl (inr (inr (inr h1)))
theorem oS.useIt{w:World}{pb:Nat}{ts:List ak}{st:RS}{D:Nat->Prop}{tb tc:Nat}{dv av bv:Value}(h:oS w pb ts st D tb tc dv av bv) :
  oS (w.setCell ⟨pb,4,none⟩ (au pb 4)) pb ts st D tb tc dv (au pb 4) bv:=by
 have h':oS w pb ts st D tb tc dv av bv:=h;have hs:w.heap.size<=(w.setCell ⟨pb,4,none⟩ (au pb 4)).heap.size:=by simp [World.setCell]
 have hk:∀ k,k≠pb->(w.setCell ⟨pb,4,none⟩ (au pb 4)).heap[k]?=w.heap[k]?:=λ k e=>ai e
 refine⟨by rw [aV h.blk];rfl,ay h.toks (λ k e=>hk k ?_),ay h.page (λ k e=>hk k (λ e2=>h.ne2 (by rw [e,e2]))),inr rfl,
  h.defs.mono hs (λ k e=>hk k (λ e2=>h.ne4 (by rw [e,e2]))) (λ k _ ha=>⟨hk k (λ e=>ha.1 (inl e)),ha⟩),h.ne1,h.ne2,h.ne3,h.ne4,h.ne5,h.ne6,λ k hd=>⟨gY (h.free k hd).1 hs,(h.free k hd).2⟩⟩
 obtain rfl:tb=k:=by simpa [Value.ownBlock]using e
 exact h.ne1
theorem xk{w:World}{base:Nat}{e:TypeId}{size:Nat}{v:Value}{n:Nat}{xs:List Value}(h:w.ownsRow base e size v n xs):∃ a n c,v=.slice a n c:=by
 rcases h.2 with⟨h1,_⟩|⟨g,cap,cur,h1,_⟩
 ·exact⟨_,_,_,h1⟩
 exact⟨_,_,_,h1⟩
theorem oS.grown5{w w2:World}{pb:Nat}{ts:List ak}{st:RS}{D:Nat->Prop}{tb tc:Nat}{dv av bv:Value}(h:oS w pb ts st D tb tc dv av bv)(hg:w.grownBy w2 bv.ownBlock) :
  w2.cell? ⟨pb,5,none⟩=some bv/\w2.frozen? ⟨pb,5,none⟩=false:=by
 have hb:=(hg.block pb (ah h.blk) (λ e=>h.ne2 e.symm)).trans h.blk;exact⟨ag hb,aj hb⟩
theorem vE{w:World}{pb:Nat}{ts:List ak}{st:RS}{D:Nat->Prop}{tb tc:Nat}{dv bv:Value}(h:oS w pb ts st D tb tc dv (au pb 4) bv)(s:ByteArray)(hs:st.page.length+s.size<=1000000000)
  (W0:World) (hcc:Calls prog 236 #[au pb 4] W0 λ e w'=>e=.returned (.tuple #[])/\w'=w) :
  Calls prog 210 #[au pb 4,.string s] W0 λ e w'=>e=.returned (.tuple #[.int .i64 (s.size:Int),.nilIface])/\∃ v',oS w' pb ts (jB st s) D tb tc dv (au pb 4) v'/\Fr (dV pb tb dv bv) w (dV pb tb dv v') w':=by
 obtain⟨i0,hi,hz0,hz1,hz2⟩:=info_parts Tryz.infoByte;have c5:w.cell? ⟨pb,5,none⟩=some bv:=ag h.blk;have HH:=af h;have AA:=af hcc;have hsz:s.size<=1000000000:=by omega
 obtain⟨ba,bn,bc,hbv⟩:=xk h.page;subst hbv;clear h hcc;go_enter func210,ntmps210
 go_wp2_with (first
  | (go_at_call 236;refine(ae AA).mono ?_;rintro e w' ⟨rfl,rfl⟩)
  | (at_builtin;refine vD rfl _ _ 56 9 rfl 5 i0 underlying56 underlying9 hi hz0 hz1 hz2 _ _ _ rfl (ae HH).page s rfl hs ?_;intro v' w2 hown' hgrow hat;obtain⟨a',n',c',hv'⟩:=xk hown';obtain⟨d5,z5⟩:=(ae HH).grown5 hgrow;have HR:=af ((ae HH).wrote hown' hgrow hat);clear hown' hgrow hat;subst hv'))
 go_ret2
 exact⟨rfl,_,ae HR⟩
theorem nW{w:World}{pb:Nat}{ts:List ak}{st:RS}{D O:Nat->Prop}(h:RA w pb ts st D O)(s:ByteArray)(hs:st.page.length+s.size<=1000000000) :
  Calls prog 210 #[au pb 4,.string s] w λ e w'=>e=.returned (.tuple #[.int .i64 (s.size:Int),.nilIface])/\∃ O',RA w' pb ts (jB st s) D O'/\Fr O w O' w':=by
 obtain⟨tb,tc,dv,av,bv,h,rfl⟩:=h;rcases h.used with rfl|rfl
 ·refine(vE h.useIt s hs w (vQ pb w (ag h.blk) (by simp [World.shape?,h.blk];rfl) (aj h.blk))).mono ?_;rintro e w' ⟨rfl,v',h1,h2⟩;exact⟨rfl,_,⟨tb,tc,dv,_,v',h1,rfl⟩,(((dw _ _).setCell (inl (inl rfl)) _)).trans h2⟩
 refine(vE h s hs w (tM pb w (ag h.blk))).mono ?_;rintro e w' ⟨rfl,v',h1,h2⟩;exact⟨rfl,_,⟨tb,tc,dv,_,v',h1,rfl⟩,h2⟩
theorem RA.cells{w:World}{pb:Nat}{ts:List ak}{st:RS}{D O:Nat->Prop}(h:RA w pb ts st D O) :
  w.cell? ⟨pb,6,none⟩=some (.string st.gap)/\w.frozen? ⟨pb,6,none⟩=false/\w.cell? ⟨pb,2,none⟩=some (.int .i64 st.depth)/\w.frozen? ⟨pb,2,none⟩=false/\w.cell? ⟨pb,1,none⟩=some (.int .i64 (st.next:Int))/\w.frozen? ⟨pb,1,none⟩=false:=by
 obtain⟨tb,tc,dv,av,bv,h,rfl⟩:=h;exact⟨ag h.blk,aj h.blk,ag h.blk,aj h.blk,ag h.blk,aj h.blk⟩
theorem RA.put{w:World}{pb o:Nat}{v:Value}{ts:List ak}{st st':RS}{D O:Nat->Prop}(h:RA w pb ts st D O)(hp:st'.page=st.page)(hd:st'.defs=st.defs)
  (hc:∀ tv dv av bv,(iw tv dv av bv st).setIfInBounds o v=iw tv dv av bv st'):RA (w.setCell ⟨pb,o,none⟩ v) pb ts st' D O:=by
 obtain⟨tb,tc,dv,av,bv,h,rfl⟩:=h;refine⟨tb,tc,dv,av,bv,h.set (by simp [World.setCell]) ?_ hp hd (λ k _ hk _=>ai hk),rfl⟩;rw [aV h.blk,hc]
theorem RA.putGap{w:World}{pb:Nat}{ts:List ak}{st:RS}{D O:Nat->Prop}(h:RA w pb ts st D O)(g:ByteArray):RA (w.setCell ⟨pb,6,none⟩ (.string g)) pb ts { st with gap:=g } D O:=h.put rfl rfl (λ _ _ _ _=>rfl)
theorem RA.putDepth{w:World}{pb:Nat}{ts:List ak}{st:RS}{D O:Nat->Prop}(h:RA w pb ts st D O)(g:Int):RA (w.setCell ⟨pb,2,none⟩ (.int .i64 g)) pb ts { st with depth:=g } D O:=h.put rfl rfl (λ _ _ _ _=>rfl)
theorem RA.putNext{w:World}{pb:Nat}{ts:List ak}{st:RS}{D O:Nat->Prop}(h:RA w pb ts st D O)(g:Nat):RA (w.setCell ⟨pb,1,none⟩ (.int .i64 (g:Int))) pb ts { st with next:=g } D O:=h.put rfl rfl (λ _ _ _ _=>rfl)
theorem mZ{w:World}{pb:Nat}{ts:List ak}{st:RS}{D O:Nat->Prop}(h:RA w pb ts st D O) :
  Calls prog 211 #[au pb 4] w λ e w'=>e=.returned (.tuple #[])/\RA w' pb ts (ii st) D O/\Fr O w O w':=by
 obtain⟨c6,z6,_⟩:=h.cells;have HH:=af h;clear h;go_enter func211,ntmps211;go_wp2_with fail
 go_end0
 exact⟨rfl,(ae HH).putGap _,(dw _ _).setCell (inl (ae HH).own) _⟩
abbrev kh(t:ak):Value:=.agg #[.int .i64 t.kind,.int .i64 t.at_,.string t.text,.int .i64 t.number,.int .i64 t.addr,.int .i64 t.len]
abbrev aQ(t:ak):Obj:=.cells #[.int .i64 t.kind,.int .i64 t.at_,.string t.text,.int .i64 t.number,.int .i64 t.addr,.int .i64 t.len] 140
theorem fL(w:World)(c:Array Value)(T:TypeId):(w.alloc (.cells c T)).heap[w.heap.size]?=some (.cells c T (0,0)):=cM w _
theorem RA.newTok{w w1:World}{pb:Nat}{ts:List ak}{st:RS}{D O O1:Nat->Prop}(h:RA w pb ts st D O)(t:ak)(hf:Fr O (w.alloc (aQ t)) O1 w1) :
  w1.heap[w.heap.size]?=some (aQ t)/\Fr O w O1 w1:=by
 refine⟨(hf.block w.heap.size (by simp) (λ ho=>by have:=h.lt ho;omega)).trans (fL w _ _),((dw O w).alloc _).trans hf⟩
theorem Iq{w:World}{pb:Nat}{ts:List ak}{st:RS}{D O:Nat->Prop}(h:RA w pb ts st D O)(t:ak)(ht:t.text.size<=600)(hp:st.page.length<=1000000)(h27:t.kind=27) :
  Calls prog 180 #[au pb 4,kh t] w λ e w'=>e=.returned (.tuple #[])/\∃ O',RA w' pb ts (sk st t) D O'/\Fr O w O' w':=by
 have c0:(w.alloc (aQ t)).cell? ⟨w.heap.size,2,none⟩=some (.string t.text):=ag (fL w _ _);have HH:=af h;have HW:=af (nW (h.alloc (aQ t)).drew t.text (by omega));have hk:(t.kind != 27)=false:=by rw [h27];rfl
 have EQ:=af (show sk st t=ii { jB st t.text with gap:=⟨#[32]⟩ }by simp [sk,h27,ii,jB]);have HK:=af h27;clear h h27 hp ht;go_enter func180,ntmps180;go_wp2_with fail;go_region_with (go_at_call 210;refine(ae HW).mono ?_;rintro e w1 ⟨rfl,O1,hr1,hf1⟩)
 all_goals
  have f0:=(ae HH).newTok t (((dw _ _).drew).trans hf1);have k0:w1.cell? ⟨w.heap.size,0,none⟩=some (.int .i64 27):=by rw [<-ae HK];exact ag f0.1
  obtain⟨c6,z6,_⟩:=hr1.cells;have AA:=af hr1;have BA:=af f0.2;clear hr1 hf1 f0;go_wp2_with (go_at_call 211;refine(mZ ((ae AA).putGap _)).mono ?_;rintro e w2 ⟨rfl,hr2,hf2⟩)
  go_end0
  exact⟨rfl,O1,by rw [ae EQ];exact hr2,((ae BA).setCell (inl (ae AA).own) _).trans hf2⟩
theorem Fs{w:World}{pb:Nat}{ts:List ak}{st:RS}{D O:Nat->Prop}(h:RA w pb ts st D O)(t:ak)(ht:t.text.size<=600)(hp:st.page.length<=1000000)(h27:t.kind=28) :
  Calls prog 180 #[au pb 4,kh t] w λ e w'=>e=.returned (.tuple #[])/\∃ O',RA w' pb ts (sk st t) D O'/\Fr O w O' w':=by
 have c0:(w.alloc (aQ t)).cell? ⟨w.heap.size,2,none⟩=some (.string t.text):=ag (fL w _ _);have HH:=af h;have HW:=af (nW (h.alloc (aQ t)).drew t.text (by omega));have hk:(t.kind != 27)=true:=by rw [h27];rfl
 have hk2:(t.kind != 28)=false:=by rw [h27];rfl
 have EQ:=af (show sk st t={ jB st t.text with gap:=⟨#[32]⟩ }by simp [sk,h27,LD,jB]);have HK:=af h27;clear h h27 hp ht;go_enter func180,ntmps180;go_wp2_with fail;go_region_with (go_at_call 210;refine(ae HW).mono ?_;rintro e w1 ⟨rfl,O1,hr1,hf1⟩)
 all_goals
  have f0:=(ae HH).newTok t (((dw _ _).drew).trans hf1);have k0:w1.cell? ⟨w.heap.size,0,none⟩=some (.int .i64 28):=by rw [<-ae HK];exact ag f0.1
  obtain⟨c6,z6,_⟩:=hr1.cells;have AA:=af hr1;have BA:=af f0.2;clear hr1 hf1 f0;go_wp2_with fail
  go_end0
  exact⟨rfl,O1,by rw [ae EQ];exact(ae AA).putGap _,((ae BA).setCell (inl (ae AA).own) _)⟩
theorem Ip{w:World}{pb:Nat}{ts:List ak}{st:RS}{D O:Nat->Prop}(h:RA w pb ts st D O)(t:ak)(ht:t.text.size<=600)(hg:st.gap.size<=1)(hp:st.page.length<=1000000)(h27:t.kind≠27)(h28:t.kind≠28) :
  Calls prog 180 #[au pb 4,kh t] w λ e w'=>e=.returned (.tuple #[])/\∃ O',RA w' pb ts (sk st t) D O'/\Fr O w O' w':=by
 have c0:(w.alloc (aQ t)).cell? ⟨w.heap.size,2,none⟩=some (.string t.text):=ag (fL w _ _);have c6:(w.alloc (aQ t)).cell? ⟨pb,6,none⟩=some (.string st.gap):=(h.alloc (aQ t)).cells.1;have HH:=af h;have HW:=af (nW (h.alloc (aQ t)).drew st.gap (by omega));have hk:(t.kind != 27)=true:=by simpa using h27
 have hk2:(t.kind != 28)=true:=by simpa using h28
 have hk3:(t.kind==27)=false:=by simpa using h27
 have EQ:=af (show sk st t={ jB (jB st st.gap) t.text with gap:=⟨#[32]⟩ }by simp [sk,h27,h28,LD,jB]);have EA:Hid ((jB st st.gap).page.length+t.text.size<=1000000000):=by show(st.page++st.gap.data.toList).length+_<=_;rw [List.length_append,Array.length_toList];have:st.gap.data.size<=1:=hg;omega
 clear h h27 h28 hp ht hg;go_enter func180,ntmps180;go_wp2_with fail;go_region_with (go_at_call 210;refine(ae HW).mono ?_;rintro e w1 ⟨rfl,O1,hr1,hf1⟩)
 all_goals
  have f0:=(ae HH).newTok t (((dw _ _).drew).trans hf1);have k0:w1.cell? ⟨w.heap.size,0,none⟩=some (.int .i64 t.kind):=ag f0.1;have k2:w1.cell? ⟨w.heap.size,2,none⟩=some (.string t.text):=ag f0.1;have AA:=af f0.1
  have hW1:Hid (¬O1 w.heap.size):=λ ho=>by
   rcases f0.2.own _ ho with h1|h1
   ·have:=(ae HH).lt h1;omega
   rcases hf1.own _ ho with h2|h2
   ·have:=(ae HH).lt h2;omega
   have h3:((w.alloc (aQ t)).drew).heap.size=w.heap.size+1:=by simp
   omega
  have GA:=af hr1;have CA:=af f0.2;have FA:=af (nW hr1.drew t.text (ae EA));clear hr1 hf1 f0;go_wp2_with fail;go_region_with (go_at_call 210;refine(ae FA).mono ?_;rintro e w2 ⟨rfl,O2,hr2,hf2⟩)
  all_goals
   have k0:w2.cell? ⟨w.heap.size,0,none⟩=some (.int .i64 t.kind):=ag ((hf2.block w.heap.size (ah (ae AA)) (ae hW1)).trans (ae AA));obtain⟨c6',z6,_⟩:=hr2.cells;have BA:=af hr2;have DA:=af ((ae CA).drew.trans hf2);clear hr2 hf2;go_wp2_with fail
   go_end0
   exact⟨rfl,O2,by rw [ae EQ];exact(ae BA).putGap _,((ae DA).setCell (inl (ae BA).own) _)⟩
theorem K6{w:World}{pb:Nat}{ts:List ak}{st:RS}{D O:Nat->Prop}(h:RA w pb ts st D O)(t:ak)(ht:t.text.size<=600)(hg:st.gap.size<=1)(hp:st.page.length<=1000000) :
  Calls prog 180 #[au pb 4,kh t] w λ e w'=>e=.returned (.tuple #[])/\∃ O',RA w' pb ts (sk st t) D O'/\Fr O w O' w':=by
 by_cases h27:t.kind=27
 ·exact Iq h t ht hp h27
 by_cases h28:t.kind=28
 ·exact Fs h t ht hp h28
 exact Ip h t ht hg hp h27 h28
theorem RA.noNew{w:World}{pb:Nat}{ts:List ak}{st:RS}{D O:Nat->Prop}(h:RA w pb ts st D O){k:Nat}(hk:w.heap.size<=k):¬O k/\¬D k :=
 ⟨λ ho=>by have:=h.lt ho;omega,λ hd=>by have:=(h.free hd).1;omega⟩
theorem bH{w w':World}{O O':Nat->Prop}{k:Nat}{o:Obj}(hf:Fr O w O' w')(hb:w.heap[k]?=some o)(hn:¬O k):w'.heap[k]?=some o/\¬O' k:=by
 have hl:k<w.heap.size:=ah hb;refine⟨(hf.block k hl hn).trans hb,λ ho=>?_⟩;rcases hf.own k ho with h1|h1
 ·exact hn h1
 omega
theorem kV{w:World}{pb:Nat}{ts:List ak}{st:RS}{D O:Nat->Prop}(h:RA w pb ts st D O)(hk:st.next<ts.length)(hn:ts.length<=601) :
  Calls prog 90 #[au pb 0] w λ e w'=>e=.returned (.int .i64 (an ts st))/\RA w' pb ts st D O/\Fr O w O w'/\w'.heap=w.heap:=by
 refine(Jq h hk hn).mono ?_;rintro e w' ⟨rfl,q,rfl⟩;exact⟨rfl,h.drewN q,(dw _ _).drewN q,rfl⟩
theorem qy{w:World}{b:Nat}{t:ak}(h:w.heap[b]?=some (aQ t)) :
  w.cell? ⟨b,0,none⟩=some (.int .i64 t.kind)/\w.cell? ⟨b,1,none⟩=some (.int .i64 t.at_)/\w.cell? ⟨b,2,none⟩=some (.string t.text)/\w.cell? ⟨b,3,none⟩=some (.int .i64 t.number)/\w.cell? ⟨b,4,none⟩=some (.int .i64 t.addr)/\w.cell? ⟨b,5,none⟩=some (.int .i64 t.len)/\∀ o,w.frozen? ⟨b,o,none⟩=false :=
 ⟨ag h,ag h,ag h,ag h,ag h,ag h,λ _=>aj h⟩
def Ni(pb:Nat)(ts:List ak)(w:World)(D O:Nat->Prop)(r:RS×ak)(e:Ending)(w':World):Prop :=
 e=.returned (kh r.2)/\∃ O',RA w' pb ts r.1 D O'/\Fr O w O' w'
theorem Ku{w:World}{pb:Nat}{ts:List ak}{st:RS}{D O:Nat->Prop}(h:RA w pb ts st D O)(hk:st.next<ts.length)(hn:ts.length<=601)(k:Int)(hne:an ts st≠k) :
  Calls prog 139 #[au pb 0,.int .i64 k] w (Ni pb ts w D O (dL ts st,fZ)):=by
 have HH:=af h;have HK:=af (kV (h.alloc (aQ fZ)) hk hn);have hb:(an ts st != k)=true:=by simpa using hne
 have HN:=af (h.noNew (aL _));clear h hne;go_enter func139,ntmps139
 go_wp2_with (first
  | (go_at_call 90;refine(ae HK).mono ?_;rintro e w1 ⟨rfl,hr1,hf1,_⟩;have EA:=af hr1;have BA:=af hf1;clear hr1 hf1)
  | (go_at_call 91;refine(jf (ae EA) hk hn).mono ?_;rintro e w2 ⟨rfl,hr2,hf2⟩;have hb2:=bH ((ae BA).trans hf2) (fL w _ _) (ae HN).1;have FA:=af hr2;have DA:=af (((dw _ w).alloc _).trans ((ae BA).trans hf2));have CA:=af hb2.1;have AA:=af hb2.2;clear hr2 hf2 hb2;obtain⟨s0,s1,s2,s3,s4,s5,hz⟩:=qy (ae CA)))
 refine gH (v:=kh fZ) (by simp [results,results139,go_sem,s0,s1,s2,s3,s4,s5,fZ]) rfl ⟨rfl,O,?_,?_⟩
 ·exact((((((ae FA).other ⟨ae AA,(ae HN).2⟩ _ _).other ⟨ae AA,(ae HN).2⟩ _ _).other ⟨ae AA,(ae HN).2⟩ _ _).other ⟨ae AA,(ae HN).2⟩ _ _).other ⟨ae AA,(ae HN).2⟩ _ _).other ⟨ae AA,(ae HN).2⟩ _ _
 exact((((((ae DA).setCell (inr (aL _)) _).setCell (inr (aL _)) _).setCell (inr (aL _)) _).setCell (inr (aL _)) _).setCell (inr (aL _)) _).setCell (inr (aL _)) _
theorem RA.step1{w:World}{pb:Nat}{ts:List ak}{st:RS}{D O:Nat->Prop}(h:RA w pb ts st D O):RA (w.setCell ⟨pb,1,none⟩ (.int .i64 ((st.next:Int)+1))) pb ts { st with next:=st.next+1 } D O:=by
 have:=h.putNext (st.next+1);simpa using this
theorem vk{w:World}{pb:Nat}{ts:List ak}{st:RS}{D O:Nat->Prop}(h:RA w pb ts st D O)(hk:Ok ts st)(hn:ts.length<=601)(ht:(dH ts st).text.size<=600)(k:Int)(hne:an ts st=k) :
  Calls prog 139 #[au pb 0,.int .i64 k] w (Ni pb ts w D O (b9 ts st,dH ts st)):=by
 have HH:=af h;have HK:=af (kV (h.alloc (aQ fZ)) hk.next hn);have hb:(an ts st != k)=false:=by simpa using hne
 have HN:=af (h.noNew (aL _));have hk1:=hk.next;have BA:=af hk;clear h hne hk;go_enter func139,ntmps139;go_wp2_with (go_at_call 90;refine(ae HK).mono ?_;rintro e w1 ⟨rfl,hr1,hf1,hh1⟩;have hs1:w1.heap.size=w.heap.size+1:=(by rw [hh1];simp);have GA:=af (show w1.heap[w.heap.size]?=some (aQ fZ)by rw [hh1];exact fL w _ _);clear hh1;have EA:=af hr1;have KA:=af hf1;obtain⟨_,_,_,_,n1,zn1⟩:=hr1.cells;obtain⟨tb,tc,dv,av,bv,h1,hO1⟩:=hr1;have c0:w1.cell? ⟨pb,0,none⟩=some (.slice (some ⟨tb,0,none⟩) ts.length tc):=ag h1.blk;obtain⟨t0,t1,t2,t3,t4,t5⟩:=h1.tok hk1;have lp:pb<w1.heap.size:=ah h1.blk;have ltb:tb<w1.heap.size:=h1.lt (inr (inl rfl));clear h1 hO1 hf1;have hal:=(tD ((aY w1.heap.size w1).alloc (aL _) (.cells #[.int .i64 0,.int .i64 0,.string ⟨#[]⟩,.int .i64 0,.int .i64 0,.int .i64 0] 140))).1;have c0':=(hal pb 0 lp).trans c0;have n1':=(hal pb 1 lp).trans n1;have t0':=(hal tb _ ltb).trans t0;have t1':=(hal tb _ ltb).trans t1;have t2':=(hal tb _ ltb).trans t2;have t3':=(hal tb _ ltb).trans t3;have t4':=(hal tb _ ltb).trans t4;have t5':=(hal tb _ ltb).trans t5;clear hal;generalize hx:st.next=n at *;generalize hl:ts.length=N at *;generalize htk:dH ts st=T at *)
 go_region
 have lR:w.heap.size<w1.heap.size:=by omega
 have CA:=af (((ae EA).alloc (aQ T)).drew);have hb2:((w1.alloc (aQ T)).drew).heap[w.heap.size+1]?=some (aQ T):=by rw [<-hs1];exact fL w1 _ _
 have hb3:((w1.alloc (aQ T)).drew).heap[w.heap.size]?=some (aQ fZ):=(mC w1 (aQ T) _ lR).trans (ae GA);have LA:=af ((((dw O w).alloc _).trans (ae KA)).alloc (aQ T)).drew;have hs2:((w1.alloc (aQ T)).drew).heap.size=w.heap.size+2:=by simp [hs1]
 have NA:=af (show ¬O (w.heap.size+1)/\¬D (w.heap.size+1)by rw [<-hs1];exact(ae EA).noNew (aL _));obtain⟨_,_,_,_,m1,zm1⟩:=(ae CA).cells;clear c0 c0' n1 n1' t0 t0' t1 t1' t2 t2' t3 t3' t4 t4' t5 t5' zn1;have lp2:pb<((w1.alloc (aQ T)).drew).heap.size:=by rw [hs2];omega
 generalize ((w1.alloc (aQ T)).drew)=W2 at *;rw [hx]at m1;have hb2':(W2.setCell ⟨pb,1,none⟩ (.int .i64 ((n:Int)+1))).heap[w.heap.size+1]?=some (aQ T):=by rw [ai (by show w.heap.size+1≠pb;omega)];exact hb2
 have hb3':(W2.setCell ⟨pb,1,none⟩ (.int .i64 ((n:Int)+1))).heap[w.heap.size]?=some (aQ fZ):=by rw [ai (by show w.heap.size≠pb;have:=(ae HH).lt (ae HH).own;omega)];exact hb3
 have FA:=af (show RA (W2.setCell ⟨pb,1,none⟩ (.int .i64 ((n:Int)+1))) pb ts { st with next:=st.next+1 } D O by rw [<-hx];exact(ae CA).step1);have DA:=af ((ae LA).setCell (p:=⟨pb,1,none⟩) (inl (ae CA).own) (.int .i64 ((n:Int)+1)));obtain⟨W3,hW3⟩:∃ W3,W2.setCell ⟨pb,1,none⟩ (.int .i64 ((n:Int)+1))=W3:=⟨_,rfl⟩
 rw [hW3]at hb2' hb3' FA DA;have JA:=af hb3';have IA:=af hb2';obtain⟨u0,u1,u2,u3,u4,u5,hu⟩:=qy hb2';clear hb2' hb3' hb2 hb3;go_wp2_with fail;clear hW3;have HA:=af (K6 (ae FA).drew T ht (ae BA).gap (by have:=(ae BA).page;have h2:=(ae BA).next;show st.page.length<=_;omega));go_region_with (go_at_call 180;refine(ae HA).mono ?_;rintro e w4 ⟨rfl,O4,hr4,hf4⟩)
 all_goals
  have hf4':=((dw _ _).drew).trans hf4;have g2:=bH hf4' (ae IA) (ae NA).1;have g3:=bH hf4' (ae JA) (ae HN).1;have OA:=af hr4;have MA:=af ((ae DA).trans hf4');have AA:=af g3.2;obtain⟨v0,v1,v2,v3,v4,v5,hv⟩:=qy g2.1;obtain⟨s0,s1,s2,s3,s4,s5,hz⟩:=qy g3.1;clear g2 g3 hr4 hf4 hf4' u0 u1 u2 u3 u4 u5 hu;go_wp2_with fail;refine gH (v:=kh T) (by simp [results,results139,go_sem,s0,s1,s2,s3,s4,s5]) rfl ⟨rfl,O4,?_,?_⟩
  ·rw [show b9 ts st=sk { st with next:=st.next+1 } T by rw [b9,htk]];exact((((((ae OA).other ⟨ae AA,(ae HN).2⟩ _ _).other ⟨ae AA,(ae HN).2⟩ _ _).other ⟨ae AA,(ae HN).2⟩ _ _).other ⟨ae AA,(ae HN).2⟩ _ _).other ⟨ae AA,(ae HN).2⟩ _ _).other ⟨ae AA,(ae HN).2⟩ _ _
  exact((((((ae MA).setCell (inr (aL _)) _).setCell (inr (aL _)) _).setCell (inr (aL _)) _).setCell (inr (aL _)) _).setCell (inr (aL _)) _).setCell (inr (aL _)) _
theorem KF{ts:List ak}{st:RS}(h:st.next<ts.length):dH ts st∈ts:=by rw [mw h];exact ej h
theorem bL{w:World}{pb:Nat}{ts:List ak}{st:RS}{D O:Nat->Prop}(h:RA w pb ts st D O)(hk:Ok ts st)(ht:bY ts)(k:Int) :
  Calls prog 139 #[au pb 0,.int .i64 k] w (Ni pb ts w D O (aC ts k st)):=by
 unfold aC;by_cases hne:an ts st=k
 ·rw [aS hne];exact vk h hk ht.n1 (by rw [mw hk.next];exact ht.text _ hk.next) k hne
 rw [aG hne];exact Ku h hk.next ht.n1 k hne
theorem Nv{ts:List ak}{st:RS}(h:Ok ts st)(ht:bY ts)(hk:2<=(dH ts st).kind):Ok ts (b9 ts st):=by
 have hn:=h.next;have h1:=ht.last st.next hn (by rw [mw hn]at hk;exact hk);have h2:(dH ts st).text.size<=600:=by rw [mw hn];exact ht.text _ hn
 have h3:=h.page;have h4:st.gap.data.size<=1:=h.gap;have h5:(dH ts st).text.data.size<=600:=h2;refine⟨h1,?_,?_⟩
 ·show(if _ then _ else _:List UInt8).length<=700*(st.next+1);split<;>simp only [List.length_append,Array.length_toList]<;>omega
 show(if _ then Lz else LD:ByteArray).size<=1;split<;>decide
theorem ij{ts:List ak}{st:RS}(h:Ok ts st):Ok ts (dL ts st):=⟨h.next,h.page,h.gap⟩
theorem Gk{ts:List ak}{st:RS}{k:Int}(h:an ts st=k)(hk:2<=k):(dH ts st).kind=k/\st.syn=none:=by
 unfold an at h;cases hs:st.syn with
 | none=>rw [hs]at h;exact⟨h,rfl⟩
 | some x=>rw [hs]at h;simp at h;omega
theorem bV{ts:List ak}{st:RS}{k:Int}(h:Ok ts st)(ht:bY ts)(e:an ts st=k)(hk:2<=k):Ok ts (b9 ts st) :=
 Nv h ht (by rw [(Gk e hk).1];exact hk)
theorem bT{ts:List ak}{st:RS}{k:Int}(h:Ok ts st)(ht:bY ts)(hk:2<=k):Ok ts (aC ts k st).1:=by
 unfold aC;by_cases e:an ts st=k
 ·rw [aS e];exact bV h ht e hk
 rw [aG e];exact ij h
theorem tP{ts:List ak}{st:RS}(h:Ok ts st)(d:Int):Ok ts { st with depth:=d }:=⟨h.next,h.page,h.gap⟩
theorem nj{ts:List ak}{st:RS}{k:Int}(h:Ok ts st)(ht:bY ts)(hk:2<=k):Ok ts (ft ts k st):=by
 unfold ft;refine tP (bT ?_ ht hk) _;split
 ·exact ij h
 exact h
theorem qj{ts:List ak}{st:RS}{k:Int}(h:Ok ts st)(ht:bY ts)(hk:2<=k):Ok ts (ka ts k st):=tP (bT h ht hk) _
theorem Lp{ts:List ak}{st:RS}(h:Ok ts st):Ok ts (IW st):=tP h _
theorem rE{ts:List ak}{st:RS}(h:Ok ts st):Ok ts (ii st):=⟨h.next,h.page,by show Lz.size<=1;decide⟩
theorem gO{ts:List ak}{st:RS}{a b:Int}(h:Ok ts st)(ht:bY ts):Ok ts (aM ts a b st).1:=by
 have h1:=bT (k:=2) h ht (by decide);show Ok ts (if _ then _ else _);split
 ·exact⟨h1.next,h1.page,h1.gap⟩
 exact h1
theorem bP{w:World}{pb:Nat}{ts:List ak}{st:RS}{D O:Nat->Prop}(h:RA w pb ts st D O)(hk:Ok ts st)(ht:bY ts)(k:Int)(e:an ts st=k) :
  Calls prog 137 #[au pb 0,.int .i64 k] w λ e w'=>e=.returned (.bool true)/\∃ O',RA w' pb ts (b9 ts st) D O'/\Fr O w O' w':=by
 have HK:=af (kV h hk.next ht.n1);have hb:(an ts st != k)=false:=by simpa using e
 have HT:=af (λ W (hW:RA W pb ts st D O)=>vk hW hk ht.n1 (by rw [mw hk.next];exact ht.text _ hk.next) k e);clear h e hk ht;go_enter func137,ntmps137
 go_wp2_with (first
  | (go_at_call 90;refine(ae HK).mono ?_;rintro e w1 ⟨rfl,hr1,hf1,_⟩;have CA:=af hr1;have AA:=af hf1;clear hr1 hf1)
  | (go_at_call 139;refine((ae HT) _ (ae CA)).mono ?_;rintro e w2 ⟨rfl,O2,hr2,hf2⟩;have DA:=af hr2;have BA:=af ((ae AA).trans hf2);clear hr2 hf2))
 go_ret;exact⟨rfl,_,ae DA,ae BA⟩
theorem aH{w:World}{pb:Nat}{ts:List ak}{st:RS}{D O:Nat->Prop}(h:RA w pb ts st D O)(hk:Ok ts st)(ht:bY ts)(k:Int)(e:an ts st≠k) :
  Calls prog 137 #[au pb 0,.int .i64 k] w λ e w'=>e=.returned (.bool false)/\RA w' pb ts st D O/\Fr O w O w':=by
 have HK:=af (kV h hk.next ht.n1);have hb:(an ts st != k)=true:=by simpa using e
 clear h e hk ht;go_enter func137,ntmps137;go_wp2_with (go_at_call 90;refine(ae HK).mono ?_;rintro e w1 ⟨rfl,hr1,hf1,_⟩;have BA:=af hr1;have AA:=af hf1;clear hr1 hf1)
 go_ret;exact⟨rfl,ae BA,ae AA⟩
theorem qk{w:World}{pb:Nat}{ts:List ak}{st:RS}{D O:Nat->Prop}(h:RA w pb ts st D O)(hk:Ok ts st)(ht:bY ts)(k:Int) :
  Calls prog 221 #[au pb 0,.int .i64 k] w λ e w'=>e=.returned (.tuple #[])/\∃ O',RA w' pb ts (ka ts k st) D O'/\Fr O w O' w':=by
 have HT:=af (bL h hk ht k);clear h hk ht;go_enter func221,ntmps221;go_wp2_with (go_at_call 139;refine(ae HT).mono ?_;rintro e w2 ⟨rfl,O2,hr2,hf2⟩;obtain⟨_,_,d1,zd1,_⟩:=hr2.cells;have AA:=af hr2;have BA:=af hf2;clear hr2 hf2)
 go_end0
 exact⟨rfl,O2,(ae AA).putDepth _,(ae BA).setCell (inl (ae AA).own) _⟩
theorem nk{w:World}{pb:Nat}{ts:List ak}{st:RS}{D O:Nat->Prop}(h:RA w pb ts st D O)(hk:Ok ts st)(ht:bY ts)(k:Int) :
  Calls prog 220 #[au pb 0,.int .i64 k] w λ e w'=>e=.returned (.tuple #[])/\∃ O',RA w' pb ts (ft ts k st) D O'/\Fr O w O' w':=by
 obtain⟨_,_,d1,zd1,_⟩:=h.cells;by_cases h8:st.depth=8
 ·have HF:=af (jf h hk.next ht.n1);have HT:=af (λ W (hW:RA W pb ts (dL ts st) D O)=>bL hW (ij hk) ht k);have hb:(st.depth==8)=true:=by simpa using h8
  have HQ:=af (show ft ts k st={ (aC ts k (dL ts st)).1 with depth:=sD ((aC ts k (dL ts st)).1.depth+1) }by simp [ft,h8]);clear h hk ht h8;go_enter func220,ntmps220
  go_wp2_with (first
   | (go_at_call 91;refine(ae HF).mono ?_;rintro e w1 ⟨rfl,hr1,hf1⟩;have DA:=af hr1;have CA:=af hf1;clear hr1 hf1)
   | (go_at_call 139;refine((ae HT) _ (ae DA)).mono ?_;rintro e w2 ⟨rfl,O2,hr2,hf2⟩;obtain⟨_,_,d2,zd2,_⟩:=hr2.cells;have AA:=af hr2;have BA:=af ((ae CA).trans hf2);clear hr2 hf2))
  go_end0
  exact⟨rfl,O2,by rw [ae HQ];exact(ae AA).putDepth _,(ae BA).setCell (inl (ae AA).own) _⟩
 have HT:=af (bL h hk ht k);have hb:(st.depth==8)=false:=by simpa using h8
 have HQ:=af (show ft ts k st={ (aC ts k st).1 with depth:=sD ((aC ts k st).1.depth+1) }by simp [ft,h8]);clear h hk ht h8;go_enter func220,ntmps220;go_wp2_with (go_at_call 139;refine(ae HT).mono ?_;rintro e w2 ⟨rfl,O2,hr2,hf2⟩;obtain⟨_,_,d2,zd2,_⟩:=hr2.cells;have AA:=af hr2;have BA:=af hf2;clear hr2 hf2)
 go_end0
 exact⟨rfl,O2,by rw [ae HQ];exact(ae AA).putDepth _,(ae BA).setCell (inl (ae AA).own) _⟩
