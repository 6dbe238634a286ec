/- part -/
import Derived.Test.YtgdeeodifnegiaaGreatDoorRefW
set_option maxRecDepth 100000
set_option maxHeartbeats 12800000
namespace Go.Proofs.YtgdeeodifnegiaaGreatDoor
open Go.Proofs.Tryz
open Or
open Go.RowKit
namespace rf
abbrev bI(t:kA)(b:Bool)(rv:Value)(op text:ByteArray)(n a:Int)(kv:Value):Array Value:=#[.int .u8 t.kind,.string t.text,.int .i64 t.at_,.bool b,rv,.string op,.string text,.int .i64 n,.int .i64 a,kv]
abbrev mr:Array Value:=#[.int .u8 0,.string ⟨#[]⟩,.int .i64 0,.bool false,.slice none 0 0,.string ⟨#[]⟩,.string ⟨#[]⟩,.int .i64 0,.int .i64 0,.slice none 0 0]
def jk(w:World)(Q:Nat->Prop)(d:Df)(v:Value):Prop :=
 ∃ rv op text n a kv,v=.agg (bI d.name d.isWay rv op text n a kv)/\w.ownsRow 0 233 6 rv d.ranges.length (cG d.ranges)/\(∀ k,rv.ownBlock=some k->¬Q k)/\aP w Q d.way (bx op text n a kv)
def LV(pb:Nat)(s:ByteArray)(w:World)(O:Nat->Prop)(r:PS×Df)(e:Ending)(w':World):Prop :=
 ∃ v O',e=.returned v/\PA w' pb s r.1 O'/\Fr O w O' w'/\jk w' (λ k=>O' k\/k<w.heap.size) r.2 v/\Ok s r.1
theorem mT{w:World}{b b':Nat}{e:TypeId}{size:Nat}{v:Value}{n:Nat}{xs:List Value}(h:w.ownsRow b e size v n xs)(hb:b'<=b):w.ownsRow b' e size v n xs:=by
 obtain⟨h1,h2⟩:=h;refine⟨h1,?_⟩;rcases h2 with h2|⟨g,cap,cur,rfl,hb2,hg,h3⟩
 ·exact inl h2
 exact inr ⟨g,cap,cur,rfl,by omega,hg,h3⟩
theorem jk.set{w w4 w5 wf:World}{O5 O6:Nat->Prop}{l:List Rg}{rv:Value}{t:kA}(GG:Fr (λ k=>O5 k\/k=w.heap.size\/k=w.heap.size+1) w5 (λ k=>O6 k\/k=w.heap.size\/k=w.heap.size+1) wf)
  (h5:w5.ownsRow w4.heap.size 233 6 rv l.length (cG l)) (hn:∀ k,rv.ownBlock=some k->¬O5 k) (l4:w.heap.size+1<w4.heap.size) :
  jk wf (λ k=>O6 k\/k<w.heap.size) ⟨t,false,l,Nq⟩ (.agg (bI t false rv ⟨#[]⟩ ⟨#[]⟩ 0 0 (.slice none 0 0))):=by
 refine⟨rv,⟨#[]⟩,⟨#[]⟩,0,0,.slice none 0 0,rfl,mT (ap h5 (λ k hk=>GG.block k (h5.lt k hk).2 (λ h=>?_))) (iL _),λ k hk h=>?_,aP.leaf _ _ _ _ _ _⟩
 ·rcases h with h|h|h
  ·exact hn k hk h
  ·have:=(h5.lt k hk).1;omega
  have:=(h5.lt k hk).1;omega
 rcases h with h|h
 ·rcases GG.own k (inl h)with(h1|h1|h1)|h1
  ·exact hn k hk h1
  ·have:=(h5.lt k hk).1;omega
  ·have:=(h5.lt k hk).1;omega
  have:=(h5.lt k hk).2;omega
 have:=(h5.lt k hk).1;omega
theorem xu(pb:Nat)(s:ByteArray)(f:Nat)(IH:oA pb s f)(w:World)(st:PS)(O:Nat->Prop)(h:PA w pb s st O)(hk:Ok s st)(hw:aT st nz=true)(st4:PS)(t:Tr)(ht:dq s f (aJ s (aA s (ax s st) 110) ku)=some (st4,t)) :
  Calls prog 69 #[fX pb] w (LV pb s w O (aJ s st4 fy,⟨(ax s st).next,true,[],t⟩)):=by
 have lp:pb<w.heap.size:=h.lt h.own;have N0:=ae (show ¬O w.heap.size from λ hk=>by have:=h.lt hk;omega);have N1:=ae (show ¬O (w.heap.size+1)from λ hk=>by have:=h.lt hk;omega);have CA:=ae h;have KA:=ae ((h.alloc (.cells mr 145)).alloc (.cells mr 145));have MA:=ae (((bE O w).alloc (.cells mr 145)).alloc (.cells mr 145));have K:=ae hk;have HT:=ae ht;have JA:=ae IH;clear h hk ht IH;go_enter func69,ntmps69;go_wp2_with fail;refine((ab KA).is _).mono ?_;rintro e w0 ⟨rfl,rfl⟩;rw [show aT st { data:=#[119,97,121] }=true from hw];go_wp2_with fail;have LA:=ae (((ab CA).alloc (.cells mr 145)).alloc (.cells #[.int .u8 0,.string ⟨#[]⟩,.int .i64 0,.bool true,.slice none 0 0,.string ⟨#[]⟩,.string ⟨#[]⟩,.int .i64 0,.int .i64 0,.slice none 0 0] 145));have IA:=ae (((bE O w).alloc (.cells mr 145)).alloc (.cells #[.int .u8 0,.string ⟨#[]⟩,.int .i64 0,.bool true,.slice none 0 0,.string ⟨#[]⟩,.string ⟨#[]⟩,.int .i64 0,.int .i64 0,.slice none 0 0] 145));refine(aN (ab LA) (ab K)).mono ?_;rintro e w2 ⟨rfl,O2,hp2,hf2⟩;have P2:=ae hp2;have F2:=ae hf2;clear hp2 hf2;go_wp2_with fail;refine(iW (ab P2) (ab K).take _).mono ?_;rintro e w3 ⟨rfl,O3,hp3,hf3⟩;have F3:=ae ((ab F2).trans hf3);have qR:=((ab F3).block w.heap.size (by simp;omega) (ab N0)).trans (bM w _ _ _ _).1;have qD:=((ab F3).block (w.heap.size+1) (by simp) (ab N1)).trans (bM w _ _ _ _).2
 have FA:=ae (show ¬O3 w.heap.size from λ h=>by
  rcases(ab F3).own _ h with h|h
  ·exact ab N0 h
  ·simp at h;omega)
 have BA:=ae (show ¬O3 (w.heap.size+1)from λ h=>by
  rcases(ab F3).own _ h with h|h
  ·exact ab N1 h
  ·simp at h;omega)
 have zd:∀ ob,w3.frozen? ⟨w.heap.size+1,ob,none⟩=false:=λ ob=>ak qD
 obtain⟨d0,d1,d2,d3,d4,d5,d6,d7,d8,d9⟩:=jv qD;have lR3:w.heap.size<w3.heap.size:=ai qR;have lD3:w.heap.size+1<w3.heap.size:=ai qD;have PD:=ae (show PA (((w3.setCell ⟨w.heap.size+1,0,none⟩ (.int .u8 (ax s st).next.kind)).setCell ⟨w.heap.size+1,1,none⟩ (.string (ax s st).next.text)).setCell ⟨w.heap.size+1,2,none⟩ (.int .i64 (ax s st).next.at_)) pb s (aA s (ax s st) 110) O3 from(((hp3).other (ab BA) _ _).other (ab BA) _ _).other (ab BA) _ _);have FD:=ae (show Fr O w O3 (((w3.setCell ⟨w.heap.size+1,0,none⟩ (.int .u8 (ax s st).next.kind)).setCell ⟨w.heap.size+1,1,none⟩ (.string (ax s st).next.text)).setCell ⟨w.heap.size+1,2,none⟩ (.int .i64 (ax s st).next.at_))from((((ab IA).trans (ab F3)).setCell (inr (by show w.heap.size<=w.heap.size+1;omega)) _).setCell (inr (by show w.heap.size<=w.heap.size+1;omega)) _).setCell (inr (by show w.heap.size<=w.heap.size+1;omega)) _);have QD:=ae (show(((w3.setCell ⟨w.heap.size+1,0,none⟩ (.int .u8 (ax s st).next.kind)).setCell ⟨w.heap.size+1,1,none⟩ (.string (ax s st).next.text)).setCell ⟨w.heap.size+1,2,none⟩ (.int .i64 (ax s st).next.at_)).heap[w.heap.size+1]?=some (.cells (bI (ax s st).next true (.slice none 0 0) ⟨#[]⟩ ⟨#[]⟩ 0 0 (.slice none 0 0)) 145 (0,0))from by rw [(aB (aB (aB qD)))];rfl);have QR:=ae (show(((w3.setCell ⟨w.heap.size+1,0,none⟩ (.int .u8 (ax s st).next.kind)).setCell ⟨w.heap.size+1,1,none⟩ (.string (ax s st).next.text)).setCell ⟨w.heap.size+1,2,none⟩ (.int .i64 (ax s st).next.at_)).heap[w.heap.size]?=some (.cells mr 145 (0,0))from by rw [ah (by show w.heap.size≠w.heap.size+1;omega),ah (by show w.heap.size≠w.heap.size+1;omega),ah (by show w.heap.size≠w.heap.size+1;omega)];exact qR);clear hp3 hf3 qR qD;go_wp2_with fail
 obtain⟨WD,hWD⟩:∃ WD,(((w3.setCell ⟨w.heap.size+1,0,none⟩ (.int .u8 (ax s st).next.kind)).setCell ⟨w.heap.size+1,1,none⟩ (.string (ax s st).next.text)).setCell ⟨w.heap.size+1,2,none⟩ (.int .i64 (ax s st).next.at_))=WD:=⟨_,rfl⟩
 rw [hWD]at PD FD QD QR;rw [hWD];clear hWD d0 d1 d2 d3 d4 d5 d6 d7 d8 d9 zd;refine(dr (ab PD) ((ab K).take.kind 110) _).mono ?_;rintro e w4 ⟨rfl,O4,hp4,hf4⟩;have P4:=ae hp4;have F4:=ae hf4;have q4:=(hf4.block _ (ai (ab QD)) (ab BA)).trans (ab QD);have d3:w4.cell? ⟨w.heap.size+1,3,none⟩=some (.bool true):=af q4;have Q4:=ae q4;have R4:=ae ((hf4.block _ (ai (ab QR)) (ab FA)).trans (ab QR))
 have GA:=ae (show ¬O4 w.heap.size from λ h=>by
  rcases hf4.own _ h with h|h
  ·exact ab FA h
  ·have:=ai (ab QR);omega)
 have EA:=ae (show ¬O4 (w.heap.size+1)from λ h=>by
  rcases hf4.own _ h with h|h
  ·exact ab BA h
  ·have:=ai (ab QD);omega)
 have l4:w.heap.size+1<w4.heap.size:=ai q4;clear hp4 hf4 q4;go_wp2_with fail;refine(ab JA _ _ _ _ (ab P4) ((((ab K).take.kind 110)).need _) (ab HT)).mono ?_;rintro e w5 ⟨v,O5,rfl,hp5,hf5,ht5,hk5⟩;obtain⟨op,text,n,a,oo,oc,ol,rfl⟩:=ht5.form;have q5:=(hf5.block _ l4 (ab EA)).trans (ab Q4);have r5:=(hf5.block _ (by omega) (ab GA)).trans (ab R4)
 have AA:=ae (show ¬O5 (w.heap.size+1)from λ h=>by
  rcases hf5.own _ h with h|h
  ·exact ab EA h
  ·omega)
 have HA:=ae (show ¬O5 w.heap.size from λ h=>by
  rcases hf5.own _ h with h|h
  ·exact ab GA h
  ·omega)
 obtain⟨d0,d1,d2,d3,d4,d5,d6,d7,d8,d9⟩:=jv q5;have zd:∀ ob,w5.frozen? ⟨w.heap.size+1,ob,none⟩=false:=λ ob=>ak q5
 have l5:w.heap.size+1<w5.heap.size:=ai q5;have PE:=ae (show PA (((((w5.setCell ⟨w.heap.size+1,5,none⟩ (.string op)).setCell ⟨w.heap.size+1,6,none⟩ (.string text)).setCell ⟨w.heap.size+1,7,none⟩ (.int .i64 n)).setCell ⟨w.heap.size+1,8,none⟩ (.int .i64 a)).setCell ⟨w.heap.size+1,9,none⟩ (.slice oo oc ol)) pb s st4 O5 from(((((hp5).other (ab AA) _ _).other (ab AA) _ _).other (ab AA) _ _).other (ab AA) _ _).other (ab AA) _ _);have DA:=ae (show Fr O w O5 (((((w5.setCell ⟨w.heap.size+1,5,none⟩ (.string op)).setCell ⟨w.heap.size+1,6,none⟩ (.string text)).setCell ⟨w.heap.size+1,7,none⟩ (.int .i64 n)).setCell ⟨w.heap.size+1,8,none⟩ (.int .i64 a)).setCell ⟨w.heap.size+1,9,none⟩ (.slice oo oc ol))from(((((((ab FD).trans (ab F4)).trans hf5).setCell (inr (by show w.heap.size<=w.heap.size+1;omega)) _).setCell (inr (by show w.heap.size<=w.heap.size+1;omega)) _).setCell (inr (by show w.heap.size<=w.heap.size+1;omega)) _).setCell (inr (by show w.heap.size<=w.heap.size+1;omega)) _).setCell (inr (by show w.heap.size<=w.heap.size+1;omega)) _);have QE:=ae (show(((((w5.setCell ⟨w.heap.size+1,5,none⟩ (.string op)).setCell ⟨w.heap.size+1,6,none⟩ (.string text)).setCell ⟨w.heap.size+1,7,none⟩ (.int .i64 n)).setCell ⟨w.heap.size+1,8,none⟩ (.int .i64 a)).setCell ⟨w.heap.size+1,9,none⟩ (.slice oo oc ol)).heap[w.heap.size+1]?=some (.cells (bI (ax s st).next true (.slice none 0 0) op text n a (.slice oo oc ol)) 145 (0,0))from by rw [(aB (aB (aB (aB (aB q5)))))];rfl)
 have RE:=ae (show(((((w5.setCell ⟨w.heap.size+1,5,none⟩ (.string op)).setCell ⟨w.heap.size+1,6,none⟩ (.string text)).setCell ⟨w.heap.size+1,7,none⟩ (.int .i64 n)).setCell ⟨w.heap.size+1,8,none⟩ (.int .i64 a)).setCell ⟨w.heap.size+1,9,none⟩ (.slice oo oc ol)).heap[w.heap.size]?=some (.cells mr 145 (0,0))from by rw [ah (by show w.heap.size≠w.heap.size+1;omega),ah (by show w.heap.size≠w.heap.size+1;omega),ah (by show w.heap.size≠w.heap.size+1;omega),ah (by show w.heap.size≠w.heap.size+1;omega),ah (by show w.heap.size≠w.heap.size+1;omega)];exact r5)
 have GE:=ae (show Fr (λ k=>O5 k\/k=w.heap.size\/k=w.heap.size+1) w5 (λ k=>O5 k\/k=w.heap.size\/k=w.heap.size+1) (((((w5.setCell ⟨w.heap.size+1,5,none⟩ (.string op)).setCell ⟨w.heap.size+1,6,none⟩ (.string text)).setCell ⟨w.heap.size+1,7,none⟩ (.int .i64 n)).setCell ⟨w.heap.size+1,8,none⟩ (.int .i64 a)).setCell ⟨w.heap.size+1,9,none⟩ (.slice oo oc ol))from by
  have f0:Fr (λ k=>O5 k\/k=w.heap.size\/k=w.heap.size+1) w5 (λ k=>O5 k\/k=w.heap.size\/k=w.heap.size+1) w5:=(bE O5 w5).join (λ k=>k=w.heap.size\/k=w.heap.size+1)
  repeat with_reducible first|refine Fr.setCell ?_ (inl (inr (inr rfl))) _|exact f0)
 have T5:=ae ht5;have K5:=ae hk5;clear hp5 hf5 ht5 hk5 q5 r5;go_wp2_with fail;obtain⟨WE,hWE⟩:∃ WE,(((((w5.setCell ⟨w.heap.size+1,5,none⟩ (.string op)).setCell ⟨w.heap.size+1,6,none⟩ (.string text)).setCell ⟨w.heap.size+1,7,none⟩ (.int .i64 n)).setCell ⟨w.heap.size+1,8,none⟩ (.int .i64 a)).setCell ⟨w.heap.size+1,9,none⟩ (.slice oo oc ol))=WE:=⟨_,rfl⟩
 rw [hWE]at PE DA QE RE GE;rw [hWE];clear hWE d0 d1 d2 d3 d4 d5 d6 d7 d8 d9 zd;refine(dr (ab PE) (ab K5) _).mono ?_;rintro e w6 ⟨rfl,O6,hp6,hf6⟩;have lE:w.heap.size+1<WE.heap.size:=ai (ab QE);have q6:=(hf6.block _ lE (ab AA)).trans (ab QE);have hR6:=(hf6.block _ (by omega) (ab HA)).trans (ab RE);obtain⟨d0,d1,d2,d3,d4,d5,d6,d7,d8,d9⟩:=jv q6;obtain⟨r0,r1,r2,r3,r4,r5,r6,r7,r8,r9⟩:=jv hR6;have zr:∀ ob,w6.frozen? ⟨w.heap.size,ob,none⟩=false:=λ ob=>ak hR6
 have HN:=ae (show ¬O6 w.heap.size from λ h=>by
  rcases hf6.own _ h with h|h
  ·exact ab HA h
  ·omega)
 have HP:=ae hp6;have HF:=ae ((ab DA).trans hf6);have GF:=ae ((ab GE).trans (hf6.join (λ k=>k=w.heap.size\/k=w.heap.size+1)));clear hp6 hf6 q6 hR6;go_wp2_with fail;refine eO (v:=.agg (bI (ax s st).next true (.slice none 0 0) op text n a (.slice oo oc ol))) (by simp [results,results69,go_sem,r0,r1,r2,r3,r4,r5,r6,r7,r8,r9]) rfl ⟨_,O6,rfl,?_,?_,?_,(ab K5).need _⟩
 ·refine(show PA _ pb s (aJ s st4 ⟨#[59]⟩) O6 from ?_)
  repeat with_reducible first|refine PA.other ?_ (ab HN) _ _|refine PA.alloc ?_ _|refine PA.drew ?_|refine PA.drewN ?_ _|exact ab HP
 ·repeat with_reducible first|refine Fr.setCell ?_ (inr (aD _)) _|refine Fr.setCell ?_ (inl (ab HO)) _|refine Fr.alloc ?_ _|refine Fr.drew ?_|refine Fr.drewN ?_ _|exact ab HF|exact bE _ _
 refine⟨_,_,_,_,_,_,rfl,jX _ _ _ _,λ k hk=>by simp [Value.ownBlock]at hk,?_⟩;refine aP.step (O:=λ k=>O5 k\/k=w.heap.size\/k=w.heap.size+1) (O':=λ k=>O6 k\/k=w.heap.size\/k=w.heap.size+1) (w:=w5) ?_ ?_ ?_ _ _ (ab T5)
 ·repeat with_reducible first|refine Fr.setCell ?_ (inl (inr (inl rfl))) _|exact ab GF
 ·intro k hk;rcases hk with h|h|h
  ·exact inl h
  ·exact inr (by omega)
  exact inr (by omega)
 intro k hk;rcases hk with h|h
 ·rcases(ab GF).own k (inl h)with(h1|h1|h1)|h1
  ·exact inl (inl h1)
  ·exact inl (inr (by omega))
  ·exact inl (inr (by omega))
  exact inr h1
 exact inl (inr (by omega))
theorem xt(pb:Nat)(s:ByteArray)(f:Nat)(hf0:f<=1000000)(w:World)(st:PS)(O:Nat->Prop)(h:PA w pb s st O)(hk:Ok s st)(hw:aT st nz=false)(st4:PS)(l:List Rg)(ht:ja s f (aJ s (aA s (ax s st) 110) ku)=some (st4,l)) :
  Calls prog 69 #[fX pb] w (LV pb s w O (aJ s st4 fy,⟨(ax s st).next,false,l,Nq⟩)):=by
 have lp:pb<w.heap.size:=h.lt h.own;have N0:=ae (show ¬O w.heap.size from λ hk=>by have:=h.lt hk;omega);have N1:=ae (show ¬O (w.heap.size+1)from λ hk=>by have:=h.lt hk;omega);have BA:=ae h;have JA:=ae ((h.alloc (.cells mr 145)).alloc (.cells mr 145));have MA:=ae (((bE O w).alloc (.cells mr 145)).alloc (.cells mr 145));have K:=ae hk;have HT:=ae ht;clear h hk ht;go_enter func69,ntmps69;go_wp2_with fail;refine((ab JA).is _).mono ?_;rintro e w0 ⟨rfl,rfl⟩;rw [show aT st { data:=#[119,97,121] }=false from hw];go_wp2_with fail;have KA:=ae (((ab BA).alloc (.cells mr 145)).alloc (.cells #[.int .u8 0,.string ⟨#[]⟩,.int .i64 0,.bool false,.slice none 0 0,.string ⟨#[]⟩,.string ⟨#[]⟩,.int .i64 0,.int .i64 0,.slice none 0 0] 145));have IA:=ae (((bE O w).alloc (.cells mr 145)).alloc (.cells #[.int .u8 0,.string ⟨#[]⟩,.int .i64 0,.bool false,.slice none 0 0,.string ⟨#[]⟩,.string ⟨#[]⟩,.int .i64 0,.int .i64 0,.slice none 0 0] 145));refine(aN (ab KA) (ab K)).mono ?_;rintro e w2 ⟨rfl,O2,hp2,hf2⟩;have P2:=ae hp2;have F2:=ae hf2;clear hp2 hf2;go_wp2_with fail;refine(iW (ab P2) (ab K).take _).mono ?_;rintro e w3 ⟨rfl,O3,hp3,hf3⟩;have F3:=ae ((ab F2).trans hf3);have qR:=((ab F3).block w.heap.size (by simp;omega) (ab N0)).trans (bM w _ _ _ _).1;have qD:=((ab F3).block (w.heap.size+1) (by simp) (ab N1)).trans (bM w _ _ _ _).2
 have FA:=ae (show ¬O3 w.heap.size from λ h=>by
  rcases(ab F3).own _ h with h|h
  ·exact ab N0 h
  ·simp at h;omega)
 have AA:=ae (show ¬O3 (w.heap.size+1)from λ h=>by
  rcases(ab F3).own _ h with h|h
  ·exact ab N1 h
  ·simp at h;omega)
 have zd:∀ ob,w3.frozen? ⟨w.heap.size+1,ob,none⟩=false:=λ ob=>ak qD
 obtain⟨d0,d1,d2,d3,d4,d5,d6,d7,d8,d9⟩:=jv qD;have lR3:w.heap.size<w3.heap.size:=ai qR;have lD3:w.heap.size+1<w3.heap.size:=ai qD;have PD:=ae (show PA (((w3.setCell ⟨w.heap.size+1,0,none⟩ (.int .u8 (ax s st).next.kind)).setCell ⟨w.heap.size+1,1,none⟩ (.string (ax s st).next.text)).setCell ⟨w.heap.size+1,2,none⟩ (.int .i64 (ax s st).next.at_)) pb s (aA s (ax s st) 110) O3 from(((hp3).other (ab AA) _ _).other (ab AA) _ _).other (ab AA) _ _);have FD:=ae (show Fr O w O3 (((w3.setCell ⟨w.heap.size+1,0,none⟩ (.int .u8 (ax s st).next.kind)).setCell ⟨w.heap.size+1,1,none⟩ (.string (ax s st).next.text)).setCell ⟨w.heap.size+1,2,none⟩ (.int .i64 (ax s st).next.at_))from((((ab IA).trans (ab F3)).setCell (inr (by show w.heap.size<=w.heap.size+1;omega)) _).setCell (inr (by show w.heap.size<=w.heap.size+1;omega)) _).setCell (inr (by show w.heap.size<=w.heap.size+1;omega)) _);have QD:=ae (show(((w3.setCell ⟨w.heap.size+1,0,none⟩ (.int .u8 (ax s st).next.kind)).setCell ⟨w.heap.size+1,1,none⟩ (.string (ax s st).next.text)).setCell ⟨w.heap.size+1,2,none⟩ (.int .i64 (ax s st).next.at_)).heap[w.heap.size+1]?=some (.cells (bI (ax s st).next false (.slice none 0 0) ⟨#[]⟩ ⟨#[]⟩ 0 0 (.slice none 0 0)) 145 (0,0))from by rw [(aB (aB (aB qD)))];rfl);have QR:=ae (show(((w3.setCell ⟨w.heap.size+1,0,none⟩ (.int .u8 (ax s st).next.kind)).setCell ⟨w.heap.size+1,1,none⟩ (.string (ax s st).next.text)).setCell ⟨w.heap.size+1,2,none⟩ (.int .i64 (ax s st).next.at_)).heap[w.heap.size]?=some (.cells mr 145 (0,0))from by rw [ah (by show w.heap.size≠w.heap.size+1;omega),ah (by show w.heap.size≠w.heap.size+1;omega),ah (by show w.heap.size≠w.heap.size+1;omega)];exact qR);clear hp3 hf3 qR qD;go_wp2_with fail
 obtain⟨WD,hWD⟩:∃ WD,(((w3.setCell ⟨w.heap.size+1,0,none⟩ (.int .u8 (ax s st).next.kind)).setCell ⟨w.heap.size+1,1,none⟩ (.string (ax s st).next.text)).setCell ⟨w.heap.size+1,2,none⟩ (.int .i64 (ax s st).next.at_))=WD:=⟨_,rfl⟩
 rw [hWD]at PD FD QD QR;rw [hWD];clear hWD d0 d1 d2 d3 d4 d5 d6 d7 d8 d9 zd;refine(dr (ab PD) ((ab K).take.kind 110) _).mono ?_;rintro e w4 ⟨rfl,O4,hp4,hf4⟩;have P4:=ae hp4;have F4:=ae hf4;have q4:=(hf4.block _ (ai (ab QD)) (ab AA)).trans (ab QD);have d3:w4.cell? ⟨w.heap.size+1,3,none⟩=some (.bool false):=af q4;have Q4:=ae q4;have R4:=ae ((hf4.block _ (ai (ab QR)) (ab FA)).trans (ab QR))
 have GA:=ae (show ¬O4 w.heap.size from λ h=>by
  rcases hf4.own _ h with h|h
  ·exact ab FA h
  ·have:=ai (ab QR);omega)
 have DA:=ae (show ¬O4 (w.heap.size+1)from λ h=>by
  rcases hf4.own _ h with h|h
  ·exact ab AA h
  ·have:=ai (ab QD);omega)
 have l4:w.heap.size+1<w4.heap.size:=ai q4;clear hp4 hf4 q4;go_wp2_with fail;refine(Ch pb s f hf0 _ _ _ _ (ab P4) ((((ab K).take.kind 110)).need _) (ab HT)).mono ?_;rintro e w5 ⟨v,O5,rfl,hp5,hf5,ht5,hn5,hk5⟩
 obtain⟨oo,oc,ol,rfl⟩:∃ oo oc ol,v=.slice oo oc ol:=by
  rcases ht5.2 with⟨e1,_⟩|⟨g,cap,cur,e1,_⟩
  ·exact⟨_,_,_,e1⟩
  exact⟨_,_,_,e1⟩
 have q5:=(hf5.block _ l4 (ab DA)).trans (ab Q4);have r5:=(hf5.block _ (by omega) (ab GA)).trans (ab R4)
 have EA:=ae (show ¬O5 (w.heap.size+1)from λ h=>by
  rcases hf5.own _ h with h|h
  ·exact ab DA h
  ·omega)
 have HA:=ae (show ¬O5 w.heap.size from λ h=>by
  rcases hf5.own _ h with h|h
  ·exact ab GA h
  ·omega)
 obtain⟨d0,d1,d2,d3,d4,d5,d6,d7,d8,d9⟩:=jv q5;have zd:∀ ob,w5.frozen? ⟨w.heap.size+1,ob,none⟩=false:=λ ob=>ak q5
 have l5:w.heap.size+1<w5.heap.size:=ai q5;have PE:=ae (show PA (w5.setCell ⟨w.heap.size+1,4,none⟩ (.slice oo oc ol)) pb s st4 O5 from hp5.other (ab EA) _ _);have CA:=ae (show Fr O w O5 (w5.setCell ⟨w.heap.size+1,4,none⟩ (.slice oo oc ol))from(((ab FD).trans (ab F4)).trans hf5).setCell (inr (by show w.heap.size<=w.heap.size+1;omega)) _);have QE:=ae (show(w5.setCell ⟨w.heap.size+1,4,none⟩ (.slice oo oc ol)).heap[w.heap.size+1]?=some (.cells (bI (ax s st).next false (.slice oo oc ol) ⟨#[]⟩ ⟨#[]⟩ 0 0 (.slice none 0 0)) 145 (0,0))from by rw [(aB q5)];rfl);have RE:=ae (show(w5.setCell ⟨w.heap.size+1,4,none⟩ (.slice oo oc ol)).heap[w.heap.size]?=some (.cells mr 145 (0,0))from by rw [ah (by show w.heap.size≠w.heap.size+1;omega)];exact r5)
 have GE:=ae (show Fr (λ k=>O5 k\/k=w.heap.size\/k=w.heap.size+1) w5 (λ k=>O5 k\/k=w.heap.size\/k=w.heap.size+1) (w5.setCell ⟨w.heap.size+1,4,none⟩ (.slice oo oc ol))from by
  have f0:Fr (λ k=>O5 k\/k=w.heap.size\/k=w.heap.size+1) w5 (λ k=>O5 k\/k=w.heap.size\/k=w.heap.size+1) w5:=(bE O5 w5).join (λ k=>k=w.heap.size\/k=w.heap.size+1)
  repeat with_reducible first|refine Fr.setCell ?_ (inl (inr (inr rfl))) _|exact f0)
 have T5:=ae ht5;have K5:=ae hk5;have LA:=ae hn5;clear hn5;clear hp5 hf5 ht5 hk5 q5 r5;go_wp2_with fail;obtain⟨WE,hWE⟩:∃ WE,(w5.setCell ⟨w.heap.size+1,4,none⟩ (.slice oo oc ol))=WE:=⟨_,rfl⟩
 rw [hWE]at PE CA QE RE GE;rw [hWE];clear hWE d0 d1 d2 d3 d4 d5 d6 d7 d8 d9 zd;refine(dr (ab PE) (ab K5) _).mono ?_;rintro e w6 ⟨rfl,O6,hp6,hf6⟩;have lE:w.heap.size+1<WE.heap.size:=ai (ab QE);have q6:=(hf6.block _ lE (ab EA)).trans (ab QE);have hR6:=(hf6.block _ (by omega) (ab HA)).trans (ab RE);obtain⟨d0,d1,d2,d3,d4,d5,d6,d7,d8,d9⟩:=jv q6;obtain⟨r0,r1,r2,r3,r4,r5,r6,r7,r8,r9⟩:=jv hR6;have zr:∀ ob,w6.frozen? ⟨w.heap.size,ob,none⟩=false:=λ ob=>ak hR6
 have HN:=ae (show ¬O6 w.heap.size from λ h=>by
  rcases hf6.own _ h with h|h
  ·exact ab HA h
  ·omega)
 have HP:=ae hp6;have HF:=ae ((ab CA).trans hf6);have GF:=ae ((ab GE).trans (hf6.join (λ k=>k=w.heap.size\/k=w.heap.size+1)));clear hp6 hf6 q6 hR6;go_wp2_with fail;refine eO (v:=.agg (bI (ax s st).next false (.slice oo oc ol) ⟨#[]⟩ ⟨#[]⟩ 0 0 (.slice none 0 0))) (by simp [results,results69,go_sem,r0,r1,r2,r3,r4,r5,r6,r7,r8,r9]) rfl ⟨_,O6,rfl,?_,?_,?_,(ab K5).need _⟩
 ·refine(show PA _ pb s (aJ s st4 ⟨#[59]⟩) O6 from ?_)
  repeat with_reducible first|refine PA.other ?_ (ab HN) _ _|refine PA.alloc ?_ _|refine PA.drew ?_|refine PA.drewN ?_ _|exact ab HP
 ·repeat with_reducible first|refine Fr.setCell ?_ (inr (aD _)) _|refine Fr.setCell ?_ (inl (ab HO)) _|refine Fr.alloc ?_ _|refine Fr.drew ?_|refine Fr.drewN ?_ _|exact ab HF|exact bE _ _
 refine jk.set (w:=w) (w4:=w4) (w5:=w5) (O5:=O5) ?_ (ab T5) (ab LA) l4
 repeat with_reducible first|refine Fr.setCell ?_ (inl (inr (inl rfl))) _|exact ab GF
theorem Kf(pb:Nat)(s:ByteArray)(f:Nat)(hf0:f<=1000000)(w:World)(st:PS)(O:Nat->Prop)(r:PS×Df)(h:PA w pb s st O)(hk:Ok s st)(hr:nD s f st=some r):Calls prog 69 #[fX pb] w (LV pb s w O r):=by
 unfold nD at hr;by_cases hw:aT st nz=true
 ·rw [aC hw]at hr;cases ht:dq s f (aJ s (aA s (ax s st) 110) ku)with
  | none=>rw [ht]at hr;cases hr
  | some p=>rw [ht]at hr;obtain rfl:=fZ hr;exact xu pb s f ((Nx pb s f hf0).1 f (aD _)) w st O h hk hw p.1 p.2 ht
 rw [au hw]at hr;cases ht:ja s f (aJ s (aA s (ax s st) 110) ku)with
 | none=>rw [ht]at hr;cases hr
 | some p=>rw [ht]at hr;obtain rfl:=fZ hr;exact xt pb s f hf0 w st O h hk (by simpa using hw) p.1 p.2 ht
theorem gN{t:Tr}:∀{l:List Tr},t∈l->gj t<=rV l
 | [],h=>by cases h
 | u::us,h=>by
  rw [rV];cases h with
  | head=>omega
  | tail _ h=>have:=gN h;omega
theorem bR.get{w:World}{Q:Nat->Prop}:∀(ts:List Tr) (xs:List Value),bR w Q ts xs->∀ i,(h:i<ts.length)->∃ a b c d e,xs[i*5]?=some a/\xs[i*5+1]?=some b/\xs[i*5+2]?=some c/\xs[i*5+3]?=some d/\xs[i*5+4]?=some e/\aP w Q ts[i] (.agg #[a,b,c,d,e])
 | [],xs,_,i,h=>absurd h (by simp)
 | t::ts,xs,ha,i,h=>by
  rw [bR]at ha;obtain⟨a,b,c,d,e,r,ex,ht,hr⟩:=ha;subst ex;cases i with
  | zero=>exact⟨a,b,c,d,e,rfl,rfl,rfl,rfl,rfl,ht⟩
  | succ i =>
   obtain⟨a',b',c',d',e',h0,h1,h2,h3,h4,h5⟩:=bR.get ts r hr i (by simpa using h);refine⟨a',b',c',d',e',?_,?_,?_,?_,?_,h5⟩
   ·rw [show(i+1)*5=i*5+5 by omega];simpa using h0
   ·rw [show(i+1)*5+1=i*5+1+5 by omega];simpa using h1
   ·rw [show(i+1)*5+2=i*5+2+5 by omega];simpa using h2
   ·rw [show(i+1)*5+3=i*5+3+5 by omega];simpa using h3
   rw [show(i+1)*5+4=i*5+4+5 by omega];simpa using h4
theorem yh{kids:List Tr}{i:Nat}(h:i<kids.length):dj (kids.drop i)=if 0<=cF kids[i]then cF kids[i]else dj (kids.drop (i+1)):=by
 rw [List.drop_eq_getElem_cons h,dj]
theorem vj(m:Nat):∀(t:Tr) (w:World) (Q:Nat->Prop) (v:Value),gj t<=m->aP w Q t v ->
  Calls prog 128 #[v] w λ e w'=>e=.returned (.int .i64 (cF t))/\Below w.heap.size w w':=by
 induction m with
 | zero=>intro t w Q v hm;cases t with|mk op text n a kids=>rw [gj]at hm;omega
 | succ m ih =>
  intro t w Q v hm ht;cases t with
  | mk op text n a kids =>
   rw [gj]at hm;rw [aP]at ht;obtain⟨kv,xs,rfl,ho,hq,ha⟩:=ht
   have hbig:kids.length<=9223372036854775807:=by
    rcases ho.2 with⟨_,h0⟩|⟨g,cap,cur,_,_,_,h1,h2,h3,_⟩
    ·omega
    have:=h2;unfold maxLen at this;omega
   have HO:=ae ho;have HA:=ae ha;have FA:=ae ih;clear ho hq ha ih;by_cases hb:(op.toList==j9)=true/\(n<1\/65535<n)
   ·have HW:Hid (cF (.mk op text n a kids)=a):=by unfold Hid;rw [cF,aC hb]
    obtain⟨h1,h2⟩:=hb;rcases h2 with h2|h2
    all_goals
     go_enter func128,ntmps128;go_wp2_with fail;go_ret;exact⟨bJ (ab HW).symm,(aX _ _).alloc (aD _) _⟩
   have HW:Hid (cF (.mk op text n a kids)=dj kids):=by unfold Hid;rw [cF,au hb]
   have hor:(op.toList==j9)=false\/((op.toList==j9)=true/\1<=n/\n<=65535):=by
    cases h1:(op.toList==j9)
    ·left;rfl
    right;refine⟨rfl,?_,?_⟩<;>(rcases Classical.em (n<1\/65535<n)with h2|h2;exact absurd ⟨h1,h2⟩ hb;omega)
   clear hb;rcases hor with h1|⟨h1,h2,h3⟩
   all_goals
    go_enter func128,ntmps128;go_wp2_with fail;go_loopg [3] kids.length (λ k i3 wr=>∃ i:Nat,i+k=kids.length/\i3=.int .i64 i/\Below (w.heap.size+1) (w.alloc (.cells (aj op text n a kv) 115)) wr/\dj (kids.drop i)=dj kids)
    case atStart=>exact⟨0,by omega,rfl,aX _ _,rfl⟩
    case round =>
     obtain⟨i,hik,rfl,hbl,hwd⟩:=hrel;have q0:wr.heap[w.heap.size]?=some (.cells (aj op text n a kv) 115 (0,0)):=by rw [hbl.block _ (by omega)];exact cN _ _
     have c4:wr.cell? ⟨w.heap.size,4,none⟩=some kv:=af q0;have BA:=ae hwd;have DA:=ae hbl;clear hwd q0;by_cases hi:i<kids.length
     ·obtain⟨g,cap,rfl⟩:∃ g cap,kv=.slice (some ⟨g,0,none⟩) kids.length cap:=by
       rcases(ab HO).2 with⟨_,h0⟩|⟨g,cap,cur,e,_⟩
       ·omega
       exact⟨g,cap,e⟩
      have hg:g<w.heap.size:=((ab HO).lt g rfl).2;obtain⟨y0,y1,y2,y3,y4,x0,x1,x2,x3,x4,hk⟩:=bR.get kids xs (ab HA) i hi
      have hcell:∀ j y,j<kids.length*5->xs[j]?=some y->wr.cell? ⟨g,j,none⟩=some y:=λ j y hj hy=>by
       rw [hbl.cell (p:=⟨g,j,none⟩) (by show g<w.heap.size+1;omega),World.cell?_of_block (eW _ _ _ hg),(ab HO).cellAt j hj];exact hy
      have k0:=hcell (i*5) _ (by omega) x0;have k1:=hcell (i*5+1) _ (by omega) x1;have k2:=hcell (i*5+2) _ (by omega) x2;have k3:=hcell (i*5+3) _ (by omega) x3;have k4:=hcell (i*5+4) _ (by omega) x4;have TK:=ae (show aP wr Q kids[i] (.agg #[y0,y1,y2,y3,y4])from aP.keep (λ k hk _=>by rw [hbl.block k (by omega)];exact eW _ _ _ hk) (λ _ _ h=>h) _ _ hk);have SZ:=ae (show gj kids[i]<=m by have:=gN (nN hi);omega);have EA:=ae (yh hi);have hsb:=hbl.size;clear hcell x0 x1 x2 x3 x4 hk hbl;go_wp2_with fail;refine(ab FA _ _ _ _ (ab SZ) (ab TK)).mono ?_;rintro e w5 ⟨rfl,hb5⟩;have CA:=ae ((ab DA).trans (hb5.mono (by simp at hsb;omega)));clear hb5 hsb k0 k1 k2 k3 k4 c4;by_cases hw:0<=cF kids[i]
      ·have AA:=ae (show cF kids[i]=cF (.mk op text n a (kids))from by rw [ab HW,<-ab BA,ab EA,aC hw]);generalize cF kids[i]=q at *;go_wp2_with fail;go_ret;exact⟨bJ (ab AA),((aX _ _).alloc (aD _) _).trans ((ab CA).mono (by omega))⟩
      have AA:=ae (show dj (kids.drop (i+1))=dj kids from by rw [<-ab BA,ab EA,au hw]);generalize cF kids[i]=q at *;go_wp2_with fail;go_roundg (kids.length-(i+1))
      case measure=>omega
      case rel=>exact⟨i+1,by omega,by go_num,ab CA,ab AA⟩
     have AA:=ae (show(-1:Int)=cF (.mk op text n a kids)from by rw [ab HW,<-ab BA,List.drop_eq_nil_of_le (by omega),dj])
     obtain⟨oo,oc,rfl⟩:∃ oo oc,kv=.slice oo kids.length oc:=by
      rcases(ab HO).2 with⟨e,h0⟩|⟨g,cap,cur,e,_⟩
      ·exact⟨none,0,by rw [e,h0]⟩
      exact⟨_,_,e⟩
     clear hbl;go_wp2_with fail;go_ret;exact⟨bJ (ab AA),((aX _ _).alloc (aD _) _).trans ((ab DA).mono (by omega))⟩
theorem oH{kids:List Tr}{i:Nat}(h:i<kids.length):cq (kids.drop i)=if 0<=bH kids[i]then bH kids[i]else cq (kids.drop (i+1)):=by
 rw [List.drop_eq_getElem_cons h,cq]
theorem f9.get:∀(l:List Tr),f9 l->∀ i,(h:i<l.length)->k8 l[i]
 | [],_,i,h=>absurd h (by simp)
 | t::ts,hw,i,h=>by
  rw [f9]at hw;cases i with
  | zero=>exact hw.1
  | succ i=>exact f9.get ts hw.2 i (by simpa using h)
theorem uP(m:Nat):∀(t:Tr) (w:World) (Q:Nat->Prop) (v:Value),gj t<=m->k8 t->aP w Q t v ->
  Calls prog 129 #[v] w λ e w'=>e=.returned (.int .i64 (bH t))/\Below w.heap.size w w':=by
 induction m with
 | zero=>intro t w Q v hm;cases t with|mk op text n a kids=>rw [gj]at hm;omega
 | succ m ih =>
  intro t w Q v hm hwf ht;cases t with
  | mk op text n a kids =>
   rw [gj]at hm;rw [k8]at hwf;rw [aP]at ht;obtain⟨kv,xs,rfl,ho,hq,ha⟩:=ht
   have hbig:kids.length<=9223372036854775807:=by
    rcases ho.2 with⟨_,h0⟩|⟨g,cap,cur,_,_,_,h1,h2,h3,_⟩
    ·omega
    have:=h2;unfold maxLen at this;omega
   have hkid:kids=[]\/∃ g cap,kv=.slice (some ⟨g,0,none⟩) kids.length cap/\0<kids.length/\g<w.heap.size/\w.cell? ⟨g,2,none⟩=some (.int .i64 (my kids))/\w.cell? ⟨g,3,none⟩=some (.int .i64 (oT kids)):=by
    cases kids with
    | nil=>left;rfl
    | cons k ks =>
     right;rcases ho.2 with⟨_,h0⟩|⟨g,cap,cur,e,_⟩
     ·simp at h0
     subst e;obtain⟨y0,y1,y2,y3,y4,x0,x1,x2,x3,x4,hk⟩:=bR.get _ xs ha 0 (by simp);refine⟨g,cap,rfl,by simp,(ho.lt g rfl).2,?_,?_⟩
     ·rw [ho.cellAt 2 (by simp;omega)];cases k with
      | mk ko kt kn ka kk =>
       rw [List.getElem_cons_zero,aP]at hk;obtain⟨kv',xs',e,_⟩:=hk;cases e
       exact x2
     rw [ho.cellAt 3 (by simp;omega)];cases k with
     | mk ko kt kn ka kk =>
      rw [List.getElem_cons_zero,aP]at hk;obtain⟨kv',xs',e,_⟩:=hk;cases e
      exact x3
   have HO:=ae ho;have HA:=ae ha;have JA:=ae ih;have KA:=ae hwf.2;have hw1:=hwf.1;have HB:Hid (bH (.mk op text n a kids)=if(op.toList==il)=true/\65535<n then a
  else if((op.toList==eH)=true\/(op.toList==db)=true)/\65535<my kids then oT kids
  else if(op.toList==cU)=true/\(my kids<1\/65535<my kids)then oT kids
  else cq kids):=by unfold Hid;rw [bH]
   clear ho hq ha ih hwf;generalize my kids=kn at *;generalize oT kids=ka at *;by_cases c1:(op.toList==il)=true/\65535<n
   ·have HW:=ae ((ab HB).trans (aC c1));obtain⟨c1,c1'⟩:=c1;clear hw1 hkid;go_enter func129,ntmps129;go_wp2_with fail;go_ret;exact⟨bJ (ab HW).symm,(aX _ _).alloc (aD _) _⟩
   have hor1:(op.toList==il)=false\/((op.toList==il)=true/\n<=65535):=by
    cases h1:(op.toList==il)
    ·left;rfl
    right;exact⟨rfl,by rcases Classical.em (65535<n)with h2|h2;exact absurd ⟨h1,h2⟩ c1;omega⟩
   have CA:=ae ((ab HB).trans (au c1));clear c1 HB;rcases hkid with hk0|⟨g,cap,rfl,hpos,hgw,y2,y3⟩
   ·have hk0':kids.length=0:=by rw [hk0];rfl
    have hall:(op.toList==eH)=false/\(op.toList==db)=false/\(op.toList==cU)=false:=by
     refine⟨?_,?_,?_⟩
     ·cases h:(op.toList==eH);rfl;have:=hw1 (by rw [h];rfl);omega
     ·cases h:(op.toList==db);rfl;have:=hw1 (by rw [h];simp);omega
     cases h:(op.toList==cU);rfl;have:=hw1 (by rw [h];simp);omega
    obtain⟨e2,e3,e4⟩:=hall;have HW:=ae (show bH (.mk op text n a kids)=cq kids from(ab CA).trans ((au (by simp [e2,e3])).trans (au (by simp [e4]))));clear hk0 hk0' hw1 CA;rcases hor1 with e1|⟨e1,e1'⟩
    all_goals
     go_enter func129,ntmps129;go_wp2_with fail;go_loopg [3] kids.length (λ k i3 wr=>∃ i:Nat,i+k=kids.length/\i3=.int .i64 i/\Below (w.heap.size+1) (w.alloc (.cells (aj op text n a kv) 115)) wr/\cq (kids.drop i)=cq kids)
     case atStart=>exact⟨0,by omega,rfl,aX _ _,rfl⟩
     case round =>
      obtain⟨i,hik,rfl,hbl,hwd⟩:=hrel;have q0:wr.heap[w.heap.size]?=some (.cells (aj op text n a kv) 115 (0,0)):=by rw [hbl.block _ (by omega)];exact cN _ _
      have c4:wr.cell? ⟨w.heap.size,4,none⟩=some kv:=af q0;have BA:=ae hwd;have EA:=ae hbl;clear hwd q0;by_cases hi:i<kids.length
      ·obtain⟨g,cap,rfl⟩:∃ g cap,kv=.slice (some ⟨g,0,none⟩) kids.length cap:=by
        rcases(ab HO).2 with⟨_,h0⟩|⟨g,cap,cur,e,_⟩
        ·omega
        exact⟨g,cap,e⟩
       have hg:g<w.heap.size:=((ab HO).lt g rfl).2;obtain⟨y0,y1,y2,y3,y4,x0,x1,x2,x3,x4,hk⟩:=bR.get kids xs (ab HA) i hi
       have hcell:∀ j y,j<kids.length*5->xs[j]?=some y->wr.cell? ⟨g,j,none⟩=some y:=λ j y hj hy=>by
        rw [hbl.cell (p:=⟨g,j,none⟩) (by show g<w.heap.size+1;omega),World.cell?_of_block (eW _ _ _ hg),(ab HO).cellAt j hj];exact hy
       have k0:=hcell (i*5) _ (by omega) x0;have k1:=hcell (i*5+1) _ (by omega) x1;have k2:=hcell (i*5+2) _ (by omega) x2;have k3:=hcell (i*5+3) _ (by omega) x3;have k4:=hcell (i*5+4) _ (by omega) x4;have TK:=ae (show aP wr Q kids[i] (.agg #[y0,y1,y2,y3,y4])from aP.keep (λ k hk _=>by rw [hbl.block k (by omega)];exact eW _ _ _ hk) (λ _ _ h=>h) _ _ hk);have SZ:=ae (show gj kids[i]<=m by have:=gN (nN hi);omega);have FA:=ae (oH hi);have IA:=ae (f9.get kids (ab KA) i hi);have hsb:=hbl.size;clear hcell x0 x1 x2 x3 x4 hk hbl;go_wp2_with fail;refine(ab JA _ _ _ _ (ab SZ) (ab IA) (ab TK)).mono ?_;rintro e w5 ⟨rfl,hb5⟩;have DA:=ae ((ab EA).trans (hb5.mono (by simp at hsb;omega)));clear hb5 hsb k0 k1 k2 k3 k4 c4;by_cases hw:0<=bH kids[i]
       ·have AA:=ae (show bH kids[i]=bH (.mk op text n a (kids))from by rw [ab HW,<-ab BA,ab FA,aC hw]);generalize bH kids[i]=q at *;go_wp2_with fail;go_ret;exact⟨bJ (ab AA),((aX _ _).alloc (aD _) _).trans ((ab DA).mono (by omega))⟩
       have AA:=ae (show cq (kids.drop (i+1))=cq kids from by rw [<-ab BA,ab FA,au hw]);generalize bH kids[i]=q at *;go_wp2_with fail;go_roundg (kids.length-(i+1))
       case measure=>omega
       case rel=>exact⟨i+1,by omega,by go_num,ab DA,ab AA⟩
      have AA:=ae (show(-1:Int)=bH (.mk op text n a kids)from by rw [ab HW,<-ab BA,List.drop_eq_nil_of_le (by omega),cq])
      obtain⟨oo,oc,rfl⟩:∃ oo oc,kv=.slice oo kids.length oc:=by
       rcases(ab HO).2 with⟨e,h0⟩|⟨g,cap,cur,e,_⟩
       ·exact⟨none,0,by rw [e,h0]⟩
       exact⟨_,_,e⟩
      clear hbl;go_wp2_with fail;go_ret;exact⟨bJ (ab AA),((aX _ _).alloc (aD _) _).trans ((ab EA).mono (by omega))⟩
   clear hw1;by_cases c2:((op.toList==eH)=true\/(op.toList==db)=true)/\65535<kn
   ·have HW:=ae ((ab CA).trans (aC c2));obtain⟨c2,c2'⟩:=c2
    have hor2:(op.toList==eH)=true\/((op.toList==eH)=false/\(op.toList==db)=true):=by
     cases h:(op.toList==eH)
     ·right;rcases c2 with h1|h1;rw [h]at h1;cases h1;exact⟨rfl,h1⟩
     left;rfl
    clear c2 CA;rcases hor1 with e1|⟨e1,e1'⟩
    all_goals
     rcases hor2 with e2|⟨e2,e3⟩
     all_goals
      go_enter func129,ntmps129;go_wp2_with fail;go_ret;exact⟨bJ (ab HW).symm,(aX _ _).alloc (aD _) _⟩
   have GA:=ae ((ab CA).trans (au c2))
   have hor2:((op.toList==eH)=false/\(op.toList==db)=false)\/((op.toList==eH)=true/\kn<=65535)\/((op.toList==eH)=false/\(op.toList==db)=true/\kn<=65535):=by
    have hle:((op.toList==eH)=true\/(op.toList==db)=true)->kn<=65535:=λ h=>by
     rcases Classical.em (65535<kn)with h2|h2
     ·exact absurd ⟨h,h2⟩ c2
     omega
    cases h1:(op.toList==eH)
    ·cases h2:(op.toList==db)
     ·left;exact⟨rfl,rfl⟩
     right;right;exact⟨rfl,rfl,hle (inr h2)⟩
    right;left;exact⟨rfl,hle (inl h1)⟩
   clear c2 CA;by_cases c3:(op.toList==cU)=true/\(kn<1\/65535<kn)
   ·have HW:=ae ((ab GA).trans (aC c3));obtain⟨e4,c3⟩:=c3;clear GA;rcases hor1 with e1|⟨e1,e1'⟩
    all_goals
     rcases hor2 with⟨e2,e3⟩|⟨e2,e2'⟩|⟨e2,e3,e3'⟩
     all_goals
      rcases c3 with c3|c3
      all_goals first
       | (exfalso;omega)
       | (go_enter func129,ntmps129;go_wp2_with fail;go_ret;exact⟨bJ (ab HW).symm,(aX _ _).alloc (aD _) _⟩)
   have HW:=ae (show bH (.mk op text n a kids)=cq kids from(ab GA).trans (au c3))
   have hor3:(op.toList==cU)=false\/((op.toList==cU)=true/\1<=kn/\kn<=65535):=by
    cases h1:(op.toList==cU)
    ·left;rfl
    right;refine⟨rfl,?_,?_⟩<;>(rcases Classical.em (kn<1\/65535<kn)with h2|h2;exact absurd ⟨h1,h2⟩ c3;omega)
   clear c3 GA;rcases hor1 with e1|⟨e1,e1'⟩
   all_goals
    rcases hor2 with⟨e2,e3⟩|⟨e2,e2'⟩|⟨e2,e3,e3'⟩
    all_goals
     rcases hor3 with e4|⟨e4,e4',e4''⟩
     all_goals
      go_enter func129,ntmps129;go_wp2_with fail;go_loopg [3] kids.length (λ k i3 wr=>∃ i:Nat,i+k=kids.length/\i3=.int .i64 i/\Below (w.heap.size+1) (w.alloc (.cells (aj op text n a (.slice (some ⟨g,0,none⟩) kids.length cap)) 115)) wr/\cq (kids.drop i)=cq kids)
      case atStart=>exact⟨0,by omega,rfl,aX _ _,rfl⟩
      case round =>
       obtain⟨i,hik,rfl,hbl,hwd⟩:=hrel;have q0:wr.heap[w.heap.size]?=some (.cells (aj op text n a (.slice (some ⟨g,0,none⟩) kids.length cap)) 115 (0,0)):=by rw [hbl.block _ (by omega)];exact cN _ _
       have c4:wr.cell? ⟨w.heap.size,4,none⟩=some (.slice (some ⟨g,0,none⟩) kids.length cap):=af q0;have BA:=ae hwd;have EA:=ae hbl;clear hwd q0;by_cases hi:i<kids.length
       ·have hg:g<w.heap.size:=((ab HO).lt g rfl).2;obtain⟨y0,y1,y2,y3,y4,x0,x1,x2,x3,x4,hk⟩:=bR.get kids xs (ab HA) i hi
        have hcell:∀ j y,j<kids.length*5->xs[j]?=some y->wr.cell? ⟨g,j,none⟩=some y:=λ j y hj hy=>by
         rw [hbl.cell (p:=⟨g,j,none⟩) (by show g<w.heap.size+1;omega),World.cell?_of_block (eW _ _ _ hg),(ab HO).cellAt j hj];exact hy
        have k0:=hcell (i*5) _ (by omega) x0;have k1:=hcell (i*5+1) _ (by omega) x1;have k2:=hcell (i*5+2) _ (by omega) x2;have k3:=hcell (i*5+3) _ (by omega) x3;have k4:=hcell (i*5+4) _ (by omega) x4;have TK:=ae (show aP wr Q kids[i] (.agg #[y0,y1,y2,y3,y4])from aP.keep (λ k hk _=>by rw [hbl.block k (by omega)];exact eW _ _ _ hk) (λ _ _ h=>h) _ _ hk);have SZ:=ae (show gj kids[i]<=m by have:=gN (nN hi);omega);have FA:=ae (oH hi);have IA:=ae (f9.get kids (ab KA) i hi);have hsb:=hbl.size;clear hcell x0 x1 x2 x3 x4 hk hbl;go_wp2_with fail;refine(ab JA _ _ _ _ (ab SZ) (ab IA) (ab TK)).mono ?_;rintro e w5 ⟨rfl,hb5⟩;have DA:=ae ((ab EA).trans (hb5.mono (by simp at hsb;omega)));clear hb5 hsb k0 k1 k2 k3 k4 c4;by_cases hw:0<=bH kids[i]
        ·have AA:=ae (show bH kids[i]=bH (.mk op text n a (kids))from by rw [ab HW,<-ab BA,ab FA,aC hw]);generalize bH kids[i]=q at *;go_wp2_with fail;go_ret;exact⟨bJ (ab AA),((aX _ _).alloc (aD _) _).trans ((ab DA).mono (by omega))⟩
        have AA:=ae (show cq (kids.drop (i+1))=cq kids from by rw [<-ab BA,ab FA,au hw]);generalize bH kids[i]=q at *;go_wp2_with fail;go_roundg (kids.length-(i+1))
        case measure=>omega
        case rel=>exact⟨i+1,by omega,by go_num,ab DA,ab AA⟩
       have AA:=ae (show(-1:Int)=bH (.mk op text n a kids)from by rw [ab HW,<-ab BA,List.drop_eq_nil_of_le (by omega),cq]);clear hbl;go_wp2_with fail;go_ret;exact⟨bJ (ab AA),((aX _ _).alloc (aD _) _).trans ((ab EA).mono (by omega))⟩
structure jD(w:World)(pb:Nat)(ds:List Df):Prop where
 big:ds.length<=9223372036854775807
 val:∃ o cap,w.cell? ⟨pb,0,none⟩=some (.slice o ds.length cap)/\∀ i,(h:i<ds.length)->∃ g,o=some ⟨g,0,none⟩/\w.cell? ⟨g,i*10+1,none⟩=some (.string ds[i].name.text)/\w.cell? ⟨g,i*10+3,none⟩=some (.bool ds[i].isWay)/\w.cell? ⟨g,i*10+2,none⟩=some (.int .i64 ds[i].name.at_)
theorem jD.later{w w':World}{pb:Nat}{ds:List Df}(h:jD w pb ds)(hb:Below w.heap.size w w'):jD w' pb ds:=by
 obtain⟨o,cap,h1,h2⟩:=h.val;refine⟨h.big,o,cap,cell_later hb h1,λ i hi=>?_⟩;obtain⟨g,e,h3,h4,h5⟩:=h2 i hi;exact⟨g,e,cell_later hb h3,cell_later hb h4,cell_later hb h5⟩
theorem Bv{name:ByteArray}{way:Bool}{ds:List Df}{i:Nat}(h:i<ds.length):dJ name way (ds.drop i) i=if(ds[i].name.text.toList==name.toList)=true/\(ds[i].isWay==way)=true then(i:Int)else dJ name way (ds.drop (i+1)) (i+1):=by
 rw [List.drop_eq_getElem_cons h,dJ]
theorem ti{w:World}{pb:Nat}{ds:List Df}(h:jD w pb ds)(name:ByteArray)(way:Bool) :
  Calls prog 178 #[fX pb,.string name,.bool way] w λ e w'=>e=.returned (.int .i64 (dJ name way ds 0))/\w'=w:=by
 obtain⟨hbig,o,cap,c0,hd⟩:=h;have HD:=ae hd;clear hd;go_enter func178,ntmps178;go_wp2_with fail;go_loopg [7] ds.length (λ k i7 wr=>∃ i:Nat,i+k=ds.length/\i7=.int .i64 i/\wr=w/\dJ name way (ds.drop i) i=dJ name way ds 0)
 case atStart=>exact⟨0,by omega,rfl,rfl,rfl⟩
 case round =>
  obtain⟨i,hik,rfl,rfl,hwd⟩:=hrel;have BA:=ae hwd;clear hwd;by_cases hi:i<ds.length
  ·obtain⟨g,rfl,k1,k3,_⟩:=ab HD i hi;have CA:=ae (Bv (name:=name) (way:=way) hi);cases h1:(ds[i].name.text.toList==name.toList)with
   | true =>
    cases h2:(ds[i].isWay==way)with
    | true =>
     have AA:=ae (show(i:Int)=dJ name way ds 0 from by rw [<-ab BA,ab CA,aC ⟨h1,h2⟩]);generalize ds[i].isWay=bw at *;go_wp2_with fail;go_ret;exact⟨bJ (ab AA),rfl⟩
    | false =>
     have AA:=ae (show dJ name way (ds.drop (i+1)) (i+1)=dJ name way ds 0 from by rw [<-ab BA,ab CA,au (by simp [h2])]);generalize ds[i].isWay=bw at *;go_wp2_with fail;go_roundg (ds.length-(i+1))
     case measure=>omega
     case rel=>exact⟨i+1,by omega,by go_num,rfl,ab AA⟩
   | false =>
    have AA:=ae (show dJ name way (ds.drop (i+1)) (i+1)=dJ name way ds 0 from by rw [<-ab BA,ab CA,au (by simp [h1])]);go_wp2_with fail;go_roundg (ds.length-(i+1))
    case measure=>omega
    case rel=>exact⟨i+1,by omega,by go_num,rfl,ab AA⟩
  have AA:=ae (show(-1:Int)=dJ name way ds 0 from by rw [<-ab BA,List.drop_eq_nil_of_le (by omega),dJ]);go_wp2_with fail;go_ret;exact⟨bJ (ab AA),rfl⟩
