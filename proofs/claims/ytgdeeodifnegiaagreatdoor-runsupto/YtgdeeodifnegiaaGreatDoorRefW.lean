/- part -/
import Derived.Test.YtgdeeodifnegiaaGreatDoorRefR
set_option maxRecDepth 100000
set_option maxHeartbeats 6400000
namespace Go.Proofs.YtgdeeodifnegiaaGreatDoor
open Go.Proofs.Tryz
open Or
open Go.RowKit
namespace rf
theorem Ao(pb:Nat)(s:ByteArray)(w:World)(st st0:PS)(O:Nat->Prop)(h:PA w pb s st O)(hk:Ok s st)(hst0:st0=if cZ st=true then st else aY st)(f:Nat)(CI:qI pb s f)(BI:wK pb s f)(st2:PS)(cT:Tr)(hc:cQ s f 0 (ax s st0)=some (st2,cT))(st3:PS)(bT:Tr)(hb:ef s f (aJ s st2 uB)=some (st3,bT))(z:PS×Tr)(hz:(aT st3 uA=false/\z=(st3,.mk st0.next.text ⟨#[]⟩ 0 0 [cT,bT]))\/(aT st3 uA=true/\∃ st4 x,ef s f (ax s st3)=some (st4,x)/\z=(st4,.mk st0.next.text ⟨#[]⟩ 0 0 [cT,bT,x])))(e0:(st0.next.text.toList==kI)=false)(e1:(st0.next.text.toList==tC)=false)(e2:(st0.next.text.toList==eH)=false)(e3:(st0.next.text.toList==db)=false)(e4:(st0.next.text.toList==cU)=false)(e5:(st0.next.text.toList==M4)=true) :
  Calls prog 70 #[fX pb] w (eP pb s w O z):=by
 have hfl:=iF st0.next;obtain⟨i0,hi0,hz0,hz1,hz2⟩:=info_parts Tryz.infoTree;have OA:=ae CI;have LA:=ae BI;have HC:=ae hc;have HB:=ae hb;have HZ:=ae hz;clear CI BI hc hb hz;have lp:pb<w.heap.size:=h.lt h.own;have N0:=ae (show ¬O w.heap.size from λ hk=>by have:=h.lt hk;omega);have DA:=ae ((h.alloc (.cells bj 115)).alloc (.cells (aO.map Value.string).toArray 9));have GA:=ae (((bE O w).alloc (.cells bj 115)).alloc (.cells (aO.map Value.string).toArray 9));have K:=ae hk;have K0:=ae (show Ok s st0 from by rw [hst0];split;exact hk;exact hk.fail);have IA:=ae hst0;clear h hk hst0;have cells:∀ i,(hi:i<aO.length)->((w.alloc (.cells bj 115)).alloc (.cells (aO.map Value.string).toArray 9)).cell? ⟨w.heap.size+1,i,none⟩=some (.string aO[i]):=λ i hi=>iE _ _ _ _ (by simp) _ hi
 have AA:=ae cells;clear cells;go_enter func70,ntmps70;go_wp2_with fail;obtain⟨W0,hW0⟩:∃ W0,(w.alloc (.cells bj 115)).alloc (.cells (aO.map Value.string).toArray 9)=W0:=⟨_,rfl⟩
 have MA:=ae (show W0.heap[w.heap.size]?=some (.cells bj 115 (0,0))from by rw [<-hW0];exact(bM w _ _ _ _).1);have hsz0:W0.heap.size=w.heap.size+2:=by rw [<-hW0];simp
 have FA:=ae hsz0;clear hsz0;rw [hW0]at DA GA AA;rw [show(w.alloc (.cells #[.string ⟨#[]⟩,.string ⟨#[]⟩,.int .i64 0,.int .i64 0,.slice none 0 0] 115)).alloc (.cells #[.string ⟨#[97,99,99,101,112,116]⟩,.string ⟨#[114,101,106,101,99,116]⟩,.string ⟨#[112,114,101,102]⟩,.string ⟨#[109,101,100]⟩,.string ⟨#[109,97,114,107]⟩,.string ⟨#[117,110,109,97,114,107]⟩,.string ⟨#[112,114,101,112,101,110,100]⟩,.string ⟨#[105,102]⟩] 9)=W0 from hW0];clear hW0;go_loopg [3,5] 8 (λ k b3 i5 wr=>∃ i:Nat,i+k=8/\i5=.int .i64 i/\b3=.bool ((aO.take i).any (λ x=>aT st x))/\wr=W0)
 case atStart=>exact⟨0,by omega,rfl,rfl,rfl⟩
 case round =>
  obtain⟨i,hik,rfl,rfl,rfl⟩:=hrel;by_cases hi8:i<8
  ·have hc:=ab AA i (by simp [aO];omega);have A1:=ae ((ab DA).is (aO[i]'(by simp [aO];omega)));have ZA:=ae (show(aO.take (i+1)).any (λ x=>aT st x)=((aO.take i).any (λ x=>aT st x)||aT st (aO[i]'(by simp [aO];omega)))from by rw [List.take_succ_eq_append_getElem (by simp [aO];omega),List.any_append];simp);generalize (aO.take i).any (λ x=>aT st x)=b0 at *;generalize aT st (aO[i]'(by simp [aO];omega))=b1 at *;generalize aO[i]'(by simp [aO];omega)=wd at *;have hi9:(i:Int)<8:=by omega
   go_wp2_with fail;refine(ab A1).mono ?_;rintro e w0 ⟨rfl,rfl⟩
   cases b0 <;>
    (go_wp2_with fail;go_roundg (8-(i+1));(case measure=>omega);(case rel=>exact⟨i+1,by omega,by go_num,by rw [ab ZA];simp,rfl⟩))
  obtain rfl:i=8:=by omega
  have hbe:(aO.take 8).any (λ x=>aT st x)=cZ st:=rfl;rw [hbe];clear hbe;cases hbs:cZ st
  focus
   go_wp2_with fail;refine((ab DA).fail).mono ?_;rintro e wa ⟨rfl,hpa,hfa⟩;have HA:=ae (show PA wa pb s st0 O from by rw [ab IA,au (by rw [hbs];simp)];exact hpa);have BA:=ae hfa;clear hpa hfa hbs
  rotate_left
  focus
   have HA:=ae (show PA _ pb s st0 O from by rw [ab IA,aC hbs];exact ab DA);have BA:=ae (bE O wr);clear hbs
  all_goals
   go_wp2_with fail;refine(aN (ab HA) (ab K0)).mono ?_;rintro e wt ⟨rfl,Ot,hpt,hft⟩;have hlt:w.heap.size+1<wt.heap.size:=by have h1:=hft.size;have h2:=(ab BA).size;have h3:=ab FA;omega
   have QA:=ae ((((ab GA).trans (ab BA)).trans hft).alloc (.cells (aj st0.next.text ⟨#[]⟩ 0 0 (.slice none 0 0)) 115))
   have TA:=ae (show ¬Ot w.heap.size from λ h=>by
    rcases hft.own _ h with h|h
    ·exact ab N0 h
    ·have h2:=(ab BA).size;have h3:=ab FA;omega)
   have NA:=ae (show ¬Ot wt.heap.size from λ h=>by have:=hpt.lt h;omega)
   have WA:=ae (show(wt.alloc (.cells (aj st0.next.text ⟨#[]⟩ 0 0 (.slice none 0 0)) 115)).heap[w.heap.size]?=some (.cells bj 115 (0,0))from by
    have h3:=ab FA;have h4:=(ab BA).size;rw [eW _ _ _ (by omega),hft.block _ (by omega) (ab N0),(ab BA).block _ (by omega) (ab N0)];exact ab MA)
   have KA:=ae (cN wt (.cells (aj st0.next.text ⟨#[]⟩ 0 0 (.slice none 0 0)) 115));have RA:=ae (hpt.alloc (.cells (aj st0.next.text ⟨#[]⟩ 0 0 (.slice none 0 0)) 115));have hzt:(wt.alloc (.cells (aj st0.next.text ⟨#[]⟩ 0 0 (.slice none 0 0)) 115)).heap.size=wt.heap.size+1:=by simp
   have SA:=ae hzt;clear hpt hft HA BA DA GA K IA AA FA MA hzt;go_wp2_with fail;refine(ab OA 0 _ _ _ _ (by omega) (ab RA) (ab K0).take (ab HC)).mono ?_;rintro e w3 ⟨v,O3,rfl,hp3,hf3,ht3,hk3⟩;obtain⟨cop,ctext,cn,ca,co,cc,cl,rfl⟩:=ht3.form;have H3:=ae (hp3.alloc (.cells (aj cop ctext cn ca (.slice co cc cl)) 115));have F3:=ae hf3;have T3:=ae ht3;have K3:=ae hk3;have N3:=ae (show ¬O3 w3.heap.size from λ h=>by have:=hp3.lt h;omega);clear hp3 hf3 ht3 hk3;go_wp2_with fail;refine(dr (ab H3) (ab K3) _).mono ?_;rintro e w4 ⟨rfl,O4,hp4,hf4⟩;have H4:=ae hp4;have F4:=ae (((bE O3 w3).alloc (.cells (aj cop ctext cn ca (.slice co cc cl)) 115)).trans hf4);have Q4:=ae ((hf4.block w3.heap.size (by simp) (ab N3)).trans (cN w3 _))
   have N4:=ae (show ¬O4 w3.heap.size from λ h=>by
    rcases hf4.own _ h with h|h
    ·exact ab N3 h
    ·simp at h;omega)
   clear hp4 hf4;go_wp2_with fail;refine(ab LA _ _ _ _ (ab H4) ((ab K3).need _) (ab HB)).mono ?_;rintro e w5 ⟨v,O5,rfl,hp5,hf5,ht5,hk5⟩;obtain⟨bop,btext,bn,ba,bo,bc,bl,rfl⟩:=ht5.form;have EA:=ae ((ab F4).trans hf5);have F5:=ae (((ab F3).trans (ab EA)).alloc (.cells (aj bop btext bn ba (.slice bo bc bl)) 115));have l3:(wt.alloc (.cells (aj st0.next.text ⟨#[]⟩ 0 0 (.slice none 0 0)) 115)).heap.size<=w3.heap.size:=(ab F3).size;have l4:w3.heap.size<=w4.heap.size:=(ab F4).size;have l5:w4.heap.size<=w5.heap.size:=hf5.size;have hX1:w3.heap.size<w5.heap.size:=eV (ai (ab Q4)) l5;have qX:=(hf5.block w3.heap.size (ai (ab Q4)) (ab N4)).trans (ab Q4);obtain⟨x0,x1,x2,x3,x4⟩:=cX qX;have H5:=ae (hp5.alloc (.cells (aj bop btext bn ba (.slice bo bc bl)) 115));have K5:=ae hk5
   have TC:=ae (show aP (w5.alloc (.cells (aj bop btext bn ba (.slice bo bc bl)) 115)) (λ k=>O5 k\/k<(wt.alloc (.cells (aj st0.next.text ⟨#[]⟩ 0 0 (.slice none 0 0)) 115)).heap.size) cT (bx cop ctext cn ca (.slice co cc cl))from aP.step ((ab EA).alloc _) (λ k hk=>inl hk) (λ k hk=>by
    rcases hk with h|h
    ·rcases(ab EA).own _ h with h1|h1
     ·exact inl (inl h1)
     ·exact inr h1
    ·exact inl (inr h)) _ _ (ab T3))
   have TB:=ae (show aP (w5.alloc (.cells (aj bop btext bn ba (.slice bo bc bl)) 115)) (λ k=>O5 k\/k<(wt.alloc (.cells (aj st0.next.text ⟨#[]⟩ 0 0 (.slice none 0 0)) 115)).heap.size) bT (bx bop btext bn ba (.slice bo bc bl))from aP.step ((bE O5 w5).alloc _) (λ k hk=>inl hk) (λ k hk=>by
    rcases hk with h|h
    ·exact inl (inl h)
    ·exact inl (inr (by omega))) _ _ ht5)
   have hzt:=ab SA;have hzB5:wt.heap.size<w5.heap.size:=by omega
   have qB5:=(((ab F3).trans (ab EA)).block wt.heap.size (ai (ab KA)) (ab NA)).trans (ab KA);have s4:w5.cell? ⟨wt.heap.size,4,none⟩=some (.slice none 0 0):=af qB5;have XA:=ae qB5;have AB:=ae (cH.nil (wt.alloc (.cells (aj st0.next.text ⟨#[]⟩ 0 0 (.slice none 0 0)) 115)) (λ k=>Ot k\/k<=w.heap.size\/k=wt.heap.size));have OW:=ae (jX w5 0 115 5);have UA:=ae (show some wt.heap.size≠(Value.slice none 0 0).ownBlock from λ e=>by simp [Value.ownBlock]at e);clear hp5 hf5 ht5 hk5 qX qB5 hzt l3 l4 l5;go_wp2_with (at_builtin;refine wpList_append_lies _ rfl _ _ _ rfl 0 115 i0 _ 5 72 underlying113 hi0 hz0 hz1 hz2 rfl (by omega) (.slice none 0 0) 0 [] rfl (((ab OW).alloc _).alloc _) ⟨w5.heap.size+1,0,none⟩ 2 2 [.string cop,.string ctext,.int .i64 cn,.int .i64 ca,.slice co cc cl,.string bop,.string btext,.int .i64 bn,.int .i64 ba,.slice bo bc bl] rfl rfl (World.news_of_block (cs:=#[.string cop,.string ctext,.int .i64 cn,.int .i64 ca,.slice co cc cl,.string bop,.string btext,.int .i64 bn,.int .i64 ba,.slice bo bc bl]) (t:=115) (fr:=(0,0)) (bM w5 _ _ _ _).2) (by simp [Value.oneCell']) (by omega) (by simp [maxLen]) (by omega) (by omega) (w5.heap.size+2) (by simp) ?_;intro gg cap w' hown hgrow hat hltg;have qB':w'.heap[wt.heap.size]?=some (.cells (aj st0.next.text ⟨#[]⟩ 0 0 (.slice none 0 0)) 115 (0,0)):=((hgrow.block wt.heap.size (by simp;omega) (ab UA)).trans ((eW _ _ _ (by simp;omega)).trans ((eW _ _ _ (by omega)).trans (ab XA))));have c4:w'.cell? ⟨wt.heap.size,4,none⟩=some (.slice none 0 0):=(af qB');have z4:w'.frozen? ⟨wt.heap.size,4,none⟩=false:=(ak qB');clear qB')
   have CA:=ae (BP (kids:=[]) (ab QA) (ab F5) (ab H5) (ab WA) (ab KA) (ab TA) (ab NA) (by omega) (ab AB) (ab TC) (ab TB) hgrow hown (by rcases hat with h|h;exact inl h;exact inr (by simp;omega)));generalize hW:w'.setCell ⟨wt.heap.size,4,none⟩ (.slice (some ⟨gg,0,none⟩) 2 cap)=W at *;clear hW hown hgrow hat hltg c4 z4 s4 x0 x1 x2 x3 x4;obtain⟨f1,f2,f3,f4,f5,f6,f7⟩:=ab CA;have G1:=ae f1;have G2:=ae f2;have G3:=ae f3;have G4:=ae f4;have G5:=ae f5;have G6:=ae f6;have G7:=ae f7;clear f1 f2 f3 f4 f5 f6 f7 CA;have A1:=ae ((ab G1).is uA);refine(ab A1).mono ?_;rintro e w0 ⟨rfl,rfl⟩;rcases ab HZ with⟨hel,rfl⟩|⟨hel,st4,x,hx,rfl⟩
   all_goals clear HZ
   ·rw [hel];have qR:=ab G3;have qB:=ab G4;obtain⟨r0,r1,r2,r3,r4⟩:=cX qR;have zr:∀ ob,w0.frozen? ⟨w.heap.size,ob,none⟩=false:=λ ob=>ak qR
    obtain⟨s0,s1,s2,s3,s4⟩:=cX qB;have HN:=G5;have HP:=G1;have HF:=G2;have TT:=ae ((ab G7).at st0.next.text ⟨#[]⟩ 0 0);have f0:Fr (λ k=>O5 k\/k=w.heap.size) w0 (λ k=>O5 k\/k=w.heap.size) w0:=(bE O5 w0).join (λ k=>k=w.heap.size);have F0:=ae f0;clear qR qB f0 A1;go_wp2_with fail;refine eO (v:=bx st0.next.text ⟨#[]⟩ 0 0 (.slice (some ⟨gg,0,none⟩) 2 cap)) (by simp [results,results70,go_sem,r0,r1,r2,r3,r4]) rfl ⟨_,O5,rfl,?_,?_,?_,ab K5⟩
    ·repeat with_reducible first|refine PA.other ?_ (ab HN) _ _|refine PA.alloc ?_ _|refine PA.drew ?_|refine PA.drewN ?_ _|exact ab HP
    ·repeat with_reducible first|refine Fr.setCell ?_ (inr (aD _)) _|refine Fr.setCell ?_ (inl (ab HO)) _|refine Fr.alloc ?_ _|refine Fr.drew ?_|refine Fr.drewN ?_ _|exact ab HF|exact bE _ _
    refine aP.step (O:=λ k=>O5 k\/k=w.heap.size) (O':=λ k=>O5 k\/k=w.heap.size) (w:=w0) ?_ ?_ ?_ _ _ (ab TT)
    ·repeat with_reducible first|refine Fr.setCell ?_ (inl (inr rfl)) _|exact ab F0
    ·intro k hk;rcases hk with h|h
     ·exact inl h
     exact inr (inl (by omega))
    intro k hk;rcases hk with h|h
    ·exact inl (inl h)
    exact inl (inr (inl (by omega)))
   have HX:=ae hx;clear hx;rw [hel];go_wp2_with fail;refine(aN (ab G1) (ab K5)).mono ?_;rintro e w7 ⟨rfl,O7,hp7,hf7⟩;have H7:=ae hp7;have F7:=ae hf7;clear hp7 hf7;go_wp2_with fail;refine(ab LA _ _ _ _ (ab H7) (ab K5).take (ab HX)).mono ?_;rintro e w4' ⟨v,O8,rfl,hp8,hf8,ht8,hk8⟩;obtain⟨xop,xtext,xn,xa,xo,xc,xl,rfl⟩:=ht8.form;have H8:=ae hp8;have F8:=ae ((ab F7).trans hf8);have T8:=ae (show aP w4' (λ k=>O8 k\/k<w0.heap.size) x _ from aP.keep (λ _ _ _=>rfl) (λ k _ h=>by rcases h with h|h;exact inl h;exact inr (eV h (ab F7).size)) _ _ ht8);have K8:=ae hk8;have hl8:w0.heap.size<=w4'.heap.size:=(ab F8).size;have hB8:wt.heap.size<w4'.heap.size:=eV (ai (ab G4)) hl8;have qB8:=((ab F8).block wt.heap.size (ai (ab G4)) (ab G6)).trans (ab G4);have s4:w4'.cell? ⟨wt.heap.size,4,none⟩=some (.slice (some ⟨gg,0,none⟩) 2 cap):=af qB8;have YA:=ae qB8;have VA:=ae (show w4'.ownsRow 0 115 5 (.slice (some ⟨gg,0,none⟩) 2 cap) 2 [.string cop,.string ctext,.int .i64 cn,.int .i64 ca,.slice co cc cl,.string bop,.string btext,.int .i64 bn,.int .i64 ba,.slice bo bc bl]from ap (ab G7).1 (λ k hk=>(ab F8).block k ((ab G7).1.lt k hk).2 (λ h=>(ab G7).2.1 k hk (inl h))));have JA:=ae (show some wt.heap.size≠(Value.slice (some ⟨gg,0,none⟩) 2 cap).ownBlock from λ e=>(ab G7).2.1 _ e.symm (inr (inr rfl)));clear hp8 hf8 ht8 hk8 qB8
   go_wp2_with (at_builtin;refine wpList_append_lies _ rfl _ _ _ rfl 0 115 i0 _ 5 72 underlying113 hi0 hz0 hz1 hz2 rfl (by omega) (.slice (some ⟨gg,0,none⟩) 2 cap) 2 [.string cop,.string ctext,.int .i64 cn,.int .i64 ca,.slice co cc cl,.string bop,.string btext,.int .i64 bn,.int .i64 ba,.slice bo bc bl] rfl (((ab VA).alloc _).alloc _) ⟨w4'.heap.size+1,0,none⟩ 1 1 [.string xop,.string xtext,.int .i64 xn,.int .i64 xa,.slice xo xc xl] rfl rfl (World.news_of_block (cs:=#[.string xop,.string xtext,.int .i64 xn,.int .i64 xa,.slice xo xc xl]) (t:=115) (fr:=(0,0)) (bM w4' _ _ _ _).2) (by simp [Value.oneCell']) (by omega) (by simp [maxLen]) (by omega) (by omega) (w4'.heap.size+2) (by simp) ?_;intro gh caq w9 hown hgrow hat hltg;have qB':w9.heap[wt.heap.size]?=some (.cells (aj st0.next.text ⟨#[]⟩ 0 0 (.slice (some ⟨gg,0,none⟩) 2 cap)) 115 (0,0)):=((hgrow.block wt.heap.size (by simp;omega) (ab JA)).trans ((eW _ _ _ (by simp;omega)).trans ((eW _ _ _ (by omega)).trans (ab YA))));have qR':w9.heap[w.heap.size]?=some (.cells bj 115 (0,0)):=((hgrow.block w.heap.size (by simp;omega) (λ e=>(ab G7).2.1 _ e.symm (inr (inl (aD _))))).trans ((eW _ _ _ (by simp;omega)).trans ((eW _ _ _ (by omega)).trans (((ab F8).block _ (ai (ab G3)) (ab G5)).trans (ab G3)))));have c4:w9.cell? ⟨wt.heap.size,4,none⟩=some (.slice (some ⟨gg,0,none⟩) 2 cap):=(af qB');have zB:∀ ob,w9.frozen? ⟨wt.heap.size,ob,none⟩=false:=(λ ob=>ak qB');have b0:w9.cell? ⟨wt.heap.size,0,none⟩=some (.string st0.next.text):=(af qB');have b1:w9.cell? ⟨wt.heap.size,1,none⟩=some (.string ⟨#[]⟩):=(af qB');have b2:w9.cell? ⟨wt.heap.size,2,none⟩=some (.int .i64 0):=(af qB');have b3:w9.cell? ⟨wt.heap.size,3,none⟩=some (.int .i64 0):=(af qB');have r0:w9.cell? ⟨w.heap.size,0,none⟩=some (.string ⟨#[]⟩):=(af qR');have r1:w9.cell? ⟨w.heap.size,1,none⟩=some (.string ⟨#[]⟩):=(af qR');have r2:w9.cell? ⟨w.heap.size,2,none⟩=some (.int .i64 0):=(af qR');have r3:w9.cell? ⟨w.heap.size,3,none⟩=some (.int .i64 0):=(af qR');have r4:w9.cell? ⟨w.heap.size,4,none⟩=some (.slice none 0 0):=(af qR');have zr:∀ ob,w9.frozen? ⟨w.heap.size,ob,none⟩=false:=(λ ob=>ak qR');have nRB:w.heap.size≠wt.heap.size:=(by omega);clear qB' qR')
   have CA:=ae (kG (kids:=[cT,bT]) (ab G2) (ab F8) (ab H8) (ab G3) (ab G4) (ab G5) (ab G6) (by omega) (ab G7) (ab T8) hgrow hown hat);simp only [List.length_cons,List.length_nil,Nat.zero_add,Nat.reduceAdd]at CA;generalize hW:w9.setCell ⟨wt.heap.size,4,none⟩ (.slice (some ⟨gh,0,none⟩) 3 caq)=W at *;clear hW hown hgrow hat hltg c4 zB b0 b1 b2 b3 r0 r1 r2 r3 r4 zr nRB;obtain⟨f1,f2,f3,f4,f5,f6,f7⟩:=ab CA;obtain⟨r0,r1,r2,r3,r4⟩:=cX f3;have HP:=ae f1;have HF:=ae f2;have HN:=ae f5;have TT:=ae (f7.at st0.next.text ⟨#[]⟩ 0 0);have F0:=ae ((bE O8 W).join (λ k=>k=w.heap.size));refine eO (v:=bx st0.next.text ⟨#[]⟩ 0 0 (.slice (some ⟨gh,0,none⟩) 3 caq)) (by simp [results,results70,go_sem,r0,r1,r2,r3,r4]) rfl ⟨_,O8,rfl,?_,?_,?_,ab K8⟩
   ·repeat with_reducible first|refine PA.other ?_ (ab HN) _ _|refine PA.alloc ?_ _|refine PA.drew ?_|refine PA.drewN ?_ _|exact ab HP
   ·repeat with_reducible first|refine Fr.setCell ?_ (inr (aD _)) _|refine Fr.setCell ?_ (inl (ab HO)) _|refine Fr.alloc ?_ _|refine Fr.drew ?_|refine Fr.drewN ?_ _|exact ab HF|exact bE _ _
   refine aP.step (O:=λ k=>O8 k\/k=w.heap.size) (O':=λ k=>O8 k\/k=w.heap.size) (w:=W) ?_ ?_ ?_ _ _ (ab TT)
   ·repeat with_reducible first|refine Fr.setCell ?_ (inl (inr rfl)) _|exact ab F0
   ·intro k hk;rcases hk with h|h
    ·exact inl h
    exact inr (inl (by omega))
   intro k hk;rcases hk with h|h
   ·exact inl (inl h)
   exact inl (inr (inl (by omega)))
theorem Js(pb:Nat)(s:ByteArray)(f:Nat)(IS:∀ g,g<=f->uJ pb s g)(IC:∀ g,g<=f->qI pb s g)(IB:∀ g,g<=f->wK pb s g):Gz pb s (f+1):=by
 intro w st O r h hk hr;rw [stmtTw]at hr;obtain⟨st0,hst0⟩:∃ st0,st0=if cZ st=true then st else aY st:=⟨_,rfl⟩
 rw [<-hst0]at hr;cases f with
 | zero=>rw [ft]at hr;cases hr
 | succ f =>
  rw [ft]at hr;have IS:=IS f (by omega);have IC:=IC f (by omega);have IB:=IB f (by omega);unfold Ey at hr;cases e0:(st0.next.text.toList==kI)with
  | true =>
   rw [aC (inl e0)]at hr;cases ht:sumTw s f (aJ s (ax s st0) ku)with
   | none=>rw [ht]at hr;cases hr
   | some p=>rw [ht]at hr;obtain rfl:=fZ hr;exact qx pb s w st st0 O h hk hst0 f IS p.1 p.2 ht e0
  | false =>
  cases e1:(st0.next.text.toList==tC)with
  | true =>
   rw [aC (inr e1)]at hr;cases ht:sumTw s f (aJ s (ax s st0) ku)with
   | none=>rw [ht]at hr;cases hr
   | some p=>rw [ht]at hr;obtain rfl:=fZ hr;exact uk pb s w st st0 O h hk hst0 f IS p.1 p.2 ht e0 e1
  | false =>
  rw [au (by simp [e0,e1])]at hr;cases e2:(st0.next.text.toList==eH)with
  | true=>rw [aC (inl e2)]at hr;obtain rfl:=fZ hr;exact qw pb s w st st0 O h hk hst0 e0 e1 e2
  | false =>
  cases e3:(st0.next.text.toList==db)with
  | true=>rw [aC (inr (inl e3))]at hr;obtain rfl:=fZ hr;exact mJ pb s w st st0 O h hk hst0 e0 e1 e2 e3
  | false =>
  cases e4:(st0.next.text.toList==cU)with
  | true=>rw [aC (inr (inr e4))]at hr;obtain rfl:=fZ hr;exact lL pb s w st st0 O h hk hst0 e0 e1 e2 e3 e4
  | false =>
  rw [au (by simp [e2,e3,e4])]at hr;cases e5:(st0.next.text.toList==M4)with
  | true =>
   rw [aC e5]at hr;cases hc:cQ s f 0 (ax s st0)with
   | none=>rw [hc]at hr;cases hr
   | some p =>
    rw [hc]at hr;cases hb:ef s f (aJ s p.1 uB)with
    | none=>simp only [hb]at hr;cases hr
    | some q =>
     simp only [hb]at hr;cases hel:aT q.1 uA with
     | true =>
      rw [aC hel]at hr;cases hx:ef s f (ax s q.1)with
      | none=>rw [hx]at hr;cases hr
      | some z=>rw [hx]at hr;obtain rfl:=fZ hr;exact Ao pb s w st st0 O h hk hst0 f IC IB p.1 p.2 hc q.1 q.2 hb _ (inr ⟨hel,_,_,hx,rfl⟩) e0 e1 e2 e3 e4 e5
     | false =>
      rw [au (by rw [hel];simp)]at hr;obtain rfl:=fZ hr;exact Ao pb s w st st0 O h hk hst0 f IC IB p.1 p.2 hc q.1 q.2 hb _ (inl ⟨hel,rfl⟩) e0 e1 e2 e3 e4 e5
  | false =>
   rw [au (by rw [e5];simp)]at hr;obtain rfl:=fZ hr;exact FU pb s w st st0 O h hk hst0 e0 e1 e2 e3 e4 e5
theorem Ng(pb:Nat)(s:ByteArray)(f:Nat)(hf0:f<=1000000):(∀ g,g<=f->wK pb s g)/\(∀ g,g<=f->Gz pb s g):=by
 induction f with
 | zero =>
  refine⟨λ g hg=>?_,λ g hg=>?_⟩
  ·obtain rfl:g=0:=by omega
   intro w st O r _ _ hr;rw [ef]at hr;cases hr
  obtain rfl:g=0:=by omega
  intro w st O r _ _ hr;rw [stmtTw]at hr;cases hr
 | succ f ih =>
  have ih:=ih (by omega);refine⟨λ g hg=>?_,λ g hg=>?_⟩
  ·by_cases e:g=f+1
   ·subst e;exact Ek pb s f (by omega) ih.2
   exact ih.1 g (by omega)
  by_cases e:g=f+1
  ·subst e;exact Js pb s f (Av pb s f).1 (MW pb s f) ih.1
  exact ih.2 g (by omega)
def cG(l:List Rg):List Value:=l.flatMap λ r=>[.int .i64 r.addr,.int .i64 r.len,.int .i64 r.lo,.int .i64 r.hi,.int .i64 r.loAt,.int .i64 r.hiAt]
theorem pz(l:List Rg)(r:Rg):cG (l++[r])=cG l++[.int .i64 r.addr,.int .i64 r.len,.int .i64 r.lo,.int .i64 r.hi,.int .i64 r.loAt,.int .i64 r.hiAt]:=by simp [cG]
theorem Tryz.infoRg:(prog.info? 233).map (λ i=>(i.zero,i.size,i.bytes))=some (some (.agg #[.int .i64 0,.int .i64 0,.int .i64 0,.int .i64 0,.int .i64 0,.int .i64 0]),6,48):=by kernel_rfl
def JQ(pb:Nat)(s:ByteArray)(w:World)(O:Nat->Prop)(r:PS×List Rg)(e:Ending)(w':World):Prop :=
 ∃ v O',e=.returned v/\PA w' pb s r.1 O'/\Fr O w O' w'/\w'.ownsRow w.heap.size 233 6 v r.2.length (cG r.2)/\(∀ k,v.ownBlock=some k->¬O' k)/\Ok s r.1
theorem lG{s:ByteArray}{k:Nat}{m:Bool}{st:PS}{l:List Rg}{r:PS×List Rg}(h:rangesLp s k m st l=some r):∃ g,k=g+1:=by
 cases k with
 | zero=>rw [rangesLp]at h;cases h
 | succ g=>exact⟨g,rfl⟩
theorem vd{s:ByteArray}{g:Nat}{m:Bool}{st:PS}{l:List Rg}{r:PS×List Rg}(h:rangesLp s (g+1) m st l=some r)(hc:¬(m=true/\st.bad<0)):r=(aJ s st rW,l):=by
 rw [rangesLp,au hc]at h;exact(fZ h).symm
theorem Zu9{s:ByteArray}{g:Nat}{m:Bool}{st:PS}{l:List Rg}{r:PS×List Rg}(h:rangesLp s (g+1) m st l=some r)(hc:m=true/\st.bad<0) :
  (aT (dV s st).1 ji=true/\rangesLp s g true (ax s (dV s st).1) (l++[(dV s st).2])=some r)\/(aT (dV s st).1 ji=false/\rangesLp s g false (dV s st).1 (l++[(dV s st).2])=some r):=by
 rw [rangesLp,aC hc]at h;cases hi:aT (dV s st).1 ji with
 | true=>left;rw [aC hi]at h;exact⟨rfl,h⟩
 | false=>right;rw [au (by rw [hi];simp)]at h;exact⟨rfl,h⟩
theorem BM(X:World){A B:Obj}{C:Obj}:(((X.alloc A).alloc B).alloc C).heap[X.heap.size+2]?=some C:=by
 rw [show X.heap.size+2=((X.alloc A).alloc B).heap.size by simp];exact cN _ _
theorem zt{X:World}{A B:Obj}{k:Nat}(h:X.heap.size+1=k):((X.alloc A).alloc B).heap[k]?=some B:=by
 subst h;rw [show X.heap.size+1=(X.alloc A).heap.size by simp];exact cN _ _
theorem wl{w wr w2 w':World}{pb g cap n:Nat}{s:ByteArray}{s2:PS}{O O1 O2:Nat->Prop}{v:Value}{xs:List Value}{obS:Obj}{T:TypeId}{size:Nat}
  (HF:Fr O w O1 wr) (F2:Fr O1 wr O2 w2) (H2:PA w2 pb s s2 O2) (HOW:wr.ownsRow w.heap.size T size v n xs) (HNO:∀ k,v.ownBlock=some k->¬O1 k)
  (hgrow:(w2.alloc obS).grownBy w' v.ownBlock) (hat:v.ownBlock=some g\/g=w2.heap.size+1) :
  PA w' pb s s2 O2/\Fr O w O2 w'/\(∀ k,(Value.slice (some ⟨g,0,none⟩) (n+1) cap).ownBlock=some k->¬O2 k):=by
 have l2:wr.heap.size<=w2.heap.size:=F2.size
 have hkv:∀ k,v.ownBlock=some k->w.heap.size<=k/\k<wr.heap.size/\¬O2 k:=λ k hk=>by
  have h1:=HOW.lt k hk;refine⟨h1.1,h1.2,λ h=>?_⟩;rcases F2.own _ h with h|h
  ·exact HNO k hk h
  omega
 have hold:∀ k,k<w2.heap.size->some k≠v.ownBlock->w'.heap[k]?=w2.heap[k]?:=λ k hk hn=>by
  rw [hgrow.block k (by simp;omega) hn,eW _ _ _ hk]
 refine⟨H2.frame (λ k hk=>hold k (H2.lt hk) (λ e=>(hkv k e.symm).2.2 hk)),?_,λ k hk=>?_⟩
 ·exact((HF.trans F2).alloc obS).grown hgrow (λ k hk=>inr (hkv k hk).1)
 obtain rfl:g=k:=by simpa [Value.ownBlock]using hk
 rcases hat with h|h
 ·exact(hkv g h).2.2
 intro h3;have:=H2.lt h3;omega
theorem Ch(pb:Nat)(s:ByteArray)(f:Nat)(hf0:f<=1000000)(w:World)(st:PS)(O:Nat->Prop)(r:PS×List Rg)(h:PA w pb s st O)(hk:Ok s st)(hr:ja s f st=some r) :
  Calls prog 122 #[fX pb] w (JQ pb s w O r):=by
 unfold ja at hr;obtain⟨i0,hi0,hz0,hz1,hz2⟩:=info_parts Tryz.infoRg;have SA:=ae h;have K:=ae hk;have HL:=ae hr;clear h hk hr;go_enter func122,ntmps122;go_wp2_with fail;refine(dr (ab SA) (ab K) _).mono ?_;rintro e wb ⟨rfl,Ob,hpb,hfb⟩;have UA:=ae hpb;have RA:=ae hfb;clear hpb hfb;go_wp2_with fail;go_loopg [3,4] f (λ k v3 b4 wr=>∃(su:PS) (l:List Rg) (more:Bool) (O1:Nat->Prop),l.length+k<=f/\b4=.bool more/\PA wr pb s su O1/\Ok s su/\Fr O w O1 wr/\wr.ownsRow w.heap.size 233 6 v3 l.length (cG l)/\(∀ k,v3.ownBlock=some k->¬O1 k)/\rangesLp s k more su l=some r)
 case atStart=>exact⟨_,[],true,Ob,by simp,rfl,ab UA,(ab K).need _,ab RA,jX _ _ _ _,λ k hk=>by simp [Value.ownBlock]at hk,ab HL⟩
 case round =>
  clear SA K HL UA RA;obtain⟨su,l,more,O1,hkl,rfl,hp,hk,hf,how,hno,hl⟩:=hrel;obtain⟨g,rfl⟩:=lG hl;have c7:=hp.cell.2.1;by_cases hc:more=true/\su.bad<0
  ·have IA:=ae (Zu9 hl hc);obtain⟨rfl,hb⟩:=hc;have HP:=ae hp;have HK:=ae hk;have HF:=ae hf;have BA:=ae how;have EA:=ae hno;clear hp hk hf how hno hl;go_wp2_with fail;refine(iW (ab HP) (ab HK) _).mono ?_;rintro e w2 ⟨rfl,O2,hp2,hf2⟩;have TA:=ae (hp2.alloc (.cells #[.int .u8 su.next.kind,.string su.next.text,.int .i64 su.next.at_] 121));have QA:=ae (hf2.alloc (.cells #[.int .u8 su.next.kind,.string su.next.text,.int .i64 su.next.at_] 121));clear hp2 hf2;go_wp2_with fail;refine(gM _ _ (by have:=(ab HK).tx;omega)).mono ?_;rintro e w3 ⟨rfl,hb3⟩;have P3:=(ab TA).stay hb3;have d1:=P3.cell.1;have d7:=P3.cell.2.1;have lp3:pb<w3.heap.size:=P3.lt P3.own;have OA:=ae P3;have FA:=ae ((ab QA).below hb3);have LA:=ae (show w3.ownsRow w.heap.size 233 6 u3 l.length (cG l)from ap (ab BA) (λ k hk=>(ab FA).block k ((ab BA).lt k hk).2 (ab EA k hk)));have hw3:w.heap.size<=w3.heap.size:=kr (ab HF).size (ab FA).size;clear P3 hb3 TA QA;by_cases hn:(aA s su 47).bad<0/\(aA s su 47).next.kind=48
   ·have HR:=ae (show dV s su=(aA s (aA s (aA s su 47) 48) 48,⟨(aV su.next.text).1,(aV su.next.text).2.1,bf (aA s su 47).next.text 4294967295,bf (aA s (aA s su 47) 48).next.text 4294967295,(aA s su 47).next.at_,(aA s (aA s su 47) 48).next.at_⟩)from by unfold dV;rw [aC hn]);have h1:=hn.1;have h2:((aA s su 47).next.kind==48)=true:=by rw [hn.2];rfl
    clear hn;go_wp2_with fail;refine(lu (((ab OA).alloc _).alloc _) ((ab HK).kind 47) _).mono ?_;rintro e w5 ⟨rfl,O5,hp5,hf5⟩;have NR:=ae (show ¬O2 (w3.heap.size+1)from λ h=>by have:=(ab OA).lt h;omega);have WA:=ae ((hf5.block (w3.heap.size+1) (by simp) (ab NR)).trans (bM w3 _ _ _ _).2)
    have VA:=ae (show ¬O5 (w3.heap.size+1)from λ h=>by
     rcases hf5.own _ h with h|h
     ·exact ab NR h
     ·simp at h;omega)
    have N5:=ae (show ¬O5 w5.heap.size from λ h=>by have:=hp5.lt h;omega);have ZA:=ae (hp5.alloc (.cells (aj ⟨#[]⟩ ⟨#[]⟩ (bf (aA s su 47).next.text 4294967295) (aA s su 47).next.at_ (.slice none 0 0)) 115));have XA:=ae (((((ab FA).alloc (.cells #[.int .i64 (aV su.next.text).1,.int .i64 (aV su.next.text).2.1] 25)).alloc (.cells #[.int .i64 (aV su.next.text).1,.int .i64 (aV su.next.text).2.1,.int .i64 (aV su.next.text).2.1,.int .i64 (aV su.next.text).2.1,.int .i64 (-1),.int .i64 (-1)] 233)).trans hf5).alloc (.cells (aj ⟨#[]⟩ ⟨#[]⟩ (bf (aA s su 47).next.text 4294967295) (aA s su 47).next.at_ (.slice none 0 0)) 115));clear hp5 hf5;go_wp2_with fail;refine(lu (ab ZA) (((ab HK).kind 47).kind 48) _).mono ?_;rintro e w6 ⟨rfl,O6,hp6,hf6⟩;have lR5:w3.heap.size+1<w5.heap.size:=ai (ab WA);have qR:=(hf6.block (w3.heap.size+1) (by simp;omega) (ab VA)).trans ((eW _ _ _ lR5).trans (ab WA));have qA:=(hf6.block w5.heap.size (by simp) (ab N5)).trans (cN w5 _);have lR6:w3.heap.size+1<w6.heap.size:=ai qR;have lA6:w5.heap.size<w6.heap.size:=ai qA;have z0:w6.cell? ⟨w3.heap.size+1,0,none⟩=some (.int .i64 (aV su.next.text).1):=af qR;have z1:w6.cell? ⟨w3.heap.size+1,1,none⟩=some (.int .i64 (aV su.next.text).2.1):=af qR;have z2:w6.cell? ⟨w3.heap.size+1,2,none⟩=some (.int .i64 (aV su.next.text).2.1):=af qR;have z3:w6.cell? ⟨w3.heap.size+1,3,none⟩=some (.int .i64 (aV su.next.text).2.1):=af qR;have z4:w6.cell? ⟨w3.heap.size+1,4,none⟩=some (.int .i64 (-1)):=af qR;have z5:w6.cell? ⟨w3.heap.size+1,5,none⟩=some (.int .i64 (-1)):=af qR;have zf:∀ ob,w6.frozen? ⟨w3.heap.size+1,ob,none⟩=false:=λ ob=>ak qR
    have y2:w6.cell? ⟨w5.heap.size,2,none⟩=some (.int .i64 (bf (aA s su 47).next.text 4294967295)):=af qA;have y3:w6.cell? ⟨w5.heap.size,3,none⟩=some (.int .i64 (aA s su 47).next.at_):=af qA;have hRA:w3.heap.size+1≠w5.heap.size:=by omega
    have JA:=ae (show ¬O6 (w3.heap.size+1)from λ h=>by
     rcases hf6.own _ h with h|h
     ·exact ab VA h
     ·simp at h;omega)
    have AB:=ae hp6;have KA:=ae ((ab XA).trans hf6);have MA:=ae (show w6.ownsRow w.heap.size 233 6 u3 l.length (cG l)from ap (ab BA) (λ k hk=>(ab KA).block k ((ab BA).lt k hk).2 (ab EA k hk)));have hw6:w.heap.size<=w6.heap.size:=kr (ab HF).size (ab KA).size;have hwr3:wr.heap.size<=w3.heap.size:=(ab FA).size;clear hp6 hf6 qR qA
    have NA:=ae (show((((w6.setCell ⟨w3.heap.size+1,2,none⟩ (.int .i64 (bf (aA s su 47).next.text 4294967295))).setCell ⟨w3.heap.size+1,3,none⟩ (.int .i64 (bf (aA s (aA s su 47) 48).next.text 4294967295))).setCell ⟨w3.heap.size+1,4,none⟩ (.int .i64 (aA s su 47).next.at_)).setCell ⟨w3.heap.size+1,5,none⟩ (.int .i64 (aA s (aA s su 47) 48).next.at_)).ownsRow w.heap.size 233 6 u3 l.length (cG l)from ap (ab MA) (λ k hk=>by
     have hne:k≠w3.heap.size+1:=by have:=((ab BA).lt k hk).2;omega
     rw [ah hne,ah hne,ah hne,ah hne]))
    have BB:=ae (show PA ((((w6.setCell ⟨w3.heap.size+1,2,none⟩ (.int .i64 (bf (aA s su 47).next.text 4294967295))).setCell ⟨w3.heap.size+1,3,none⟩ (.int .i64 (bf (aA s (aA s su 47) 48).next.text 4294967295))).setCell ⟨w3.heap.size+1,4,none⟩ (.int .i64 (aA s su 47).next.at_)).setCell ⟨w3.heap.size+1,5,none⟩ (.int .i64 (aA s (aA s su 47) 48).next.at_)) pb s (aA s (aA s (aA s su 47) 48) 48) O6 from((((ab AB).other (ab JA) _ _).other (ab JA) _ _).other (ab JA) _ _).other (ab JA) _ _);have YA:=ae (show Fr O1 wr O6 ((((w6.setCell ⟨w3.heap.size+1,2,none⟩ (.int .i64 (bf (aA s su 47).next.text 4294967295))).setCell ⟨w3.heap.size+1,3,none⟩ (.int .i64 (bf (aA s (aA s su 47) 48).next.text 4294967295))).setCell ⟨w3.heap.size+1,4,none⟩ (.int .i64 (aA s su 47).next.at_)).setCell ⟨w3.heap.size+1,5,none⟩ (.int .i64 (aA s (aA s su 47) 48).next.at_))from((((ab KA).setCell (inr (by show wr.heap.size<=w3.heap.size+1;omega)) _).setCell (inr (by show wr.heap.size<=w3.heap.size+1;omega)) _).setCell (inr (by show wr.heap.size<=w3.heap.size+1;omega)) _).setCell (inr (by show wr.heap.size<=w3.heap.size+1;omega)) _)
    go_wp2_with (at_builtin;refine wpList_append_lies _ rfl _ _ _ rfl w.heap.size 233 i0 _ 6 48 underlying143 hi0 hz0 hz1 hz2 rfl (by omega) u3 l.length (cG l) rfl (((ab NA).alloc _).alloc _) ⟨w6.heap.size+1,0,none⟩ 1 1 [.int .i64 (aV su.next.text).1,.int .i64 (aV su.next.text).2.1,.int .i64 (bf (aA s su 47).next.text 4294967295),.int .i64 (bf (aA s (aA s su 47) 48).next.text 4294967295),.int .i64 (aA s su 47).next.at_,.int .i64 (aA s (aA s su 47) 48).next.at_] rfl rfl (World.news_of_block (cs:=#[.int .i64 (aV su.next.text).1,.int .i64 (aV su.next.text).2.1,.int .i64 (bf (aA s su 47).next.text 4294967295),.int .i64 (bf (aA s (aA s su 47) 48).next.text 4294967295),.int .i64 (aA s su 47).next.at_,.int .i64 (aA s (aA s su 47) 48).next.at_]) (t:=233) (fr:=(0,0)) (zt (by simp [World.setCell]))) (by simp [Value.oneCell']) (by omega) (by simp [maxLen];omega) (by omega) (by simp [World.setCell];omega) (w6.heap.size+2) (by simp [World.setCell]) ?_;intro gg cap w' hown hgrow hat hltg)
    have CA:=ae (wl (cap:=cap) (n:=l.length) (ab HF) ((ab YA).alloc _) ((ab BB).alloc _) (ab BA) (ab EA) hgrow (by rcases hat with h|h;exact inl h;exact inr (by simp [World.setCell];omega)));have AA:=ae (show w'.ownsRow w.heap.size 233 6 (.slice (some ⟨gg,0,none⟩) (l.length+1) cap) (l++[(⟨(aV su.next.text).1,(aV su.next.text).2.1,bf (aA s su 47).next.text 4294967295,bf (aA s (aA s su 47) 48).next.text 4294967295,(aA s su 47).next.at_,(aA s (aA s su 47) 48).next.at_⟩:Rg)]).length (cG (l++[(⟨(aV su.next.text).1,(aV su.next.text).2.1,bf (aA s su 47).next.text 4294967295,bf (aA s (aA s su 47) 48).next.text 4294967295,(aA s su 47).next.at_,(aA s (aA s su 47) 48).next.at_⟩:Rg)]))from by rw [pz,List.length_append];exact hown);have A1:=ae ((ab CA).1.is ji);clear hown hgrow hat hltg;rw [ab HR]at IA;refine(ab A1).mono ?_;rintro e w0 ⟨rfl,rfl⟩;rcases ab IA with⟨hcm,hl2⟩|⟨hcm,hl2⟩
    ·have DA:=ae hl2;clear hl2;rw [show aT (aA s (aA s (aA s su 47) 48) 48) ji=true from hcm];go_wp2_with fail;refine(aN (ab CA).1 (((ab HK).kind 47).kind 48 |>.kind 48)).mono ?_;rintro e w9 ⟨rfl,O9,hp9,hf9⟩;have HA:=ae hp9;have GA:=ae hf9;clear hp9 hf9;go_wp2_with fail;go_roundg g
     case measure=>omega
     case rel =>
      have hf9:=ab GA;obtain⟨f1,f2,f3⟩:=ab CA;refine⟨_,l++[(⟨(aV su.next.text).1,(aV su.next.text).2.1,bf (aA s su 47).next.text 4294967295,bf (aA s (aA s su 47) 48).next.text 4294967295,(aA s su 47).next.at_,(aA s (aA s su 47) 48).next.at_⟩:Rg)],true,O9,by simp;omega,rfl,ab HA,(((ab HK).kind 47).kind 48 |>.kind 48).take,f2.trans hf9,ap (ab AA) (λ k hk=>hf9.block k ((ab AA).lt k hk).2 (f3 k hk)),λ k hk h=>?_,ab DA⟩;rcases hf9.own _ h with h|h
      ·exact f3 k hk h
      have:=((ab AA).lt k hk).2;omega
    have DA:=ae hl2;clear hl2;rw [show aT (aA s (aA s (aA s su 47) 48) 48) ji=false from hcm];go_wp2_with fail;go_roundg g
    case measure=>omega
    case rel =>
     obtain⟨f1,f2,f3⟩:=ab CA;exact⟨_,l++[(⟨(aV su.next.text).1,(aV su.next.text).2.1,bf (aA s su 47).next.text 4294967295,bf (aA s (aA s su 47) 48).next.text 4294967295,(aA s su 47).next.at_,(aA s (aA s su 47) 48).next.at_⟩:Rg)],false,_,by simp;omega,rfl,f1,(((ab HK).kind 47).kind 48 |>.kind 48),f2,ab AA,f3,ab DA⟩
   have HR:=ae (show dV s su=(aA s su 47,⟨(aV su.next.text).1,(aV su.next.text).2.1,(aV su.next.text).2.1,(aV su.next.text).2.1,-1,-1⟩)from by unfold dV;rw [au hn])
   have hor:((aA s su 47).bad<0/\((aA s su 47).next.kind==48)=false)\/¬(aA s su 47).bad<0:=by
    by_cases h1:(aA s su 47).bad<0
    ·left;exact⟨h1,beq_eq_false_iff_ne.2 (λ h2=>hn ⟨h1,h2⟩)⟩
    right;exact h1
   clear hn;rcases hor with⟨h1,h2⟩|h1
   all_goals
    go_wp2_with (at_builtin;refine wpList_append_lies _ rfl _ _ _ rfl w.heap.size 233 i0 _ 6 48 underlying143 hi0 hz0 hz1 hz2 rfl (by omega) u3 l.length (cG l) rfl ((((ab LA).alloc _).alloc _).alloc _) ⟨w3.heap.size+2,0,none⟩ 1 1 [.int .i64 (aV su.next.text).1,.int .i64 (aV su.next.text).2.1,.int .i64 ((aV su.next.text).2.1),.int .i64 ((aV su.next.text).2.1),.int .i64 (-1),.int .i64 (-1)] rfl rfl (World.news_of_block (cs:=#[.int .i64 (aV su.next.text).1,.int .i64 (aV su.next.text).2.1,.int .i64 ((aV su.next.text).2.1),.int .i64 ((aV su.next.text).2.1),.int .i64 (-1),.int .i64 (-1)]) (t:=233) (fr:=(0,0)) (BM w3)) (by simp [Value.oneCell']) (by omega) (by simp [maxLen];omega) (by omega) (by simp;omega) (w3.heap.size+3) (by simp) ?_;intro gg cap w' hown hgrow hat hltg)
    have CA:=ae (wl (cap:=cap) (n:=l.length) (ab HF) (((ab FA).alloc _).alloc _) (((ab OA).alloc _).alloc _) (ab BA) (ab EA) hgrow (by rcases hat with h|h;exact inl h;exact inr (by simp;omega)));have AA:=ae (show w'.ownsRow w.heap.size 233 6 (.slice (some ⟨gg,0,none⟩) (l.length+1) cap) (l++[(⟨(aV su.next.text).1,(aV su.next.text).2.1,(aV su.next.text).2.1,(aV su.next.text).2.1,-1,-1⟩:Rg)]).length (cG (l++[(⟨(aV su.next.text).1,(aV su.next.text).2.1,(aV su.next.text).2.1,(aV su.next.text).2.1,-1,-1⟩:Rg)]))from by rw [pz,List.length_append];exact hown);have A1:=ae ((ab CA).1.is ji);clear hown hgrow hat hltg;rw [ab HR]at IA;refine(ab A1).mono ?_;rintro e w0 ⟨rfl,rfl⟩;rcases ab IA with⟨hcm,hl2⟩|⟨hcm,hl2⟩
    ·have DA:=ae hl2;clear hl2;rw [show aT (aA s su 47) ji=true from hcm];go_wp2_with fail;refine(aN (ab CA).1 ((ab HK).kind 47)).mono ?_;rintro e w9 ⟨rfl,O9,hp9,hf9⟩;have HA:=ae hp9;have GA:=ae hf9;clear hp9 hf9;go_wp2_with fail;go_roundg g
     case measure=>omega
     case rel =>
      have hf9:=ab GA;obtain⟨f1,f2,f3⟩:=ab CA;refine⟨_,l++[(⟨(aV su.next.text).1,(aV su.next.text).2.1,(aV su.next.text).2.1,(aV su.next.text).2.1,-1,-1⟩:Rg)],true,O9,by simp;omega,rfl,ab HA,((ab HK).kind 47).take,f2.trans hf9,ap (ab AA) (λ k hk=>hf9.block k ((ab AA).lt k hk).2 (f3 k hk)),λ k hk h=>?_,ab DA⟩;rcases hf9.own _ h with h|h
      ·exact f3 k hk h
      have:=((ab AA).lt k hk).2;omega
    have DA:=ae hl2;clear hl2;rw [show aT (aA s su 47) ji=false from hcm];go_wp2_with fail;go_roundg g
    case measure=>omega
    case rel =>
     obtain⟨f1,f2,f3⟩:=ab CA;exact⟨_,l++[(⟨(aV su.next.text).1,(aV su.next.text).2.1,(aV su.next.text).2.1,(aV su.next.text).2.1,-1,-1⟩:Rg)],false,_,by simp;omega,rfl,f1,((ab HK).kind 47),f2,ab AA,f3,ab DA⟩
  have hor:(more=true/\¬su.bad<0)\/more=false:=by
   cases more
   ·right;rfl
   left;exact⟨rfl,λ h=>hc ⟨rfl,h⟩⟩
  obtain rfl:=vd hl hc;have HP:=ae hp;have HK:=ae hk;have HF:=ae hf;have BA:=ae how;have EA:=ae hno;clear hp hk hf how hno hl hc;rcases hor with⟨rfl,hb⟩|rfl
  all_goals
   go_wp2_with fail;refine(dr (ab HP) (ab HK) _).mono ?_;rintro e w9 ⟨rfl,O9,hp9,hf9⟩;have HA:=ae hp9;have GA:=ae hf9;clear hp9 hf9;go_wp2_with fail;go_ret;have hf9:=ab GA;refine⟨_,O9,rfl,ab HA,(ab HF).trans hf9,ap (ab BA) (λ k hk=>hf9.block k ((ab BA).lt k hk).2 (ab EA k hk)),λ k hk h=>?_,(ab HK).need _⟩;rcases hf9.own _ h with h|h
   ·exact ab EA k hk h
   have:=((ab BA).lt k hk).2;omega
