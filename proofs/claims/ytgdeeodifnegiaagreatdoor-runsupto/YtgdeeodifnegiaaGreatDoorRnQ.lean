/- part -/
import Derived.Test.YtgdeeodifnegiaaGreatDoorRnR
import Derived.Test.YtgdeeodifnegiaaGreatDoorRnS
set_option maxRecDepth 100000
set_option maxHeartbeats 12800000
namespace Go.Proofs.YtgdeeodifnegiaaGreatDoor
open Go.Proofs.Tryz
open Or
open Go.RowKit
open Go.RowKit Go.Shelf
namespace rf
abbrev FJ(R:Rt)(pv mv:Value):Array Value:=#[.int .i64 R.addr,.int .i64 R.len,pv,mv,.int .i64 R.pref,.int .i64 R.med]
theorem Bj{w:World}{R:Rt}{po mo:Option Addr}{pc mc:Nat}(h1:a8 w (.slice po R.path.length pc) R.path)(h2:a8 w (.slice mo R.marks.length mc) R.marks)(hp:R.path.length<=1000)(hm:R.marks.length<=1000) :
  Calls prog 96 #[.agg (FJ R (.slice po R.path.length pc) (.slice mo R.marks.length mc))] w λ e w'=>∃ pv mv,e=.returned (.agg (FJ R pv mv))/\Below w.heap.size w w'/\kZ w w' pv R.path/\kZ w w' mv R.marks:=by
 obtain⟨i0,hi0,hz0,hz1,hz2⟩:=info_parts Tryz.infoInt;have H1:=ae h1;have H2:=ae h2;clear h1 h2;go_enter func96,ntmps96;go_upto_region 3 with fail
 have hb0:Below w.heap.size w ((w.alloc (.cells (FJ R (.slice po R.path.length pc) (.slice mo R.marks.length mc)) 28)).alloc (.cells #[.int .i64 0,.int .i64 0,.slice none 0 0,.slice none 0 0,.int .i64 0,.int .i64 0] 28)):=((aX _ _).alloc (aD _) _).alloc (by simp) _;obtain⟨q1,q2⟩:=bM w (FJ R (.slice po R.path.length pc) (.slice mo R.marks.length mc)) #[.int .i64 0,.int .i64 0,.slice none 0 0,.slice none 0 0,.int .i64 0,.int .i64 0] 28 28;obtain⟨W0,hW0⟩:∃ W0,(w.alloc (.cells (FJ R (.slice po R.path.length pc) (.slice mo R.marks.length mc)) 28)).alloc (.cells #[.int .i64 0,.int .i64 0,.slice none 0 0,.slice none 0 0,.int .i64 0,.int .i64 0] 28)=W0:=⟨_,rfl⟩
 rw [hW0]at hb0 q1 q2 ⊢;have DA:=ae hb0;have Q1:=ae q1;have Q2:=ae q2;have c2:W0.cell? ⟨w.heap.size,2,none⟩=some (.slice po R.path.length pc):=af q1;have l1:w.heap.size<W0.heap.size:=ai q1;have l2:w.heap.size+1<W0.heap.size:=ai q2;have RD:=ae (show fA W0 (.slice po R.path.length pc) R.path.length (aq R.path)from eX ((ab H1).below hb0));clear hb0 q1 q2 hW0;go_upto_region 4 with(at_builtin;refine bA rfl _ _ _ rfl 0 3 i0 _ 1 8 underlying26 hi0 hz0 hz1 hz2 rfl (by omega) _ _ _ rfl (jX _ _ _ _) _ _ _ rfl (ab RD) (by simp [aq]) kM (by simp only [maxLen];omega) (by omega) (by omega) ?_;intro v1 w1 hown hgrow hat;obtain⟨o1,k1,rfl⟩:=aU hown)
 have AA:=ae (ee (v:=.slice none 0 0) (aX W0.heap.size W0) hgrow (aD _) (λ k hk=>by simp [Value.ownBlock]at hk));have N1:=ae (kZ.app (w:=W0) (v:=.slice none 0 0) (l:=[]) (l2:=R.path) ⟨jX _ _ _ _,λ k hk=>by simp [Value.ownBlock]at hk⟩ (aX W0.heap.size W0) hown hat);clear hown hgrow hat;have c3:w1.cell? ⟨w.heap.size,3,none⟩=some (.slice mo R.marks.length mc):=((ab AA).cell (p:=⟨w.heap.size,3,none⟩) l1).trans (af (ab Q1));have l11:w.heap.size<w1.heap.size:=eV l1 (ab AA).size;have CA:=ae ((ab DA).trans ((ab AA).mono (ab DA).size));have FA:=ae (show fA _ (.slice mo R.marks.length mc) R.marks.length (aq R.marks)from eX ((ab H2).below (ab CA)));clear c2;go_upto_region 5 with(at_builtin;refine bA rfl _ _ _ rfl 0 3 i0 _ 1 8 underlying26 hi0 hz0 hz1 hz2 rfl (by omega) _ _ _ rfl (jX _ _ _ _) _ _ _ rfl (ab FA) (by simp [aq]) kM (by simp only [maxLen];omega) (by omega) (by omega) ?_;intro v2 w2 hown hgrow hat;obtain⟨o2,k2,rfl⟩:=aU hown)
 have BA:=ae (ee (v:=.slice none 0 0) (aX w1.heap.size w1) hgrow (aD _) (λ k hk=>by simp [Value.ownBlock]at hk));have N2:=ae (kZ.app (w:=w1) (v:=.slice none 0 0) (l:=[]) (l2:=R.marks) ⟨jX _ _ _ _,λ k hk=>by simp [Value.ownBlock]at hk⟩ (aX w1.heap.size w1) hown hat);have EA:=ae ((ab CA).trans ((ab BA).mono (ab CA).size));have q1:w2.heap[w.heap.size]?=_:=((ab BA).block _ l11).trans (((ab AA).block _ l1).trans (ab Q1));have q2:w2.heap[w.heap.size+1]?=_:=((ab BA).block _ (eV l2 (ab AA).size)).trans (((ab AA).block _ l2).trans (ab Q2));clear hown hgrow hat c3;have d0:w2.cell? ⟨w.heap.size,0,none⟩=some (.int .i64 R.addr):=af q1;have d1:w2.cell? ⟨w.heap.size,1,none⟩=some (.int .i64 R.len):=af q1;have d2:w2.cell? ⟨w.heap.size,2,none⟩=some (.slice po R.path.length pc):=af q1;have d3:w2.cell? ⟨w.heap.size,3,none⟩=some (.slice mo R.marks.length mc):=af q1;have d4:w2.cell? ⟨w.heap.size,4,none⟩=some (.int .i64 R.pref):=af q1;have d5:w2.cell? ⟨w.heap.size,5,none⟩=some (.int .i64 R.med):=af q1;have z1:∀ o,w2.frozen? ⟨w.heap.size,o,none⟩=false:=λ o=>ak q1
 have f0:w2.cell? ⟨w.heap.size+1,0,none⟩=some (.int .i64 0):=af q2;have f1:w2.cell? ⟨w.heap.size+1,1,none⟩=some (.int .i64 0):=af q2;have f2:w2.cell? ⟨w.heap.size+1,2,none⟩=some (.slice none 0 0):=af q2;have f3:w2.cell? ⟨w.heap.size+1,3,none⟩=some (.slice none 0 0):=af q2;have f4:w2.cell? ⟨w.heap.size+1,4,none⟩=some (.int .i64 0):=af q2;have f5:w2.cell? ⟨w.heap.size+1,5,none⟩=some (.int .i64 0):=af q2;have z2:∀ o,w2.frozen? ⟨w.heap.size+1,o,none⟩=false:=λ o=>ak q2
 have m1:w.heap.size<w2.heap.size:=ai q1;have m2:w.heap.size+1<w2.heap.size:=ai q2;have QA:=ae q1;have QB:=ae q2;clear q1 q2;go_wp2_with fail;have g0:=(ah (w:=w2) (p:=⟨w.heap.size,2,none⟩) (v:=.slice o1 R.path.length k1) (show w.heap.size+1≠w.heap.size by omega)).trans (ab QB);have g1:=(ah (p:=⟨w.heap.size,3,none⟩) (v:=.slice o2 R.marks.length k2) (show w.heap.size+1≠w.heap.size by omega)).trans g0;have g2:=aB (o:=5) (v:=.int .i64 R.med) (aB (o:=4) (v:=.int .i64 R.pref) (aB (o:=3) (v:=.slice o2 R.marks.length k2) (aB (o:=2) (v:=.slice o1 R.path.length k1) (aB (o:=1) (v:=.int .i64 R.len) (aB (o:=0) (v:=.int .i64 R.addr) g1)))));refine eO (v:=.agg (FJ R (.slice o1 R.path.length k1) (.slice o2 R.marks.length k2))) (results_cell_row results96 _ _ (w.heap.size+1) _ (FJ R (.slice o1 R.path.length k1) (.slice o2 R.marks.length k2)) _ _ rfl g2 underlying28 rfl (by kernel_rfl)) rfl ?_;have hn1:=ab N1;have hn2:=ab N2;rw [Nat.zero_add,List.nil_append]at hn1 hn2;have hne1:(Value.slice o1 R.path.length k1).ownBlock≠some w.heap.size/\(Value.slice o1 R.path.length k1).ownBlock≠some (w.heap.size+1):=⟨hn1.ne l1,hn1.ne l2⟩
 have hne2:(Value.slice o2 R.marks.length k2).ownBlock≠some w.heap.size/\(Value.slice o2 R.marks.length k2).ownBlock≠some (w.heap.size+1):=⟨hn2.ne l11,hn2.ne (eV l2 (ab AA).size)⟩
 have hsz:=(ab DA).size;have hsz1:=(ab CA).size
 have far:∀ k,k≠w.heap.size->k≠w.heap.size+1->((((((((w2.setCell ⟨w.heap.size,2,none⟩ (.slice o1 R.path.length k1)).setCell ⟨w.heap.size,3,none⟩ (.slice o2 R.marks.length k2)).setCell ⟨w.heap.size+1,0,none⟩ (.int .i64 R.addr)).setCell ⟨w.heap.size+1,1,none⟩ (.int .i64 R.len)).setCell ⟨w.heap.size+1,2,none⟩ (.slice o1 R.path.length k1)).setCell ⟨w.heap.size+1,3,none⟩ (.slice o2 R.marks.length k2)).setCell ⟨w.heap.size+1,4,none⟩ (.int .i64 R.pref)).setCell ⟨w.heap.size+1,5,none⟩ (.int .i64 R.med)).heap[k]?=w2.heap[k]?:=λ k h1 h2=>by
  rw [ah h2,ah h2,ah h2,ah h2,ah h2,ah h2,ah h1,ah h1]
 refine⟨_,_,rfl,?_,⟨ap hn1.own (λ k hk=>?_),λ k hk=>kr hsz (hn1.new k hk)⟩,⟨ap hn2.own (λ k hk=>?_),λ k hk=>kr hsz1 (hn2.new k hk)⟩⟩
 ·have s1:w.heap.size<=w.heap.size+1:=by omega
  refine Below.setCell (Below.setCell (Below.setCell (Below.setCell (Below.setCell (Below.setCell (Below.setCell (Below.setCell (ab EA) ?_ _) ?_ _) ?_ _) ?_ _) ?_ _) ?_ _) ?_ _) ?_ _;all_goals first|exact aD _|exact s1
 ·rw [far k (λ e=>hne1.1 (by rw [<-e];exact hk)) (λ e=>hne1.2 (by rw [<-e];exact hk))];exact(ab BA).block k (hn1.own.lt k hk).2
 exact far k (λ e=>hne2.1 (by rw [<-e];exact hk)) (λ e=>hne2.2 (by rw [<-e];exact hk))
end rf
theorem Kl(x:Int×Int)(w:World)(h1:jw x.1)(h2:jw x.2) :
  Calls prog 141 #[.agg #[.int .i64 x.1,.int .i64 x.2]] w λ e w'=>e=.returned (.bool (cI x))/\Below w.heap.size w w':=by
 obtain⟨a,l⟩:=x;unfold jw at h1 h2;simp only at h1 h2 ⊢
 have hor:(0<=a/\a<=4294967295/\0<=l/\l<=32)\/(¬0<=a/\Hid (cI (a,l)=false))\/(0<=a/\¬a<=4294967295/\Hid (cI (a,l)=false))\/(0<=a/\a<=4294967295/\¬0<=l/\Hid (cI (a,l)=false))\/(0<=a/\a<=4294967295/\0<=l/\¬l<=32/\Hid (cI (a,l)=false)):=by
  have hF:¬(0<=a/\a<=4294967295/\0<=l/\l<=32)->Hid (cI (a,l)=false):=λ h=>by
   unfold Hid cI;simp only [decide_eq_false_iff_not];intro⟨⟨x1,x2⟩,⟨x3,x4⟩,_⟩;exact h ⟨x1,x2,x3,x4⟩
  by_cases x1:0<=a
  ·by_cases x2:a<=4294967295
   ·by_cases x3:0<=l
    ·by_cases x4:l<=32
     ·exact inl ⟨x1,x2,x3,x4⟩
     exact inr (inr (inr (inr ⟨x1,x2,x3,x4,hF (λ h=>x4 h.2.2.2)⟩)))
    exact inr (inr (inr (inl ⟨x1,x2,x3,hF (λ h=>x3 h.2.2.1)⟩)))
   exact inr (inr (inl ⟨x1,x2,hF (λ h=>x2 h.2.1)⟩))
  exact inr (inl ⟨x1,hF (λ h=>x1 h.1)⟩)
 rcases hor with⟨x1,x2,x3,x4⟩|⟨x1,HF⟩|⟨x1,x2,HF⟩|⟨x1,x2,x3,HF⟩|⟨x1,x2,x3,x4,HF⟩
 ·have HN:Hid (cI (a,l)=(a % 2 ^ (32-l).toNat==0)):=by
   unfold Hid cI tJ KZ;rw [Bool.eq_iff_iff];simp [x1,x2,x3,x4]
  have⟨hp1,hp2⟩:=Mu (s:=l) (k:=32) x3 (by omega);have hpz:((2:Int) ^ (32-l).toNat==0)=false:=beq_eq_false_iff_ne.2 (by omega);go_enter func141,ntmps141;go_wp2_with fail;go_quiet ((go_at_call 193;exact Calls.quiet_of_same (rf.wi (32-l) _ (by omega) (by omega))))
  go_wp2
  go_ret;exact⟨bQ (ab HN).symm,by exact below_drewN ((aX _ _).alloc (aD _) _) _⟩
 ·have d1:decide (0<=a)=false:=by simpa using x1
  go_enter func141,ntmps141;go_wp2_with fail;go_quiet ((fail))
  go_wp2
  go_ret;exact⟨bQ (ab HF).symm,by exact below_drewN ((aX _ _).alloc (aD _) _) _⟩
 ·have d2:decide (a<=4294967295)=false:=by simpa using x2
  go_enter func141,ntmps141;go_wp2_with fail;go_quiet ((fail))
  go_wp2
  go_ret;exact⟨bQ (ab HF).symm,by exact below_drewN ((aX _ _).alloc (aD _) _) _⟩
 ·have d3:decide (0<=l)=false:=by simpa using x3
  go_enter func141,ntmps141;go_wp2_with fail;go_quiet ((fail))
  go_wp2
  go_ret;exact⟨bQ (ab HF).symm,by exact below_drewN ((aX _ _).alloc (aD _) _) _⟩
 have d4:decide (l<=32)=false:=by simpa using x4
 go_enter func141,ntmps141;go_wp2_with fail;go_quiet ((fail))
 go_wp2
 go_ret;exact⟨bQ (ab HF).symm,by exact below_drewN ((aX _ _).alloc (aD _) _) _⟩
theorem vT(x:Int×Int)(p m:List Int)(pref med:Int)(vp vm:Value)(w:World)(h1:jw x.1)(h2:jw x.2)(hp:a8 w vp p)(hm:a8 w vm m)(h3:jw pref)(h4:jw med) :
  Calls prog 95 #[.agg #[.int .i64 x.1,.int .i64 x.2,vp,vm,.int .i64 pref,.int .i64 med]] w λ e w'=>e=.returned (.bool (dH x p m pref med))/\Below w.heap.size w w':=by
 have HP:=ae hp;have HM:=ae hm;obtain⟨pp,cp,rfl,hcp,hlp,hip,hrp⟩:=hp;obtain⟨pm,cm,rfl,hcm,hlm,him,hrm⟩:=hm;have JA:=ae hrp;have IA:=ae hrm;clear hrp hrm;obtain⟨a,l⟩:=x;simp only at h1 h2;unfold jw at h3 h4;go_enter func95,ntmps95;go_wp2_with fail;refine(Kl (a,l) _ h1 h2).mono ?_;rintro e w1 ⟨rfl,hb1⟩;have q0:w1.heap[w.heap.size]?=some (.cells #[.int .i64 a,.int .i64 l,.slice pp p.length cp,.slice pm m.length cm,.int .i64 pref,.int .i64 med] 28 (0,0)):=(hb1.block w.heap.size (by simp)).trans (cN w _);have b1:=ae (((aX w.heap.size w).alloc (aD _) _).trans (hb1.mono (by simp)));have Q0:=ae q0;have c2:w1.cell? ⟨w.heap.size,2,none⟩=some (.slice pp p.length cp):=af q0;have c3:w1.cell? ⟨w.heap.size,3,none⟩=some (.slice pm m.length cm):=af q0;have c4:w1.cell? ⟨w.heap.size,4,none⟩=some (.int .i64 pref):=af q0;have c5:w1.cell? ⟨w.heap.size,5,none⟩=some (.int .i64 med):=af q0;clear hb1 q0 hip him h1 h2
 have hor:(cI (a,l)=true/\p.length<=12/\m.length<=8/\0<=pref/\pref<=4294967295/\0<=med/\med<=4294967295)\/(Hid (dH (a,l) p m pref med=false)/\((cI (a,l)=false)\/(cI (a,l)=true/\12<p.length)\/(cI (a,l)=true/\¬12<p.length/\8<m.length)\/(cI (a,l)=true/\¬12<p.length/\¬8<m.length/\pref<0)\/(cI (a,l)=true/\¬12<p.length/\¬8<m.length/\¬pref<0/\4294967295<pref)\/(cI (a,l)=true/\¬12<p.length/\¬8<m.length/\¬pref<0/\¬4294967295<pref/\med<0)\/(cI (a,l)=true/\¬12<p.length/\¬8<m.length/\¬pref<0/\¬4294967295<pref/\¬med<0/\4294967295<med))):=by
  cases hb:cI (a,l)with
  | false=>exact inr ⟨eu (λ h=>by unfold cI at hb;simp only [decide_eq_false_iff_not]at hb;exact hb h.1),inl rfl⟩
  | true =>
   by_cases x1:12<p.length
   ·exact inr ⟨eu (λ h=>by have:=h.2.1.1;omega),by simp [x1]⟩
   by_cases x2:8<m.length
   ·exact inr ⟨eu (λ h=>by have:=h.2.2.1.1;omega),by simp [x1,x2]⟩
   by_cases x3:pref<0
   ·exact inr ⟨eu (λ h=>by have:=h.2.2.2.1.1;omega),by simp [x1,x2,x3]⟩
   by_cases x4:4294967295<pref
   ·exact inr ⟨eu (λ h=>by have:=h.2.2.2.1.2;omega),by simp [x1,x2,x3,x4]⟩
   by_cases x5:med<0
   ·exact inr ⟨eu (λ h=>by have:=h.2.2.2.2.1;omega),by simp [x1,x2,x3,x4,x5]⟩
   by_cases x6:4294967295<med
   ·exact inr ⟨eu (λ h=>by have:=h.2.2.2.2.2;omega),by simp [x1,x2,x3,x4,x5,x6]⟩
   exact inl ⟨rfl,by omega,by omega,by omega,by omega,by omega,by omega⟩
 rcases hor with⟨hb,x1,x2,x3,x4,x5,x6⟩|⟨HF,hor⟩
 rotate_left
 ·rcases hor with hb|⟨hb,y1⟩|⟨hb,y1,y2⟩|⟨hb,y1,y2,y3⟩|⟨hb,y1,y2,y3,y4⟩|⟨hb,y1,y2,y3,y4,y5⟩|⟨hb,y1,y2,y3,y4,y5,y6⟩
  all_goals
   rw [hb];clear hb;go_wp2
   go_ret;exact⟨bQ (ab HF).symm,ab b1⟩
 rw [hb];have GA:=ae (show tJ (a,l)from of_decide_eq_true hb);clear hb;go_wp2_with fail
 go_loop [4] (λ i=>∃ k:Nat,k<=p.length/\i=.int .i64 k/\∀ s∈p.take k,1<=s/\s<=65535) (λ i=>p.length-(intOf i).toNat)
 case atStart=>exact⟨0,iL _,rfl,by simp⟩
 case round =>
  obtain⟨k,hk,rfl,hall⟩:=hrel;have AA:=ae hall;clear hall;by_cases hlt:k<p.length
  ·rcases ab JA with h|⟨b,o,rfl,hb,hc⟩
   ·rw [h.1]at hlt;simp at hlt
   have d0:w1.cell? ⟨b,o+k,none⟩=some (.int .i64 p[k]):=((ab b1).cell (p:=⟨b,o+k,none⟩) hb).trans (hc k hlt);clear hc;by_cases y1:p[k]<1
   ·have HF:=ae (show dH (a,l) p m pref med=false from eu (λ h=>by have:=h.2.1.2 p[k] (nN _);omega));go_wp2
    go_ret;exact⟨bQ (ab HF).symm,ab b1⟩
   by_cases y2:65535<p[k]
   ·have HF:=ae (show dH (a,l) p m pref med=false from eu (λ h=>by have:=h.2.1.2 p[k] (nN _);omega));go_wp2
    go_ret;exact⟨bQ (ab HF).symm,ab b1⟩
   have BA:=ae (show ∀ s∈p.take (k+1),1<=s/\s<=65535 from by
    rw [List.take_succ_eq_append_getElem hlt];intro s hs;rcases List.mem_append.1 hs with hs|hs
    ·exact ab AA s hs
    ·simp only [List.mem_singleton]at hs;subst hs;omega)
   go_wp2_with fail
   go_round
   case rel=>exact⟨k+1,by omega,by go_num,ab BA⟩
   case measure=>simp [intOf];omega
  have HA:=ae (show xJ p from⟨x1,by have:=ab AA;rwa [List.take_of_length_le (by omega)]at this⟩);clear AA;go_wp2_with fail;go_loopw [5] (λ i wr=>∃ k:Nat,k<=m.length/\i=.int .i64 k/\gU 0 (m.take k)/\Below w1.heap.size w1 wr) (λ i _=>m.length-(intOf i).toNat)
  case atStart=>exact⟨0,iL _,rfl,rfl,aX _ _⟩
  case round =>
   rename World=>WR
   obtain⟨k2,hk2,rfl,hri,hbe⟩:=hrel;have EA:=ae hri;have BE:=ae hbe;have bw:=ae ((ab b1).trans (hbe.mono (ab b1).size));have e3:WR.cell? ⟨w.heap.size,3,none⟩=some (.slice pm m.length cm):=af ((hbe.block _ (ai (ab Q0))).trans (ab Q0));clear hri hbe;by_cases hlt2:k2<m.length
   ·rcases ab IA with h|⟨b,o,rfl,hb,hc⟩
    ·rw [h.1]at hlt2;simp at hlt2
    have f0:WR.cell? ⟨b,o+k2,none⟩=some (.int .i64 m[k2]):=((ab bw).cell (p:=⟨b,o+k2,none⟩) hb).trans (hc k2 hlt2);have FA:=ae (tZ hlt2);have CA:Hid (¬tE m k2 hlt2->dH (a,l) p m pref med=false):=λ hn=>eu (λ h=>hn ((tZ hlt2).1 (ua m 0 (k2+1) h.2.2.1.2)).2)
    by_cases y1:m[k2]<0
    ·have d1:decide (m[k2]<0)=true:=by simpa using y1
     have HF:=ae (ab CA (λ h=>by have:=h.1;omega));clear hc;go_wp2_with fail;go_quiet ((fail))
     go_wp2
     go_ret;exact⟨bQ (ab HF).symm,by exact below_drewN (ab bw) _⟩
    have d1:decide (m[k2]<0)=false:=by simpa using y1
    by_cases y2:65535<m[k2]
    ·have d2:decide (65535<m[k2])=true:=by simpa using y2
     have HF:=ae (ab CA (λ h=>by have:=h.2.1;omega));clear hc;go_wp2_with fail;go_quiet ((fail))
     go_wp2
     go_ret;exact⟨bQ (ab HF).symm,by exact below_drewN (ab bw) _⟩
    have d2:decide (65535<m[k2])=false:=by simpa using y2
    rcases yj k2 with hz|hz
    ·subst hz;have DA:=ae ((ab FA).2 ⟨ab EA,by omega,by omega,λ h=>absurd h (by omega)⟩);have d3:decide ((0:Int)<0)=false:=rfl;clear hc;simp only [Int.ofNat_zero,Nat.add_zero]at f0 ⊢;go_wp2_with fail;go_quiet ((fail))
     go_wp2_with fail;exact⟨⟨0+1,by omega,by go_num,ab DA,by exact below_drewN (ab BE) _⟩,by simp [intOf];omega⟩
    have hlp:k2-1<m.length:=by omega
    have f1:WR.cell? ⟨b,o+(k2-1),none⟩=some (.int .i64 m[k2-1]):=((ab bw).cell (p:=⟨b,o+(k2-1),none⟩) hb).trans (hc (k2-1) hlp);have d3:decide ((0:Int)<(k2:Int))=true:=by simp;omega
    have hsub:(k2:Int)-1=((k2-1:Nat):Int):=by omega
    clear hc;by_cases y3:m[k2]<=m[k2-1]
    ·have d4:decide (m[k2]<=m[k2-1])=true:=by simpa using y3
     have HF:=ae (ab CA (λ h=>by have:=h.2.2 hz;omega));go_wp2_with fail;go_quiet ((fail))
     go_wp2
     go_ret;exact⟨bQ (ab HF).symm,by exact below_drewN (ab bw) _⟩
    have d4:decide (m[k2]<=m[k2-1])=false:=by simpa using y3
    have DA:=ae ((ab FA).2 ⟨ab EA,by omega,by omega,λ _=>by omega⟩);go_wp2_with fail;go_quiet ((fail))
    go_wp2_with fail;exact⟨⟨k2+1,by omega,by go_num,ab DA,by exact below_drewN (ab BE) _⟩,by simp [intOf];omega⟩
   have HT:=ae (show dH (a,l) p m pref med=true from xW ⟨ab GA,ab HA,⟨x2,by have:=ab EA;rwa [List.take_of_length_le (by omega)]at this⟩,⟨x3,x4⟩,⟨x5,x6⟩⟩);go_wp2
   go_ret;exact⟨bQ (ab HT).symm,ab bw⟩
namespace rf
def sD(m:aM):Prop:=∀ R,(m R).2=0\/(m R).2=1\/(m R).2=2\/(m R).2=3
theorem jc:∀{ms:List aM},(∀ m∈ms,sD m)->sD (aK ms)
 | [],_=>λ _=>inl rfl
 | m::ms,hm=>λ R=>by
  rw [aK];split
  ·exact jc (λ m' h'=>hm m' (List.mem_cons_of_mem _ h')) _
  exact hm m List.mem_cons_self R
theorem uz{c:aQ}{yes no:List aM}(hy:sD (aK yes))(hn:sD (aK no)):sD (eR c yes no):=λ R=>by
 unfold eR;split
 ·exact inr (inr (inr rfl))
 ·exact hy R
 exact hn R
mutual
theorem Lh{Ds:List fe}:∀{t:Tr} {m:aM},nP Ds t m->sD m
 | _,_,.accept=>λ _=>inr (inl rfl)
 | _,_,.reject=>λ _=>inr (inr (inl rfl))
 | _,_,.pref _=>λ R=>by unfold fJ;split<;>simp
 | _,_,.med _=>λ R=>by unfold gE;split<;>simp
 | _,_,.mark n a=>λ R=>by unfold fV;split<;>(try split)<;>simp
 | _,_,.unmark n a=>λ R=>by unfold el;split<;>simp
 | _,_,.prepend n a=>λ R=>by unfold dw;split<;>simp
 | _,_,.if1 _ h=>uz (jc (mK h)) (λ _=>inl rfl)
 | _,_,.if2 _ h g=>uz (jc (mK h)) (jc (mK g))
theorem mK{Ds:List fe}:∀{ks:List Tr} {ms:List aM},f8 Ds ks ms->∀ m∈ms,sD m
 | _,_,.nil=>λ _ h=>by cases h
 | _,_,.cons a b=>λ m h=>by
  rcases List.mem_cons.1 h with rfl|h
  ·exact Lh a
  exact mK b m h
end
theorem Hd{ds:List Df}{Ds:List fe}(hDs:gQ ds Ds)(ks:List Tr)(tk:List kA)(ln:List Bool){t:Tr}{m:aQ}(h:lY Ds t m):rD (nj ds ks tk ln) t m:=by
 induction h with
 | eq a b=>exact Dq _ (mX a) (mX b) _ true _ (inl ⟨rfl,rfl,rfl⟩)
 | lt a b=>exact Dq _ (mX a) (mX b) _ false _ (inr ⟨rfl,rfl,rfl⟩)
 | or _ _ ha hb=>exact Dp nj.fr ha hb _ false (inr ⟨rfl,rfl,rfl⟩)
 | and _ _ ha hb=>exact Dp nj.fr ha hb _ true (inl ⟨rfl,rfl,rfl⟩)
 | not _ ha=>exact J7 nj.fr ha _ rfl
 | marked n a=>exact Bf _ n a
 | net t a hS=>exact L7 hDs ks tk ln t a hS
 | like t a hS=>exact GZ hDs ks tk ln t a hS
theorem GS{w W w':World}{sb:Nat}(hb:Below w.heap.size w W)(hs:w.heap.size<=sb)(hf:Fr (Sb sb) W (Sb sb) w'):Below w.heap.size w w' :=
 ⟨hf.os.trans hb.os,hf.tape.trans hb.tape,hf.output.trans hb.output,kr hb.size hf.size,λ k hk=>(hf.block k (eV hk hb.size) (λ hm=>by have:k=sb:=hm;omega)).trans (hb.block k hk)⟩
theorem qo{w:World}{v:Value}{n:Nat}{xs:List Value}{b:Nat}{cs:Array Value}{t:TypeId}{f:Nat×Nat}(h:w.ownsRow 0 3 1 v n xs)(hb:w.heap[b]?=some (.cells cs t f))(ht:t≠3):v.ownBlock≠some b:=λ e=>by
 rcases h.2 with⟨e1,_⟩|⟨g,cap,cur,e1,_,h3,_⟩
 ·rw [e1]at e;simp [Value.ownBlock]at e
 rw [e1]at e;simp only [Value.ownBlock,Option.some.injEq]at e;subst e;have h4:=hb.symm.trans h3;simp at h4;exact ht h4.2.1
def ud(ms:List aM)(R:Rt):Rt×Int×Int:=if vg R=true then((jT ms R).1,(jT ms R).2,0)else(kU,0,5)
def L3(w:World)(q:Rt×Int×Int)(e:Ending)(w':World):Prop:=∃ pv mv,e=.returned (.tuple #[.agg (FJ q.1 pv mv),.int .i64 q.2.1,.int .i64 q.2.2])/\w'.ownsRow 0 3 1 pv q.1.path.length (aq q.1.path)/\w'.ownsRow 0 3 1 mv q.1.marks.length (aq q.1.marks)/\Below w.heap.size w w'
theorem xZ{R:Rt}(h:vg R=true):D8 R:=by
 have h1:pA (R.addr,R.len) R.path R.marks R.pref R.med:=of_decide_eq_true h;exact⟨h1.2.1.1,h1.2.2.1.1,ru h,⟨h1.1.1.1,h1.1.1.2,h1.1.2.1.1,h1.1.2.1.2⟩⟩
theorem uH.parts{ds:List Df}{ks:List Tr}{tk:List kA}{ln:List Bool}{pb:Nat}{K:Nat->Prop}{w:World}(h:uH pb ds ks tk ln K w):∃ dv ko kc tv lv,w.heap[pb]?=some (.cells (nu dv (.slice ko ks.length kc) tv lv) 119 (0,0))/\aP w (λ k=>¬K k) (.mk bP nB 0 0 ks) (bx bP nB 0 0 (.slice ko ks.length kc)):=by
 obtain⟨_,_,_,dv,kv,tv,lv,xs,ys,hb,_,ht,_⟩:=h;obtain⟨ko,kc,rfl⟩:=ht.form;exact⟨dv,ko,kc,tv,lv,hb,ht.at _ _ _ _⟩
theorem Je{w:World}{pb:Nat}{R:Rt}{pv mv:Value}(hp:a8 w pv R.path)(hm:a8 w mv R.marks)(i1:jw R.addr)(i2:jw R.len)(i3:jw R.pref)(i4:jw R.med)(hok:vg R=false) :
  Calls prog 45 #[fX pb,wq R pv mv] w (L3 w (kU,0,5)):=by
 obtain⟨a1,c1,hpv,_⟩:=id hp;obtain⟨a2,c2,hmv,_⟩:=id hm;obtain⟨q1,q2,qs⟩:=iu w (bZ R pv mv) (bZ kU (.slice none 0 0) (.slice none 0 0));obtain⟨W0,hW0⟩:∃ W0,(w.alloc (bZ R pv mv)).alloc (bZ kU (.slice none 0 0) (.slice none 0 0))=W0:=⟨_,rfl⟩
 have hb0:Below w.heap.size w W0:=by rw [<-hW0];exact((aX _ _).alloc (aD _) _).alloc (by rw [World.size_alloc];omega) _
 rw [hW0]at q1 q2 qs;have HV:=ae (vT (R.addr,R.len) R.path R.marks R.pref R.med pv mv W0 i1 i2 (hp.below hb0) (hm.below hb0) i3 i4);rw [show dH (R.addr,R.len) R.path R.marks R.pref R.med=false from hok]at HV;obtain⟨c0,c1',c2',c3,c4,c5,cz⟩:=mH q1;have CA:=ae q2;have BA:=ae hb0;clear hp hm hb0 q1 q2;subst hpv hmv;have hW0':=hW0;unfold bZ kU at hW0';go_enter func45,ntmps45;go_wp2_with fail;refine(ab HV).mono ?_;rintro e w1 ⟨rfl,hb1⟩;have p2:=(hb1.block (w.heap.size+1) (by omega)).trans (ab CA);obtain⟨z0,z1,z2,z3,z4,z5,zz⟩:=mH p2;have AA:=ae ((ab BA).trans (hb1.mono (ab BA).size));have hs1:=hb1.size;have lx:w.heap.size+1<w1.heap.size:=by omega
 clear hb1 p2;go_wp2_with fail;refine eO (v:=.tuple #[.agg (FJ kU (.slice none 0 0) (.slice none 0 0)),.int .i64 0,.int .i64 5]) (by simp [results,results45,go_sem,z0,z1,z2,z3,z4,z5,kU]) rfl ?_;exact⟨_,_,rfl,jX _ _ _ _,jX _ _ _ _,dW (ab AA) (by omega)⟩
theorem Ld{ds:List Df}{Ds:List fe}(hDs:gQ ds Ds){ks:List Tr}{tk:List kA}{ln:List Bool}{ms:List aM}(hS:f8 Ds ks ms){w:World}{A:Nat->Prop}{pb:Nat}(hL:az w A (uH pb ds ks tk ln)){R:Rt}{pv mv:Value}(hp:a8 w pv R.path)(hm:a8 w mv R.marks)(i1:jw R.addr)(i2:jw R.len)(i3:jw R.pref)(i4:jw R.med)(hok:vg R=true) :
  Calls prog 45 #[fX pb,wq R pv mv] w (L3 w ((jT ms R).1,(jT ms R).2,0)):=by
 obtain⟨a1,c1,hpv,_⟩:=id hp;obtain⟨a2,c2,hmv,_⟩:=id hm;have hro:=xZ hok;obtain⟨q1,q2,qs⟩:=iu w (bZ R pv mv) (bZ kU (.slice none 0 0) (.slice none 0 0));obtain⟨W0,hW0⟩:∃ W0,(w.alloc (bZ R pv mv)).alloc (bZ kU (.slice none 0 0) (.slice none 0 0))=W0:=⟨_,rfl⟩
 have hb0:Below w.heap.size w W0:=by rw [<-hW0];exact((aX _ _).alloc (aD _) _).alloc (by rw [World.size_alloc];omega) _
 rw [hW0]at q1 q2 qs;have HV:=ae (vT (R.addr,R.len) R.path R.marks R.pref R.med pv mv W0 i1 i2 (hp.below hb0) (hm.below hb0) i3 i4);rw [show dH (R.addr,R.len) R.path R.marks R.pref R.med=true from hok]at HV;obtain⟨c0,c1',c2',c3,c4,c5,cz⟩:=mH q1;have JA:=ae q1;have KA:=ae q2;have GA:=ae hb0;have HP:=ae hp;have HM:=ae hm;have LA:=ae hro;have EA:=ae (jc (mK hS) R);have BA:=ae (oO nj.fr (f8.len hS) (oP nj.fr (λ t m h=>Hd hDs ks tk ln h) hS) bP rfl);have DA:=ae (show jT ms R=if(aK ms R).2=1 then((aK ms R).1,1)else(kU,if(aK ms R).2=3 then 3 else 2)from rfl);have HL:=ae hL;have hpl:=hro.path;have hml:=hro.marks;clear hp hm hb0 q1 q2 hL hDs hS hro hok;subst hpv hmv;have hW0':=hW0;unfold bZ kU at hW0';go_enter func45,ntmps45;go_wp2_with fail;refine(ab HV).mono ?_;rintro e w1 ⟨rfl,hb1⟩;have p1:=(hb1.block w.heap.size (by omega)).trans (ab JA);have p2:=(hb1.block (w.heap.size+1) (by omega)).trans (ab KA);obtain⟨s0,s1,s2,s3,s4,s5,hz⟩:=mH p1;have hBw1:=(ab GA).trans (hb1.mono (ab GA).size);have CA:=ae hBw1;have IA:=ae p2;have hs1:=hb1.size;have CP:=ae (Bj (R:=R) ((ab HP).below hBw1) ((ab HM).below hBw1) (by omega) (by omega));clear hb1 hBw1 p1 p2 c0 c1' c2' c3 c4 c5 HV;go_wp2_with fail;refine(ab CP).mono ?_;rintro e w2 ⟨pv1,mv1,rfl,hb2,n1,n2⟩;obtain⟨po,pc,rfl⟩:=aU n1.own;obtain⟨mo,mc,rfl⟩:=aU n2.own;have hs2:=hb2.size;have l1:=λ k (e:(Value.slice po R.path.length pc).ownBlock=some k)=>(n1.own.lt k e).2
 have l2:=λ k (e:(Value.slice mo R.marks.length mc).ownBlock=some k)=>(n2.own.lt k e).2
 have p2:=(hb2.block (w.heap.size+1) (by omega)).trans (ab IA);have hBw2:=(ab CA).trans (hb2.mono (ab CA).size);have hb3:Below w2.heap.size w2 (w2.alloc (.cells (Nf pb R (.slice po R.path.length pc) (.slice mo R.marks.length mc) 0) 184)):=(aX _ _).alloc (aD _) _;have q3:(w2.alloc (.cells (Nf pb R (.slice po R.path.length pc) (.slice mo R.marks.length mc) 0) 184)).heap[w2.heap.size]?=some (.cells (Nf pb R (.slice po R.path.length pc) (.slice mo R.marks.length mc) 0) 184 (0,0)):=cN _ _;obtain⟨W3,hW3⟩:∃ W3,w2.alloc (.cells (Nf pb R (.slice po R.path.length pc) (.slice mo R.marks.length mc) 0) 184)=W3:=⟨_,rfl⟩
 have OA:=ae hW3;rw [hW3]at hb3 q3;have hs3:=hb3.size;have lsb:=ai q3;have hSt:pQ W3 w2.heap.size pb R (.slice po R.path.length pc) (.slice mo R.marks.length mc) 0:=⟨q3,ap n1.own (λ k e=>hb3.block k (l1 k e)),ap n2.own (λ k e=>hb3.block k (l2 k e)),λ e=>by have:=l1 _ e;omega,λ e=>by have:=l2 _ e;omega⟩
 have hBw3:=hBw2.trans (hb3.mono hBw2.size);have hbs:=hBw2.size;have hpol:nj ds ks tk ln w2.heap.size pb W3:=az.mono (ab HL) hBw3.size (λ k hk _=>⟨hBw3.block k hk,by omega⟩) (λ _ _ h=>h);obtain⟨K,hK,hP⟩:=id hpol;obtain⟨dv,ko,kc,tv,lv,hpb,htr⟩:=(hP W3 (aD _) (λ _ _=>rfl)).parts;have AA:=ae (ab BA W3 _ _ w2.heap.size pb R _ _ (λ h=>(hK _ h).2 rfl) hpol htr (ab LA) hSt);have y1:W3.cell? ⟨pb,1,none⟩=some (.string bP):=af hpb;have y2:W3.cell? ⟨pb,2,none⟩=some (.string nB):=af hpb;have y3:W3.cell? ⟨pb,3,none⟩=some (.int .i64 0):=af hpb;have y4:W3.cell? ⟨pb,4,none⟩=some (.int .i64 0):=af hpb;have y5:W3.cell? ⟨pb,5,none⟩=some (.slice ko ks.length kc):=af hpb;have lpb:pb<W3.heap.size:=ai hpb;have P3:=ae ((hb3.block (w.heap.size+1) (by omega)).trans p2);have NA:=ae hBw3;have l13:w.heap.size+1<W3.heap.size:=by omega
 have nsb:w.heap.size+1≠w2.heap.size:=by omega
 obtain⟨op,hop⟩:∃ op,bP=op:=⟨_,rfl⟩
 rw [hop]at AA y1;obtain⟨q,hq⟩:∃ q,aK ms R=q:=⟨_,rfl⟩
 rw [hq]at AA EA DA;clear hop hq hb2 hb3 n1 n2 l1 l2 p2 hBw2 q3 hW3 hSt hBw3 hpol hK hP hpb htr BA HL LA CP HP HM CA GA JA KA IA s0 s1 s2 s3 s4 s5;go_upto_region 5 with fail
 rw [ab OA];go_wp2_with fail;refine(ab AA).mono ?_;rintro e w4 ⟨rfl,pv4,mv4,hs4,hf4⟩;obtain⟨o4,k4,rfl⟩:=aU hs4.own1;obtain⟨o5,k5,rfl⟩:=aU hs4.own2;have t1:w4.cell? ⟨w2.heap.size,1,none⟩=some (.int .i64 q.1.addr):=af hs4.blk;have t2:w4.cell? ⟨w2.heap.size,2,none⟩=some (.int .i64 q.1.len):=af hs4.blk;have t3:w4.cell? ⟨w2.heap.size,3,none⟩=some (.slice o4 q.1.path.length k4):=af hs4.blk;have t4:w4.cell? ⟨w2.heap.size,4,none⟩=some (.slice o5 q.1.marks.length k5):=af hs4.blk;have t5:w4.cell? ⟨w2.heap.size,5,none⟩=some (.int .i64 q.1.pref):=af hs4.blk;have t6:w4.cell? ⟨w2.heap.size,6,none⟩=some (.int .i64 q.1.med):=af hs4.blk;have t7:w4.cell? ⟨w2.heap.size,7,none⟩=some (.int .i64 q.2):=af hs4.blk;have l4:w2.heap.size<w4.heap.size:=ai hs4.blk;have tz:∀ o,w4.frozen? ⟨w2.heap.size,o,none⟩=false:=λ o=>ak hs4.blk
 have p4:=(hf4.block (w.heap.size+1) l13 nsb).trans (ab P3);obtain⟨z0,z1,z2,z3,z4,z5,zz⟩:=mH p4;have lz:w.heap.size+1<w4.heap.size:=ai p4;have HA:=ae (And.intro (qo hs4.own1 p4 (by decide)) (qo hs4.own2 p4 (by decide)));have FA:=ae (GS (ab NA) (show w.heap.size<=w2.heap.size by omega) hf4);have MA:=ae hs4;clear hs4 hf4 p4 AA y1 y2 y3 y4 y5;have hv:=ab EA;rcases hv with h|h|h|h
 ·rw [h]at t7;go_upto_region 10 with fail
  go_region_with (fail)
  all_goals
   go_wp2_with fail;refine eO (v:=.tuple #[.agg (FJ kU (.slice none 0 0) (.slice none 0 0)),.int .i64 2,.int .i64 0]) (by simp [results,results45,go_sem,z0,z1,z2,z3,z4,z5,kU]) rfl ?_;rw [ab DA,au (by omega),au (by omega)];refine⟨_,_,rfl,jX _ _ _ _,jX _ _ _ _,?_⟩
   with_reducible exact(dW (Below.setCell (p:=⟨w2.heap.size,7,none⟩) (ab FA) (show w.heap.size<=w2.heap.size by omega) _) (by omega)).drew
 ·rw [h]at t7;go_wp2_with fail;refine eO (v:=.tuple #[.agg (FJ q.1 (.slice o4 q.1.path.length k4) (.slice o5 q.1.marks.length k5)),.int .i64 1,.int .i64 0]) (by simp [results,results45,go_sem,z0,z1,z2,z3,z4,z5]) rfl ?_;rw [ab DA,aC h];refine⟨_,_,rfl,ap (ab MA).own1 (λ k e=>dX (λ e2=>(ab HA).1 (by rw [<-e2];exact e))),ap (ab MA).own2 (λ k e=>dX (λ e2=>(ab HA).2 (by rw [<-e2];exact e))),?_⟩;exact dW (ab FA) (by omega)
 ·rw [h]at t7;go_upto_region 10 with fail
  go_region_with (fail)
  all_goals
   go_wp2_with fail;refine eO (v:=.tuple #[.agg (FJ kU (.slice none 0 0) (.slice none 0 0)),.int .i64 2,.int .i64 0]) (by simp [results,results45,go_sem,z0,z1,z2,z3,z4,z5,kU]) rfl ?_;rw [ab DA,au (by omega),au (by omega)];refine⟨_,_,rfl,jX _ _ _ _,jX _ _ _ _,?_⟩
   with_reducible exact(dW (ab FA) (by omega)).drew
 rw [h]at t7;go_upto_region 10 with fail
 go_region_with (fail)
 all_goals
  go_wp2_with fail;refine eO (v:=.tuple #[.agg (FJ kU (.slice none 0 0) (.slice none 0 0)),.int .i64 3,.int .i64 0]) (by simp [results,results45,go_sem,z0,z1,z2,z3,z4,z5,kU]) rfl ?_;rw [ab DA,au (by omega),aC h];refine⟨_,_,rfl,jX _ _ _ _,jX _ _ _ _,?_⟩
  with_reducible exact(dW (ab FA) (by omega)).drew
end rf
theorem GW{w:World}{pp:Nat}{r:Rt}{pv mv:Value}(hp:a8 w pv r.path)(hm:a8 w mv r.marks)(i1:jw r.addr)(i2:jw r.len)(hok:vg r=false) :
  Calls prog 44 #[ay pp 0,wq r pv mv] w λ e w'=>e=.returned (.tuple #[wq kU (.slice none 0 0) (.slice none 0 0),.int .i64 0,.int .i64 5])/\Below w.heap.size w w':=by
 obtain⟨a1,c1,hpv,_⟩:=id hp;obtain⟨a2,c2,hmv,_⟩:=id hm;obtain⟨q1,q2,qs⟩:=iu w (bZ r pv mv) (bZ kU (.slice none 0 0) (.slice none 0 0));obtain⟨W0,hW0⟩:∃ W0,(w.alloc (bZ r pv mv)).alloc (bZ kU (.slice none 0 0) (.slice none 0 0))=W0:=⟨_,rfl⟩
 have hb0:Below w.heap.size w W0:=by rw [<-hW0];exact((aX _ _).alloc (aD _) _).alloc (by rw [World.size_alloc];omega) _
 rw [hW0]at q1 q2 qs;have HV:=ae (sj (r.addr,r.len) r.path r.marks r.pref r.med pv mv W0 i1 i2 (hp.below hb0) (hm.below hb0));rw [show dH (r.addr,r.len) r.path r.marks r.pref r.med=false from hok]at HV;obtain⟨c0,c1',c2',c3,c4,c5,cz⟩:=mH q1;have CA:=ae q2;have BA:=ae hb0;clear hp hm hb0 q1 q2;subst hpv hmv;have hW0':=hW0;unfold bZ kU at hW0';go_enter func44,ntmps44;go_wp2_with fail;refine(ab HV).mono ?_;rintro e w1 ⟨rfl,hb1⟩;have p2:=(hb1.block (w.heap.size+1) (by omega)).trans (ab CA);obtain⟨z0,z1,z2,z3,z4,z5,zz⟩:=mH p2;have AA:=ae ((ab BA).trans (hb1.mono (ab BA).size));have hs1:=hb1.size;have lx:w.heap.size+1<w1.heap.size:=by omega
 clear hb1 p2;go_wp2_with fail;refine eO (v:=.tuple #[wq kU (.slice none 0 0) (.slice none 0 0),.int .i64 0,.int .i64 5]) (by simp [results,results44,go_sem,z0,z1,z2,z3,z4,z5,kU]) rfl ?_;exact⟨rfl,dW (ab AA) (by omega)⟩
attribute [local go_sem] Oper.semAt_some
theorem Br{w:World}{pb:Nat}{ts:List aw}{st:RS}{D O:Nat->Prop}(h:RA w pb ts st D O)(h0:st.page≠[])(hn:st.page.length<=1000000)(hg:st.gap.size<=1) :
  Calls prog 111 #[ay pb 4] w λ e w'=>e=.returned (.string (⟨st.page.toArray⟩++st.gap))/\Fr O w O w':=by
 obtain⟨c6,_⟩:=h.cells;have HS:=ae (Cx h.drew h0 hn);have HH:=ae h;have hps:(⟨st.page.toArray⟩:ByteArray).size<=1000000:=by show st.page.toArray.size<=_;simpa using hn
 generalize (⟨st.page.toArray⟩:ByteArray)=PG at *;clear h h0 hn;go_enter func111,ntmps111;go_wp2_with fail;go_region_with (go_at_call 172;refine(ab HS).mono ?_;rintro e w1 ⟨rfl,hf1,hk1,hb1⟩;have c6':w1.cell? ⟨pb,6,none⟩=some (.string st.gap):=(by unfold World.cell? at c6 ⊢;rw [show w1.heap[pb]?=w.heap[pb]? from hb1];exact c6);have AA:=ae hf1;clear hf1 hk1 hb1)
 all_goals
  go_wp2_with fail;go_ret;exact⟨rfl,((bE _ _).drew).trans (ab AA)⟩
theorem Ck(s:ByteArray)(hs:s.size<=600)(w:World)(ht:bB w)(hts:cE (cO s))(hl0:0<(cO s).length){st:RS}{l:List (Option aM)}{ms:List aM}
  (hpol:∀(pb:Nat) (W:World) (O:Nat->Prop),RA W pb (cO s) lJ (λ _=>False) O->Ok (cO s) lJ->Calls prog 110 #[ay pb 0] W (wP pb (cO s) W O (st,l))) (f1:st.syn=none) (f2:st.nam=none) (f3:st.num=none) (hms:iz l=some ms) (hpage:st.page≠[]) :
  Calls prog 65 #[.string s] w λ e w'=>∃ sv,e=.returned (.tuple #[.agg #[.string (⟨st.page.toArray⟩++st.gap),sv],.int .i64 0,.int .i64 0])/\Below w.heap.size w w'/\az w' (λ k=>w.heap.size<=k) (jE sv ms):=by
 obtain⟨i0,hi0,hz0,hz1,hz2⟩:=info_parts Tryz.infoTok;refine(callsIn_wide (n:=6)).1 ?_;refine callsIn_of_wp_marks func65 rfl trivial ?_ rfl;simp only [ntmps65,List.size_toArray,List.length_cons,List.length_nil,Nat.reduceAdd,Nat.reduceSub,Array.replicate_succ,Array.replicate_zero,List.push_toArray,List.append_toArray,List.nil_append,List.cons_append]
 gi_wp2_with (refine⟨trivial,?_⟩;gi_at_call 109;refine((callsIn_wide).2 (ym _ _)).mono ?_;rintro e w' ⟨rfl,rfl⟩)
 obtain⟨n1,n2,n3,sz⟩:=g6 w oj (kO (.slice none 0 0)) (aF (.string s) 9);have hB0:=sE s w;have hsz0:=oE s w
 refine wpIn_rangeFunc_ownH (w0:=nk s w) rfl (by decide) (gf:=164) (lb:=#[ay (w.heap.size+1+1) 0]) rfl trivial (enters_of func164 (by kernel_rfl) rfl)
  (vt 5 (by decide) s hs w ht) (λ h g=>vq.trans h g) (λ W l o o' hl hlo ho _=>vq.putObj (by have h:(nk s w).heap.size<=l:=hl;omega) hlo ho) (aX _ _) (λ _=>rfl)
  (Gr w (w.heap.size+1) (w.heap.size+3)) (λ _ _ _=>False) ?hI (λ _ _ _ _ _ h _ _=>h) ?h0 (D7 s w (w.heap.size+1) (w.heap.size+3)) ?hAx ?assign ?body ?done ?stop
 case hI=>have h:=Gr.own w (w.heap.size+1) (w.heap.size+3) (by omega);exact(show OwnFrom (nk s w).heap.size _ by rw [hsz0];exact h)
 case h0=>exact⟨⟨_,n2,jX _ _ _ _,λ k e=>by simp [Value.ownBlock]at e⟩,n1,hB0,Nat.le_of_eq hsz0.symm⟩
 case hAx=>intro x a';have h:=D7.own s w (w.heap.size+1) (w.heap.size+3) (by omega) x a';exact(show OwnFrom (nk s w).heap.size _ by rw [hsz0];exact h)
 case assign =>
  rintro l pre x W K hi hK;have HI:=ae hi;obtain⟨⟨v,hb,ho,hn⟩,hR,hBw,hzz⟩:=hi;have hpw:w.heap.size+1<W.heap.size:=ai hb;have JA:=ae (show ir (w.heap.size+1) W≠some W.heap.size from λ e=>by rw [kP hb]at e;have:=(ho.lt _ e).2;omega);have HK:=ae hK;clear hb ho hn hR hBw hK
  gi_wp2
  refine(ab HK) _ _ ((KeepsOthers.alloc _ _).from _) (vq.of_below hpw ((aX _ _).alloc (aD _) _)) ((Gr.own w (w.heap.size+1) (w.heap.size+3) (by omega)).alloc _ (ab HI)) ⟨W.heap.size,hzz,fp W _ _,?_,by rw [World.size_alloc];omega,rfl⟩;rw [gX hpw ((aX _ _).alloc (aD _) _)];exact ab JA
 case body =>
  rintro l pre x a' W hl ⟨r,hr⟩ ⟨⟨v,hb,ho,hn⟩,hR,hBw,hnW⟩ ⟨Bx,hBx,hbx,hrow,hpw,rfl⟩ hlt;have c0:W.cell? ⟨w.heap.size+1,0,none⟩=some v:=af hb;have z0:W.frozen? ⟨w.heap.size+1,0,none⟩=false:=ak hb;obtain⟨t0,t1,t2,t3,t4,t5,tz⟩:=ov hbx;obtain⟨va,vc,rfl⟩:=bi ho;have HB:=ae hb;have HO:=ae ho;have HN:=ae hn;have HR:=ae hR;have AA:=ae hBw;have hln:pre.length<=1000:=by omega
  clear hb ho hn hR hBw hbx;unfold Cj
  gi_wp2_with (gi_at_builtin;refine wpListIn_append_own_at _ rfl _ _ 200 rfl 0 216 i0 _ 6 56 underlying200 hi0 hz0 hz1 hz2 rfl (by decide) (.slice va pre.length vc) pre.length (cj pre) rfl ((ab HO).alloc (aR x)) ⟨W.heap.size,0,none⟩ 1 1 [.int .i64 x.kind,.int .i64 x.at_,.string x.text,.int .i64 x.number,.int .i64 x.addr,.int .i64 x.len] rfl rfl (World.news_of_block (cs:=#[.int .i64 x.kind,.int .i64 x.at_,.string x.text,.int .i64 x.number,.int .i64 x.addr,.int .i64 x.len]) (t:=216) (fr:=(0,0)) (cN _ _)) (by simp [Value.oneCell']) (by simp [maxLen];omega) (by omega) (iL _) ?_;intro v' w1 hown hgrow hnil hat;obtain⟨fa,fb,hfv⟩:=bi hown;have hpb1:w1.heap[w.heap.size+1]?=some (kO (.slice va pre.length vc)):=(hgrow.block _ (by rw [World.size_alloc];omega) (λ e=>by have:=(ab HN) _ e.symm;omega)).trans ((eW _ _ _ hpw).trans (ab HB));have d0:w1.cell? ⟨w.heap.size+1,0,none⟩=some (.slice va pre.length vc):=af hpb1;have dz:w1.frozen? ⟨w.heap.size+1,0,none⟩=false:=ak hpb1;have BA:=ae (Gr.snoc (ab HB) (ab HO) (ab HN) (ab HR) (ab AA) (by omega) (by omega) hnW hown hgrow hat);clear hown hgrow hat hnil hpb1;subst hfv)
  exact⟨(show KeepsFrom (nk s w).heap.size _ _ by rw [hsz0];exact(ab BA).1),(ab BA).2.1,(ab BA).2.2⟩
 case done =>
  rintro D xs W hD rfl ⟨⟨v,hb,ho,hn0⟩,hR,hBw,hz⟩ hK;have hD0:(nk s w).heap.size<=D:=hD;obtain⟨tb,tc,rfl,_,htb⟩:=World.ownsRow.form ho hl0;have htn:w.heap.size+3<=tb:=hn0 tb rfl
  have hra:nA W (w.heap.size+1) (cO s) lJ (λ _=>False) tb tc (.slice none 0 0) (.pointer none) (.slice none 0 0) :=
   ⟨hb,ho,jX _ _ _ _,inl rfl,⟨[],jX _ _ _ _,rfl,λ i d x hi=>by simp [lJ]at hi⟩,by omega,by simp [Value.ownBlock],by simp [Value.ownBlock],by simp [Value.ownBlock],by simp [Value.ownBlock],inl rfl,λ k h=>h.elim⟩
  have IA:Hid (RA W (w.heap.size+1) (cO s) lJ (λ _=>False) (dS (w.heap.size+1) tb (.slice none 0 0) (.slice none 0 0))):=⟨tb,tc,_,_,_,hra,rfl⟩
  have hDt:tb≠D:=λ e=>by
   obtain⟨_,h2⟩:=ho;rcases h2 with⟨h2,_⟩|⟨g,cap,cur,hv,_,hg,_⟩
   ·cases h2
   cases hv;rw [e,hK]at hg;cases hg
  have hOD:¬dS (w.heap.size+1) tb (.slice none 0 0) (.slice none 0 0) D:=λ h=>by
   rcases h with h|h|h|h
   ·omega
   ·exact hDt h.symm
   ·cases h
   cases h
  have hOR:¬dS (w.heap.size+1) tb (.slice none 0 0) (.slice none 0 0) w.heap.size:=λ h=>by
   rcases h with h|h|h|h
   ·omega
   ·omega
   ·cases h
   cases h
  have hOlow:Hid (∀ k,k<w.heap.size->¬dS (w.heap.size+1) tb (.slice none 0 0) (.slice none 0 0) k):=λ k hk h=>by
   rcases h with h|h|h|h
   ·omega
   ·omega
   ·cases h
   cases h
  have EA:Hid (Ok (cO s) lJ):=⟨hl0,by simp [lJ],by simp [lJ,ByteArray.size]⟩
  have FA:=ae (hpol _ _ _ (ab IA) (ab EA));have AA:=ae hBw;have hsW:W.heap.size=W.heap.size:=rfl;clear hra ho hb hn0 hBw hz
  gi_wp2_with (refine⟨trivial,?_⟩;gi_at_call 110;refine((callsIn_wide).2 (ab FA)).mono ?_;rintro e w2 ⟨sv,O2,D2,rfl,hr2,hf2,hs2,hk2,⟨sa,sc,rfl⟩,hl2⟩;have g1:=bD hf2 hK hOD;have g2:=bD hf2 hR hOR;have HA:=ae hr2;have GA:=ae hf2;have KA:=ae hs2;have DA:=ae hk2;have G1:=ae g1;have G2:=ae g2;obtain⟨tb2,tc2,dv2,av2,bv2,h2,hO2⟩:=hr2;have q7:w2.cell? ⟨w.heap.size+1,7,none⟩=some (.bool false):=(by have:w2.cell? ⟨w.heap.size+1,7,none⟩=some (nr st.syn):=af h2.blk;rw [f1]at this;exact this);have q9:w2.cell? ⟨w.heap.size+1,9,none⟩=some (.bool false):=(by have:w2.cell? ⟨w.heap.size+1,9,none⟩=some (nr st.nam):=af h2.blk;rw [f2]at this;exact this);have q11:w2.cell? ⟨w.heap.size+1,11,none⟩=some (.bool false):=(by have:w2.cell? ⟨w.heap.size+1,11,none⟩=some (nr st.num):=af h2.blk;rw [f3]at this;exact this);clear g1 g2 hf2 hs2 hk2 h2 hO2)
  refine⟨trivial,?_⟩;refine((callsIn_wide).2 (Br (ab HA) hpage (by have h1:=(ab DA).page;have h2:=(ab DA).next;have h3:=hts.n1;show st.page.length<=_;omega) (ab DA).gap)).mono ?_;rintro e w3 ⟨rfl,hf3⟩;generalize hpg:(⟨st.page.toArray⟩++st.gap:ByteArray)=pg at *;have g1:=bD hf3 (ab G1).1 (ab G1).2;have g2:=bD hf3 (ab G2).1 (ab G2).2;have s0:w3.cell? ⟨w.heap.size,0,none⟩=some (.string ⟨#[]⟩):=af g2.1;have s1:w3.cell? ⟨w.heap.size,1,none⟩=some (.slice none 0 0):=af g2.1;have sz0:∀ o,w3.frozen? ⟨w.heap.size,o,none⟩=false:=λ o=>ak g2.1
  have G3:=ae g2;have GD:=ae g1.1;have CA:=ae ((ab GA).trans hf3);have LA:=ae ((ab KA).fr hf3 (aD _));clear g1 g2 hf3 q7 q9 q11
  gi_wp2
  have hRD:w.heap.size≠D:=by omega
  have hKf:((w3.setCell ⟨w.heap.size,0,none⟩ (.string pg)).setCell ⟨w.heap.size,1,none⟩ (.slice sa l.length sc)).heap[D]?=some (.deferred (some [])):=by
   rw [ah (Ne.symm hRD),ah (Ne.symm hRD)];exact ab GD
  have hRf:((w3.setCell ⟨w.heap.size,0,none⟩ (.string pg)).setCell ⟨w.heap.size,1,none⟩ (.slice sa l.length sc)).heap[w.heap.size]?=some (.cells #[.string pg,.slice sa l.length sc] 109 (0,0)):=by
   rw [aB (aB (ab G3).1)];rfl
  have hDW:D<W.heap.size:=ai hK;have hRW:w.heap.size<W.heap.size:=ai hR;refine⟨by simp,.inl ⟨_,_,rfl,run_takeDeferred hKf,?_⟩⟩;obtain⟨W5,hW5⟩:∃ W5,(w3.setCell ⟨w.heap.size,0,none⟩ (.string pg)).setCell ⟨w.heap.size,1,none⟩ (.slice sa l.length sc)=W5:=⟨_,rfl⟩
  have hblk:∀ k,k≠w.heap.size->k≠D->(W5.putObj D (.deferred none)).heap[k]?=w3.heap[k]?:=λ k h1 h2=>by
   rw [World.putObj_heap_other h2,<-hW5,ah h1,ah h1]
  have hR6:(W5.putObj D (.deferred none)).heap[w.heap.size]?=some (.cells #[.string pg,.slice sa l.length sc] 109 (0,0)):=by
   rw [World.putObj_heap_other hRD,<-hW5];exact hRf
  have hs6:(W5.putObj D (.deferred none)).heap.size=w3.heap.size:=by rw [<-hW5];simp [World.setCell]
  have hos:(W5.putObj D (.deferred none)).os=w3.os/\(W5.putObj D (.deferred none)).tape=w3.tape/\(W5.putObj D (.deferred none)).output=w3.output:=by rw [<-hW5];exact⟨rfl,rfl,rfl⟩
  rw [hW5];obtain⟨W6,hW6⟩:∃ W6,W5.putObj D (.deferred none)=W6:=⟨_,rfl⟩
  rw [hW6]at hblk hR6 hs6 hos ⊢;have u0:W6.cell? ⟨w.heap.size,0,none⟩=some (.string pg):=af hR6;have u1:W6.cell? ⟨w.heap.size,1,none⟩=some (.slice sa l.length sc):=af hR6;refine⟨.tuple #[.agg #[.string pg,.slice sa l.length sc],.int .i64 0,.int .i64 0],by simp [results,results65,go_sem,u0,u1],.slice sa l.length sc,by rw [hpg],?_,?_⟩
  ·refine⟨hos.1.trans ((ab CA).os.trans (ab AA).os),hos.2.1.trans ((ab CA).tape.trans (ab AA).tape),hos.2.2.trans ((ab CA).output.trans (ab AA).output),by have h1:=(ab CA).size;have h2:=(ab AA).size;omega,λ k hk=>?_⟩;rw [hblk k (by omega) (by omega),(ab CA).block k (by omega) ((ab hOlow) k hk)];exact(ab AA).block k hk
  refine((ab LA).2 ms hms).mono (by omega) (λ k hk ha=>?_) (λ _ _ h=>h);rcases ha.2 with h1|h1
  ·exact h1.elim
  exact⟨hblk k (by omega) (by omega),by omega⟩
 case stop=>intro D c pre W _ _ h _;exact h.elim
