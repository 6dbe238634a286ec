/- part -/
import Derived.Test.YtgdeeodifnegiaaGreatDoorLawC
import Derived.Laws.CopyRow
import Derived.Laws.OwnMore
import Derived.Lib.BufferWrite
set_option maxRecDepth 100000
set_option maxHeartbeats 6400000
namespace Go.Proofs.YtgdeeodifnegiaaGreatDoor
open Go.Proofs.Tryz
open Or
open Go.RowKit
theorem Tryz.infoInts:(prog.info? 67).map (λ i=>(i.zero,i.size,i.bytes))=some (some (.agg #[.slice none 0 0,.slice none 0 0,.slice none 0 0,.slice none 0 0,.int .i64 0]),5,104):=by kernel_rfl
theorem nO.lt'{w:World}{base:Nat}{v:Value}{l:List Int}(h:nO w base v l):∀ k,v.ownBlock=some k->k<w.heap.size:=λ k hk=>(h.lt k hk).2
theorem oz(b:Bk)(wb:Nat)(l:Value)(L:List Int)(W:World)(base:Nat)(h:eI W wb b)(hf:qJ wb b l)(ho:nO W base l L)(hb:base<=W.heap.size)(hl:L.length<=16777216)(hc:b.cnt<=16777216) :
  Calls prog 39 #[.pointer (some ⟨wb,2,none⟩),l] W λ e W'=>e=.returned (.tuple #[])/\∃ b',eI W' wb b'/\si wb b b' l W W':=by
 obtain⟨i0,hi0,hz0,hz1,hz2⟩:=info_parts Tryz.infoInts;have HB:=ae h;have HF:=ae hf;have HO:=ae ho;have hcl:b.I.length<=16777216:=by unfold Bk.cnt at hc;omega
 have c3:W.cell? ⟨wb,3,none⟩=some b.vi:=af h.blk;obtain⟨qi,ki,hvi⟩:=gu h.oi;rw [hvi]at c3;have AA:=ae hvi;obtain⟨ql,kl,rfl⟩:=gu ho;clear h hf ho hvi;go_enter func39,ntmps39;go_wp2_with fail;refine(zJ b.I.length L _ W base (by omega) (ab HO) hb hl).mono ?_;rintro e W1 ⟨v1,v2,v3,rfl,hown⟩;have HW:=ae hown;obtain⟨p1,k1,rfl⟩:=hown.m1.1.rep;obtain⟨p2,k2,rfl⟩:=hown.m2.1.rep;obtain⟨p3,k3,rfl⟩:=hown.m3.1.rep;clear hown;have hwl:(Value.slice ql L.length kl).ownBlock≠some wb:=λ e=>(ab HF wb e).1 (inl rfl)
 have hlw:wb<W.heap.size:=ai (ab HB).blk;have hs1:=(ab HW).fr.size;have q1:=((ab HW).fr.block wb hlw hwl).trans (ab HB).blk;have d3:W1.cell? ⟨wb,3,none⟩=some (.slice qi b.I.length ki):=by rw [<-ab AA];exact af q1
 have z3:W1.frozen? ⟨wb,3,none⟩=false:=ak q1
 have OI:=ae (show W1.ownsRow (wb+1) 67 5 (.slice qi b.I.length ki) b.I.length (dG b.I)from by
  rw [<-ab AA];exact ap (ab HB).oi (λ k e=>(ab HW).fr.block k ((ab HB).oi.lt k e).2 (λ e2=>(ab HF k e2).1 (inr (inr (inl e))))))
 obtain⟨W2,hW2⟩:∃ W2,W1.alloc (.cells #[.slice ql L.length kl,.slice p1 (L.length+1) k1,.slice p2 (L.length+2) k2,.slice p3 (L.length+3) k3,.int .i64 b.I.length] 67)=W2:=⟨_,rfl⟩
 have Q2:=cN W1 (.cells #[.slice ql L.length kl,.slice p1 (L.length+1) k1,.slice p2 (L.length+2) k2,.slice p3 (L.length+3) k3,.int .i64 b.I.length] 67);have B2:=(aX W1.heap.size W1).alloc (aD _) (.cells #[.slice ql L.length kl,.slice p1 (L.length+1) k1,.slice p2 (L.length+2) k2,.slice p3 (L.length+3) k3,.int .i64 b.I.length] 67);rw [hW2]at Q2 B2;have BA:=ae hW2;have l12:W1.heap.size<W2.heap.size:=ai Q2;have O2:=ae (ap (ab OI) (λ k e=>B2.block k ((ab OI).lt k e).2));have wne:=ae (show some wb≠(Value.slice qi b.I.length ki).ownBlock from λ e=>by have:=((ab OI).lt wb e.symm).1;omega);have BB:=ae B2;clear hW2;go_wp2_with fail;rw [ab BA];obtain⟨t0,t1,t2,t3,t4⟩:=tl Q2;have e3:W2.cell? ⟨wb,3,none⟩=some (.slice qi b.I.length ki):=(B2.cell (p:=⟨wb,3,none⟩) (by show wb<_;omega)).trans d3;have y3:W2.frozen? ⟨wb,3,none⟩=false:=(B2.frozen (p:=⟨wb,3,none⟩) (by show wb<_;omega)).trans z3;have zf:∀ ob,(W2.alloc ob).frozen? ⟨wb,3,none⟩=false:=λ ob=>(World.frozen?_alloc_old W2 ob ⟨wb,3,none⟩ (Nat.ne_of_lt (by show wb<_;omega))).trans y3
 have lwb:wb<W2.heap.size:=by omega
 generalize hZ1:W1.heap.size=Z1 at *;clear d3 z3 q1 Q2 B2 c3
 go_region_law ((refine step_append_lies _ (by rfl) _ _ _ (by rfl) (wb+1) 67 i0 _ 5 104 underlying40 hi0 hz0 hz1 hz2 rfl (by omega) (.slice qi b.I.length ki) b.I.length (dG b.I) (by rfl) (((ab O2).alloc _).drew) ⟨W2.heap.size,0,none⟩ 1 1 [.slice ql L.length kl,.slice p1 (L.length+1) k1,.slice p2 (L.length+2) k2,.slice p3 (L.length+3) k3,.int .i64 b.I.length] (by rfl) (by rfl) (World.news_of_block (cs:=#[.slice ql L.length kl,.slice p1 (L.length+1) k1,.slice p2 (L.length+2) k2,.slice p3 (L.length+3) k3,.int .i64 b.I.length]) (t:=67) (fr:=(0,0)) (cN _ _)) (by simp [Value.oneCell']) (by omega) (by simp [maxLen];omega) (by omega) (by simp;omega) (W2.heap.size+1) (by simp) ?_;intro gg cap w1 hown1 hgrow hat hlt;have k1':w1.cell? ⟨wb,3,none⟩=some (.slice qi b.I.length ki):=(hgrow.cell_far _ (by simp;omega) (ab wne)).trans (cell_later (aX _ _ |>.alloc (aD _) _ |>.drew) e3);have z1:w1.frozen? ⟨wb,3,none⟩=false:=(hgrow.frozen_far _ (by simp;omega) (ab wne)).trans (zf _)))
 all_goals
  go_wp2_with fail
  go_end0
  subst hZ1;exact⟨rfl,_,eI.putI (ab HB) (ab HF) (ab HO).lt' (by omega) (ab HW) (((ab BB).alloc (by omega) _).drew) (by rw [ab AA];exact hgrow) hown1 (by rw [ab AA];exact hat.imp id (λ e=>by rw [e];simp))⟩
theorem xS:∀(l:List sk) (k:Nat) (h:k<l.length),(dG l)[k*5]?=some l[k].v0/\(dG l)[k*5+1]?=some l[k].v1/\(dG l)[k*5+2]?=some l[k].v2/\(dG l)[k*5+3]?=some l[k].v3/\(dG l)[k*5+4]?=some (.int .i64 l[k].m):=by
 intro l
 induction l with
 | nil=>intro k h;simp at h
 | cons r l ih =>
  intro k h;have e:dG (r::l)=r.v0::r.v1::r.v2::r.v3::.int .i64 r.m::dG l:=rfl;cases k with
  | zero=>exact⟨rfl,rfl,rfl,rfl,rfl⟩
  | succ k =>
   have:=ih k (by simpa using h);rw [e,show(k+1)*5=k*5+1+1+1+1+1 by omega];simpa using this
theorem xY{W wr:World}{base:Nat}{e:TypeId}{v:Value}{l:List sk}{k:Nat}(h:W.ownsRow base e 5 v l.length (dG l))(hb:Below W.heap.size W wr)(hk:k<l.length) :
  ∃ g cap,v=.slice (some ⟨g,0,none⟩) l.length cap/\l.length<=cap/\wr.cell? ⟨g,k*5,none⟩=some l[k].v0/\wr.cell? ⟨g,k*5+1,none⟩=some l[k].v1/\wr.cell? ⟨g,k*5+2,none⟩=some l[k].v2/\wr.cell? ⟨g,k*5+3,none⟩=some l[k].v3/\wr.cell? ⟨g,k*5+4,none⟩=some (.int .i64 l[k].m):=by
 rcases h.2 with⟨_,h2⟩|⟨g,cap,cur,hv,_,hg,hn,_⟩
 ·omega
 obtain⟨a0,a1,a2,a3,a4⟩:=xS l k hk;have hlt:=ai hg
 have one:∀ j u,(dG l)[j]?=some u->wr.cell? ⟨g,j,none⟩=some u:=λ j u hu=>by
  have:=h.cells (show v.ownBlock=some g by rw [hv];rfl) j u hu;rw [sG]at this;rw [hb.cell (p:=⟨g,j,none⟩) hlt];exact this
 exact⟨g,cap,hv,hn,one _ _ a0,one _ _ a1,one _ _ a2,one _ _ a3,one _ _ a4⟩
theorem E4(b:Bk)(wb:Nat)(W:World)(h:eI W wb b)(hc:b.cnt<=16777216) :
  Calls prog 9 #[.pointer (some ⟨wb,2,none⟩)] W λ e W'=>e=.returned (.bool true)/\Below W.heap.size W W':=by
 have HB:=ae h;have hcB:b.B.length<=16777216:=by unfold Bk.cnt at hc;omega
 have hcI:b.I.length<=16777216:=by unfold Bk.cnt at hc;omega
 have hcN:b.N.length<=16777216:=by unfold Bk.cnt at hc;omega
 have hwlt:wb<W.heap.size:=ai h.blk;have C2:=ae (show W.cell? ⟨wb,2,none⟩=some b.vb from af h.blk);have C3:=ae (show W.cell? ⟨wb,3,none⟩=some b.vi from af h.blk);have C4:=ae (show W.cell? ⟨wb,4,none⟩=some b.vn from af h.blk);have C5:=ae (show W.cell? ⟨wb,5,none⟩=some (.slice none 0 0)from af h.blk);have C6:=ae (show W.cell? ⟨wb,6,none⟩=some (.slice none 0 0)from af h.blk);clear h hc;go_enter func9,ntmps9;go_wp2_with fail;go_loopw [3,4] (λ ok i wr=>∃ k:Nat,k<=b.B.length/\ok=.bool true/\i=.int .i64 k/\Below W.heap.size W wr) (λ _ i _=>b.B.length-(intOf i).toNat)
 case atStart=>exact⟨0,iL _,rfl,rfl,aX _ _⟩
 case round =>
  rename World=>WR
  obtain⟨k,hk,rfl,rfl,hbe⟩:=hrel;have BE:=ae hbe;have c2:=(hbe.cell (p:=⟨wb,2,none⟩) hwlt).trans (ab C2);clear hbe;by_cases hlt:k<b.B.length
  ·obtain⟨g,cap,hv,hcap,d0,d1,d2,d3,d4⟩:=xY (ab HB).ob (ab BE) hlt;have hr:=(ab HB).lb b.B[k] (nN _);rw [hv]at c2;obtain⟨r,hR⟩:∃ r,b.B[k]=r:=⟨_,rfl⟩
   rw [hR]at d0 d1 d2 d3 d4 hr;have HR:=ae hr;obtain⟨p0,k0,e0⟩:=hr.m0.1.rep;obtain⟨p1,k1,e1⟩:=hr.m1.1.rep;obtain⟨p2,k2,e2⟩:=hr.m2.1.rep;obtain⟨p3,k3,e3⟩:=hr.m3.1.rep;rw [e0]at d0;rw [e1]at d1;rw [e2]at d2;rw [e3]at d3;have E0:=ae e0;have E1:=ae e1;have E2:=ae e2;have E3:=ae e3;clear hr hR hv e0 e1 e2 e3;go_wp2_with fail;refine(rC r.n (r.n+1) (r.n+2) (r.n+3) r.m _ _ _ _ _ (ab HR).mb (by rw [<-ab E0];exact(ab HR).m0.1.below (ab BE)) (by rw [<-ab E1];exact(ab HR).m1.1.below (ab BE)) (by rw [<-ab E2];exact(ab HR).m2.1.below (ab BE)) (by rw [<-ab E3];exact(ab HR).m3.1.below (ab BE))).mono ?_;rintro e w1 ⟨rfl,hb1⟩;have B1:=ae ((ab BE).trans (hb1.mono (ab BE).size));clear hb1;go_wp2_with fail;exact⟨⟨k+1,by omega,rfl,by go_num,ab B1⟩,by simp [intOf];omega⟩
  obtain⟨qq,cc,hvv⟩:=gu (ab HB).ob;rw [hvv]at c2;clear hvv;have BE0:=BE;clear BE;go_wp2_with fail;go_loopw [3,6] (λ ok i wr=>∃ k:Nat,k<=b.I.length/\ok=.bool true/\i=.int .i64 k/\Below W.heap.size W wr) (λ _ i _=>b.I.length-(intOf i).toNat)
  case atStart=>exact⟨0,iL _,rfl,rfl,ab BE0⟩
  case round =>
   rename World=>WR
   obtain⟨k,hk,rfl,rfl,hbe⟩:=hrel;have BE:=ae hbe;have c2:=(hbe.cell (p:=⟨wb,3,none⟩) hwlt).trans (ab C3);clear hbe;by_cases hlt:k<b.I.length
   ·obtain⟨g,cap,hv,hcap,d0,d1,d2,d3,d4⟩:=xY (ab HB).oi (ab BE) hlt;have hr:=(ab HB).li b.I[k] (nN _);rw [hv]at c2;obtain⟨r,hR⟩:∃ r,b.I[k]=r:=⟨_,rfl⟩
    rw [hR]at d0 d1 d2 d3 d4 hr;have HR:=ae hr;obtain⟨p0,k0,e0⟩:=hr.m0.1.rep;obtain⟨p1,k1,e1⟩:=hr.m1.1.rep;obtain⟨p2,k2,e2⟩:=hr.m2.1.rep;obtain⟨p3,k3,e3⟩:=hr.m3.1.rep;rw [e0]at d0;rw [e1]at d1;rw [e2]at d2;rw [e3]at d3;have E0:=ae e0;have E1:=ae e1;have E2:=ae e2;have E3:=ae e3;clear hr hR hv e0 e1 e2 e3;go_wp2_with fail;refine(rX r.n (r.n+1) (r.n+2) (r.n+3) r.m _ _ _ _ _ (ab HR).mb (by rw [<-ab E0];exact(ab HR).m0.1.below (ab BE)) (by rw [<-ab E1];exact(ab HR).m1.1.below (ab BE)) (by rw [<-ab E2];exact(ab HR).m2.1.below (ab BE)) (by rw [<-ab E3];exact(ab HR).m3.1.below (ab BE))).mono ?_;rintro e w1 ⟨rfl,hb1⟩;have B1:=ae ((ab BE).trans (hb1.mono (ab BE).size));clear hb1;go_wp2_with fail;exact⟨⟨k+1,by omega,rfl,by go_num,ab B1⟩,by simp [intOf];omega⟩
   obtain⟨qq,cc,hvv⟩:=gu (ab HB).oi;rw [hvv]at c2;clear hvv;have BE0:=BE;clear BE;go_wp2_with fail;go_loopw [3,8] (λ ok i wr=>∃ k:Nat,k<=b.N.length/\ok=.bool true/\i=.int .i64 k/\Below W.heap.size W wr) (λ _ i _=>b.N.length-(intOf i).toNat)
   case atStart=>exact⟨0,iL _,rfl,rfl,ab BE0⟩
   case round =>
    rename World=>WR
    obtain⟨k,hk,rfl,rfl,hbe⟩:=hrel;have BE:=ae hbe;have c2:=(hbe.cell (p:=⟨wb,4,none⟩) hwlt).trans (ab C4);clear hbe;by_cases hlt:k<b.N.length
    ·obtain⟨g,cap,hv,hcap,d0,d1,d2,d3,d4⟩:=xY (ab HB).on (ab BE) hlt;have hr:=(ab HB).ln b.N[k] (nN _);rw [hv]at c2;obtain⟨r,hR⟩:∃ r,b.N[k]=r:=⟨_,rfl⟩
     rw [hR]at d0 d1 d2 d3 d4 hr;have HR:=ae hr;obtain⟨p0,k0,e0⟩:=hr.m0.1.rep;obtain⟨p1,k1,e1⟩:=hr.m1.1.rep;obtain⟨p2,k2,e2⟩:=hr.m2.1.rep;obtain⟨p3,k3,e3⟩:=hr.m3.1.rep;rw [e0]at d0;rw [e1]at d1;rw [e2]at d2;rw [e3]at d3;have E0:=ae e0;have E1:=ae e1;have E2:=ae e2;have E3:=ae e3;clear hr hR hv e0 e1 e2 e3;go_wp2_with fail;refine(sh r.n (r.n+1) (r.n+2) (r.n+3) r.m _ _ _ _ _ (ab HR).mb (by rw [<-ab E0];exact(ab HR).m0.1.below (ab BE)) (by rw [<-ab E1];exact(ab HR).m1.1.below (ab BE)) (by rw [<-ab E2];exact(ab HR).m2.1.below (ab BE)) (by rw [<-ab E3];exact(ab HR).m3.1.below (ab BE))).mono ?_;rintro e w1 ⟨rfl,hb1⟩;have B1:=ae ((ab BE).trans (hb1.mono (ab BE).size));clear hb1;go_wp2_with fail;exact⟨⟨k+1,by omega,rfl,by go_num,ab B1⟩,by simp [intOf];omega⟩
    obtain⟨qq,cc,hvv⟩:=gu (ab HB).on;rw [hvv]at c2;clear hvv;have BE0:=BE;clear BE;go_wp2_with fail;go_loopw [3,10] (λ ok i wr=>ok=.bool true/\i=.int .i64 0/\Below W.heap.size W wr) (λ _ _ _=>0)
    case atStart=>exact⟨rfl,rfl,ab BE0⟩
    case round =>
     rename World=>WR
     obtain⟨rfl,rfl,hbe⟩:=hrel;have BE:=ae hbe;have c5:=(hbe.cell (p:=⟨wb,5,none⟩) hwlt).trans (ab C5);clear hbe BE0;go_wp2_with fail;go_loopw [3,12] (λ ok i wr=>ok=.bool true/\i=.int .i64 0/\Below W.heap.size W wr) (λ _ _ _=>0)
     case atStart=>exact⟨rfl,rfl,ab BE⟩
     case round =>
      rename World=>WR2
      obtain⟨rfl,rfl,hbe⟩:=hrel;have AA:=ae hbe;have c6:=(hbe.cell (p:=⟨wb,6,none⟩) hwlt).trans (ab C6);clear hbe;go_wp2
      go_ret;exact⟨rfl,ab AA⟩
theorem uf{P:Program}(w:World)(dT sT ty elem:TypeId)(size g dLen dCap:Nat)(a:Addr)(sLen sCap:Nat)(cur:Array Value)(t:TypeId)(cs:List Value)
  (hu:P.underlying dT=some (.slice elem)) (hs:(P.info? elem).map (·.size)=some size)
  (hg:w.heap[g]?=some (.cells cur t (0,0))) (hle:sLen<=dLen) (hn:cs.length=sLen*size)
  (hsrc:∀ j v,cs[j]?=some v->w.cell? (a.add j)=some v) (hfit:cs.length<=cur.size) (h1:∀ v∈cs,v.oneCell'=true) :
  (Builtin.copy_ #[dT,sT] ty #[.slice (some ⟨g,0,none⟩) dLen dCap,.slice (some a) sLen sCap]).run P w =
   .ok (goInt sLen) (w.setRow g (cs++cur.toList.drop cs.length).toArray):=by
 have hl:=run_loadCells_list (P:=P) w a cs hsrc;have hst:=run_storeCells_at P g 0 t cs 0 cur w hg (by simpa using hfit) h1;have hmin:Nat.min sLen dLen=sLen:=Nat.min_eq_left hle;cases hq:P.info? elem with
 | none=>simp [hq]at hs
 | some i =>
  have hi:i.size=size:=by simpa [hq]using hs
  simp only [Nat.add_zero,List.take_zero,List.nil_append,Nat.zero_add]at hst;rw [hn]at hl;simp [Builtin.copy_,run_underlying hu,Builtin.lenOf,Builtin.firstCells,sizeOf,typeInfo,hq,hi,hmin,hl,hst]
theorem qH{P:Program}{w:World}{ops:Array Oper}{rest:List Oper}{o:Oper}{a:Act}{Q:Exit->Act->World->Prop}(hgd:o.guard=none)(d s:Operand)(dT sT:TypeId)
  (ho:o.op=.call { callee:=.builtin .copy,args:=#[d,s],argTypes:=#[dT,sT] }) (elem:TypeId) (hu:P.underlying dT=some (.slice elem)) (size:Nat) (hsz:(P.info? elem).map (·.size)=some size)
  (g dLen dCap:Nat) (hd:a.eval d=.slice (some ⟨g,0,none⟩) dLen dCap) (sv:Value) (hs:a.eval s=sv) (sLen:Nat) (cs:List Value) (hr:fA w sv sLen cs) (hle:sLen<=dLen) (hn:cs.length=sLen*size)
  (cur:List Value) (t:TypeId) (hg:w.heap[g]?=some (.cells cur.toArray t (0,0))) (hfit:cs.length<=cur.length) (h1:∀ v∈cs,v.oneCell'=true)
  (h:∀ w',w'.heap[g]?=some (.cells (cs++cur.drop cs.length).toArray t (0,0))->w.grownBy w' (some g)->wpList P ops Q rest (a.put o.dst (goInt sLen)) w') :
  wpList P ops Q (o::rest) a w:=by
 refine wpList_plain hgd λ K hK=>?_
 have run:∃ w',(Builtin.copy_ #[dT,sT] o.type #[.slice (some ⟨g,0,none⟩) dLen dCap,sv]).run P w=.ok (goInt sLen) w'/\w'.heap[g]?=some (.cells (cs++cur.drop cs.length).toArray t (0,0))/\w.grownBy w' (some g):=by
  rcases hr with⟨rfl,rfl,rfl⟩|⟨ad,c,rfl,hc⟩
  ·exact⟨w,run_copy_nil P w dT sT o.type elem ⟨g,0,none⟩ dLen dCap hu (by rw [hsz];rfl),by simpa using hg,rfl,rfl,rfl,aD _,λ _ _ _=>rfl⟩
  refine⟨_,uf w dT sT o.type elem size g dLen dCap ad sLen c cur.toArray t cs hu hsz hg hle hn hc (by simpa using hfit) h1,?_,rfl,rfl,rfl,by simp,λ k _ hk=>setRow_other w g k _ (λ e=>hk (by rw [e]))⟩;have:=setRow_heap w g cur.toArray (cs++cur.drop cs.length).toArray t (0,0) hg;simpa using this
 obtain⟨w',hr',h2,h3⟩:=run;unfold Oper.wp execOp;simp only [ho,resolve,invoke,builtin,Sem.run_bind,Sem.run_pure,Result.andThen_ok,List.map_toArray,List.map_cons,List.map_nil,hd,hs,hr'];exact hK _ _ (h w' h2 h3)
theorem Co{P:Program}(w:World)(t e:TypeId)(i:TypeInfo)(z:Value)(ht:P.underlying t=some (.slice e))(hi:P.info? e=some i)(hz:i.zero=some z)(n:Nat)(hb:i.bytes*n<=281474976710656)(hn:n<=1099511627776) :
  (Instr.makeSlice t (.int .i64 (n:Int)) (.int .i64 (n:Int))).run P w=.ok (.slice (some ⟨w.heap.size,0,none⟩) n n) (w.alloc (.cells (madeCells z.cells (n*i.size)) e)):=by
 have hb':(i.bytes:Int)*(n:Int)<=281474976710656:=by
  have h:((i.bytes*n:Nat):Int)<=281474976710656:=by omega
  rwa [Int.natCast_mul]at h
 have:=run_make (P:=P) w t e i z ht hi hz .i64 .i64 (n:Int) (n:Int) (by omega) (Int.le_refl _) hb' (by omega);simpa using this
theorem Io(z:Value)(n:Nat):madeCells #[z] n=(List.replicate n z).toArray:=by
 apply Array.ext';rw [toList_madeCells_one]
theorem Ho(w:World)(a:Addr)(n c:Nat):(binOp .eql 26 (.slice (some a) n c) (.slice none 0 0)).run prog w=.ok (.bool false) w:=Lib.run_eql_slice_nil w _ _ (some a) n c 0 0 underlying26
theorem Dx(w:World):(binOp .eql 26 (.slice none 0 0) (.slice none 0 0)).run prog w=.ok (.bool true) w:=Lib.run_eql_slice_nil w _ _ none 0 0 0 0 underlying26
def kJ(L:List Int):List Value:=L.map (Value.int .i64)++List.replicate 8 (.int .i64 (-77))
def lU(A:List Value)(x z:Value)(k:Nat):List Value:=A++(List.replicate k x++List.replicate (8-k) z)
theorem EW(A:List Value)(x z:Value){k:Nat}(hk:k<8):(lU A x z k).toArray.setIfInBounds (A.length+k) x=(lU A x z (k+1)).toArray:=by
 apply Array.ext';unfold lU;rw [Array.toList_setIfInBounds];rw [List.set_append_right _ _ (by omega),show A.length+k-A.length=k by omega,List.set_append_right _ _ (by simp),List.length_replicate,Nat.sub_self,show 8-k=(8-(k+1))+1 by omega,List.replicate_succ,List.set_cons_zero,List.replicate_succ'];simp
theorem EV(A:List Value)(x z:Value){k:Nat}(hk:k<8):(lU A x z k)[A.length+k]?=some z:=by
 unfold lU;rw [List.getElem?_append_right (by omega),show A.length+k-A.length=k by omega,List.getElem?_append_right (by simp),List.length_replicate,Nat.sub_self,List.getElem?_replicate,aC (by omega)]
theorem EU(A:List Value)(x z:Value):lU A x z 8=A++List.replicate 8 x:=by simp [lU]
theorem BU(A:List Value)(x z:Value):lU A x z 0=A++List.replicate 8 z:=by simp [lU]
def gR(w w':World)(x v:Value)(L:List Int):Prop :=
 (x=.slice none 0 0/\v=.slice none 0 0/\L=[]) \/
 ∃ a c g,x=.slice (some a) L.length c/\v=.slice (some ⟨g,0,none⟩) L.length (L.length+8)/\w.heap.size<=g/\w'.heap[g]?=some (.cells (kJ L).toArray 3 (0,0))
theorem a8.nilOr{w:World}{x:Value}{L:List Int}(h:a8 w x L):(x=.slice none 0 0/\L=[])\/∃ a c,x=.slice (some a) L.length c:=by
 obtain⟨p,c,hv,hcap,hl,hin,hr⟩:=h;cases p with
 | none =>
  left;rcases hr with⟨h1,h2⟩|⟨b,o,hp,_⟩
  ·subst h1;have:=h2 rfl;subst this;exact⟨hv,rfl⟩
  cases hp
 | some a=>exact inr ⟨a,c,hv⟩
theorem a8.reads{w:World}{v:Value}{l:List Int}(h:a8 w v l):fA w v l.length (l.map (Value.int .i64)):=by
 obtain⟨p,c,rfl,hcap,hl,hin,hr⟩:=h;rcases hr with⟨rfl,hp⟩|⟨b,o,rfl,hb,hc⟩
 ·cases p with
  | none=>have:=hp rfl;subst this;exact inl ⟨rfl,rfl,rfl⟩
  | some a=>exact inr ⟨a,c,rfl,λ j u hj=>by simp at hj⟩
 refine inr ⟨_,_,rfl,λ j u hj=>?_⟩
 have hjl:j<l.length:=by
  rcases Nat.lt_or_ge j l.length with h1|h1
  ·exact h1
  rw [List.getElem?_eq_none (by simpa using h1)]at hj;cases hj
 have hadd:(⟨b,o,none⟩:Addr).add j=⟨b,o+j,none⟩:=by unfold Addr.add;split<;>simp_all
 rw [hadd,hc j hjl,<-hj];simp [hjl]
theorem KL(l:List Int):∀ u∈l.map (Value.int .i64),u.oneCell'=true:=by
 intro u hu;obtain⟨x,_,rfl⟩:=List.mem_map.1 hu
 rfl
theorem gR.at_{w w':World}{x v:Value}{L:List Int}(h:gR w w' x v L)(hin:∀ y∈L,jw y)(hl:L.length<=16777216):a8 w' v L:=by
 rcases h with⟨_,rfl,rfl⟩|⟨a,c,g,_,rfl,_,hg⟩
 ·exact⟨none,0,rfl,by simp,by simp,by simp,inl ⟨rfl,λ _=>rfl⟩⟩
 refine⟨_,_,rfl,by omega,by omega,hin,inr ⟨g,0,rfl,ai hg,λ j hj=>?_⟩⟩;rw [af hg];unfold kJ;simp [List.getElem?_append_left,hj]
theorem gR.below{w w' w'':World}{x v:Value}{L:List Int}(h:gR w w' x v L)(hb:Below w'.heap.size w' w''):gR w w'' x v L:=by
 rcases h with h|⟨a,c,g,h1,h2,h3,hg⟩
 ·exact inl h
 exact inr ⟨a,c,g,h1,h2,h3,(hb.block g (ai hg)).trans hg⟩
theorem oU(L:List Int)(x:Value)(w:World)(h:a8 w x L)(hl:L.length<=16777216) :
  Calls prog 27 #[x] w λ e w'=>∃ v,e=.returned v/\gR w w' x v L/\Below w.heap.size w w':=by
 have HX:=ae h;have q0:=Dx;have q1:=Ho;rcases h.nilOr with⟨rfl,rfl⟩|⟨a,c,rfl⟩
 ·clear h;go_enter func27,ntmps27;go_wp2
  go_ret;exact⟨_,rfl,inl ⟨rfl,rfl,rfl⟩,aX _ _⟩
 clear h;obtain⟨i0,hi0,hz0,hz1,hz2⟩:=info_parts Tryz.infoInt;have hsz:(prog.info? 3).map (·.size)=some 1:=by rw [hi0];simp [hz1]
 have hmk:=Co (P:=prog) w 26 3 i0 (.int .i64 0) underlying26 hi0 hz0 (L.length+8) (by rw [hz2];omega) (by omega);rw [hz1,Nat.mul_one,show(Value.int .i64 0).cells=#[.int .i64 0]from rfl,Io]at hmk;obtain⟨w1,hw1⟩:∃ w1,w.alloc (.cells (List.replicate (L.length+8) (Value.int .i64 0)).toArray 3)=w1:=⟨_,rfl⟩
 have Q1:=ae (cN w (.cells (List.replicate (L.length+8) (Value.int .i64 0)).toArray 3));have B1:=ae ((aX w.heap.size w).alloc (aD _) (.cells (List.replicate (L.length+8) (Value.int .i64 0)).toArray 3));rw [hw1]at hmk Q1 B1;have RD:=ae ((ab HX).below (ab B1)).reads;obtain⟨n,hn⟩:∃ n,L.length=n:=⟨_,rfl⟩
 rw [hn]at hmk Q1 RD hl ⊢;have HN:=ae hn;rw [show((n+8:Nat):Int)=(n:Int)+8 from by omega]at hmk;clear hn hw1;go_enter func27,ntmps27;go_upto_region 5 with(refine qH rfl _ _ _ _ rfl 3 underlying26 1 hsz w.heap.size (n+8) (n+8) rfl (.slice (some a) n c) rfl n (L.map (Value.int .i64)) (ab RD) (by omega) (by rw [List.length_map,ab HN];omega) (List.replicate (n+8) (.int .i64 0)) 3 (ab Q1) (by rw [List.length_map,ab HN];simp) (KL _) ?_;intro w2 hg2 hgr2)
 have hg3:w2.heap[w.heap.size]?=some (.cells (lU (L.map (Value.int .i64)) (.int .i64 (-77)) (.int .i64 0) 0).toArray 3 (0,0)):=by
  rw [hg2,BU]
  congr 3
  rw [List.length_map,ab HN,List.drop_replicate,show n+8-n=8 by omega]
 have G0:=ae hg3;have BE:=ae ((ab B1).grown hgr2 (ab B1).size (λ k e=>by have:w.heap.size=k:=(by simpa using e);omega));have AL:=ae (show(L.map (Value.int .i64)).length=n from by rw [List.length_map];exact ab HN);clear hg2 hg3 hgr2 hmk Q1 B1 RD q0 q1;go_wp2_with fail;go_loopw [4] (λ i wr=>∃ k:Nat,k<=8/\i=.int .i64 ((n:Int)+k)/\wr.heap[w.heap.size]?=some (.cells (lU (L.map (Value.int .i64)) (.int .i64 (-77)) (.int .i64 0) k).toArray 3 (0,0))/\Below w.heap.size w wr) (λ i _=>n+8-(intOf i).toNat)
 case atStart=>exact⟨0,by omega,by simp,ab G0,ab BE⟩
 case round =>
  rename World=>WR
  obtain⟨k,hk,rfl,hg,hbe⟩:=hrel;have G:=ae hg;have BW:=ae hbe;clear hbe;by_cases hlt:k<8
  ·have hgt:=EV (L.map (Value.int .i64)) (.int .i64 (-77)) (.int .i64 0) hlt;rw [ab AL]at hgt;have hc:WR.cell? ⟨w.heap.size,n+k,none⟩=some (.int .i64 0):=by rw [af hg];simpa using hgt
   have hf:WR.frozen? ⟨w.heap.size,n+k,none⟩=false:=ak hg
   have HS:=ae (show(WR.setCell ⟨w.heap.size,n+k,none⟩ (.int .i64 (-77))).heap[w.heap.size]?=some (.cells (lU (L.map (Value.int .i64)) (.int .i64 (-77)) (.int .i64 0) (k+1)).toArray 3 (0,0))from by
    rw [aB hg,<-EW _ _ _ hlt,ab AL])
   clear hg hgt;go_wp2
   go_roundw
   case rel=>exact⟨k+1,by omega,by go_num,ab HS,(ab BW).setCell (p:=⟨w.heap.size,n+k,none⟩) (aD _) _⟩
   case measure=>simp [intOf];omega
  have hk8:k=8:=by omega
  subst hk8;clear hg;go_wp2
  go_ret;refine⟨.slice (some ⟨w.heap.size,0,none⟩) n (n+8),rfl,inr ⟨a,c,w.heap.size,?_,?_,aD _,?_⟩,ab BW⟩
  ·rw [ab HN]
  ·rw [ab HN]
  have:=ab G;rw [EU]at this;exact this
def sP(A:List Value)(y:Value)(k:Nat):List Value:=List.replicate k y++A.drop k
theorem Eg(A:List Value)(y:Value){k:Nat}(hk:k<A.length):(sP A y k).toArray.setIfInBounds k y=(sP A y (k+1)).toArray:=by
 apply Array.ext';unfold sP;have e:A.drop k=A[k]::A.drop (k+1):=List.drop_eq_getElem_cons hk;rw [Array.toList_setIfInBounds,List.set_append_right _ _ (by simp),List.length_replicate,Nat.sub_self,e,List.set_cons_zero,List.replicate_succ'];simp
theorem Ef(A:List Value)(y:Value)(k:Nat):(sP A y k)[k]?=A[k]?:=by
 unfold sP;rw [List.getElem?_append_right (by simp),List.length_replicate,Nat.sub_self,List.getElem?_drop,Nat.add_zero]
theorem Id{L:List Int}{k:Nat}(h:k<L.length):(kJ L)[k]?=some (.int .i64 L[k]):=by
 unfold kJ;rw [List.getElem?_append_left (by simpa using h)];simp [h]
theorem Ic{L:List Int}{k:Nat}(h1:L.length<=k)(h2:k<L.length+8):(kJ L)[k]?=some (.int .i64 (-77)):=by
 unfold kJ;rw [List.getElem?_append_right (by simpa using h1),List.length_map,List.getElem?_replicate,aC (by omega)]
theorem oG(L:List Int)(x v:Value)(w0 w:World)(hx:a8 w x L)(hv:gR w0 w x v L)(hs:L=[]\/∀ k,x.ownBlock=some k->v.ownBlock≠some k)(hl:L.length<=16777216) :
  Calls prog 30 #[v,x] w λ e w'=>e=.returned (.bool true)/\Fr (λ k=>v.ownBlock=some k) w (λ k=>v.ownBlock=some k) w':=by
 have q0:=Dx;have q1:=Ho;rcases hv with⟨rfl,rfl,rfl⟩|⟨a,c,g,rfl,rfl,_,hg⟩
 ·clear hx hs;go_enter func30,ntmps30;go_wp2
  go_ret;exact⟨rfl,bE _ _⟩
 have HX:=ae hx;have HS:=ae hs;have AL:=ae (show(kJ L).length=L.length+8 from by unfold kJ;simp);have G0:=ae hg;obtain⟨n,hn⟩:∃ n,L.length=n:=⟨_,rfl⟩
 rw [hn]at HS AL hl ⊢;have HN:=ae hn;have hbb:w.heap.size=w.heap.size:=rfl;clear hx hs hg hn hbb;go_enter func30,ntmps30;go_wp2_with fail;go_loopw [6,7] (λ ok i wr=>∃ k:Nat,k<=n+8/\ok=.bool true/\i=.int .i64 k/\wr.heap[g]?=some (.cells (sP (kJ L) (.int .i64 (-78)) k).toArray 3 (0,0))/\Fr (· = g) w (· = g) wr) (λ _ i _=>n+8-(intOf i).toNat)
 case atStart=>exact⟨0,by omega,rfl,rfl,ab G0,bE _ _⟩
 case round =>
  rename World=>WR
  obtain⟨k,hk,rfl,rfl,hg,hfr⟩:=hrel;have FR:=ae hfr;by_cases hlt:k<n+8
  ·have hk2:k<(kJ L).length:=by rw [ab AL];exact hlt
   have hgt:=Ef (kJ L) (.int .i64 (-78)) k;have hf:WR.frozen? ⟨g,k,none⟩=false:=ak hg
   have AA:=ae (show(WR.setCell ⟨g,k,none⟩ (.int .i64 (-78))).heap[g]?=some (.cells (sP (kJ L) (.int .i64 (-78)) (k+1)).toArray 3 (0,0))from by
    rw [aB hg,<-Eg _ _ hk2])
   have hc:WR.cell? ⟨g,k,none⟩=(kJ L)[k]?:=by rw [af hg,<-hgt];simp
   by_cases hkn:k<n
   ·have hkL:k<L.length:=by rw [ab HN];exact hkn
    rw [Id hkL]at hc;obtain⟨p,c2,hxv,_,_,_,hr⟩:=ab HX;rcases hr with h|⟨b,o,hp,hb,hcc⟩
    ·exfalso;rw [h.1]at hkL;simp at hkL
    have hpa:a=⟨b,o,none⟩:=by
     rw [hp]at hxv;simp only [Value.slice.injEq,Option.some.injEq]at hxv;exact hxv.1
    subst hpa
    have hbg:b≠g:=λ e=>by
     rcases ab HS with h|h
     ·rw [h]at hkL;simp at hkL
     exact h b rfl (by rw [e];rfl)
    have hcx:WR.cell? ⟨b,o+k,none⟩=some (.int .i64 L[k]):=(World.cell?_of_block (w:=w) (a:=⟨b,o+k,none⟩) (hfr.block b hb hbg)).trans (hcc k hkL);obtain⟨X,hX⟩:∃ X,L[k]=X:=⟨_,rfl⟩
    rw [hX]at hc hcx;clear hg hfr hgt hcc hX hxv hp;go_wp2
    go_roundw
    case rel=>exact⟨k+1,by omega,by simp,by go_num,ab AA,(ab FR).setCell (p:=⟨g,k,none⟩) (inl rfl) _⟩
    case measure=>simp [intOf];omega
   rw [Ic (by rw [ab HN];omega) (by rw [ab HN];exact hlt)]at hc;clear hg hfr hgt;go_wp2
   go_roundw
   case rel=>exact⟨k+1,by omega,by simp,by go_num,ab AA,(ab FR).setCell (p:=⟨g,k,none⟩) (inl rfl) _⟩
   case measure=>simp [intOf];omega
  clear hg hfr;go_wp2
  go_ret;exact⟨rfl,by have:=ab FR;simpa [Value.ownBlock,eq_comm]using this⟩
theorem GU{W:World}{A:Nat->Prop}{pp:Nat}{ms:List aM}{x:ByteArray}(hl:az W A (D6 pp ms x)){R:Rt}{pv mv:Value}(hp:a8 W pv R.path)(hm:a8 W mv R.marks)(i1:jw R.addr)(i2:jw R.len) :
  Calls prog 44 #[ay pp 0,wq R pv mv] W λ e w'=>∃ pv' mv',e=.returned (.tuple #[wq (rf.ud ms R).1 pv' mv',.int .i64 (rf.ud ms R).2.1,.int .i64 (rf.ud ms R).2.2])/\so w' W.heap.size (rf.ud ms R).1 pv' mv'/\Below W.heap.size W w':=by
 unfold rf.ud;cases hok:vg R with
 | true =>
  obtain⟨K,hK,hQ⟩:=hl;have ho:=rf.xZ hok;exact GV W K pp ms (λ k hk=>(hK k hk).1) (λ V h1 h2=>(hQ V h1 h2).c) W (aD _) (λ _ _=>rfl) R pv mv hp hm i1 i2 ho.path ho.marks hok
 | false =>
  refine(GW hp hm i1 i2 hok).mono ?_;rintro e w' ⟨rfl,hb⟩;exact⟨_,_,rfl,so.zero _ _,hb⟩
theorem Jd{W:World}{A:Nat->Prop}{s:ByteArray}{ms:List aM}{x:ByteArray}{c:rf.PS×List rf.Df×List rf.Tr}{r:RS×List (Option aM)}{qq:Nat}(hB:LT s ms x c r)(hl:az W A (rf.uH qq c.2.1 c.2.2 c.1.taken c.1.lines)){R:Rt}{pv mv:Value}(hp:a8 W pv R.path)(hm:a8 W mv R.marks)(i1:jw R.addr)(i2:jw R.len)(i3:jw R.pref)(i4:jw R.med) :
  Calls prog 45 #[ay qq 0,wq R pv mv] W (rf.L3 W (rf.ud ms R)):=by
 unfold rf.ud;cases hok:vg R with
 | true=>exact rf.Ld hB.sim.defs (hB.sim.stp ms (by rw [hB.steps];exact sJ ms)) hl hp hm i1 i2 i3 i4 hok
 | false=>exact rf.Je hp hm i1 i2 i3 i4 hok
theorem Jf{Ds:List fe}{ks:List rf.Tr}{ms:List aM}(h:f8 Ds ks ms)(R:Rt):(rf.ud ms R).1.path.length<=12/\(rf.ud ms R).1.marks.length<=8:=by
 unfold rf.ud;cases hok:vg R with
 | true =>
  rw [aC rfl];dsimp only;unfold jT;split
  ·have:=rf.ik (rf.jO h) R (rf.xZ hok);exact⟨this.path,this.marks⟩
  simp [kU]
 | false=>rw [au (by decide)];simp [kU]
theorem si.from{wb:Nat}{b b':Bk}{l:Value}{W V W':World}(P:si wb b b' l V W')(hV:Below W.heap.size W V):si wb b b' l W W':=by
 have hs:=hV.size;exact⟨P.os.trans hV.os,P.tape.trans hV.tape,P.output.trans hV.output,kr hs P.size,λ k h1 h2 h3=>(P.block k (by omega) h2 h3).trans (hV.block k h1),λ k h=>(P.own k h).imp id (λ h=>by omega),λ k h=>(P.recs k h).imp id (Or.imp id (λ h=>by omega)),P.cnt,P.ps⟩
theorem gR.set{w w':World}{x v:Value}{L:List Int}(h:gR w w' x v L){b o:Nat}(hb:b<w.heap.size)(u:Value):gR w (w'.setCell ⟨b,o,none⟩ u) x v L:=by
 rcases h with h|⟨a,c,g,h1,h2,h3,hg⟩
 ·exact inl h
 exact inr ⟨a,c,g,h1,h2,h3,by rw [ah (by simp only;omega)];exact hg⟩
theorem gR.keep{w w' w'':World}{x v:Value}{L:List Int}{O O':Nat->Prop}(h:gR w w' x v L)(hf:Fr O w' O' w'')(hv:∀ k,v.ownBlock=some k->¬O k):gR w w'' x v L:=by
 rcases h with h|⟨a,c,g,h1,h2,h3,hg⟩
 ·exact inl h
 exact inr ⟨a,c,g,h1,h2,h3,(hf.block g (ai hg) (hv g (by rw [h2];rfl))).trans hg⟩
theorem gR.blk{w w':World}{x v:Value}{L:List Int}(h:gR w w' x v L):∀ k,v.ownBlock=some k->w.heap.size<=k/\k<w'.heap.size:=by
 intro k hk;rcases h with⟨_,h,_⟩|⟨a,c,g,h1,h2,h3,hg⟩
 ·rw [h]at hk;simp [Value.ownBlock]at hk
 rw [h2]at hk;have:g=k:=by simpa [Value.ownBlock]using hk
 subst this;exact⟨h3,ai hg⟩
theorem gR.sl{w w':World}{x v:Value}{L:List Int}(h:gR w w' x v L):∃ q c,v=.slice q L.length c:=by
 rcases h with⟨_,h,h2⟩|⟨a,c,g,h1,h2,h3,hg⟩
 ·exact⟨none,0,by rw [h,h2];rfl⟩
 exact⟨_,_,h2⟩
theorem Fr.belowO{B:Nat}{W w w':World}{O O':Nat->Prop}(h:Fr O w O' w')(hb:Below B W w)(hB:B<=w.heap.size)(hO:∀ k,O k->B<=k):Below B W w' :=
 hb.trans ⟨h.os,h.tape,h.output,h.size,λ k hk=>h.block k (by omega) (λ ho=>by have:=hO k ho;omega)⟩
theorem DE{w:World}{v:Value}{l:List Int}(h:a8 w v l):l=[]\/∀ k,v.ownBlock=some k->k<w.heap.size:=by
 obtain⟨p,c,rfl,_,_,_,hr⟩:=h;rcases hr with⟨h,_⟩|⟨b,o,rfl,hb,_⟩
 ·exact inl h
 exact inr (λ k hk=>by have:b=k:=(by simpa [Value.ownBlock]using hk);omega)
theorem DD{w:World}{v:Value}{l:List Int}(h:a8 w v l):∀ y∈l,jw y:=by obtain⟨_,_,_,_,_,h,_⟩:=h;exact h
