/- part -/
import Derived.Test.YtphhnjljlllnlaaGreatDoorLexA
set_option maxRecDepth 100000
set_option maxHeartbeats 4000000
namespace Go.Proofs.YtphhnjljlllnlaaGreatDoor
open Go.Proofs.Tryz
open Or
open Go.RowKit
theorem A5(l:List Int)(x:Int):cC l x=l.countP (· < x):=by
 rw [cC,List.countP_eq_length_filter]
theorem uJ(l:List Int)(x:Int):cC l x<=l.length:=by unfold cC;exact List.length_filter_le _ _
theorem uK{x:Int}:∀{l:List Int},(∀ y∈l,x<=y)->cC l x=0:=λ{l} h=>by
 rw [cC,List.length_eq_zero_iff,List.filter_eq_nil_iff];intro y hy;have:=h y hy;simp;omega
theorem uI(y:Int)(l:List Int)(x:Int):cC (y::l) x=if y<x then cC l x+1 else cC l x:=by
 unfold cC;by_cases h:y<x
 ·rw [List.filter_cons_of_pos (by simpa using h),aS h];rfl
 rw [List.filter_cons_of_neg (by simpa using h),aG h]
theorem rF{x:Int}:∀{l:List Int},l.Pairwise (· < ·)->x∈l->l.erase x=l.take (cC l x)++l.drop (cC l x+1)/\cC l x<l.length
 | [],_,h=>by cases h
 | y::l,hs,hx=>by
  obtain⟨h1,h2⟩:=List.pairwise_cons.1 hs;by_cases hy:y=x
  ·subst hy
   have h0:cC (y::l) y=0:=uK λ z hz=>by
    rcases List.mem_cons.1 hz with rfl|hz
    ·omega
    have:=h1 z hz;omega
   rw [h0];simp
  have hx':x∈l:=by
   rcases List.mem_cons.1 hx with e|e
   ·exact absurd e.symm hy
   exact e
  have hlt:=h1 x hx';obtain⟨i1,i2⟩:=rF h2 hx';rw [uI,aS hlt,List.erase_cons_tail (by simpa using hy),i1];exact⟨by simp,by simp;omega⟩
theorem oY{x:Int}:∀{l:List Int},l.Pairwise (· < ·)->x ∉ l->(l.take (cC l x)++x::l.drop (cC l x)).Pairwise (· < ·)
 | [],_,_=>by simp [cC]
 | y::l,hs,hx=>by
  obtain⟨h1,h2⟩:=List.pairwise_cons.1 hs;have hne:y≠x:=λ e=>hx (by rw [e];exact List.mem_cons_self)
  have hx':x ∉ l:=λ e=>hx (List.mem_cons_of_mem _ e)
  by_cases hlt:y<x
  ·rw [uI,aS hlt];simp only [List.take_succ_cons,List.drop_succ_cons,List.cons_append];refine List.pairwise_cons.2 ⟨λ z hz=>?_,oY h2 hx'⟩;rcases List.mem_append.1 hz with e|e
   ·exact h1 z (List.mem_of_mem_take e)
   rcases List.mem_cons.1 e with rfl|e
   ·exact hlt
   exact h1 z (List.mem_of_mem_drop e)
  have h0:cC (y::l) x=0:=uK λ z hz=>by
   rcases List.mem_cons.1 hz with rfl|hz
   ·omega
   have:=h1 z hz;omega
  rw [h0];simp only [List.take_zero,List.drop_zero,List.nil_append];refine List.pairwise_cons.2 ⟨λ z hz=>?_,hs⟩;rcases List.mem_cons.1 hz with rfl|hz
  ·omega
  have:=h1 z hz;omega
theorem xj{w:World}{g:Nat}{cur:Array Value}{l:List Int}(hg:w.heap[g]?=some (.cells cur 3 (0,0)))(htk:cur.toList.take (l.length*1)=aB l)(j:Nat)(hj:j<l.length):w.cell? ⟨g,0+j,none⟩=some (.int .i64 (l.getD j 0)):=by
 rw [ag hg,Nat.zero_add];have:(cur.toList.take (l.length*1))[j]?=some (.int .i64 (l.getD j 0)):=by rw [htk];simp [aB,List.getD,gW hj]
 rw [List.getElem?_take,aS (by omega)]at this;simpa using this
theorem Fc(w:World)(v:Value)(l:List Int)(x:Int)(hv:w.ownsRow 0 3 1 v l.length (aB l))(hs:l.Pairwise (· < ·))(hl:l.length<=1000) :
  Calls prog 194 #[v,.int .i64 x] w λ e w'=>e=.returned (.tuple #[.int .i64 (cC l x:Nat),.bool (l.contains x)])/\∃ q,w'=w.drewN q:=by
 rcases hv.2 with⟨rfl,h0⟩|⟨g,cap,cur,rfl,_,hg,hnc,hcm,hcs,htk⟩
 ·obtain rfl:=List.length_eq_zero_iff.mp h0;refine(Any.slices_BinarySearch_int_empty Tryz.shSch none 0 x w).mono ?_;rintro e w' ⟨rfl,rfl⟩;exact⟨rfl,0,rfl⟩
 refine(Any.slices_BinarySearch_int Tryz.shSch g 0 l.length cap l x w (aL _) (by omega) (xj hg htk) (by rw [List.take_length];exact hs.imp (λ h=>Int.le_of_lt h))).mono ?_;rintro e w' ⟨rfl,q,rfl⟩;rw [List.take_length,<-A5];exact⟨rfl,q,rfl⟩
theorem Ao{w0 w:World}{row:Option Nat}(h:w0.grownBy w row)(q:Nat):w0.grownBy (w.drewN q) row:=⟨h.os,h.tape,h.output,h.size,h.block⟩
theorem JG(w:World)(v:Value)(l:List Int)(x:Int)(hv:w.ownsRow 0 3 1 v l.length (aB l))(hs:l.Pairwise (· < ·))(hx:x∈l) :
  Calls prog 198 #[v,.int .i64 (cC l x:Nat),.int .i64 ((cC l x:Nat)+1)] w (xV w v (l.erase x)):=by
 obtain⟨h1,h2⟩:=rF hs hx;have hel:(l.erase x).length=l.length-1:=by rw [h1];simp;omega
 rcases hv.2 with⟨rfl,h0⟩|⟨g,cap,cur,rfl,_,hg,hnc,hcm,hcs,htk⟩
 ·omega
 refine(Any.slices_Delete_int_cells Tryz.shDel g 0 l.length cap (cC l x) (cC l x+1) l w (aL _) hnc (by unfold maxLen at hcm;omega) (by omega) (by omega) (xj hg htk) (λ j hj=>aj hg)).mono ?_;rintro e w' ⟨rfl,q,rfl⟩;rw [List.take_length,<-h1];have hsl:((l.erase x++List.replicate (cC l x+1-cC l x) 0).map (Value.int .i64)).length=l.length:=by simp [hel];omega
 obtain⟨cur',q1,q2,q3⟩:=eL ((l.erase x++List.replicate (cC l x+1-cC l x) 0).map (Value.int .i64)) 0 (w.drewN q) cur hg (by rw [hsl];omega);refine⟨_,rfl,?_,dZ g _ _ _ _ _ (Ao (jY _ _) q) (inl rfl),inl rfl⟩;rw [show l.length-(cC l x+1-cC l x)=(l.erase x).length by rw [hel];omega];refine jm (g:=g) (cap:=cap) (l:=l.erase x) q1 (by omega) hcm (by omega) (λ j y hy=>?_);have hj:=(List.getElem?_eq_some_iff.mp hy).1;rw [q3 j,aS (by rw [hsl];omega),Nat.sub_zero,List.getElem?_map,List.getElem?_append_left hj,hy]
 rfl
theorem dp.insM{W W1 w2:World}{b:Nat}{r:Rt}{pv mv v':Value}{l':List Int}(h:dp W b r pv mv)(hb:Below W.heap.size W W1)(hl:l'.length<=8)(hso:l'.Pairwise (· < ·))
  (ho:w2.ownsRow 0 3 1 v' l'.length (aB l')) (hg:W1.grownBy w2 mv.ownBlock) (hat:v'.ownBlock=mv.ownBlock\/v'.ownBlock=some W1.heap.size) :
  dp (w2.setCell ⟨b,3,none⟩ v') b { r with marks:=l' } pv v'/\Fr (ff b pv mv) W (ff b pv v') (w2.setCell ⟨b,3,none⟩ v'):=by
 have hbl:=ah h.blk;have hsz:=hb.size;have hbk:w2.heap[b]?=W.heap[b]?:=(hg.block b (by omega) (λ e=>h.ne2 e.symm)).trans (hb.block b hbl)
 have hpk:∀ k,pv.ownBlock=some k->w2.heap[k]?=W.heap[k]?:=λ k e=>by
  have hk:=(h.path.lt k e).2;refine(hg.block k (by omega) (λ e2=>?_)).trans (hb.block k hk);rcases h.ne3 with h1|h1
  ·rw [h1]at e;cases e
  exact h1 (e.trans e2)
 have hvb:v'.ownBlock≠some b:=λ e=>by
  rcases hat with h1|h1
  ·exact h.ne2 (h1.symm.trans e)
  rw [h1]at e;cases e;omega
 have hF:Fr (ff b pv mv) W (ff b pv mv) w2:=(Fr.of_below hb).grown hg (λ k e=>inl (inr (inr e)));refine⟨⟨?_,ay h.path (λ k e=>(ai (λ e2=>h.ne1 (by rw [e];exact jC some e2))).trans (hpk k e)),ay ho (λ k e=>ai (λ e2=>hvb (by rw [e];exact jC some e2))),h.ne1,hvb,?_,h.n1,hl,hso⟩,?_⟩
 ·rw [aV (hbk.trans h.blk)];rfl
 ·rcases hat with h1|h1
  ·rw [h1];exact h.ne3
  cases hpo:pv.ownBlock with
  | none=>exact inl rfl
  | some k =>
   right;rw [h1];intro e;cases e
   have:=(h.path.lt _ hpo).2;omega
 refine(hF.reown (O2:=ff b pv v') (λ k hk=>?_)).setCell (inl (inl rfl)) _;rcases hk with h1|h1|h1
 ·exact inl (inl h1)
 ·exact inl (inr (inl h1))
 rcases hat with h2|h2
 ·exact inl (inr (inr (h2.symm.trans h1)))
 rw [h2]at h1;cases h1;exact inr hsz
theorem Bc(W:World)(B:Nat)(n:Int)(hb:W.cell? ⟨B,0,none⟩=some (.int .i64 n))(b:Nat)(r:Rt)(pv mv:Value)(h:dp W b r pv mv) :
  Calls prog 193 (#[au b 0]++#[au B 0]) W (ic b pv mv W (jj n r)):=by
 have HR:=af h;obtain⟨ma,mc,hmv⟩:=al h.marks;have c3:W.cell? ⟨b,3,none⟩=some mv:=ag h.blk;have z3:W.frozen? ⟨b,3,none⟩=false:=aj h.blk;have hbl:=ah h.blk;have hBl:B<W.heap.size:=cS hb;have n2:=h.n2;have BA:=af (λ(W1:World) (hW:Below W.heap.size W W1)=>Fc W1 mv r.marks n (ay h.marks (λ k e=>hW.block k (h.marks.lt k e).2)) h.srt (by omega));have hple:=uJ r.marks n;cases hc:r.marks.contains n with
 | true =>
  have EQ:=af (show jj n r=(r,0)by rw [jj,aS hc]);rw [hc]at BA;clear h hc;subst hmv;go_enter func193,ntmps193;go_wp2_with fail;go_region_with (go_at_call 194;refine((ae BA) _ (aY _ _).drew).mono ?_;rintro e w1 ⟨rfl,hq⟩;have hbw:Below W.heap.size W w1:=(by obtain⟨q,rfl⟩:=hq;exact below_drewN (aY _ _).drew q);have y3:=(hbw.cell (p:=⟨b,3,none⟩) hbl).trans c3;have yb:=(hbw.cell (p:=⟨B,0,none⟩) hBl).trans hb;have AA:=af hbw;clear hbw hq)
  all_goals
   go_wp2_with fail;go_ret;rw [ae EQ];exact⟨rfl,_,_,(ae HR).below (ae AA),Fr.of_below (ae AA)⟩
 | false =>
  by_cases hl:r.marks.length=8
  ·have EQ:=af (show jj n r=(r,3)by rw [jj,aG (by rw [hc];simp),aS hl]);rw [hc]at BA;have CA:=af hl;clear h hc hl;subst hmv;go_enter func193,ntmps193;go_wp2_with fail;go_region_with (go_at_call 194;refine((ae BA) _ (aY _ _).drew).mono ?_;rintro e w1 ⟨rfl,hq⟩;have hbw:Below W.heap.size W w1:=(by obtain⟨q,rfl⟩:=hq;exact below_drewN (aY _ _).drew q);have y3:=(hbw.cell (p:=⟨b,3,none⟩) hbl).trans c3;have yb:=(hbw.cell (p:=⟨B,0,none⟩) hBl).trans hb;have AA:=af hbw;clear hbw hq)
   all_goals
    have hl':((r.marks.length:Nat):Int)=8:=by have:=ae CA;omega
    go_wp2_with fail;go_ret;rw [ae EQ];exact⟨rfl,_,_,(ae HR).below (ae AA),Fr.of_below (ae AA)⟩
  obtain⟨L,hL⟩:∃ L,r.marks.take (cC r.marks n)++n::r.marks.drop (cC r.marks n)=L:=⟨_,rfl⟩
  have EQ:=af (show jj n r=({ r with marks:=L },0)by rw [jj,aG (by rw [hc];simp),aG hl,hL]);rw [hc]at BA;have EA:=af (show L.Pairwise (· < ·)by rw [<-hL];exact oY h.srt (x:=n) (by simpa using hc));have DA:=af (show L.length<=8 by rw [<-hL,eQ];omega);have hl':¬((r.marks.length:Nat):Int)=8:=by omega
  have HI:=af (λ(W1:World) (hW:Below W.heap.size W W1) (vb:Nat) (hvb:W1.heap[vb]?=some (.cells #[.int .i64 n] 3 (0,0))) (hge:W.heap.size<=vb) =>
   xD W1 mv r.marks (cC r.marks n) n vb (ay h.marks (λ k e=>hW.block k (h.marks.lt k e).2)) hple (by omega) hvb (λ e=>by have:=(h.marks.lt _ e).2;omega))
  rw [hL]at HI;clear h hc hL;subst hmv;go_enter func193,ntmps193;go_wp2_with fail;go_region_with (go_at_call 194;refine((ae BA) _ (aY _ _).drew).mono ?_;rintro e w1 ⟨rfl,hq⟩;have hbw:Below W.heap.size W w1:=(by obtain⟨q,rfl⟩:=hq;exact below_drewN (aY _ _).drew q);have y3:=(hbw.cell (p:=⟨b,3,none⟩) hbl).trans c3;have yb:=(hbw.cell (p:=⟨B,0,none⟩) hBl).trans hb;have yz:=(World.frozen?_of_block (a:=⟨b,3,none⟩) (hbw.block b hbl)).trans z3;have AA:=af hbw;clear hbw hq)
  all_goals
   have hws:=(ae AA).size;have hbl1:b<w1.heap.size:=by omega
   have hBl1:B<w1.heap.size:=by omega
   go_wp2_with fail;go_region_with (go_at_call 195;refine((ae HI) _ (((ae AA).alloc hws _).drew) w1.heap.size (cM w1 _) hws).mono ?_;rintro e w2 ⟨v',rfl,ho,hg,hat⟩;obtain⟨fa,fc,hf⟩:=al ho;have HX:=af ((ae HR).insM ((ae AA).alloc hws (.cells #[.int .i64 n] 3)).drew (ae DA) (ae EA) ho hg hat);have hbb:w2.heap[b]?=W.heap[b]?:=(hg.block b (by simp;omega) (λ e=>(ae HR).ne2 e.symm)).trans (((ae AA).alloc hws (.cells #[.int .i64 n] 3)).drew.block b hbl);have x3:w2.cell? ⟨b,3,none⟩=some (.slice ma r.marks.length mc):=(World.cell?_of_block (a:=⟨b,3,none⟩) hbb).trans c3;have xz:w2.frozen? ⟨b,3,none⟩=false:=(World.frozen?_of_block (a:=⟨b,3,none⟩) hbb).trans z3;clear ho hg hat hbb;subst hf)
   all_goals
    go_wp2_with fail;go_ret;rw [ae EQ];exact⟨rfl,pv,_,(ae HX).1,(ae HX).2⟩
theorem yr(W:World)(B:Nat)(n:Int)(hb:W.cell? ⟨B,0,none⟩=some (.int .i64 n))(b:Nat)(r:Rt)(pv mv:Value)(h:dp W b r pv mv) :
  Calls prog 197 (#[au b 0]++#[au B 0]) W (ic b pv mv W (iY n r)):=by
 have HR:=af h;obtain⟨ma,mc,hmv⟩:=al h.marks;have c3:W.cell? ⟨b,3,none⟩=some mv:=ag h.blk;have z3:W.frozen? ⟨b,3,none⟩=false:=aj h.blk;have hbl:=ah h.blk;have hBl:B<W.heap.size:=cS hb;have n2:=h.n2;have BA:=af (λ(W1:World) (hW:Below W.heap.size W W1)=>Fc W1 mv r.marks n (ay h.marks (λ k e=>hW.block k (h.marks.lt k e).2)) h.srt (by omega));have hple:=uJ r.marks n;cases hc:r.marks.contains n with
 | false =>
  have EQ:=af (show iY n r=(r,0)by rw [iY,aG (by rw [hc];simp)]);rw [hc]at BA;clear h hc;subst hmv;go_enter func197,ntmps197;go_wp2_with fail;go_region_with (go_at_call 194;refine((ae BA) _ (aY _ _).drew).mono ?_;rintro e w1 ⟨rfl,hq⟩;have hbw:Below W.heap.size W w1:=(by obtain⟨q,rfl⟩:=hq;exact below_drewN (aY _ _).drew q);have y3:=(hbw.cell (p:=⟨b,3,none⟩) hbl).trans c3;have yb:=(hbw.cell (p:=⟨B,0,none⟩) hBl).trans hb;have AA:=af hbw;clear hbw hq)
  all_goals
   go_wp2_with fail;go_ret;rw [ae EQ];exact⟨rfl,_,_,(ae HR).below (ae AA),Fr.of_below (ae AA)⟩
 | true =>
  have EQ:=af (show iY n r=({ r with marks:=r.marks.erase n },0)by rw [iY,aS hc]);rw [hc]at BA;have hin:n∈r.marks:=by simpa using hc
  have DA:=af (h.srt.erase n);have CA:=af (List.length_erase_le (a:=n) (l:=r.marks));have HI:=af (λ(W1:World) (hW:Below W.heap.size W W1)=>JG W1 mv r.marks n (ay h.marks (λ k e=>hW.block k (h.marks.lt k e).2)) h.srt hin);clear h hc hin;subst hmv;go_enter func197,ntmps197;go_wp2_with fail;go_region_with (go_at_call 194;refine((ae BA) _ (aY _ _).drew).mono ?_;rintro e w1 ⟨rfl,hq⟩;have hbw:Below W.heap.size W w1:=(by obtain⟨q,rfl⟩:=hq;exact below_drewN (aY _ _).drew q);have y3:=(hbw.cell (p:=⟨b,3,none⟩) hbl).trans c3;have yb:=(hbw.cell (p:=⟨B,0,none⟩) hBl).trans hb;have yz:=(World.frozen?_of_block (a:=⟨b,3,none⟩) (hbw.block b hbl)).trans z3;have AA:=af hbw;clear hbw hq)
  all_goals
   have hws:=(ae AA).size;go_wp2_with fail;go_wp2_with (go_at_call 198;refine((ae HI) _ (ae AA)).mono ?_;rintro e w2 ⟨v',rfl,ho,hg,hat⟩;obtain⟨fa,fc,hf⟩:=al ho;have HX:=af ((ae HR).insM (ae AA) (gG (ae CA) n2) (ae DA) ho hg hat);have hbb:w2.heap[b]?=W.heap[b]?:=(hg.block b (by omega) (λ e=>(ae HR).ne2 e.symm)).trans ((ae AA).block b hbl);have x3:w2.cell? ⟨b,3,none⟩=some (.slice ma r.marks.length mc):=(World.cell?_of_block (a:=⟨b,3,none⟩) hbb).trans c3;have xz:w2.frozen? ⟨b,3,none⟩=false:=(World.frozen?_of_block (a:=⟨b,3,none⟩) hbb).trans z3;clear ho hg hat hbb;subst hf)
   all_goals
    go_wp2_with fail;go_ret;rw [ae EQ];exact⟨rfl,pv,_,(ae HX).1,(ae HX).2⟩
theorem Tryz.entPut:Enters prog 193:=enters_of func193 (by kernel_rfl) rfl
theorem Tryz.entDrop:Enters prog 197:=enters_of func197 (by kernel_rfl) rfl
theorem yU(w:World)(n:Int) :
  Calls prog 149 #[.int .i64 n] w λ e w'=>e=.returned (.func (.func 193) #[] #[au w.heap.size 0])/\w'=w.alloc (aE (.int .i64 n) 3):=by
 have hmf:∀(fn:Fn) (first cap:Array Value) (w:World),(Instr.makeFunc fn first cap).run prog w=.ok (.func fn first cap) w:=λ _ _ _ _=>rfl
 go_enter func149,ntmps149;go_wp2_with fail;go_ret;exact⟨rfl,rfl⟩
theorem qc:lH 149 jj:=by
 intro w n A hA;refine(yU w n).mono ?_;rintro e w' ⟨rfl,rfl⟩;refine⟨_,rfl,rfl,ax.new (λ k=>k=w.heap.size) (λ k hk=>⟨by subst hk;simp,hA k (by omega)⟩) (λ W hW hk=>?_)⟩;exact⟨_,_,rfl,Tryz.entPut,λ b r pv mv hr _=>Bc W _ n (mF (hk _ rfl) (cM w _)) b r pv mv hr⟩
theorem vR(w:World)(n:Int) :
  Calls prog 151 #[.int .i64 n] w λ e w'=>e=.returned (.func (.func 197) #[] #[au w.heap.size 0])/\w'=w.alloc (aE (.int .i64 n) 3):=by
 have hmf:∀(fn:Fn) (first cap:Array Value) (w:World),(Instr.makeFunc fn first cap).run prog w=.ok (.func fn first cap) w:=λ _ _ _ _=>rfl
 go_enter func151,ntmps151;go_wp2_with fail;go_ret;exact⟨rfl,rfl⟩
theorem oC:lH 151 iY:=by
 intro w n A hA;refine(vR w n).mono ?_;rintro e w' ⟨rfl,rfl⟩;refine⟨_,rfl,rfl,ax.new (λ k=>k=w.heap.size) (λ k hk=>⟨by subst hk;simp,hA k (by omega)⟩) (λ W hW hk=>?_)⟩;exact⟨_,_,rfl,Tryz.entDrop,λ b r pv mv hr _=>yr W _ n (mF (hk _ rfl) (cM w _)) b r pv mv hr⟩
