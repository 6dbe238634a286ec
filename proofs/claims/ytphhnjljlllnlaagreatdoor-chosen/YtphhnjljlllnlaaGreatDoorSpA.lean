/- part -/
import Derived.Test.YtphhnjljlllnlaaGreatDoorSidU
import Derived.Shelf.SlSortCmp.QuietGrown
import Derived.Lib.Small
import Derived.Deep.CutRange
import Derived.Laws.OwnMore
import Derived.Lib.SliceRun
set_option maxRecDepth 100000
set_option maxHeartbeats 4000000
namespace Go.Proofs.YtphhnjljlllnlaaGreatDoor
open Go.Proofs.Tryz
open Or
open Go.RowKit Go.Sort
theorem qV(x:Int)(w:World):Calls prog 129 #[.int .i64 x] w λ e w'=>e=.returned (.bool false)/\w'=w:=by
 go_enter func129,ntmps129;go_wp2
 go_ret;exact⟨by simp,rfl⟩
theorem kS(x y:Int)(w:World):Calls prog 83 #[.int .i64 x,.int .i64 y] w λ e w'=>e=.returned (.int .i64 (Lib.compareInt x y))/\w'=w:=by
 obtain⟨c,hc⟩:∃ c,Lib.compareInt x y=c:=⟨_,rfl⟩
 rw [hc];unfold Lib.compareInt at hc;by_cases h1:x<y
 ·rw [aS h1]at hc;subst hc;go_enter func83,ntmps83;go_wp2_with (go_at_call 129;refine(qV _ _).mono ?_;rintro e w' ⟨rfl,rfl⟩)
  go_ret;exact⟨rfl,rfl⟩
 rw [aG h1]at hc;by_cases h2:x>y
 ·rw [aS h2]at hc;subst hc;go_enter func83,ntmps83;go_wp2_with (go_at_call 129;refine(qV _ _).mono ?_;rintro e w' ⟨rfl,rfl⟩)
  go_ret;exact⟨rfl,rfl⟩
 rw [aG h2]at hc;subst hc;go_enter func83,ntmps83;go_wp2_with (go_at_call 129;refine(qV _ _).mono ?_;rintro e w' ⟨rfl,rfl⟩)
 go_ret;exact⟨rfl,rfl⟩
def dD:List Int->Int
 | []=>0
 | x::l=>if x=0 then dD l else x
theorem yu{l:List Int}{k:Nat}(h:k<l.length):dD (l.drop k)=if l[k]=0 then dD (l.drop (k+1))else l[k]:=by
 rw [List.drop_eq_getElem_cons h];rfl
theorem wD(l:List Int)(b c:Nat)(w:World)(hl:l.length<=1000)(h:∀ k (hk:k<l.length),w.cell? ⟨b,k,none⟩=some (.int .i64 l[k])) :
  Calls prog 81 #[.slice (some ⟨b,0,none⟩) l.length c] w λ e w'=>e=.returned (.int .i64 (dD l))/\w'=w:=by
 have HC:=af h;clear h;go_enter func81,ntmps81;go_wp2
 go_loopw [8] (λ i wr=>∃ k:Nat,k<=l.length/\dD l=dD (l.drop k)/\i=.int .i64 k/\wr=w) (λ i _=>l.length-(intOf i).toNat)
 case atStart=>exact⟨0,dG _,rfl,rfl,rfl⟩
 case round =>
  obtain⟨k,hk,ht,rfl,rfl⟩:=hrel;by_cases hlt:k<l.length
  ·have hc:=ae HC k hlt;rw [yu hlt]at ht;by_cases hz:l[k]=0
   ·rw [aS hz]at ht;rw [hz]at hc;have HT:=af ht;clear ht hz;go_wp2
    go_roundw
    case rel=>exact⟨k+1,by omega,ae HT,by go_num,by first|rfl|trivial⟩
    case measure=>simp [intOf];omega
   rw [aG hz]at ht;have hne:(l[k] != 0)=true:=by simpa using hz
   have HT:=af ht;clear ht hz;go_wp2
   go_ret;exact⟨by rw [ae HT];rfl,rfl⟩
  have h0:l.drop k=[]:=List.drop_eq_nil_of_le (by omega);rw [h0]at ht;have HT:=af (show dD l=0 from ht);clear ht h0;go_wp2
  go_ret;exact⟨by rw [ae HT];rfl,rfl⟩
def bF(w w':World):Prop:=∃ q os,w'=grow (w.drewN q) os
theorem bF.refl(w:World):bF w w:=⟨0,#[],by rw [grow_empty];rfl⟩
theorem bF.trans{a b c:World}(h:bF a b)(g:bF b c):bF a c:=by
 obtain⟨q,os,rfl⟩:=h;obtain⟨q',os',rfl⟩:=g;exact⟨q+q',os++os',by show grow (grow ((a.drewN q).drewN q') os) os'=_;rw [grow_grow,World.drewN_drewN]⟩
theorem bF.alloc{a b:World}(h:bF a b)(o:Obj):bF a (b.alloc o):=h.trans ⟨0,#[o],by rw [alloc_eq_grow];rfl⟩
theorem bF.below{a b:World}(h:bF a b):Below a.heap.size a b:=by
 obtain⟨q,os,rfl⟩:=h;refine⟨rfl,rfl,rfl,by simp [grow,World.drewN],λ k hk=>?_⟩;show(a.heap++os)[k]?=_;rw [Array.getElem?_append_left hk]
abbrev eO(f:Nat)(args:Array Value)(v:Value)(w:World):Prop:=Calls prog f args w λ e w'=>e=.returned v/\∃ q os',w'=grow (w.drewN q) os'
theorem eO.of{f:Nat}{args:Array Value}{v:Value}{w:World}(h:Calls prog f args w λ e w'=>e=.returned v/\w'=w):eO f args v w:=h.mono λ _ _ ⟨he,hw⟩=>⟨he,0,#[],by rw [grow_empty,hw];rfl⟩
def gv(a b:Int×Int):Int:=dD [Lib.compareInt a.1 b.1,Lib.compareInt a.2 b.2]
theorem uw(a b:Int×Int)(w:World):Calls prog 82 #[.agg #[.int .i64 a.1,.int .i64 a.2],.agg #[.int .i64 b.1,.int .i64 b.2]] w λ e w'=>e=.returned (.int .i64 (gv a b))/\∃ q os,w'=grow (w.drewN q) os:=by
 obtain⟨a1,a2⟩:=a;obtain⟨b1,b2⟩:=b;obtain⟨x,hx⟩:∃ x,Lib.compareInt a1 b1=x:=⟨_,rfl⟩
 obtain⟨y,hy⟩:∃ y,Lib.compareInt a2 b2=y:=⟨_,rfl⟩
 have h1:=λ W=>eO.of (kS a1 b1 W)
 have h2:=λ W=>eO.of (kS a2 b2 W)
 rw [show gv (a1,a2) (b1,b2)=dD [x,y]from by unfold gv;rw [<-hx,<-hy]];rw [hx]at h1;rw [hy]at h2;have H1:=af h1;have H2:=af h2;clear h1 h2 hx hy;go_enter func82,ntmps82;go_upto_region 1 with fail
 have k0:((w.alloc (.cells #[.int .i64 a1,.int .i64 a2] 63)).alloc (.cells #[.int .i64 b1,.int .i64 b2] 63)).heap[w.heap.size]?=some (.cells #[.int .i64 a1,.int .i64 a2] 63 (0,0)):=(mC _ _ _ (by simp)).trans (cM _ _);have k1:((w.alloc (.cells #[.int .i64 a1,.int .i64 a2] 63)).alloc (.cells #[.int .i64 b1,.int .i64 b2] 63)).heap[w.heap.size+1]?=some (.cells #[.int .i64 b1,.int .i64 b2] 63 (0,0)):=by have:=cM (w.alloc (.cells #[.int .i64 a1,.int .i64 a2] 63)) (.cells #[.int .i64 b1,.int .i64 b2] 63);rwa [World.size_alloc]at this
 generalize hW:(w.alloc (.cells #[.int .i64 a1,.int .i64 a2] 63)).alloc (.cells #[.int .i64 b1,.int .i64 b2] 63)=W at k0 k1 ⊢;have HW:=af hW;clear hW;have l0:w.heap.size<W.heap.size:=ah k0;have l1:w.heap.size+1<W.heap.size:=ah k1;have c0:=λ n os=>cell_grown (w:=W) (a:=⟨w.heap.size,0,none⟩) l0 (ag k0) n os
 have c1:=λ n os=>cell_grown (w:=W) (a:=⟨w.heap.size,1,none⟩) l0 (ag k0) n os
 have c2:=λ n os=>cell_grown (w:=W) (a:=⟨w.heap.size+1,0,none⟩) l1 (ag k1) n os
 have c3:=λ n os=>cell_grown (w:=W) (a:=⟨w.heap.size+1,1,none⟩) l1 (ag k1) n os
 refine kG (C:=λ w'=>∃ p:GrownBy,w'=grow (W.drewN p.n) p.os) 8 10 (by kernel_rfl) (by kernel_rfl) ⟨⟨1,#[]⟩,by rw [grow_empty];rfl⟩ ?_;simp only [List.take_succ_cons,List.take_zero,List.drop_succ_cons,List.drop_zero]
 quiet_step (fail)
 quiet_step (fail)
 quiet_step (fail)
 quiet_step (fail)
 quiet_step ((go_at_call 83;exact Calls.grown_of (ae H1 _)))
 quiet_step (fail)
 quiet_step (fail)
 quiet_step (fail)
 quiet_step (fail)
 quiet_step ((go_at_call 83;exact Calls.grown_of (ae H2 _)))
 refine wpQuiet_nil ?_;intro _ hw';obtain⟨⟨nq,osq⟩,hw''⟩:=hw';subst hw'';dsimp only;generalize hV:grow (W.drewN nq) osq=V;have HV:=af hV;clear hV
 have HO:=af (wD [x,y] V.heap.size 2 (V.alloc (.cells #[.int .i64 x,.int .i64 y] 3)) (by simp) (by
  have q:=cM V (.cells #[.int .i64 x,.int .i64 y] 3);intro k hk
  match k,hk with
  | 0,_=>exact ag q
  | 1,_=>exact ag q))
 go_wp2_with (go_at_call 81;refine(ae HO).mono ?_;rintro e w' ⟨rfl,rfl⟩)
 go_ret;refine⟨rfl,?_⟩;have h1:bF w W:=by rw [<-ae HW];exact((bF.refl w).alloc _).alloc _
 exact(h1.trans ⟨nq,osq,(ae HV).symm⟩).alloc _
structure Kp where
 r:Rt
 pq:Option Addr
 pc:Nat
 mq:Option Addr
 mc:Nat
 peer:Int
def ey(x:Kp):List Value:=[.int .i64 x.r.addr,.int .i64 x.r.len,.slice x.pq x.r.path.length x.pc,.slice x.mq x.r.marks.length x.mc,.int .i64 x.r.pref,.int .i64 x.r.med,.int .i64 x.peer]
def EM(a b:Kp):Int:=dD [gv (a.r.addr,a.r.len) (b.r.addr,b.r.len),Lib.compareInt b.r.pref a.r.pref,Lib.compareInt a.r.path.length b.r.path.length,Lib.compareInt a.r.med b.r.med,Lib.compareInt a.peer b.peer]
theorem LW(a b:Kp)(w:World):eO 54 #[.agg (ey a).toArray,.agg (ey b).toArray] (.int .i64 (EM a b)) w:=by
 obtain⟨x0,e0⟩:∃ x,gv (a.r.addr,a.r.len) (b.r.addr,b.r.len)=x:=⟨_,rfl⟩
 obtain⟨x1,e1⟩:∃ x,Lib.compareInt b.r.pref a.r.pref=x:=⟨_,rfl⟩
 obtain⟨x2,e2⟩:∃ x,Lib.compareInt a.r.path.length b.r.path.length=x:=⟨_,rfl⟩
 obtain⟨x3,e3⟩:∃ x,Lib.compareInt a.r.med b.r.med=x:=⟨_,rfl⟩
 obtain⟨x4,e4⟩:∃ x,Lib.compareInt a.peer b.peer=x:=⟨_,rfl⟩
 have h0:=λ W=>uw (a.r.addr,a.r.len) (b.r.addr,b.r.len) W
 have h1:=λ W=>eO.of (kS b.r.pref a.r.pref W)
 have h2:=λ W=>eO.of (kS a.r.path.length b.r.path.length W)
 have h3:=λ W=>eO.of (kS a.r.med b.r.med W)
 have h4:=λ W=>eO.of (kS a.peer b.peer W)
 rw [show EM a b=dD [x0,x1,x2,x3,x4]from by unfold EM;rw [<-e0,<-e1,<-e2,<-e3,<-e4]];rw [e0]at h0;rw [e1]at h1;rw [e2]at h2;rw [e3]at h3;rw [e4]at h4;have H0:=af h0;have H1:=af h1;have H2:=af h2;have H3:=af h3;have H4:=af h4;clear h0 h1 h2 h3 h4 e0 e1 e2 e3 e4;obtain⟨⟨a0,a1,ap,am,a4,a5⟩,aq,ac,aq2,ac2,a6⟩:=a;obtain⟨⟨b0,b1,bp,bm,b4,b5⟩,bq,bc,bq2,bc2,b6⟩:=b;dsimp only [ey]at *;generalize ap.length=n1 at *;generalize bp.length=n2 at *;generalize am.length=n3 at *;generalize bm.length=n4 at *;go_enter func54,ntmps54;go_upto_region 1 with fail
 obtain⟨k0,k1,_⟩:=fp w (.cells #[.int .i64 a0,.int .i64 a1,.slice aq n1 ac,.slice aq2 n3 ac2,.int .i64 a4,.int .i64 a5,.int .i64 a6] 67) (.cells #[.int .i64 b0,.int .i64 b1,.slice bq n2 bc,.slice bq2 n4 bc2,.int .i64 b4,.int .i64 b5,.int .i64 b6] 67);generalize hW:(w.alloc (.cells #[.int .i64 a0,.int .i64 a1,.slice aq n1 ac,.slice aq2 n3 ac2,.int .i64 a4,.int .i64 a5,.int .i64 a6] 67)).alloc (.cells #[.int .i64 b0,.int .i64 b1,.slice bq n2 bc,.slice bq2 n4 bc2,.int .i64 b4,.int .i64 b5,.int .i64 b6] 67)=W at k0 k1 ⊢;have HW:=af hW;clear hW;have l0:w.heap.size<W.heap.size:=ah k0;have l1:w.heap.size+1<W.heap.size:=ah k1;have c0:=λ n os=>cell_grown (w:=W) (a:=⟨w.heap.size,0,none⟩) l0 (ag k0) n os
 have c1:=λ n os=>cell_grown (w:=W) (a:=⟨w.heap.size,1,none⟩) l0 (ag k0) n os
 have c2:=λ n os=>cell_grown (w:=W) (a:=⟨w.heap.size,2,none⟩) l0 (ag k0) n os
 have c4:=λ n os=>cell_grown (w:=W) (a:=⟨w.heap.size,4,none⟩) l0 (ag k0) n os
 have c5:=λ n os=>cell_grown (w:=W) (a:=⟨w.heap.size,5,none⟩) l0 (ag k0) n os
 have c6:=λ n os=>cell_grown (w:=W) (a:=⟨w.heap.size,6,none⟩) l0 (ag k0) n os
 have d0:=λ n os=>cell_grown (w:=W) (a:=⟨w.heap.size+1,0,none⟩) l1 (ag k1) n os
 have d1:=λ n os=>cell_grown (w:=W) (a:=⟨w.heap.size+1,1,none⟩) l1 (ag k1) n os
 have d2:=λ n os=>cell_grown (w:=W) (a:=⟨w.heap.size+1,2,none⟩) l1 (ag k1) n os
 have d4:=λ n os=>cell_grown (w:=W) (a:=⟨w.heap.size+1,4,none⟩) l1 (ag k1) n os
 have d5:=λ n os=>cell_grown (w:=W) (a:=⟨w.heap.size+1,5,none⟩) l1 (ag k1) n os
 have d6:=λ n os=>cell_grown (w:=W) (a:=⟨w.heap.size+1,6,none⟩) l1 (ag k1) n os
 clear k0 k1;refine kG (C:=λ w'=>∃ p:GrownBy,w'=grow (W.drewN p.n) p.os) 8 35 (by kernel_rfl) (by kernel_rfl) ⟨⟨1,#[]⟩,by rw [grow_empty];rfl⟩ ?_;simp only [List.take_succ_cons,List.take_zero,List.drop_succ_cons,List.drop_zero]
 repeat (quiet_step ((first
  | (go_at_call 82;with_reducible exact Calls.grown_of (ae H0 _))
  | (go_at_call 83;with_reducible exact Calls.grown_of (ae H1 _))
  | (go_at_call 83;with_reducible exact Calls.grown_of (ae H2 _))
  | (go_at_call 83;with_reducible exact Calls.grown_of (ae H3 _))
  | (go_at_call 83;with_reducible exact Calls.grown_of (ae H4 _)))))
 refine wpQuiet_nil ?_;intro _ hw';obtain⟨⟨nq,osq⟩,hw''⟩:=hw';subst hw'';dsimp only;generalize hV:grow (W.drewN nq) osq=V;have HV:=af hV;clear hV
 have HO:=af (wD [x0,x1,x2,x3,x4] V.heap.size 5 (V.alloc (.cells #[.int .i64 x0,.int .i64 x1,.int .i64 x2,.int .i64 x3,.int .i64 x4] 3)) (by simp) (by
  have q:=cM V (.cells #[.int .i64 x0,.int .i64 x1,.int .i64 x2,.int .i64 x3,.int .i64 x4] 3);intro k hk
  match k,hk with
  | 0,_=>exact ag q
  | 1,_=>exact ag q
  | 2,_=>exact ag q
  | 3,_=>exact ag q
  | 4,_=>exact ag q))
 clear c0 c1 c2 c4 c5 c6 d0 d1 d2 d4 d5 d6;go_wp2_with (go_at_call 81;refine(ae HO).mono ?_;rintro e w' ⟨rfl,rfl⟩)
 go_ret;refine⟨rfl,?_⟩;have h1:bF w W:=by rw [<-ae HW];exact((bF.refl w).alloc _).alloc _
 exact(h1.trans ⟨nq,osq,(ae HV).symm⟩).alloc _
structure Rv where
 r:Rt
 pq:Option Addr
 pc:Nat
 mq:Option Addr
 mc:Nat
def bQ(x:Rv):List Value:=[.int .i64 x.r.addr,.int .i64 x.r.len,.slice x.pq x.r.path.length x.pc,.slice x.mq x.r.marks.length x.mc,.int .i64 x.r.pref,.int .i64 x.r.med]
def Rv.net(x:Rv):Int×Int:=(x.r.addr,x.r.len)
def bW(l:List Rv):List Value:=l.flatMap bQ
theorem gu(x:Rv):(bQ x).length=6:=rfl
theorem dN(l:List Rv):(bW l).length=l.length*6:=by
 induction l with
 | nil=>rfl
 | cons x l ih=>simp only [bW,List.flatMap_cons,List.length_append,gu,List.length_cons]at *;omega
theorem Bn:∀(l:List Rv) (k:Nat) (h:k<l.length) (i:Nat),i<6->(bW l)[k*6+i]?=(bQ l[k])[i]?
 | x::l,0,_,i,hi=>by
  rw [Nat.zero_mul,Nat.zero_add,bW,List.flatMap_cons,List.getElem?_append_left (by rw [gu];exact hi)];rfl
 | x::l,k+1,h,i,hi=>by
  rw [bW,List.flatMap_cons,List.getElem?_append_right (by rw [gu];omega),gu,show(k+1)*6+i-6=k*6+i by omega];exact Bn l k (by simpa using h) i hi
def bS(w:World)(base:Nat)(v:Value)(l:List Rv):Prop:=w.ownsRow base 65 6 v l.length (bW l)
theorem bS.cell{w:World}{base g cap:Nat}{l:List Rv}(h:bS w base (.slice (some ⟨g,0,none⟩) l.length cap) l){k i:Nat}(hk:k<l.length)(hi:i<6):w.cell? ⟨g,k*6+i,none⟩=(bQ l[k])[i]?:=by
 rw [World.ownsRow.cellAt (h:w.ownsRow _ _ _ _ _ _) (k*6+i) (by have:(k+1)*6<=l.length*6:=Nat.mul_le_mul_right 6 hk;omega)];exact Bn l k hk i hi
theorem F5(x:Rv)(n:Int×Int)(w:World):eO 169 #[.agg (bQ x).toArray,.agg #[.int .i64 n.1,.int .i64 n.2]] (.int .i64 (gv x.net n)) w:=by
 have H:=af (λ W=>uw x.net n W);obtain⟨⟨a0,a1,ap,am,a4,a5⟩,aq,ac,aq2,ac2⟩:=x;obtain⟨b1,b2⟩:=n;dsimp only [bQ,Rv.net]at *;generalize gv (a0,a1) (b1,b2)=c at *;generalize ap.length=n1 at *;generalize am.length=n3 at *;go_enter func169,ntmps169;go_wp2_with (go_at_call 82;refine(ae H _).mono ?_;rintro e w' ⟨rfl,q,os,rfl⟩)
 go_ret;exact⟨rfl,bF.trans (((bF.refl w).alloc _).alloc _) ⟨q,os,rfl⟩⟩
theorem kT{x y:Int}:Lib.compareInt x y<0↔x<y:=by
 unfold Lib.compareInt;split
 ·simp [*]
 split<;>simp [*]
theorem fV{x y:Int}:Lib.compareInt x y=0↔x=y:=by
 unfold Lib.compareInt;split
 ·simp;omega
 split<;>simp<;>omega
theorem ET(a b:Int×Int):gv a b=if Lib.compareInt a.1 b.1=0 then Lib.compareInt a.2 b.2 else Lib.compareInt a.1 b.1:=by
 unfold gv dD dD dD;split
 ·split<;>simp_all
 rfl
def ck(a b:Int×Int):Prop:=a.1<b.1\/a.1=b.1/\a.2<b.2
theorem io{a b:Int×Int}:gv a b<0↔ck a b:=by
 rw [ET];unfold ck;split
 ·rename_i h;rw [fV]at h;rw [kT];omega
 rename_i h;rw [fV]at h;rw [kT];omega
theorem kZ{a b:Int×Int}:gv a b=0↔a=b:=by
 rw [ET];obtain⟨a1,a2⟩:=a;obtain⟨b1,b2⟩:=b;simp only [Prod.mk.injEq];split
 ·rename_i h;rw [fV]at h;rw [fV];simp [h]
 rename_i h;rw [fV]at h;constructor
 ·intro h2;rw [fV]at h2;exact absurd h2 h
 intro h2;exact absurd h2.1 h
theorem ck.trans{a b c:Int×Int}(h:ck a b)(g:ck b c):ck a c:=by unfold ck at *;omega
theorem ck.irr{a:Int×Int}:¬ck a a:=by unfold ck;omega
def eo(l:List Rv):Prop:=l.Pairwise λ a b=>ck a.net b.net
def dj(l:List Rv)(n:Int×Int):Nat:=(l.takeWhile λ x=>decide (gv x.net n<0)).length
theorem EP(l:List Rv)(n:Int×Int):dj l n<=l.length:=(List.takeWhile_sublist _).length_le
theorem j2:∀{l:List Rv} {n:Int×Int},eo l->∀ k (h:k<l.length),gv l[k].net n<0↔k<dj l n
 | x::l,n,hs,k,hk=>by
  obtain⟨h1,h2⟩:=List.pairwise_cons.1 hs;unfold dj;by_cases hx:gv x.net n<0
  ·rw [List.takeWhile_cons_of_pos (by simpa using hx),List.length_cons]
   match k,hk with
   | 0,_=>simp [hx]
   | k+1,hk =>
    have:=j2 h2 k (by simpa using hk) (n:=n);unfold dj at this;simp only [List.getElem_cons_succ];rw [this];omega
  rw [List.takeWhile_cons_of_neg (by simpa using hx)];simp only [List.length_nil,Nat.not_lt_zero,iff_false]
  match k,hk with
  | 0,_=>exact hx
  | k+1,hk =>
   simp only [List.getElem_cons_succ];intro hy;exact hx (io.2 ((h1 _ (ej _)).trans (io.1 hy)))
theorem bS.fr{w w':World}{base:Nat}{v:Value}{l:List Rv}(h:bS w base v l)(hk:∀ k,v.ownBlock=some k->w'.heap[k]?=w.heap[k]?):bS w' base v l:=ay h hk
theorem bS.grown{w w':World}{base:Nat}{v:Value}{l:List Rv}(h:bS w base v l)(hg:bF w w'):bS w' base v l:=h.fr λ k e=>hg.below.block k (World.ownsRow.lt h k e).2
theorem bS.atG{w:World}{base:Nat}{q:Option Addr}{cap:Nat}{l:List Rv}(h:bS w base (.slice q l.length cap) l)(hl:0<l.length):∃ g,q=some ⟨g,0,none⟩/\g<w.heap.size/\l.length<=cap:=by
 have hlt:=World.ownsRow.lt h;obtain⟨_,⟨_,h2⟩|⟨g,c,cur,h2,_,h3,h4,_⟩⟩:=h
 ·omega
 cases h2
 exact⟨g,rfl,(hlt g rfl).2,h4⟩
theorem bF.drew{a b:World}(h:bF a b):bF a b.drew:=h.trans ⟨1,#[],by rw [grow_empty];rfl⟩
theorem Mu{a:Value}{x y:Bool}(h:x=y):Ending.returned (.tuple #[a,.bool x])=.returned (.tuple #[a,.bool y]):=by rw [h]
theorem NI{a b:Nat}(h:a<b):(a+b) / 2<b/\a<=(a+b) / 2:=by omega
theorem Lf(l:List Rv)(v:Value)(n:Int×Int)(w:World)(hl:l.length<=100000)(ht:bS w 0 v l)(hs:eo l) :
  Calls prog 168 #[v,.agg #[.int .i64 n.1,.int .i64 n.2],.func (.func 169) #[] #[]] w λ e w'=>e=.returned (.tuple #[.int .i64 (dj l n),.bool (decide (∃ h:dj l n<l.length,l[dj l n].net=n))])/\bF w w':=by
 obtain⟨q,cap,rfl⟩:=al ht;have H:=af (λ x W=>F5 x n W);have HI:=af (λ k h=>j2 hs k h (n:=n));have HL:=EP l n;have HT:=af ht;generalize hlo:dj l n=lo at *;have DA:=af hlo;clear hlo hs ht;obtain⟨b1,b2⟩:=n;go_enter func168,ntmps168;go_wp2
 go_loopw [9,10] (λ i j wr=>∃ a b:Nat,a<=lo/\lo<=b/\b<=l.length/\i=.int .i64 a/\j=.int .i64 b/\bF (w.alloc (.cells #[.int .i64 b1,.int .i64 b2] 63)) wr) (λ i j _=>(intOf j).toNat-(intOf i).toNat)
 case atStart=>exact⟨0,l.length,by omega,by omega,by omega,by simp,by simp,bF.refl _⟩
 case round =>
  obtain⟨a,b,ha,hb,hbl,rfl,rfl,hg⟩:=hrel;have HG:=af hg;clear hg;by_cases hab:a<b
  ·obtain⟨m1,m2⟩:=NI hab;go_upto_region 5 with fail
   have hm:(a+b) / 2<l.length:=by omega
   obtain⟨g,rfl,hg,hgc⟩:=(ae HT).atG (by omega);have hT:=((ae HT).grown ((bF.refl w).alloc (.cells #[.int .i64 b1,.int .i64 b2] 63))).grown (ae HG);have hgr:g<wr.heap.size:=by have:=(ae HG).below.size;rw [World.size_alloc]at this;omega
   have kb:wr.heap[w.heap.size]?=some (.cells #[.int .i64 b1,.int .i64 b2] 63 (0,0)):=((ae HG).below.block _ (by simp)).trans (cM w _);have lb:w.heap.size<wr.heap.size:=ah kb;have t0:=λ n os=>cell_grown (w:=wr) (a:=⟨w.heap.size,0,none⟩) lb (ag kb) n os
   have t1:=λ n os=>cell_grown (w:=wr) (a:=⟨w.heap.size,1,none⟩) lb (ag kb) n os
   have HI1:=ae HI _ hm;have HC1:=ae H l[(a+b) / 2];have e:((a:Int)+(b:Int)) / 2=(((a+b) / 2:Nat):Int):=by omega
   rw [e];clear e;generalize hmm:(a+b) / 2=m at *;have q0:=λ n os=>cell_grown (w:=wr) (a:=⟨g,m*6,none⟩) hgr (hT.cell hm (i:=0) (by decide)) n os
   have q1:=λ n os=>cell_grown (w:=wr) (a:=⟨g,m*6+1,none⟩) hgr (hT.cell hm (by decide)) n os
   have q2:=λ n os=>cell_grown (w:=wr) (a:=⟨g,m*6+2,none⟩) hgr (hT.cell hm (by decide)) n os
   have q3:=λ n os=>cell_grown (w:=wr) (a:=⟨g,m*6+3,none⟩) hgr (hT.cell hm (by decide)) n os
   have q4:=λ n os=>cell_grown (w:=wr) (a:=⟨g,m*6+4,none⟩) hgr (hT.cell hm (by decide)) n os
   have q5:=λ n os=>cell_grown (w:=wr) (a:=⟨g,m*6+5,none⟩) hgr (hT.cell hm (by decide)) n os
   clear hT hmm kb;generalize l[m]=x at *;obtain⟨⟨a0,a1,ap,am,a4,a5⟩,aq,ac,aq2,ac2⟩:=x;dsimp only [bQ,Rv.net]at *;generalize gv (a0,a1) (b1,b2)=c at *;generalize ap.length=n1 at *;generalize am.length=n3 at *;have CA:=af HI1;have AA:=af HC1;clear HI1 HC1;have hmx:prog.follows .mixedOrders=true:=by kernel_rfl
   have eg:∀ args w,(callFunc 169 args).run prog w=.ok (.enter 169 args) w:=enters_of func169 (by kernel_rfl) rfl;cases hc:decide (c<0)with
   | true =>
    have hc':c<0:=of_decide_eq_true hc
    go_quiet_grown ((go_at_fn 169;with_reducible exact Calls.grown_of (ae AA _)))
    dsimp only;have BA:=af ((ae HG).trans ⟨nq,osq,rfl⟩);generalize grow (wr.drewN nq) osq=wq at *;have HM:=af ((ae CA).1 hc');clear q0 q1 q2 q3 q4 q5 t0 t1 eg hmx hc hc' AA;go_wp2
    go_roundw
    case rel=>exact⟨m+1,b,ae HM,hb,hbl,by simp,by simp,ae BA⟩
    case measure=>simp [intOf];omega
   | false =>
    have hc':¬c<0:=of_decide_eq_false hc
    go_quiet_grown ((go_at_fn 169;with_reducible exact Calls.grown_of (ae AA _)))
    dsimp only;have BA:=af ((ae HG).trans ⟨nq,osq,rfl⟩);generalize grow (wr.drewN nq) osq=wq at *;have HM:=af (λ h=>hc' ((ae CA).2 h));clear q0 q1 q2 q3 q4 q5 t0 t1 eg hmx hc hc' AA;go_wp2
    go_roundw
    case rel=>exact⟨a,m,ha,Nat.le_of_not_lt (ae HM),by omega,by simp,by simp,ae BA⟩
    case measure=>simp [intOf];omega
  have hba:b=a:=by omega
  subst hba;have hal:b=lo:=by omega
  subst hal;clear hab;have hmx:prog.follows .mixedOrders=true:=by kernel_rfl
  cases h8:decide (b<l.length)with
  | true =>
   go_upto_region 8 with fail
   have hm:b<l.length:=of_decide_eq_true h8;obtain⟨g,rfl,hg,hgc⟩:=(ae HT).atG (by omega);have hT:=((ae HT).grown ((bF.refl w).alloc (.cells #[.int .i64 b1,.int .i64 b2] 63))).grown (ae HG);have hgr:g<wr.heap.size:=by have:=(ae HG).below.size;rw [World.size_alloc]at this;omega
   have kb:wr.heap[w.heap.size]?=some (.cells #[.int .i64 b1,.int .i64 b2] 63 (0,0)):=((ae HG).below.block _ (by simp)).trans (cM w _);have lb:w.heap.size<wr.heap.size:=ah kb;have t0:=λ n os=>cell_grown (w:=wr) (a:=⟨w.heap.size,0,none⟩) lb (ag kb) n os
   have t1:=λ n os=>cell_grown (w:=wr) (a:=⟨w.heap.size,1,none⟩) lb (ag kb) n os
   have HC1:=ae H l[b];have q0:=λ n os=>cell_grown (w:=wr) (a:=⟨g,b*6,none⟩) hgr (hT.cell hm (i:=0) (by decide)) n os
   have q1:=λ n os=>cell_grown (w:=wr) (a:=⟨g,b*6+1,none⟩) hgr (hT.cell hm (by decide)) n os
   have q2:=λ n os=>cell_grown (w:=wr) (a:=⟨g,b*6+2,none⟩) hgr (hT.cell hm (by decide)) n os
   have q3:=λ n os=>cell_grown (w:=wr) (a:=⟨g,b*6+3,none⟩) hgr (hT.cell hm (by decide)) n os
   have q4:=λ n os=>cell_grown (w:=wr) (a:=⟨g,b*6+4,none⟩) hgr (hT.cell hm (by decide)) n os
   have q5:=λ n os=>cell_grown (w:=wr) (a:=⟨g,b*6+5,none⟩) hgr (hT.cell hm (by decide)) n os
   have HD:=af (show decide (∃ h:b<l.length,l[b].net=(b1,b2))=(gv l[b].net (b1,b2)==0)from by
    cases hc:gv l[b].net (b1,b2)==0 with
    | true=>exact Fh ⟨hm,kZ.1 (by simpa using hc)⟩
    | false=>exact Cf λ⟨_,h⟩=>by rw [kZ.2 h]at hc;cases hc)
   clear hT kb;generalize l[b]=x at *;obtain⟨⟨a0,a1,ap,am,a4,a5⟩,aq,ac,aq2,ac2⟩:=x;dsimp only [bQ,Rv.net]at *;generalize gv (a0,a1) (b1,b2)=c at *;generalize ap.length=n1 at *;generalize am.length=n3 at *;have AA:=af HC1;clear HC1;have eg:∀ args w,(callFunc 169 args).run prog w=.ok (.enter 169 args) w:=enters_of func169 (by kernel_rfl) rfl
   go_quiet_grown ((go_at_fn 169;with_reducible exact Calls.grown_of (ae AA _)))
   have BA:=af ((ae HG).trans ⟨nq,osq,rfl⟩);have HD2:=ae HD;clear q0 q1 q2 q3 q4 q5 t0 t1 eg hmx AA HD;dsimp only;generalize grow (wr.drewN nq) osq=wq at BA ⊢;generalize (c==0)=z at HD2 ⊢;have HD:=af HD2;clear HD2 h8;go_wp2
   refine gH (v:=.tuple #[.int .i64 b,.bool z]) (by simp [results,results168,go_sem]) rfl ?_;exact⟨Mu (ae HD).symm,((bF.refl w).alloc _).trans (ae BA)⟩
  | false =>
   have hbl2:¬b<l.length:=of_decide_eq_false h8;have HD:=af (show decide (∃ h:b<l.length,l[b].net=(b1,b2))=false from Cf λ⟨h,_⟩=>hbl2 h);have hbe:b=l.length:=by omega
   subst hbe;clear hbl2 h8 hb hbl ha HL;go_upto_region 8 with fail
   go_region
   go_wp2
   refine gH (v:=.tuple #[.int .i64 l.length,.bool false]) (by simp [results,results168,go_sem]) rfl ?_;exact⟨by rw [ae HD],(((bF.refl w).alloc _).trans (ae HG)).drew⟩
def sr(l:List Rv)(n:Int×Int):Bool:=decide (∃ h:dj l n<l.length,l[dj l n].net=n)
theorem xM(l:List Rv)(v:Value)(n:Int×Int)(w:World)(b o:Nat)(hc:w.cell? ⟨b,o,none⟩=some v)(hb:b<w.heap.size)(hl:l.length<=100000)(ht:bS w 0 v l)(hs:eo l) :
  Calls prog 116 #[.pointer (some ⟨b,o,none⟩),.agg #[.int .i64 n.1,.int .i64 n.2]] w λ e w'=>e=.returned (.tuple #[.int .i64 (dj l n),.bool (sr l n)])/\bF w w':=by
 obtain⟨n1,n2⟩:=n;have hg:bF w (w.alloc (.cells #[.int .i64 n1,.int .i64 n2] 63)):=(bF.refl w).alloc _;have hn:=cM w (.cells #[.int .i64 n1,.int .i64 n2] 63);have hc1:(w.alloc (.cells #[.int .i64 n1,.int .i64 n2] 63)).cell? ⟨b,o,none⟩=some v:=(hg.below.cell (p:=⟨b,o,none⟩) hb).trans hc;have ht1:=ht.grown hg;have hbs:=hg.below.size;generalize hW:w.alloc (.cells #[.int .i64 n1,.int .i64 n2] 63)=W at hg hn hc1 ht1 hbs;have lb:w.heap.size<W.heap.size:=ah hn;have lb2:b<W.heap.size:=by omega
 have t0:=λ n os=>cell_grown (w:=W) (a:=⟨w.heap.size,0,none⟩) lb (ag hn) n os
 have t1:=λ n os=>cell_grown (w:=W) (a:=⟨w.heap.size,1,none⟩) lb (ag hn) n os
 have t2:=λ n os=>cell_grown (w:=W) (a:=⟨b,o,none⟩) lb2 hc1 n os
 obtain⟨q,cap,rfl⟩:=al ht;have HC:=af (λ(n:Nat) (os:Array Obj)=>Lf l _ (n1,n2) (grow (W.drewN n) os) hl (ht1.grown ⟨n,os,rfl⟩) hs);have HW:=af hW;have HG:=af hg;clear hW hg hn hc hc1 ht ht1 hs hbs;unfold sr;generalize dj l (n1,n2)=lo at *;have HF:=af (rfl:decide (∃ h:lo<l.length,l[lo].net=(n1,n2))=decide (∃ h:lo<l.length,l[lo].net=(n1,n2)));generalize decide (∃ h:lo<l.length,l[lo].net=(n1,n2))=z at *;have hmx:prog.follows .mixedOrders=true:=by kernel_rfl
 go_enter func116,ntmps116;go_upto_region 1 with fail
 rw [ae HW]
 go_quiet_grown ((go_at_call 168;with_reducible exact Calls.grown_of (ae HC _ _)))
 dsimp only;have AA:=af ((ae HG).trans ⟨nq,osq,rfl⟩);clear t0 t1 t2 HC;generalize grow (W.drewN nq) osq=wq at AA ⊢;go_wp2
 refine gH (v:=.tuple #[.int .i64 lo,.bool z]) (by simp [results,results116,go_sem]) rfl ?_;exact⟨rfl,ae AA⟩
theorem fS(a b:List Rv):bW (a++b)=bW a++bW b:=List.flatMap_append
theorem lk:∀(l:List Rv) (i:Nat),bW (l.take i)=(bW l).take (i*6)
 | [],_=>by simp [bW]
 | _::_,0=>by simp [bW]
 | x::l,i+1=>by
  have ih:=lk l i;unfold bW at *;rw [List.take_succ_cons,List.flatMap_cons,List.flatMap_cons,ih,show(i+1)*6=(bQ x).length+i*6 by rw [gu];omega,List.take_length_add_append]
theorem lj:∀(l:List Rv) (i:Nat),bW (l.drop i)=(bW l).drop (i*6)
 | [],_=>by simp [bW]
 | _::_,0=>by simp [bW]
 | x::l,i+1=>by
  have ih:=lj l i;unfold bW at *;rw [List.drop_succ_cons,List.flatMap_cons,ih,show(i+1)*6=(bQ x).length+i*6 by rw [gu];omega,List.drop_length_add_append]
theorem iy{l:List Rv}:∀ v∈bW l,v.oneCell'=true:=λ v hv=>by
 unfold bW at hv;obtain⟨x,_,hx⟩:=List.mem_flatMap.1 hv;simp only [bQ,List.mem_cons,List.not_mem_nil,or_false]at hx;rcases hx with rfl|rfl|rfl|rfl|rfl|rfl<;>rfl
structure eS(w:World)(g:Nat)(w':World):Prop where
 os:w'.os=w.os
 tape:w'.tape=w.tape
 output:w'.output=w.output
 size:w'.heap.size=w.heap.size
 other:∀ k,k≠g->w'.heap[k]?=w.heap[k]?
theorem eS.refl(w:World)(g:Nat):eS w g w:=⟨rfl,rfl,rfl,rfl,λ _ _=>rfl⟩
theorem eS.trans{a b c:World}{g:Nat}(h:eS a g b)(k:eS b g c):eS a g c:=⟨k.os.trans h.os,k.tape.trans h.tape,k.output.trans h.output,k.size.trans h.size,λ j hj=>(k.other j hj).trans (h.other j hj)⟩
theorem eS.drew{a b:World}{g:Nat}(h:eS a g b):eS a g b.drew:=⟨h.os,h.tape,h.output,h.size,h.other⟩
theorem eS.one(w:World)(g o:Nat)(v:Value):eS w g (w.setCell ⟨g,o,none⟩ v):=by
 refine⟨rfl,rfl,rfl,by simp [World.setCell],λ k hk=>?_⟩;simp only [World.setCell];rw [Array.getElem?_modify];simp [Ne.symm hk]
theorem eS.fr{w w':World}{g:Nat}(h:eS w g w'):Fr (· = g) w (· = g) w':=⟨h.os,h.tape,h.output,by rw [h.size];exact aL _,λ k _ hk=>h.other k hk,λ k hk=>inl hk⟩
theorem dm{w:World}{g o:Nat}{cur:Array Value}{t:TypeId}{v:Value}(h:w.heap[g]?=some (.cells cur t (0,0))):(w.setCell ⟨g,o,none⟩ v).heap[g]?=some (.cells (cur.setIfInBounds o v) t (0,0)):=by
 simp only [World.setCell];rw [Array.getElem?_modify];simp [h]
theorem dt(g:Nat)(t:TypeId):∀(vs:List Value) (o:Nat) (cur:Array Value) (w:World),w.heap[g]?=some (.cells cur t (0,0))->o+vs.length<=cur.size ->
  eS w g (w.setCells g o vs)/\∃ cur',(w.setCells g o vs).heap[g]?=some (.cells cur' t (0,0))/\cur'.toList=cur.toList.take o++vs++cur.toList.drop (o+vs.length)
 | [],o,cur,w,h,_=>⟨eS.refl _ _,cur,h,by simp⟩
 | v::r,o,cur,w,h,hl=>by
  simp only [List.length_cons]at hl;obtain⟨h1,cur',h2,h3⟩:=dt g t r (o+1) (cur.setIfInBounds o v) (w.setCell ⟨g,o,none⟩ v) (dm h) (by simp;omega);refine⟨(eS.one w g o v).trans h1,cur',h2,?_⟩;rw [h3,Array.toList_setIfInBounds]
  have e1:(cur.toList.set o v).take (o+1)=cur.toList.take o++[v]:=by
   have hlen:(cur.toList.take o).length=o:=by simp;omega
   rw [List.take_set,List.take_succ_eq_append_getElem (by simp;omega),List.set_append_right o v (by omega),hlen,Nat.sub_self]
   rfl
  rw [e1,List.drop_set_of_lt (by omega),List.length_cons];simp [Nat.add_assoc,Nat.add_comm 1]
theorem nF(z:Array Value)(n:Nat):(Builtin.zeroCells z n).toList.length=n*z.size:=by simp [Builtin.zeroCells]
theorem KL{z:Array Value}{n:Nat}(hz:0<z.size)(h1:∀ v∈z,v.oneCell'=true):∀ v∈(Builtin.zeroCells z n).toList,v.oneCell'=true:=λ v hv=>by
 simp only [Builtin.zeroCells,Array.toList_map,List.mem_map]at hv;obtain⟨i,_,rfl⟩:=hv;have hm:i % z.size<z.size:=Nat.mod_lt _ hz;rw [getElem!_pos z _ hm];exact h1 _ (Array.getElem_mem hm)
theorem mI{P:Program}(w:World)(t e ty:TypeId)(z:Value)(ht:P.underlying t=some (.slice e))(hv:∀ w,(zeroValue e).run P w=.ok z w)(hz:0<z.cells.size)(h1:∀ v∈z.cells,v.oneCell'=true)(b o n c:Nat)(hn:0<n)
  (hc:∀ j,j<n*z.cells.size->(w.cell? ⟨b,o+j,none⟩).isSome=true) (hf:∀ j,j<n*z.cells.size->w.frozen? ⟨b,o+j,none⟩=false) :
  (Builtin.clear_ #[t] ty #[.slice (some ⟨b,o,none⟩) n c]).run P w=.ok (.tuple #[]) (w.setCells b o (Builtin.zeroCells z.cells n).toList):=by
 have hst:=run_storeCells_cells (P:=P) b o (Builtin.zeroCells z.cells n).toList 0 w (λ j hj=>by rw [nF]at hj;exact hc j hj) (λ j hj=>by rw [nF]at hj;exact hf j hj) (KL hz h1);simp only [Nat.add_zero]at hst;obtain⟨m,rfl⟩:∃ m,n=m+1:=⟨n-1,by omega⟩
 simp [Builtin.clear_,run_underlying ht,hv,hst]
theorem Tryz.infoRt:(prog.info? 65).map (λ i=>(i.zero,i.size,i.bytes))=some (some (.agg #[.int .i64 0,.int .i64 0,.slice none 0 0,.slice none 0 0,.int .i64 0,.int .i64 0]),6,80):=by kernel_rfl
theorem bS.block{w:World}{base g cap:Nat}{l:List Rv}(h:bS w base (.slice (some ⟨g,0,none⟩) l.length cap) l):∃ cur,w.heap[g]?=some (.cells cur 65 (0,0))/\base<=g/\l.length<=cap/\cap<=maxLen/\cur.size=cap*6/\cur.toList.take (l.length*6)=bW l:=by
 obtain⟨_,⟨h2,_⟩|⟨g',c,cur,h2,h3,h4,h5,h6,h7,h8⟩⟩:=h
 ·cases h2
 cases h2
 exact⟨cur,h4,h3,h5,h6,h7,h8⟩
theorem Lv{cur cur1 cur2:List Value}{l:List Rv}{i n:Nat}{zs:List Value}(hn:l.length=n+1)(hi:i<n+1)(h0:cur.take ((n+1)*6)=bW l)(hl:(n+1)*6<=cur.length)
  (h1:cur1=cur.take (i*6)++bW (l.drop (i+1))++cur.drop (i*6+(bW (l.drop (i+1))).length)) (h2:cur2=cur1.take (n*6)++zs++cur1.drop (n*6+zs.length)) (hz:zs.length=6) :
  cur2.take (n*6)=bW (l.eraseIdx i)/\cur2.length=cur.length:=by
 have e:(bW (l.drop (i+1))).length=(n-i)*6:=by rw [dN,List.length_drop,hn];congr 1;omega
 have e0:cur.take (i*6)=bW (l.take i):=by
  rw [lk,<-h0,List.take_take];congr 1;omega
 have e1:(bW (l.take i)).length=i*6:=by rw [dN,List.length_take];congr 1;omega
 have hs:i*6+(n-i)*6=n*6:=by omega
 rw [e0,e,hs]at h1
 have h3:cur1.take (n*6)=bW (l.take i)++bW (l.drop (i+1)):=by
  rw [h1,List.take_append_of_le_length (by rw [List.length_append,e1,e];omega),List.take_of_length_le (by rw [List.length_append,e1,e];omega)]
 have h4:cur1.length=cur.length:=by rw [h1];simp only [List.length_append,List.length_drop,e1,e];omega
 constructor
 ·rw [h2,h3,List.append_assoc,List.take_append_of_le_length (by rw [List.length_append,e1,e];omega),List.take_of_length_le (by rw [List.length_append,e1,e];omega),<-fS,List.eraseIdx_eq_take_drop_succ]
 rw [h2];simp only [List.length_append,List.length_take,List.length_drop,hz];omega
theorem Lu(l:List Rv)(base g cap i n:Nat)(w:World)(hn:l.length=n+1)(ht:bS w base (.slice (some ⟨g,0,none⟩) l.length cap) l)(hi:i<n+1) :
  Calls prog 117 #[.slice (some ⟨g,0,none⟩) (n+1) cap,.int .i64 i,.int .i64 ((i:Int)+1)] w λ e w'=>e=.returned (.slice (some ⟨g,0,none⟩) n cap)/\bS w' base (.slice (some ⟨g,0,none⟩) n cap) (l.eraseIdx i)/\eS w g w':=by
 obtain⟨cur,hb,hbg,hlc,hmx,hsz,hrow⟩:=ht.block
 obtain⟨i0,hi0,hz⟩:∃ i0,prog.info? 65=some i0/\i0.size=6:=by
  have:=Tryz.infoRt;cases h:prog.info? 65 with
  | none=>rw [h]at this;cases this
  | some i0=>rw [h]at this;exact⟨i0,rfl,by have:=(kd this);exact jC (λ p=>p.2.1) this⟩
 obtain⟨news,hnews⟩:∃ news,news=bW (l.drop (i+1)):=⟨_,rfl⟩
 have hlen:news.length=(n-i)*6:=by rw [hnews,dN,List.length_drop,hn];congr 1;omega
 have hget:∀ t,t<news.length->news[t]?=cur[(i+1)*6+t]?:=λ t htl=>by
  rw [hnews,lj,List.getElem?_drop,<-hrow,List.getElem?_take,aS (by omega)];simp
 obtain⟨A,hA,hsrc⟩:∃ A:Addr,(if cap=i+1 then some (⟨g,0,none⟩:Addr)else some ⟨g,(i+1)*6,none⟩)=some A/\Hid (∀ t u,news[t]?=some u->w.drew.cell? (A.add t)=some u):=by
  by_cases h:cap=i+1
  ·refine⟨⟨g,0,none⟩,by simp [h],af λ t u hu=>?_⟩;have h0:news.length=0:=by rw [hlen];omega
   rw [List.length_eq_zero_iff.1 h0]at hu;simp at hu
  refine⟨⟨g,(i+1)*6,none⟩,by simp [h],af λ t u hu=>?_⟩;have htl:=(List.getElem?_eq_some_iff.1 hu).1;rw [hget t htl]at hu;rw [Addr.add_lit];show w.cell? _=_;rw [ag hb];exact hu
 have s2:Hid (∀ u∈news,u.oneCell'=true):=af (by rw [hnews];exact iy)
 have s3:Hid (∀ t,t<news.length->(w.drew.cell? ⟨g,0+i*6+t,none⟩).isSome=true/\w.drew.frozen? ⟨g,0+i*6+t,none⟩=false):=af (by
  intro t htl;rw [hlen]at htl;refine⟨?_,?_⟩
  ·show(w.cell? _).isSome=true;rw [ag hb,Array.getElem?_eq_getElem (by omega)];rfl
  ·show w.frozen? _=false;simp [World.frozen?,hb])
 obtain⟨hs1,cur1,hb1,hc1⟩:=dt g 65 news (i*6) cur w.drew (show w.drew.heap[g]?=_ from hb) (by rw [hlen];omega);obtain⟨W1,hW1⟩:∃ W1,W1=w.drew.setCells g (i*6) news:=⟨_,rfl⟩
 rw [<-hW1]at hs1 hb1
 have hl1:cur1.size=cur.size:=by
  have:=jC List.length hc1;simp only [Array.length_toList,List.length_append,List.length_take,List.length_drop,hlen]at this;omega
 have hcl:∀ ty,(Builtin.clear_ #[105] ty #[.slice (some ⟨g,n*6,none⟩) 1 (cap-n)]).run prog W1=.ok (.tuple #[]) (W1.setCells g (n*6) (Builtin.zeroCells #[.int .i64 0,.int .i64 0,.slice none 0 0,.slice none 0 0,.int .i64 0,.int .i64 0] 1).toList):=λ ty =>
  mI W1 _ _ ty _ underlying105 Tryz.zeroValue65 (by simp [Value.cells]) (by simp [Value.cells,Value.oneCell']) g (n*6) 1 (cap-n) (by omega)
   (λ j hj=>by simp [Value.cells]at hj;rw [ag hb1,Array.getElem?_eq_getElem (by omega)];rfl) (λ j hj=>by simp [World.frozen?,hb1])
 obtain⟨hs2,cur2,hb2,hc2⟩:=dt g 65 (Builtin.zeroCells #[.int .i64 0,.int .i64 0,.slice none 0 0,.slice none 0 0,.int .i64 0,.int .i64 0] 1).toList (n*6) cur1 W1 hb1 (by rw [nF];simp;omega);obtain⟨W2,hW2⟩:∃ W2,W2=W1.setCells g (n*6) (Builtin.zeroCells #[.int .i64 0,.int .i64 0,.slice none 0 0,.slice none 0 0,.int .i64 0,.int .i64 0] 1).toList:=⟨_,rfl⟩
 rw [<-hW2]at hs2 hb2 hcl;have hfin:=Lv hn hi (cur:=cur.toList) (cur1:=cur1.toList) (cur2:=cur2.toList) (by rw [<-hn];exact hrow) (by simp;omega) (by rw [<-hnews];exact hc1) hc2 (by rw [nF];rfl)
 have AA:Hid (bS W2 base (.slice (some ⟨g,0,none⟩) n cap) (l.eraseIdx i)/\eS w g W2):=af (by
  have hle:(l.eraseIdx i).length=n:=by rw [List.length_eraseIdx,aS (by omega)];omega
  refine⟨⟨by rw [dN,hle],inr ⟨g,cap,cur2,by rw [hle],hbg,hb2,by omega,hmx,?_,by rw [hle];exact hfin.1⟩⟩,?_⟩
  ·have:=hfin.2;simp only [Array.length_toList]at this;omega
  ·exact((eS.refl w g).drew.trans hs1).trans hs2)
 have BA:=af hW1;have s1:=af hlen;have hic:i<=cap:=by omega
 have hjc:i+1<=cap:=by omega
 have hnc:n+1<=cap:=by omega
 clear hfin hs1 hs2 hb2 hb1 hc1 hc2 hW1 hW2 hget hnews hlen hrow hb ht hbg hl1 hsz hlc hn;go_enter func117,ntmps117;go_upto_region 5 with fail
 have hpos:(0:Int)<=(i:Int)+1:=by omega
 have hin:i<=n:=by omega
 have hmx2:prog.follows .mixedOrders=true:=by kernel_rfl
 go_region_law_o (refine step_append_room rfl (.tmp 22) (.tmp 25) 105 rfl 65 i0 6 underlying105 hi0 hz g 0 i cap (by simp [Act.eval,Act.put]) A (n-i) (cap-(i+1)) news (by simp [Act.eval,Act.put]) (ae s1) (ae hsrc) (ae s2) (by omega) (ae s3) ?_;rw [show w.drew.setCells g (0+i*6) news=W1 from by rw [Nat.zero_add];exact(ae BA).symm])
 go_wp2
 go_ret;exact⟨rfl,(ae AA).1,(ae AA).2⟩
structure bB(w:World)(base b o:Nat)(cs:Array Value)(T:TypeId)(v:Value)(w':World)(v':Value)(l':List Rv):Prop where
 fr:Fr (λ k=>k=b\/v.ownBlock=some k) w (λ k=>k=b\/v'.ownBlock=some k) w'
 blk:w'.heap[b]?=some (.cells (cs.setIfInBounds o v') T (0,0))
 tab:bS w' base v' l'
 apart:v'.ownBlock≠some b
def gq(l:List Rv)(n:Int×Int):List Rv:=if sr l n then l.eraseIdx (dj l n)else l
theorem EI{l:List Rv}{n:Int×Int}(h:sr l n=true):dj l n<l.length:=(of_decide_eq_true h).1
theorem uX{cs:Array Value}{o:Nat}{v:Value}(h:cs[o]?=some v):cs.setIfInBounds o v=cs:=by
 apply Array.ext
 ·simp
 intro i h1 h2;obtain⟨h3,h4⟩:=Array.getElem?_eq_some_iff.1 h;rw [Array.getElem_setIfInBounds (by simpa using h1)];split
 ·rename_i e;subst e;exact h4.symm
 rfl
theorem Ah(l:List Rv)(v:Value)(n:Int×Int)(w:World)(base b o:Nat)(cs:Array Value)(T:TypeId)(hb:w.heap[b]?=some (.cells cs T (0,0)))(hv:cs[o]?=some v)(hl:l.length<=100000)(ht:bS w base v l)(hs:eo l)(hne:v.ownBlock≠some b) :
  Calls prog 77 #[.pointer (some ⟨b,o,none⟩),.agg #[.int .i64 n.1,.int .i64 n.2]] w λ e w'=>e=.returned (.tuple #[])/\∃ v',bB w base b o cs T v w' v' (gq l n):=by
 have ht0:bS w 0 v l:=⟨ht.1,ht.2.imp id λ⟨g,c,cur,h1,_,h2⟩=>⟨g,c,cur,h1,dG _,h2⟩⟩
 obtain⟨n1,n2⟩:=n;have hg:bF w (w.alloc (.cells #[.int .i64 n1,.int .i64 n2] 63)):=(bF.refl w).alloc _;have hn:=cM w (.cells #[.int .i64 n1,.int .i64 n2] 63);have hb1:(w.alloc (.cells #[.int .i64 n1,.int .i64 n2] 63)).heap[b]?=some (.cells cs T (0,0)):=(hg.below.block b (ah hb)).trans hb;generalize hW:w.alloc (.cells #[.int .i64 n1,.int .i64 n2] 63)=W at hg hn hb1;have lb:b<W.heap.size:=ah hb1;have HF:=af (xM l v (n1,n2) W b o ((ag hb1).trans hv) lb hl (ht0.grown hg) hs);have t0:W.cell? ⟨w.heap.size,0,none⟩=some (.int .i64 n1):=ag hn;have t1:W.cell? ⟨w.heap.size,1,none⟩=some (.int .i64 n2):=ag hn;have HW:=af hW;have HG:=af hg;obtain⟨q,cap,rfl⟩:=al ht;have HT:=af ht;have HB:=af hb1;have HV:=af hv;have HN:=af hne;clear hW hg hn hb1 ht ht0 hs hb hne hv;cases hh:sr l (n1,n2)with
 | false =>
  have HD:=af (show gq l (n1,n2)=l from by unfold gq;rw [hh];rfl);rw [hh]at HF;go_enter func77,ntmps77;go_upto_region 1 with fail
  rw [ae HW];go_wp2_with (go_at_call 116;refine(ae HF).mono ?_;rintro e w' ⟨rfl,hg⟩;have AA:=af hg;clear hg)
  go_end0
  refine⟨rfl,.slice q l.length cap,?_⟩;rw [ae HD];have h2:=(ae HG).trans (ae AA);exact⟨Fr.of_below h2.below,by rw [uX (ae HV)];exact((ae AA).below.block b lb).trans (ae HB),(ae HT).grown h2,ae HN⟩
 | true =>
  have hlo:=EI hh;have HD:=af (show gq l (n1,n2)=l.eraseIdx (dj l (n1,n2))from by unfold gq;rw [hh];rfl);rw [hh]at HF;generalize dj l (n1,n2)=i at *;obtain⟨g,rfl,hgw,_⟩:=(ae HT).atG (by omega);obtain⟨m,hm⟩:∃ m,l.length=m+1:=⟨l.length-1,by omega⟩
  have hgb:g≠b:=λ e=>ae HN (by rw [e];rfl)
  go_enter func77,ntmps77;go_upto_region 1 with fail
  rw [ae HW];go_wp2_with (go_at_call 116;refine(ae HF).mono ?_;rintro e w1 ⟨rfl,hg⟩;have AA:=af hg;clear hg;have hb1:=((ae AA).below.block b lb).trans (ae HB);have c1:=(ag hb1).trans (ae HV);have CA:=af (Lu l base g cap i m w1 hm (((ae HT).grown (ae HG)).grown (ae AA)) (by omega));have DA:=af hb1;clear hb1 t0 t1;rw [hm]at c1)
  refine(ae CA).mono ?_;rintro e w2 ⟨rfl,hT2,hS2⟩;have hb2:=(hS2.other b (Ne.symm hgb)).trans (ae DA);have c2:=(ag hb2).trans (ae HV);have f2:w2.frozen? ⟨b,o,none⟩=false:=by simp [World.frozen?,hb2]
  have FA:=af hT2;have BA:=af hS2;have EA:=af hb2;clear hT2 hS2 hb2 CA c1 HF;go_wp2
  go_end0
  refine⟨rfl,.slice (some ⟨g,0,none⟩) m cap,?_⟩;rw [ae HD];have h2:=(ae HG).trans (ae AA);have h3:w.heap.size<=w2.heap.size:=by rw [(ae BA).size];exact h2.below.size
  refine⟨?_,dm (ae EA),(ae FA).fr λ k e=>?_,ae HN⟩
  ·refine⟨(ae BA).os.trans h2.below.os,(ae BA).tape.trans h2.below.tape,(ae BA).output.trans h2.below.output,by simpa [World.setCell]using h3,λ k hk hne=>?_,λ k hk=>inl hk⟩;exact(ai λ e=>hne (inl e)).trans (((ae BA).other k λ e=>hne (inr (by rw [e];rfl))).trans (h2.below.block k hk))
  have:g=k:=by simpa [Value.ownBlock]using e
  exact ai (by simp only;omega)
