/- part -/
import Derived.Test.YtphhnjljlllnlaaGreatDoorSqO
import Derived.Laws.BytesArg
set_option maxRecDepth 100000
set_option maxHeartbeats 8000000
namespace Go.Proofs.YtphhnjljlllnlaaGreatDoor
open Go.Proofs.Tryz
open Or
open Go Go.RowKit Go.Sort Go.Shelf
open Go.RowKit
theorem vZ(a b:Int×Int)(w:World):eO 21 #[.agg #[.int .i64 a.1,.int .i64 a.2],.agg #[.int .i64 b.1,.int .i64 b.2]] (.bool (decide (a=b))) w:=by
 obtain⟨a1,a2⟩:=a;obtain⟨b1,b2⟩:=b;dsimp only;by_cases h1:a1=b1
 ·subst h1;by_cases h2:a2=b2
  ·subst h2;go_enter func21,ntmps21;go_wp2
   go_ret;exact⟨aO (by simp),((bF.refl w).alloc _).alloc _⟩
  have h2':(a2==b2)=false:=by simpa using h2
  have HD:=af (show decide ((a1,a2)=(a1,b2))=false by simp [h2]);clear h2;go_enter func21,ntmps21;go_wp2
  go_ret;exact⟨aO (ae HD).symm,((bF.refl w).alloc _).alloc _⟩
 have h1':(a1==b1)=false:=by simpa using h1
 have HD:=af (show decide ((a1,a2)=(b1,b2))=false by simp [h1]);clear h1;go_enter func21,ntmps21;go_wp2
 go_ret;exact⟨aO (ae HD).symm,((bF.refl w).alloc _).alloc _⟩
def oe(l:List Rv)(x:Rv)(gone:Bool):List Rv:=l.filter (λ y=>!decide (y.net=x.net))++if gone then []else [x]
theorem DM(l:List Rv)(x:Rv)(gone:Bool):(oe l x gone).map (·.r)=GV (l.map (·.r)) x.r gone:=by
 unfold oe GV;rw [List.map_append,List.filter_map]
 congr 1
 cases gone<;>rfl
theorem Am{l:List Rv}{p:Rv->Bool}{k:Nat}(h:k<l.length):(l.take (k+1)).filter p=(l.take k).filter p++if p l[k]then [l[k]]else []:=by
 rw [List.take_succ_eq_append_getElem h,List.filter_append]
 congr 1
 cases hp:p l[k]<;>simp [List.filter,hp]
theorem xA(l:List Rv)(x:Rv):bW (l++[x])=bW l++bQ x:=by rw [fS];unfold bW;simp
theorem uk(w:World)(n0:Nat)(v:Value)(l:List Rv)(x:Rv)(gone:Bool)(h:bS w n0 v l)(hl:l.length<=1000) :
  Calls prog 33 #[v,.agg (bQ x).toArray,.bool gone] w λ e w'=>∃ v',e=.returned v'/\bS w' w.heap.size v' (oe l x gone)/\Below w.heap.size w w':=by
 obtain⟨i0,hi0,hz0,hz1,hz2⟩:=info_parts Tryz.infoRt;obtain⟨q,cap,rfl⟩:=al h;have hnx:=cM w (.cells (bQ x).toArray 65);have hbx:Below w.heap.size w (w.alloc (.cells (bQ x).toArray 65)):=(aY _ _).alloc (aL _) _;generalize hW:w.alloc (.cells (bQ x).toArray 65)=W at hnx hbx;have HT:=af (h.below hbx);have NA:=af (λ y W=>vZ y x.net W);obtain⟨X,hX⟩:∃ X,X=x:=⟨_,rfl⟩
 have HX:=af hX;have JA:=af hnx;have HA:=af hbx;have HW:=af hW;have lx:w.heap.size<W.heap.size:=ah hnx;clear h hnx hbx hW;rw [<-hX];obtain⟨⟨a0,a1,ap,am,a4,a5⟩,aq,ac,aq2,ac2⟩:=x;rw [hX];dsimp only [bQ,Rv.net]at NA HW JA ⊢;go_enter func33,ntmps33;go_upto_region 1 with fail
 rw [ae HW];go_wp2
 go_loopw [7,8] (λ o i wr=>∃ k:Nat,k<=l.length/\i=.int .i64 k/\bS wr W.heap.size o ((l.take k).filter (λ y=>!decide (y.net=(a0,a1))))/\Below W.heap.size W wr) (λ _ i _=>l.length-(intOf i).toNat)
 case atStart=>exact⟨0,dG _,rfl,i7 _ _ _ _,aY _ _⟩
 case round =>
  obtain⟨k,hk,rfl,htv,hbe⟩:=hrel;by_cases hlt:k<l.length
  ·have hTr:=(ae HT).below hbe;obtain⟨g,rfl,hg,_⟩:=hTr.atG (by omega);have hnr:=(hbe.block _ lx).trans (ae JA);have lxr:w.heap.size<wr.heap.size:=ah hnr;have q0:=λ n os=>cell_grown (w:=wr) (a:=⟨g,k*6,none⟩) hg (hTr.cell hlt (i:=0) (by decide):_=some (.int .i64 l[k].r.addr)) n os
   have q1:=λ n os=>cell_grown (w:=wr) (a:=⟨g,k*6+1,none⟩) hg (hTr.cell hlt (by decide):_=some (.int .i64 l[k].r.len)) n os
   have t0:=λ n os=>cell_grown (w:=wr) (a:=⟨w.heap.size,0,none⟩) lxr (ag hnr) n os
   have t1:=λ n os=>cell_grown (w:=wr) (a:=⟨w.heap.size,1,none⟩) lxr (ag hnr) n os
   have EA:=af (Am (p:=λ y=>!decide (y.net=(a0,a1))) hlt);obtain⟨c,HC,hcc⟩:∃ c:Bool,(∀ W,eO 21 #[.agg #[.int .i64 l[k].r.addr,.int .i64 l[k].r.len],.agg #[.int .i64 a0,.int .i64 a1]] (.bool c) W)/\decide (l[k].net=(a0,a1))=c:=⟨decide (l[k].net=(a0,a1)),λ W=>ae NA l[k].net W,rfl⟩
   have DA:=af hcc;have LA:=af HC;clear hcc;have BA:=af htv;have GA:=af hbe;have OA:=af hTr;clear HC htv hbe hTr hnr;have hmx:prog.follows .mixedOrders=true:=by kernel_rfl
   go_upto_region 5 with fail
   go_quiet_grown ((go_at_call 21;with_reducible exact Calls.grown_of (ae LA _)))
   dsimp only;have IA:=af (show bF wr (grow (wr.drewN nq) osq)from⟨nq,osq,rfl⟩);generalize grow (wr.drewN nq) osq=w2 at IA ⊢;have hb2:=(ae IA).below;have FA:=af ((ae GA).trans (hb2.mono (ae GA).size));have AA:=af ((ae BA).below hb2);have hTr2:=(ae OA).below hb2;have hszw:=(ae HA).size;have hsz2:=(ae FA).size;clear q0 q1 t0 t1 LA IA;cases c with
   | true =>
    have CA:=af (show(l.take (k+1)).filter (λ y=>!decide (y.net=(a0,a1)))=(l.take k).filter (λ y=>!decide (y.net=(a0,a1)))from by rw [ae EA,ae DA];simp);clear EA DA hb2 hTr2;go_wp2
    refine⟨⟨k+1,by omega,by go_num,by rw [ae CA];exact ae AA,ae FA⟩,by simp [intOf];omega⟩
   | false =>
    have CA:=af (show(l.take (k+1)).filter (λ y=>!decide (y.net=(a0,a1)))=(l.take k).filter (λ y=>!decide (y.net=(a0,a1)))++[l[k]]from by rw [ae EA,ae DA];simp);have x0:w2.cell? ⟨g,k*6,none⟩=some (.int .i64 l[k].r.addr):=hTr2.cell hlt (i:=0) (by decide);have x1:w2.cell? ⟨g,k*6+1,none⟩=some (.int .i64 l[k].r.len):=hTr2.cell hlt (by decide);have x2:w2.cell? ⟨g,k*6+2,none⟩=some (.slice l[k].pq l[k].r.path.length l[k].pc):=hTr2.cell hlt (by decide);have x3:w2.cell? ⟨g,k*6+3,none⟩=some (.slice l[k].mq l[k].r.marks.length l[k].mc):=hTr2.cell hlt (by decide);have x4:w2.cell? ⟨g,k*6+4,none⟩=some (.int .i64 l[k].r.pref):=hTr2.cell hlt (by decide);have x5:w2.cell? ⟨g,k*6+5,none⟩=some (.int .i64 l[k].r.med):=hTr2.cell hlt (by decide);obtain⟨F,hF⟩:∃ F,(l.take k).filter (λ y=>!decide (y.net=(a0,a1)))=F:=⟨_,rfl⟩
    have hFl:F.length<=1000:=by rw [<-hF];exact gG (List.length_filter_le _ _) (by rw [List.length_take];omega)
    rw [hF]at AA CA;obtain⟨Y,hY⟩:∃ Y,Y=l[k]:=⟨_,rfl⟩
    rw [<-hY]at x0 x1 x2 x3 x4 x5 CA;clear EA DA hb2 hTr2 hF hY BA;go_wp2_with (at_builtin;refine wpList_append_lies _ rfl _ _ _ rfl W.heap.size 65 i0 _ 6 80 underlying34 hi0 hz0 hz1 hz2 rfl (by omega) u7 F.length (bW F) rfl (World.ownsRow.alloc (ae AA) _) ⟨w2.heap.size,0,none⟩ 1 1 (bQ Y) rfl rfl (World.news_of_block (cs:=#[.int .i64 Y.r.addr,.int .i64 Y.r.len,.slice Y.pq Y.r.path.length Y.pc,.slice Y.mq Y.r.marks.length Y.mc,.int .i64 Y.r.pref,.int .i64 Y.r.med]) (cM _ _)) (λ v hv=>iy (l:=[Y]) v (by unfold bW;simpa using hv)) (by omega) (by unfold maxLen;omega) (by omega) (by rw [World.size_alloc];omega) _ rfl ?_;intro g3 cap3 w3 ho hgr hgg hgl)
    refine⟨⟨k+1,by omega,by go_num,?_,?_⟩,by simp [intOf];omega⟩
    ·rw [ae CA];show w3.ownsRow _ _ _ _ _ _;rw [List.length_append,xA];exact ho
    exact((ae FA).alloc hsz2 _).grown hgr (by rw [World.size_alloc];omega) (λ j e=>(World.ownsRow.lt (ae AA) j e).1)
  have hke:k=l.length:=by omega
  subst hke;rw [List.take_length]at htv;obtain⟨F,hF⟩:∃ F,l.filter (λ y=>!decide (y.net=(a0,a1)))=F:=⟨_,rfl⟩
  have hFl:F.length<=1000:=by rw [<-hF];exact gG (List.length_filter_le _ _) hl
  rw [hF]at htv;have BA:=af htv;have GA:=af hbe;have hszw:=(ae HA).size;have hszr:=hbe.size;have KA:=af ((ae HA).trans (hbe.mono hszw));have hnr:=(hbe.block _ lx).trans (ae JA);have x0:wr.cell? ⟨w.heap.size,0,none⟩=some (.int .i64 a0):=ag hnr;have x1:wr.cell? ⟨w.heap.size,1,none⟩=some (.int .i64 a1):=ag hnr;have x2:wr.cell? ⟨w.heap.size,2,none⟩=some (.slice aq ap.length ac):=ag hnr;have x3:wr.cell? ⟨w.heap.size,3,none⟩=some (.slice aq2 am.length ac2):=ag hnr;have x4:wr.cell? ⟨w.heap.size,4,none⟩=some (.int .i64 a4):=ag hnr;have x5:wr.cell? ⟨w.heap.size,5,none⟩=some (.int .i64 a5):=ag hnr;have MA:=af (show ∀ g:Bool,oe l ⟨⟨a0,a1,ap,am,a4,a5⟩,aq,ac,aq2,ac2⟩ g=F++if g then []else [⟨⟨a0,a1,ap,am,a4,a5⟩,aq,ac,aq2,ac2⟩]from λ g=>by rw [<-hF];rfl);clear htv hbe hF hnr;cases gone with
  | true =>
   go_wp2
   go_ret;refine⟨_,rfl,?_,ae KA⟩;rw [ae MA,aS rfl,List.append_nil];exact aZ (ae BA) hszw
  | false =>
   go_wp2_with (at_builtin;refine wpList_append_lies _ rfl _ _ _ rfl W.heap.size 65 i0 _ 6 80 underlying34 hi0 hz0 hz1 hz2 rfl (by omega) u7 F.length (bW F) rfl (World.ownsRow.alloc (ae BA) _) ⟨wr.heap.size,0,none⟩ 1 1 (bQ ⟨⟨a0,a1,ap,am,a4,a5⟩,aq,ac,aq2,ac2⟩) rfl rfl (World.news_of_block (cs:=#[.int .i64 a0,.int .i64 a1,.slice aq ap.length ac,.slice aq2 am.length ac2,.int .i64 a4,.int .i64 a5]) (cM _ _)) (λ v hv=>iy (l:=[⟨⟨a0,a1,ap,am,a4,a5⟩,aq,ac,aq2,ac2⟩]) v (by unfold bW;simpa using hv)) (by omega) (by unfold maxLen;omega) (by omega) (by rw [World.size_alloc];omega) _ rfl ?_;intro g3 cap3 w3 ho hgr hgg hgl)
   go_ret;refine⟨_,rfl,?_,?_⟩
   ·rw [ae MA,aG (by decide)];show w3.ownsRow _ _ _ _ _ _;rw [List.length_append,xA];exact aZ ho hszw
   exact((ae KA).alloc (by omega) _).grown hgr (by rw [World.size_alloc];omega) (λ j e=>by have:=(World.ownsRow.lt (ae BA) j e).1;omega)
structure HP where
 up:Bool
 rts:List Rv
 view:List Rv
structure gX(n0:Nat)(w:World)(hb sb ip op:Nat)(cs:Array Value)(st:List HP):Prop where
 blk:w.heap[hb]?=some (.cells cs 37 (0,0))
 len:st.length=3
 lo:n0<=hb
 c0:cs[0]?=some (.pointer (some ⟨sb,0,none⟩))
 c1:cs[1]?=some (.pointer (some ⟨ip,0,none⟩))
 c2:cs[2]?=some (.pointer (some ⟨op,0,none⟩))
 up:∀ i (h:i<st.length),cs[3+i]?=some (.bool st[i].up)
 rts:∀ i (h:i<st.length),∃ v,cs[6+i]?=some v/\bS w n0 v st[i].rts
 view:∀ i (h:i<st.length),∃ v,cs[9+i]?=some v/\bS w n0 v st[i].view
 rows:∀ p∈st,∀ y,y∈p.rts\/y∈p.view->bK w y/\dh y.r=true
 few:∀ p∈st,p.rts.length<=200/\p.view.length<=1000
def dJ(cs:Array Value)(k:Nat):Prop:=∃ q v,(6<=q/\q<12)/\cs[q]?=some v/\v.ownBlock=some k
theorem gX.keep{n0:Nat}{w w':World}{hb sb ip op:Nat}{cs:Array Value}{st:List HP}(h:gX n0 w hb sb ip op cs st)(hk:∀ k o,w.heap[k]?=some o->(k=hb\/dJ cs k\/∃ cur,o=.cells cur 3 (0,0))->w'.heap[k]?=some o):gX n0 w' hb sb ip op cs st:=by
 have h3:=h.len
 have ht:∀ q v l,(6<=q/\q<12)->cs[q]?=some v->bS w n0 v l->bS w' n0 v l:=λ q v l hq hv ht=>ht.fr λ k e=>by
  obtain⟨cur,hc⟩:=ht.typed e;rw [hc];exact hk k _ hc (inr (inl ⟨q,v,hq,hv,e⟩))
 refine⟨hk _ _ h.blk (inl rfl),h.len,h.lo,h.c0,h.c1,h.c2,h.up,λ i hi=>?_,λ i hi=>?_,λ p hp y hy=>?_,h.few⟩
 ·obtain⟨v,e,t⟩:=h.rts i hi;exact⟨v,e,ht _ _ _ ⟨by omega,by omega⟩ e t⟩
 ·obtain⟨v,e,t⟩:=h.view i hi;exact⟨v,e,ht _ _ _ ⟨by omega,by omega⟩ e t⟩
 have:=h.rows p hp y hy;exact⟨this.1.fr λ k _ ⟨cur,hc⟩=>by rw [hc];exact hk k _ hc (inr (inr ⟨cur,rfl⟩)),this.2⟩
theorem gX.below{n0:Nat}{w w':World}{hb sb ip op:Nat}{cs:Array Value}{st:List HP}(h:gX n0 w hb sb ip op cs st)(hb':Below w.heap.size w w'):gX n0 w' hb sb ip op cs st :=
 h.keep λ k _ ho _=>(hb'.block k (ah ho)).trans ho
theorem gX.wr{n0:Nat}{w:World}{hb sb ip op:Nat}{cs:Array Value}{st:List HP}(h:gX n0 w hb sb ip op cs st)(q:Nat)(x:Value):(∀ v l,bS w n0 v l->bS (w.setCell ⟨hb,q,none⟩ x) n0 v l)/\(∀ y:Rv,bK w y->bK (w.setCell ⟨hb,q,none⟩ x) y):=by
 refine⟨λ v l ht=>ht.fr λ k e=>ai λ e2=>?_,λ y hy=>hy.fr λ k _ ⟨cur,hc⟩=>ai λ e2=>?_⟩
 ·obtain⟨cur,hc⟩:=ht.typed e;rw [show k=hb from e2,h.blk]at hc;cases hc
 rw [show k=hb from e2,h.blk]at hc;cases hc
theorem gX.setUp{n0:Nat}{w:World}{hb sb ip op:Nat}{cs:Array Value}{st:List HP}(h:gX n0 w hb sb ip op cs st){i:Nat}(hi:i<st.length)(b:Bool):gX n0 (w.setCell ⟨hb,3+i,none⟩ (.bool b)) hb sb ip op (cs.setIfInBounds (3+i) (.bool b)) (st.set i { st[i]with up:=b }):=by
 obtain⟨hT,hR⟩:=h.wr (3+i) (.bool b);have h3:=h.len;have hg:∀ q,q≠3+i->(cs.setIfInBounds (3+i) (.bool b))[q]?=cs[q]?:=λ q hq=>eM (Ne.symm hq)
 refine⟨dm h.blk,by rw [List.length_set];exact h.len,h.lo,(hg _ (by omega)).trans h.c0,(hg _ (by omega)).trans h.c1,(hg _ (by omega)).trans h.c2,λ j hj=>?_,λ j hj=>?_,λ j hj=>?_,λ p hp y hy=>?_,λ p hp=>?_⟩
 ·rw [List.length_set]at hj;by_cases e:i=j
  ·subst e;rw [List.getElem_set_self];exact fF (h.up i hi)
  rw [List.getElem_set_ne e,hg _ (by omega)];exact h.up j hj
 ·rw [List.length_set]at hj;obtain⟨v,e1,t⟩:=h.rts j hj;refine⟨v,(hg _ (by omega)).trans e1,?_⟩;by_cases e:i=j
  ·subst e;rw [List.getElem_set_self];exact hT _ _ t
  rw [List.getElem_set_ne e];exact hT _ _ t
 ·rw [List.length_set]at hj;obtain⟨v,e1,t⟩:=h.view j hj;refine⟨v,(hg _ (by omega)).trans e1,?_⟩;by_cases e:i=j
  ·subst e;rw [List.getElem_set_self];exact hT _ _ t
  rw [List.getElem_set_ne e];exact hT _ _ t
 ·rcases List.mem_or_eq_of_mem_set hp with hp|rfl
  ·have:=h.rows p hp y hy;exact⟨hR y this.1,this.2⟩
  have:=h.rows _ (ej hi) y hy;exact⟨hR y this.1,this.2⟩
 rcases List.mem_or_eq_of_mem_set hp with hp|rfl
 ·exact h.few p hp
 exact h.few st[i] (ej hi)
theorem gX.setRts{n0:Nat}{w:World}{hb sb ip op:Nat}{cs:Array Value}{st:List HP}(h:gX n0 w hb sb ip op cs st){i:Nat}(hi:i<st.length){v':Value}{l':List Rv}(ht:bS w n0 v' l')(hr:∀ y∈l',bK w y/\dh y.r=true)(hl:l'.length<=200):gX n0 (w.setCell ⟨hb,6+i,none⟩ v') hb sb ip op (cs.setIfInBounds (6+i) v') (st.set i { st[i]with rts:=l' }):=by
 obtain⟨hT,hR⟩:=h.wr (6+i) v';have h3:=h.len;have hg:∀ q,q≠6+i->(cs.setIfInBounds (6+i) v')[q]?=cs[q]?:=λ q hq=>eM (Ne.symm hq)
 obtain⟨v0,e0,_⟩:=h.rts i hi;refine⟨dm h.blk,by rw [List.length_set];exact h.len,h.lo,(hg _ (by omega)).trans h.c0,(hg _ (by omega)).trans h.c1,(hg _ (by omega)).trans h.c2,λ j hj=>?_,λ j hj=>?_,λ j hj=>?_,λ p hp y hy=>?_,λ p hp=>?_⟩
 ·rw [List.length_set]at hj;rw [hg _ (by omega)];by_cases e:i=j
  ·subst e;rw [List.getElem_set_self];exact h.up i hi
  rw [List.getElem_set_ne e];exact h.up j hj
 ·rw [List.length_set]at hj;by_cases e:i=j
  ·subst e;rw [List.getElem_set_self];exact⟨v',fF e0,hT _ _ ht⟩
  obtain⟨v,e1,t⟩:=h.rts j hj;rw [List.getElem_set_ne e];exact⟨v,(hg _ (by omega)).trans e1,hT _ _ t⟩
 ·rw [List.length_set]at hj;obtain⟨v,e1,t⟩:=h.view j hj;refine⟨v,(hg _ (by omega)).trans e1,?_⟩;by_cases e:i=j
  ·subst e;rw [List.getElem_set_self];exact hT _ _ t
  rw [List.getElem_set_ne e];exact hT _ _ t
 ·rcases List.mem_or_eq_of_mem_set hp with hp|rfl
  ·have:=h.rows p hp y hy;exact⟨hR y this.1,this.2⟩
  rcases hy with hy|hy
  ·have:=hr y hy;exact⟨hR y this.1,this.2⟩
  have:=h.rows _ (ej hi) y (inr hy);exact⟨hR y this.1,this.2⟩
 rcases List.mem_or_eq_of_mem_set hp with hp|rfl
 ·exact h.few p hp
 exact⟨hl,(h.few _ (ej hi)).2⟩
theorem gX.setView{n0:Nat}{w:World}{hb sb ip op:Nat}{cs:Array Value}{st:List HP}(h:gX n0 w hb sb ip op cs st){i:Nat}(hi:i<st.length){v':Value}{l':List Rv}(ht:bS w n0 v' l')(hr:∀ y∈l',bK w y/\dh y.r=true)(hl:l'.length<=1000):gX n0 (w.setCell ⟨hb,9+i,none⟩ v') hb sb ip op (cs.setIfInBounds (9+i) v') (st.set i { st[i]with view:=l' }):=by
 obtain⟨hT,hR⟩:=h.wr (9+i) v';have h3:=h.len;have hg:∀ q,q≠9+i->(cs.setIfInBounds (9+i) v')[q]?=cs[q]?:=λ q hq=>eM (Ne.symm hq)
 obtain⟨v0,e0,_⟩:=h.view i hi;refine⟨dm h.blk,by rw [List.length_set];exact h.len,h.lo,(hg _ (by omega)).trans h.c0,(hg _ (by omega)).trans h.c1,(hg _ (by omega)).trans h.c2,λ j hj=>?_,λ j hj=>?_,λ j hj=>?_,λ p hp y hy=>?_,λ p hp=>?_⟩
 ·rw [List.length_set]at hj;rw [hg _ (by omega)];by_cases e:i=j
  ·subst e;rw [List.getElem_set_self];exact h.up i hi
  rw [List.getElem_set_ne e];exact h.up j hj
 ·rw [List.length_set]at hj;obtain⟨v,e1,t⟩:=h.rts j hj;refine⟨v,(hg _ (by omega)).trans e1,?_⟩;by_cases e:i=j
  ·subst e;rw [List.getElem_set_self];exact hT _ _ t
  rw [List.getElem_set_ne e];exact hT _ _ t
 ·rw [List.length_set]at hj;by_cases e:i=j
  ·subst e;rw [List.getElem_set_self];exact⟨v',fF e0,hT _ _ ht⟩
  obtain⟨v,e1,t⟩:=h.view j hj;rw [List.getElem_set_ne e];exact⟨v,(hg _ (by omega)).trans e1,hT _ _ t⟩
 ·rcases List.mem_or_eq_of_mem_set hp with hp|rfl
  ·have:=h.rows p hp y hy;exact⟨hR y this.1,this.2⟩
  rcases hy with hy|hy
  ·have:=h.rows _ (ej hi) y (inl hy);exact⟨hR y this.1,this.2⟩
  have:=hr y hy;exact⟨hR y this.1,this.2⟩
 rcases List.mem_or_eq_of_mem_set hp with hp|rfl
 ·exact h.few p hp
 exact⟨(h.few _ (ej hi)).1,hl⟩
theorem dJ.set{cs:Array Value}{q k:Nat}{v':Value}(h:dJ (cs.setIfInBounds q v') k):dJ cs k\/v'.ownBlock=some k:=by
 obtain⟨q',v,hq,hv,e⟩:=h;by_cases hqq:q=q'
 ·subst hqq;rw [Array.getElem?_setIfInBounds]at hv;simp only [if_true]at hv;split at hv
  ·cases hv;exact inr e
  cases hv
 rw [eM hqq]at hv;exact inl ⟨q',v,hq,hv,e⟩
theorem dJ.bool{cs:Array Value}{q k:Nat}{b:Bool}(h:dJ (cs.setIfInBounds q (.bool b)) k):dJ cs k:=h.set.elim id λ e=>by cases e
theorem dJ.nil{cs:Array Value}{q k:Nat}(h:dJ (cs.setIfInBounds q (.slice none 0 0)) k):dJ cs k:=h.set.elim id λ e=>by cases e
theorem gX.typed{n0:Nat}{w:World}{hb sb ip op:Nat}{cs:Array Value}{st:List HP}(h:gX n0 w hb sb ip op cs st){k:Nat}(hk:dJ cs k):∃ cur,w.heap[k]?=some (.cells cur 65 (0,0)):=by
 obtain⟨q,v,⟨h6,h12⟩,hv,e⟩:=hk;have h3:=h.len;by_cases h9:q<9
 ·obtain⟨v',e',t⟩:=h.rts (q-6) (by omega);rw [show 6+(q-6)=q by omega,hv]at e';cases e'
  exact t.typed e
 obtain⟨v',e',t⟩:=h.view (q-9) (by omega);rw [show 9+(q-9)=q by omega,hv]at e';cases e'
 exact t.typed e
def fg(V:List (List Rt))(x:Int×fI):List (List Rt):=V.set x.1.toNat (jh (V.getD x.1.toNat []) x.2)
def okS(U:List Bool):List (List Rt)->List (Int×fI)->Prop
 | _,[]=>True
 | V,x::t=>(∃ i:Nat,x.1=i/\i<3/\U.getD i false=true/\x.2.gone.length+x.2.nets.length=1/\jw (V.getD i []) (uT x.2) (gd x.2)=gd x.2)/\okS U (fg V x) t
def dI(st:List HP):List (List Rt):=st.map λ p=>p.view.map (·.r)
theorem cQ.push{w:World}{base g cap n:Nat}{l:List (Int×Int)}{X:Int×Int}(hn:n=l.length)(h:w.ownsRow base 63 2 (.slice (some ⟨g,0,none⟩) (n+1) cap) (n+1) (bu l++[.int .i64 X.1,.int .i64 X.2])):cQ w base (.slice (some ⟨g,0,none⟩) (n+1) cap) (l++[X]):=by
 subst hn;unfold cQ;rw [oG,List.length_append];exact h
theorem oF{l:List (Int×Int)}{x:Int×Int}{q:Nat}(h:q<l.length):decide (x∈l.take (q+1))=(decide (x∈l.take q)||decide (l[q]=x)):=by
 rw [List.take_succ_eq_append_getElem h];rw [Bool.eq_iff_iff];simp only [List.mem_append,List.mem_singleton,Bool.or_eq_true,decide_eq_true_eq];exact or_congr Iff.rfl eq_comm
theorem pU{l:List (Int×Int)}{x:Int×Int}{q:Nat}(h:l.length<=q):decide (x∈l.take q)=decide (x∈l):=by rw [List.take_of_length_le h]
theorem cQ.cell{w:World}{base:Nat}{q:Option Addr}{c:Nat}{l:List (Int×Int)}(h:cQ w base (.slice q l.length c) l){j:Nat}(hj:j<l.length) :
  ∃ g,q=some ⟨g,0,none⟩/\base<=g/\g<w.heap.size/\w.cell? ⟨g,j*2,none⟩=some (.int .i64 l[j].1)/\w.cell? ⟨g,j*2+1,none⟩=some (.int .i64 l[j].2):=by
 have hk:=h;rcases h.2 with⟨h1,h2⟩|⟨g,cap,cur,hv,hb,hg,hn,hm,hs,ht⟩
 ·omega
 cases hv
 obtain⟨e1,e2⟩:=jL l j hj;have h3:=hk.cells (g:=g) rfl _ _ e1;have h4:=hk.cells (g:=g) rfl _ _ e2;rw [mO]at h3 h4;rw [Nat.mul_comm j 2];exact⟨g,rfl,hb,ah hg,h3,h4⟩
theorem Tryz.infoNet:(prog.info? 63).map (λ i=>(i.zero,i.size,i.bytes))=some (some (.agg #[.int .i64 0,.int .i64 0]),2,16):=by kernel_rfl
theorem AJ{x:Int×Int}(h:dX x):eN x.1/\eN x.2:=by
 obtain⟨⟨a,b⟩,⟨c,d⟩,_⟩:=h;unfold eN;omega
theorem xl{p:List Int}(h:j5 p):∀ x∈p,eN x:=λ x hx=>by have:=h.2 x hx;unfold eN;omega
theorem us{p:List Int}(h:iV p):∀ x∈p,eN x:=λ x hx=>by have:=nO h.2 x hx;unfold eN;omega
theorem Ak{u:fI}(h:eW u):4<=(jv u).length/\(jv u).length<=266:=by
 have l2:=qL h;have hlen:=h.1.1;have l1:=k7 (l:=u.gone) (λ x hx=>h.1.2.1 x (by simp [hx]));have l3:=k7 (l:=u.nets) (λ x hx=>h.1.2.1 x (by simp [hx]));simp only [List.length_append]at hlen;unfold jv;simp only [List.length_append,nD];omega
