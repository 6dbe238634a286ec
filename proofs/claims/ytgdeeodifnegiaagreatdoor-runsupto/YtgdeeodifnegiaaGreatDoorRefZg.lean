/- part -/
import Derived.Test.YtgdeeodifnegiaaGreatDoorRefZd
import Derived.Test.YtgdeeodifnegiaaGreatDoorPlainM
namespace Go.Proofs.YtgdeeodifnegiaaGreatDoor
open Go.Proofs.Tryz
open Or
open Go.RowKit
namespace rf
theorem jk.keep{w w':World}{Q Q':Nat->Prop}{d:Df}{v:Value}(h1:∀ k,k<w.heap.size->¬Q k->w'.heap[k]?=w.heap[k]?)(h2:∀ k,k<w.heap.size->Q' k->Q k)(h:jk w Q d v):jk w' Q' d v:=by
 obtain⟨rv,op,text,n,a,kv,e,ho,hq,ht⟩:=h;exact⟨rv,op,text,n,a,kv,e,ap ho (λ k hk=>h1 k (ho.lt k hk).2 (hq k hk)),λ k hk hQ=>hq k hk (h2 k (ho.lt k hk).2 hQ),aP.keep h1 h2 _ _ ht⟩
def kx(w:World)(Q:Nat->Prop):List Df->List Value->Prop
 | [],xs=>xs=[]
 | d::ds,xs=>∃ v r,xs=v.toList++r/\v.size=10/\jk w Q d (.agg v)/\kx w Q ds r
theorem kx.keep{w w':World}{Q Q':Nat->Prop}(h1:∀ k,k<w.heap.size->¬Q k->w'.heap[k]?=w.heap[k]?)(h2:∀ k,k<w.heap.size->Q' k->Q k):∀{ds:List Df} {xs:List Value},kx w Q ds xs->kx w' Q' ds xs
 | [],_,h=>h
 | _::_,_,⟨v,r,e,hs,hd,hr⟩=>⟨v,r,e,hs,hd.keep h1 h2,kx.keep h1 h2 hr⟩
theorem kx.snoc{w:World}{Q:Nat->Prop}{d:Df}{v:Array Value}(hv:v.size=10)(hd:jk w Q d (.agg v)):∀{ds:List Df} {xs:List Value},kx w Q ds xs->kx w Q (ds++[d]) (xs++v.toList)
 | [],_,h=>⟨v,[],by rw [show _=_ from h];simp,hv,hd,rfl⟩
 | _::_,_,⟨u,r,e,hs,hu,hr⟩=>⟨u,r++v.toList,by rw [e];simp,hs,hu,kx.snoc hv hd hr⟩
theorem kx.get{w:World}{Q:Nat->Prop}:∀{ds:List Df} {xs:List Value},kx w Q ds xs->∀ i (h:i<ds.length),∃ v:Array Value,v.size=10/\jk w Q ds[i] (.agg v)/\∀ j,j<10->xs[i*10+j]?=v[j]?
 | [],_,_,i,h=>absurd h (by simp)
 | d::ds,xs,⟨v,r,e,hs,hd,hr⟩,i,h=>by
  have hl:v.toList.length=10:=by simpa using hs
  cases i with
  | zero =>
   refine⟨v,hs,hd,λ j hj=>?_⟩;rw [e,List.getElem?_append_left (by omega)];simp
  | succ i =>
   obtain⟨u,h1,h2,h3⟩:=hr.get i (by simpa using h);refine⟨u,h1,h2,λ j hj=>?_⟩;rw [e,List.getElem?_append_right (by omega),<-h3 j hj]
   congr 1;omega
structure ey(w:World)(Q:Nat->Prop)(ds:List Df)(dv:Value)(xs:List Value):Prop where
 own:w.ownsRow 0 145 10 dv ds.length xs
 off:∀ k,dv.ownBlock=some k->¬Q k
 all:kx w (λ k=>Q k\/dv.ownBlock=some k) ds xs
theorem ey.nil(w:World)(Q:Nat->Prop):ey w Q [] (.slice none 0 0) [] :=
 ⟨jX _ _ _ _,λ k hk=>by simp [Value.ownBlock]at hk,rfl⟩
theorem ey.keep{w w':World}{Q Q':Nat->Prop}{ds:List Df}{dv:Value}{xs:List Value}(h:ey w Q ds dv xs)(h1:∀ k,k<w.heap.size->¬Q k->w'.heap[k]?=w.heap[k]?)(h2:∀ k,k<w.heap.size->Q' k->Q k):ey w' Q' ds dv xs :=
 ⟨ap h.own (λ k hk=>h1 k (h.own.lt k hk).2 (h.off k hk)),λ k hk hQ=>h.off k hk (h2 k (h.own.lt k hk).2 hQ),h.all.keep (λ k hk hn=>h1 k hk (λ hq=>hn (inl hq))) (λ k hk hq=>hq.imp (h2 k hk) id)⟩
theorem ey.form{w:World}{Q:Nat->Prop}{ds:List Df}{dv:Value}{xs:List Value}(h:ey w Q ds dv xs):∃ o c,dv=.slice o ds.length c:=by
 rcases h.own.2 with⟨e1,e2⟩|⟨g,cap,cur,e1,_⟩
 ·exact⟨none,0,by rw [e1,e2]⟩
 exact⟨_,_,e1⟩
theorem cH.keep{w w':World}{Q Q':Nat->Prop}{ks:List Tr}{kv:Value}{ys:List Value}(h:cH w Q ks kv ys)(h1:∀ k,k<w.heap.size->¬Q k->w'.heap[k]?=w.heap[k]?)(h2:∀ k,k<w.heap.size->Q' k->Q k):cH w' Q' ks kv ys :=
 ⟨ap h.1 (λ k hk=>h1 k (h.1.lt k hk).2 (h.2.1 k hk)),λ k hk hQ=>h.2.1 k hk (h2 k (h.1.lt k hk).2 hQ),bR.keep (λ k hk hn=>h1 k hk (λ hq=>hn (inl hq))) (λ k hk hq=>hq.imp (h2 k hk) id) _ _ h.2.2⟩
abbrev nu(dv kv tv lv:Value):Array Value:=#[dv,.string bP,.string ⟨#[]⟩,.int .i64 0,.int .i64 0,kv,tv,lv]
abbrev nF(_:Nat):Prop:=False
theorem Ee{w0 wr w2 w':World}{pb ob c:Nat}{s:ByteArray}{s2:PS}{O1 O2:Nat->Prop}{row v:Value}{obS:Obj}
  (HF:Fr nF w0 O1 wr) (F2:Fr O1 wr O2 w2) (H2:PA w2 pb s s2 O2) (hob:ob<wr.heap.size) (l0:w0.heap.size<=ob) (nob:¬O1 ob)
  (hrow:∀ k,row.ownBlock=some k->k<wr.heap.size/\¬O1 k/\w0.heap.size<=k/\k≠ob) (hgrow:(w2.alloc obS).drew.grownBy w' row.ownBlock) :
  PA (w'.setCell ⟨ob,c,none⟩ v) pb s s2 O2/\Fr nF w0 O2 (w'.setCell ⟨ob,c,none⟩ v)/\¬O2 ob/\w2.heap.size+1<=w'.heap.size /\
  (∀ k,k<w2.heap.size->some k≠row.ownBlock->k≠ob->(w'.setCell ⟨ob,c,none⟩ v).heap[k]?=w2.heap[k]?)/\w'.heap[ob]?=wr.heap[ob]?/\(∀ k,row.ownBlock=some k->¬O2 k):=by
 have l2:wr.heap.size<=w2.heap.size:=F2.size
 have hold:∀ k,k<w2.heap.size->some k≠row.ownBlock->w'.heap[k]?=w2.heap[k]?:=λ k hk hn=>by
  rw [hgrow.block k (by simp;omega) hn];exact eW _ _ _ hk
 have nb:¬O2 ob:=λ h=>by rcases F2.own _ h with h|h;exact nob h;omega
 have nrow:∀ k,row.ownBlock=some k->¬O2 k:=λ k hk h=>by
  rcases F2.own _ h with h|h
  ·exact(hrow k hk).2.1 h
  have:=(hrow k hk).1;omega
 refine⟨?_,?_,nb,?_,λ k hk hn hne=>?_,?_,nrow⟩
 ·exact PA.other (H2.frame (λ k hk=>hold k (H2.lt hk) (λ e=>nrow k e.symm hk))) nb _ _
 ·have f1:=HF.trans F2;have f2:=((f1.alloc obS).drew).grown hgrow (λ k hk=>inr (hrow k hk).2.2.1);exact f2.setCell (inr l0) _
 ·have:=hgrow.size;simp at this;omega
 ·rw [ah (λ e=>hne e)];exact hold k hk hn
 rw [hold ob (by omega) (λ e=>(hrow ob e.symm).2.2.2 rfl)];exact F2.block ob hob nob
theorem Eu{w0 wr w2 w':World}{pb ob g cap:Nat}{s:ByteArray}{s2:PS}{O1 O2:Nat->Prop}{ds:List Df}{d:Df}{dv kv tv lv:Value}{xs:List Value}{v:Array Value}{obX obS:Obj}
  (HF:Fr nF w0 O1 wr) (F2:Fr O1 wr O2 w2) (H2:PA w2 pb s s2 O2) (B:wr.heap[ob]?=some (.cells (nu dv kv tv lv) 119 (0,0))) (nob:¬O1 ob) (l0:w0.heap.size<=ob)
  (D:ey wr (λ k=>O1 k\/k=ob\/k<w0.heap.size) ds dv xs) (hv:v.size=10) (T3:jk w2 (λ k=>O2 k\/k<wr.heap.size) d (.agg v))
  (hgrow:((w2.alloc obX).alloc obS).drew.grownBy w' dv.ownBlock) (hown:w'.ownsRow 0 145 10 (.slice (some ⟨g,0,none⟩) (ds.length+1) cap) (ds.length+1) (xs++v.toList))
  (hat:dv.ownBlock=some g\/g=w2.heap.size+2) :
  PA (w'.setCell ⟨ob,0,none⟩ (.slice (some ⟨g,0,none⟩) (ds.length+1) cap)) pb s s2 O2/\Fr nF w0 O2 (w'.setCell ⟨ob,0,none⟩ (.slice (some ⟨g,0,none⟩) (ds.length+1) cap))/\¬O2 ob /\
  (w'.setCell ⟨ob,0,none⟩ (.slice (some ⟨g,0,none⟩) (ds.length+1) cap)).heap[ob]?=some (.cells (nu (.slice (some ⟨g,0,none⟩) (ds.length+1) cap) kv tv lv) 119 (0,0)) /\
  ey (w'.setCell ⟨ob,0,none⟩ (.slice (some ⟨g,0,none⟩) (ds.length+1) cap)) (λ k=>O2 k\/k=ob\/k<w0.heap.size) (ds++[d]) (.slice (some ⟨g,0,none⟩) (ds.length+1) cap) (xs++v.toList):=by
 have lob:ob<wr.heap.size:=ai B;have l2:wr.heap.size<=w2.heap.size:=F2.size;have lw:w0.heap.size<=wr.heap.size:=HF.size
 have hrow:∀ k,dv.ownBlock=some k->k<wr.heap.size/\¬O1 k/\w0.heap.size<=k/\k≠ob:=λ k hk=>by
  have h1:=(D.own.lt k hk).2;have h2:=D.off k hk;exact⟨h1,λ h=>h2 (inl h),Nat.le_of_not_lt (λ h=>h2 (inr (inr h))),λ h=>h2 (inr (inl h))⟩
 have FX:Fr O1 wr O2 (w2.alloc obX):=F2.alloc obX;obtain⟨f1,f2,f3,f4,f5,f6,f7⟩:=Ee (c:=0) (v:=.slice (some ⟨g,0,none⟩) (ds.length+1) cap) HF FX (H2.alloc obX) lob l0 nob hrow hgrow;have hx:∀ k,k<w2.heap.size->(w2.alloc obX).heap[k]?=w2.heap[k]?:=λ k hk=>eW _ _ _ hk
 have hgo:g≠ob/\w0.heap.size<=g/\¬O2 g:=by
  rcases hat with h|h
  ·exact⟨(hrow g h).2.2.2,(hrow g h).2.2.1,f7 g h⟩
  exact⟨by omega,by omega,λ h3=>by have:=H2.lt h3;omega⟩
 refine⟨f1,f2,f3,?_,⟨?_,λ k hk=>?_,?_⟩⟩
 ·rw [aB (f6.trans B)];rfl
 ·rw [List.length_append];exact ap hown (λ k hk=>ah (λ e=>hgo.1 (by simp [Value.ownBlock]at hk;rw [hk];exact e)))
 ·obtain rfl:g=k:=by simpa [Value.ownBlock]using hk
  rintro(h|h|h)
  ·exact hgo.2.2 h
  ·exact hgo.1 h
  omega
 refine kx.snoc hv ?_ ?_
 ·refine T3.keep (λ k hk hn=>?_) (λ k hk hq=>?_)
  ·have hk2:wr.heap.size<=k:=Nat.le_of_not_lt (λ h=>hn (inr h));rw [f5 k (by simp;omega) (λ e=>by have:=(hrow k e.symm).1;omega) (by omega),hx k hk]
  rcases hq with(h|h|h)|h
  ·exact inl h
  ·exact inr (by omega)
  ·exact inr (by omega)
  obtain rfl:g=k:=by simpa [Value.ownBlock]using h
  rcases hat with h|h
  ·exact inr (hrow g h).1
  omega
 refine D.all.keep (λ k hk hn=>?_) (λ k hk hq=>?_)
 ·rw [f5 k (by simp;omega) (λ e=>hn (inr e.symm)) (λ e=>hn (inl (inr (inl e)))),hx k (by omega)];exact F2.block k hk (λ h=>hn (inl (inl h)))
 rcases hq with(h|h|h)|h
 ·rcases F2.own k h with h1|h1
  ·exact inl (inl h1)
  omega
 ·exact inl (inr (inl h))
 ·exact inl (inr (inr h))
 obtain rfl:g=k:=by simpa [Value.ownBlock]using h
 rcases hat with h|h
 ·exact inr h
 omega
theorem BQ{w0 wr w2 w1 w':World}{pb ob g cap n1:Nat}{s:ByteArray}{s2:PS}{O1 O2:Nat->Prop}{ks:List Tr}{x:Tr}{dv kv tv lv:Value}{ys zs:List Value}{a0 a1 a2 a3 a4:Value}{obX obS:Obj}{ds:List Df}{xs:List Value}
  (HF:Fr nF w0 O1 wr) (F2:Fr O1 wr O2 w2) (H2:PA w2 pb s s2 O2) (B:wr.heap[ob]?=some (.cells (nu dv kv tv lv) 119 (0,0))) (nob:¬O1 ob) (l0:w0.heap.size<=ob) (ln:ob<n1) (ln2:n1<=wr.heap.size)
  (D:ey wr (λ k=>O1 k\/k=ob\/k<w0.heap.size\/n1<=k) ds dv xs) (T:cH wr (λ k=>O1 k\/k<n1) ks kv ys) (T3:aP w2 (λ k=>O2 k\/k<wr.heap.size) x (.agg #[a0,a1,a2,a3,a4]))
  (hgrow:((w2.alloc obX).alloc obS).drew.grownBy w1 kv.ownBlock) (hz:zs.length=5) (hown:w1.ownsRow 0 115 5 (.slice (some ⟨g,0,none⟩) (ks.length+1) cap) (ks.length+1) (ys++zs))
  (hat:kv.ownBlock=some g\/g=w2.heap.size+2)
  (hw':w'=((((w1.setCell ⟨g,ks.length*5,none⟩ a0).setCell ⟨g,ks.length*5+1,none⟩ a1).setCell ⟨g,ks.length*5+2,none⟩ a2).setCell ⟨g,ks.length*5+3,none⟩ a3).setCell ⟨g,ks.length*5+4,none⟩ a4) :
  PA (w'.setCell ⟨ob,5,none⟩ (.slice (some ⟨g,0,none⟩) (ks.length+1) cap)) pb s s2 O2/\Fr nF w0 O2 (w'.setCell ⟨ob,5,none⟩ (.slice (some ⟨g,0,none⟩) (ks.length+1) cap))/\¬O2 ob /\
  (w'.setCell ⟨ob,5,none⟩ (.slice (some ⟨g,0,none⟩) (ks.length+1) cap)).heap[ob]?=some (.cells (nu dv (.slice (some ⟨g,0,none⟩) (ks.length+1) cap) tv lv) 119 (0,0)) /\
  ey (w'.setCell ⟨ob,5,none⟩ (.slice (some ⟨g,0,none⟩) (ks.length+1) cap)) (λ k=>O2 k\/k=ob\/k<w0.heap.size\/n1<=k) ds dv xs /\
  cH (w'.setCell ⟨ob,5,none⟩ (.slice (some ⟨g,0,none⟩) (ks.length+1) cap)) (λ k=>O2 k\/k<n1) (ks++[x]) (.slice (some ⟨g,0,none⟩) (ks.length+1) cap) (ys++[a0,a1,a2,a3,a4]):=by
 have lob:ob<wr.heap.size:=ai B;have l2:wr.heap.size<=w2.heap.size:=F2.size;have hyl:ys.length=ks.length*5:=by have:=T.1.1;omega
 have hown':w'.ownsRow 0 115 5 (.slice (some ⟨g,0,none⟩) (ks.length+1) cap) (ks.length+1) (ys++[a0,a1,a2,a3,a4]):=by
  rw [hw'];have h5:=(((((hown.stored (ks.length*5) a0).1.stored (ks.length*5+1) a1).1.stored (ks.length*5+2) a2).1.stored (ks.length*5+3) a3).1.stored (ks.length*5+4) a4).1
  have e:((((((ys++zs).set (ks.length*5) a0).set (ks.length*5+1) a1).set (ks.length*5+2) a2).set (ks.length*5+3) a3).set (ks.length*5+4) a4)=ys++[a0,a1,a2,a3,a4]:=by
   obtain⟨z0,z1,z2,z3,z4,rfl⟩:∃ z0 z1 z2 z3 z4,zs=[z0,z1,z2,z3,z4]:=by
    match zs,hz with
    | [z0,z1,z2,z3,z4],_=>exact⟨z0,z1,z2,z3,z4,rfl⟩
   rw [<-hyl];simp []
  rw [e]at h5;exact h5
 have hgb:(Value.slice (some ⟨g,0,none⟩) (ks.length+1) cap).ownBlock=some g:=rfl
 have hgrow':∀ k,k<w2.heap.size+2->some k≠kv.ownBlock->k≠g->w'.heap[k]?=((w2.alloc obX).alloc obS).heap[k]?:=λ k hk hn hne=>by
  rw [hw',ah hne,ah hne,ah hne,ah hne,ah hne];exact hgrow.block k (by simp;omega) hn
 have hrow:∀ k,kv.ownBlock=some k->k<wr.heap.size/\¬O1 k/\n1<=k:=λ k hk=>by
  have h1:=(T.1.lt k hk).2;have h2:=T.2.1 k hk;exact⟨h1,λ h=>h2 (inl h),Nat.le_of_not_lt (λ h=>h2 (inr h))⟩
 have hg1:n1<=g/\(g<wr.heap.size\/g=w2.heap.size+2)/\¬O2 g:=by
  rcases hat with h|h
  ·refine⟨(hrow g h).2.2,inl (hrow g h).1,λ h3=>?_⟩;rcases F2.own _ h3 with h4|h4
   ·exact(hrow g h).2.1 h4
   have:=(hrow g h).1;omega
  exact⟨by omega,inr h,λ h3=>by have:=H2.lt h3;omega⟩
 have hkg:∀ k,kv.ownBlock=some k->k=g\/True:=λ _ _=>inr trivial
 clear hkg
 have hold:∀ k,k<w2.heap.size->some k≠kv.ownBlock->k≠g->k≠ob->(w'.setCell ⟨ob,5,none⟩ (.slice (some ⟨g,0,none⟩) (ks.length+1) cap)).heap[k]?=w2.heap[k]?:=λ k hk hn hne hno=>by
  rw [ah hno,hgrow' k (by omega) hn hne,eW _ _ _ (by simp;omega),eW _ _ _ hk]
 have nb:¬O2 ob:=λ h=>by rcases F2.own _ h with h|h;exact nob h;omega
 have nkv:∀ k,kv.ownBlock=some k->¬O2 k:=λ k hk h=>by
  rcases F2.own _ h with h|h
  ·exact(hrow k hk).2.1 h
  have:=(hrow k hk).1;omega
 have hB:w'.heap[ob]?=some (.cells (nu dv kv tv lv) 119 (0,0)):=by
  rw [hgrow' ob (by omega) (λ e=>by have:=(hrow ob e.symm).2.2;omega) (by omega),eW _ _ _ (by simp;omega),eW _ _ _ (by omega),F2.block ob lob nob];exact B
 have fr1:Fr nF w0 O2 w':=by
  have f1:=HF.trans F2;have f2:=(((f1.alloc obX).alloc obS).drew).grown hgrow (λ k hk=>inr (by have:=(hrow k hk).2.2;omega));have hg0:w0.heap.size<=g:=by omega
  rw [hw'];exact((((f2.setCell (inr hg0) _).setCell (inr hg0) _).setCell (inr hg0) _).setCell (inr hg0) _).setCell (inr hg0) _
 refine⟨?_,fr1.setCell (inr l0) _,nb,?_,?_,⟨?_,λ k hk=>?_,?_⟩⟩
 ·have hp:PA w' pb s s2 O2:=H2.frame (λ k hk=>by
   have hlt:=H2.lt hk;rw [hgrow' k (by omega) (λ e=>nkv k e.symm hk) (λ e=>hg1.2.2 (by rw [<-e];exact hk)),eW _ _ _ (by simp;omega),eW _ _ _ hlt])
  exact PA.other hp nb _ _
 ·rw [aB hB];rfl
 ·refine D.keep (λ k hk hn=>?_) (λ k hk hq=>?_)
  ·rw [hold k (by omega) (λ e=>by have:=(hrow k e.symm).2.2;exact hn (inr (inr (inr this)))) (λ e=>hn (inr (inr (inr (by omega))))) (λ e=>hn (inr (inl e)))];exact F2.block k hk (λ h=>hn (inl h))
  rcases hq with h|h
  ·rcases F2.own k h with h1|h1
   ·exact inl h1
   omega
  exact inr h
 ·rw [List.length_append];exact ap hown' (λ k hk=>ah (λ e=>by rw [hgb]at hk;cases hk;have e':g=ob:=e;omega))
 ·obtain rfl:g=k:=by simpa [Value.ownBlock]using hk
  rintro(h|h)
  ·exact hg1.2.2 h
  omega
 refine bR.snoc ks ys x _ _ _ _ _ ?_ ?_
 ·refine bR.keep (w:=wr) (Q:=λ k=>(O1 k\/k<n1)\/kv.ownBlock=some k) (λ k hk hn=>?_) (λ k hk hq=>?_) ks ys T.2.2
  ·rw [hold k (by omega) (λ e=>hn (inr e.symm)) (λ e=>by
    rcases hat with h|h
    ·exact hn (inr (by rw [e];exact h))
    ·omega) (λ e=>hn (inl (inr (by omega))))]
   exact F2.block k hk (λ h=>hn (inl (inl h)))
  rcases hq with(h|h)|h
  ·rcases F2.own k h with h1|h1
   ·exact inl (inl h1)
   omega
  ·exact inl (inr h)
  obtain rfl:g=k:=by simpa [Value.ownBlock]using h
  rcases hat with h|h
  ·exact inr h
  omega
 refine aP.keep (w:=w2) (Q:=λ k=>O2 k\/k<wr.heap.size) (λ k hk hn=>?_) (λ k hk hq=>?_) x _ T3
 ·have hk2:wr.heap.size<=k:=Nat.le_of_not_lt (λ h=>hn (inr h));rw [hold k hk (λ e=>by have:=(hrow _ e.symm).1;omega) (by omega) (by omega)]
 rcases hq with(h|h)|h
 ·exact inl h
 ·exact inr (by omega)
 obtain rfl:g=k:=by simpa [Value.ownBlock]using h
 rcases hat with h|h
 ·exact inr (hrow g h).1
 omega
