/- part -/
import Derived.Test.YtgdeeodifnegiaaGreatDoorPlainM
import Derived.Deep.RegionHeld3
import Derived.Deep.RegionLaw
import Derived.Deep.DeepCutAuto
import Derived.Deep.DrawnRows
import Derived.Lib.Builder
import Derived.Lib.FrozenHead
set_option maxRecDepth 100000
set_option maxHeartbeats 2000000
namespace Go.Proofs.YtgdeeodifnegiaaGreatDoor
open Go.Proofs.Tryz
open Or
open Go.RowKit
theorem nA.tok{w:World}{pb:Nat}{ts:List aw}{st:RS}{D:Nat->Prop}{tb tc:Nat}{dv av bv:Value}(h:nA w pb ts st D tb tc dv av bv)(hi:st.next<ts.length) :
  w.cell? ⟨tb,st.next*6,none⟩=some (.int .i64 (bL ts st).kind)/\w.cell? ⟨tb,st.next*6+1,none⟩=some (.int .i64 (bL ts st).at_)/\w.cell? ⟨tb,st.next*6+2,none⟩=some (.string (bL ts st).text)/\w.cell? ⟨tb,st.next*6+3,none⟩=some (.int .i64 (bL ts st).number)/\w.cell? ⟨tb,st.next*6+4,none⟩=some (.int .i64 (bL ts st).addr)/\w.cell? ⟨tb,st.next*6+5,none⟩=some (.int .i64 (bL ts st).len):=by
 rw [lO hi];obtain⟨_,h2⟩:=h.toks;rcases h2 with⟨h2,_⟩|⟨g,cap,cur,hv,hb,hg,hn,hm,hs,ht⟩
 ·cases h2
 cases hv
 obtain⟨g0,g1,g2,g3,g4,g5⟩:=x9 hi
 have hx:∀ j v,(cj ts)[j]?=some v->w.cell? ⟨tb,j,none⟩=some v:=λ j v hj=>by
  rw [af hg,<-Array.getElem?_toList];rw [<-ht]at hj;rw [List.getElem?_take]at hj;split at hj
  ·exact hj
  cases hj
 rw [Nat.mul_comm st.next 6];exact⟨hx _ _ g0,hx _ _ g1,hx _ _ g2,hx _ _ g3,hx _ _ g4,hx _ _ g5⟩
theorem iW{w:World}{pb:Nat}{ts:List aw}{st:RS}{D O:Nat->Prop}(h:RA w pb ts st D O)(hk:st.next<ts.length)(_hn:ts.length<=601) :
  Calls prog 170 #[ay pb 0] w λ e w'=>e=.returned (.int .i64 (am ts st))/\∃ q,w'=w.drewN q:=by
 obtain⟨tb,tc,dv,av,bv,h,rfl⟩:=h;have c0:w.cell? ⟨pb,0,none⟩=some (.slice (some ⟨tb,0,none⟩) ts.length tc):=af h.blk;have c1:w.cell? ⟨pb,1,none⟩=some (.int .i64 (st.next:Int)):=af h.blk;have c7:w.cell? ⟨pb,7,none⟩=some (nr st.syn):=af h.blk;have t0:=(h.tok hk).1;have E0:=ae (show am ts st=if st.syn.isSome then 0 else(bL ts st).kind from rfl);clear h;generalize hl:ts.length=N at *;generalize hx:st.next=n at *;generalize (bL ts st).kind=K at *;cases hs:st.syn with
 | none =>
  rw [hs]at c7;have c7':w.cell? ⟨pb,7,none⟩=some (.bool false):=c7;clear c7;go_enter func170,ntmps170;go_wp2_with fail;go_region
  go_wp2_with fail;go_ret;refine⟨?_,1,rfl⟩;rw [ab E0,hs];rfl
 | some x =>
  rw [hs]at c7;have c7':w.cell? ⟨pb,7,none⟩=some (.bool true):=c7;clear c7;go_enter func170,ntmps170;go_wp2_with fail;go_ret;refine⟨?_,0,rfl⟩;rw [ab E0,hs];rfl
theorem nA.synSet{w:World}{pb:Nat}{ts:List aw}{st:RS}{D:Nat->Prop}{tb tc:Nat}{dv av bv:Value}(h:nA w pb ts st D tb tc dv av bv){o:Nat}(x:Int)(st':RS)(hp:st'.page=st.page)(hd:st'.defs=st.defs)
  (hc:((iq (.slice (some ⟨tb,0,none⟩) ts.length tc) dv av bv st).setIfInBounds o (.bool true)).setIfInBounds (o+1) (.int .i64 x)=iq (.slice (some ⟨tb,0,none⟩) ts.length tc) dv av bv st') :
  nA ((w.setCell ⟨pb,o,none⟩ (.bool true)).setCell ⟨pb,o+1,none⟩ (.int .i64 x)) pb ts st' D tb tc dv av bv:=by
 refine h.set (by simp [World.setCell]) ?_ hp hd (λ k _ hk _=>by rw [ah hk,ah hk]);rw [aB (aB h.blk),hc]
theorem uw(w:World)(pb o:Nat)(f:Option Int)(x:Int)(c:Array Value)(hb:w.heap[pb]?=some (.cells c 210 (0,0)))(h0:c[o]?=some (nr f))(h1:c[o+1]?=some (rK f)) :
  Calls prog 228 #[ay pb o,.int .i64 x] w λ e w'=>e=.returned (.tuple #[])/\w'=if f.isSome then w else(w.setCell ⟨pb,o,none⟩ (.bool true)).setCell ⟨pb,o+1,none⟩ (.int .i64 x):=by
 have c0:w.cell? ⟨pb,o,none⟩=some (nr f):=(af hb).trans h0;have c1:w.cell? ⟨pb,o+1,none⟩=some (rK f):=(af hb).trans h1;have z0:w.frozen? ⟨pb,o,none⟩=false:=ak hb;have z1:w.frozen? ⟨pb,o+1,none⟩=false:=ak hb;clear hb h0 h1;cases f with
 | none =>
  have c0':w.cell? ⟨pb,o,none⟩=some (.bool false):=c0;have c1':w.cell? ⟨pb,o+1,none⟩=some (.int .i64 0):=c1;clear c0 c1;go_enter func228,ntmps228;go_wp2_with fail
  go_end0
  exact⟨rfl,rfl⟩
 | some y =>
  have c0':w.cell? ⟨pb,o,none⟩=some (.bool true):=c0;clear c0 c1;go_enter func228,ntmps228;go_wp2_with fail
  go_end0
  exact⟨rfl,rfl⟩
theorem gb{w:World}{pb:Nat}{ts:List aw}{st:RS}{D O:Nat->Prop}(h:RA w pb ts st D O)(hk:st.next<ts.length)(_hn:ts.length<=601) :
  Calls prog 171 #[ay pb 0] w λ e w'=>e=.returned (.tuple #[])/\RA w' pb ts (cC ts st) D O/\Fr O w O w':=by
 obtain⟨tb,tc,dv,av,bv,h,rfl⟩:=h;have c0:w.cell? ⟨pb,0,none⟩=some (.slice (some ⟨tb,0,none⟩) ts.length tc):=af h.blk;have c1:w.cell? ⟨pb,1,none⟩=some (.int .i64 (st.next:Int)):=af h.blk;have t1:=(h.tok hk).2.1
 have HT:Hid (∀ q,Calls prog 228 #[ay pb 7,.int .i64 (bL ts st).at_] (w.drewN q) λ e w'=>e=.returned (.tuple #[])/\w'=if st.syn.isSome then(w.drewN q)else((w.drewN q).setCell ⟨pb,7,none⟩ (.bool true)).setCell ⟨pb,8,none⟩ (.int .i64 (bL ts st).at_)) :=
  λ q=>uw (w.drewN q) pb 7 st.syn _ _ h.blk rfl rfl
 have HZ:Hid (∀ q w',(w'=if st.syn.isSome then(w.drewN q)else((w.drewN q).setCell ⟨pb,7,none⟩ (.bool true)).setCell ⟨pb,8,none⟩ (.int .i64 (bL ts st).at_))->RA w' pb ts (cC ts st) D (dS pb tb dv bv)/\Fr (dS pb tb dv bv) w (dS pb tb dv bv) w'):=by
  intro q w' hw;cases hs:st.syn with
  | none =>
   rw [hs]at hw;subst hw;have hD:nA (w.drewN q) pb ts st D tb tc dv av bv:=h.keep (aD _) (λ _ _ _=>rfl);refine⟨⟨tb,tc,dv,av,bv,hD.synSet (o:=7) _ (cC ts st) rfl rfl ?_,rfl⟩,(((bE _ _).drewN q).setCell (inl (inl rfl)) _).setCell (inl (inl rfl)) _⟩;simp [iq,cC,hs,iC,nr,rK]
  | some y =>
   rw [hs]at hw;subst hw;refine⟨⟨tb,tc,dv,av,bv,?_,rfl⟩,(bE _ _).drewN q⟩;have e:cC ts st=st:=by simp [cC,hs,iC];rw [<-hs]
   rw [e];exact h.keep (aD _) (λ _ _ _=>rfl)
 have HC:Hid (∀ q,Calls prog 228 #[ay pb 7,.int .i64 (bL ts st).at_] (w.drewN q) λ e w'=>e=.returned (.tuple #[])/\Hid (RA w' pb ts (cC ts st) D (dS pb tb dv bv)/\Fr (dS pb tb dv bv) w (dS pb tb dv bv) w')) :=
  λ q=>((ab HT) q).mono (λ e w' ⟨he,hw⟩=>⟨he,ae ((ab HZ) q w' hw)⟩)
 clear h HT HZ;generalize hl:ts.length=N at *;generalize hx:st.next=n at *;generalize (bL ts st).at_=K at *;go_enter func171,ntmps171;go_region_with (go_at_call 228;refine((ab HC) 1).mono ?_;rintro e w' ⟨rfl,hw⟩)
 all_goals (go_end0;exact⟨rfl,ab hw⟩)
theorem J2{P:Program}(w:World)(t u ty e:TypeId)(i:TypeInfo)(ht:P.underlying t=some (.slice e))(hu:P.underlying u=some .string)(hi:P.info? e=some i)(hz:i.zero=some (.int .u8 0))
  (hsize:i.size=1) (hby:i.bytes=1) (v:Value) (n:Nat) (xs:List Value) (hown:w.ownsRow 0 e 1 v n xs) (s:ByteArray) (h63:n+s.size<=1000000000) :
  ∃ v' w',(Builtin.append_ #[t,u] ty #[v,.string s]).run P w=.ok v' w'/\w'.ownsRow 0 e 1 v' (n+s.size) (xs++Lib.strCells s)/\w.grownBy w' v.ownBlock/\(v'.ownBlock=v.ownBlock\/v'.ownBlock=some w.heap.size):=by
 obtain⟨v',w',hr,h2,h3,h4⟩:=Lib.run_append_own_string (P:=P) w 0 t u ty e i ht hu hi hz hsize hby v n xs hown s (by unfold maxLen;omega) (by omega) (iL _);refine⟨v',w',hr,h2,h3,?_⟩;have hxl:xs.length=n:=by simpa using hown.1
 have hk:=hown;rcases hown.2 with⟨rfl,rfl⟩|⟨g,cap,cur,rfl,hbg,hg,hnc,hcm,hcs,htake⟩
 ·have hx:xs=[]:=List.eq_nil_of_length_eq_zero hxl;subst hx;obtain⟨v2,w2,hr2,g2,_,_⟩:=Lib.run_append_own_string (P:=P) w w.heap.size t u ty e i ht hu hi hz hsize hby (.slice none 0 0) 0 [] (jX w w.heap.size e 1) s (by unfold maxLen;omega) (by omega) (aD _);rw [hr]at hr2;cases hr2
  rcases g2.2 with⟨rfl,_⟩|⟨g,cap,cur,rfl,hb,hg,_⟩
  ·exact inl rfl
  right;have h5:g<w'.heap.size:=ai hg;by_cases hm:s.size=0
  ·have:=(h4.2 ⟨rfl,hm⟩);cases this
  have hr3:=run_append_nil_string (P:=P) w t u ty e i (.int .u8 0) ht hu hi hz s (by omega) (by omega) (by rw [hby];omega);rw [hr]at hr3
  injection hr3 with e1 _
  injection e1 with e2 _ _
  injection e2 with e3
  injection e3 with e4
  show some g=_;rw [e4]
 by_cases hroom:n+s.size<=cap
 ·have hcs':cur.size=cap:=by simpa using hcs
  have hr2:=Lib.run_append_room_string (P:=P) w t u ty e i ht hu hi hsize g n cap cur hg s hroom (by omega);rw [hr]at hr2;cases hr2
  exact inl rfl
 have holds:∀ j u,xs[j]?=some u->w.cell? ((⟨g,0,none⟩:Addr).add j)=some u:=hk.cells (g:=g) rfl;have hr2:=Lib.run_append_grow_string (P:=P) w t u ty e i (.int .u8 0) ht hu hi hz ⟨g,0,none⟩ n cap xs (by rw [hsize];simpa using hxl) holds s (by omega) (by omega) (by rw [hby];exact growslice_fits (by omega) (by omega));rw [hr]at hr2;cases hr2
 exact inr rfl
theorem uE{P:Program}{w:World}{ops:Array Oper}{rest:List Oper}{o:Oper}{a:Act}{Q:Exit->Act->World->Prop}(hgd:o.guard=none)(sl x:Operand)(t u:TypeId)
  (ho:o.op=.call { callee:=.builtin .append,args:=#[sl,x],argTypes:=#[t,u] }) (e:TypeId) (i:TypeInfo) (ht:P.underlying t=some (.slice e)) (hu:P.underlying u=some .string) (hi:P.info? e=some i) (hz:i.zero=some (.int .u8 0))
  (hsize:i.size=1) (hby:i.bytes=1) (v:Value) (n:Nat) (xs:List Value) (hs:a.eval sl=v) (hown:w.ownsRow 0 e 1 v n xs) (s:ByteArray) (hx:a.eval x=.string s) (h63:n+s.size<=1000000000)
  (h:∀ v' w',w'.ownsRow 0 e 1 v' (n+s.size) (xs++Lib.strCells s)->w.grownBy w' v.ownBlock->(v'.ownBlock=v.ownBlock\/v'.ownBlock=some w.heap.size)->wpList P ops Q rest (a.put o.dst v') w'):wpList P ops Q (o::rest) a w:=by
 refine wpList_plain hgd λ K hK=>?_
 obtain⟨v',w',hr,h2,h3,h4⟩:=J2 (P:=P) w t u o.type e i ht hu hi hz hsize hby v n xs hown s h63;unfold Oper.wp execOp;simp only [ho,resolve,invoke,builtin,Sem.run_bind,Sem.run_pure,Result.andThen_ok,List.map_toArray,List.map_cons,List.map_nil,hs,hx,hr];exact hK _ _ (h v' w' h2 h3 h4)
theorem Tryz.infoByte:(prog.info? 5).map (λ i=>(i.zero,i.size,i.bytes))=some (some (.int .u8 0),1,1):=by kernel_rfl
theorem Tryz.sizeBuilder:(prog.info? 204).map (λ i=>i.size)=some 2:=by kernel_rfl
theorem Tryz.liesBuilder:liesAt prog prog.depth 210 (13 / prog.cellsOf 210) 4 204 1=true:=by kernel_rfl
theorem sZ(pb:Nat)(w:World)(h0:w.cell? ⟨pb,4,none⟩=some (ay pb 4)) :
  Calls prog 331 #[ay pb 4] w λ e w'=>e=.returned (.tuple #[])/\w'=w:=by
 obtain⟨j,hj,_⟩:=Option.map_eq_some_iff.1 Tryz.sizeBuilder;go_enter func331,ntmps331;go_wp2_with fail;rw [Lib.run_neq_ptr_same w _ underlying202 hj];go_wp2_with fail
 go_end0
 exact⟨rfl,rfl⟩
theorem uT(pb:Nat)(w:World)(h0:w.cell? ⟨pb,4,none⟩=some (.pointer none))(hsh:w.shape? pb=some (210,13))(hfz:w.frozen? ⟨pb,4,none⟩=false) :
  Calls prog 331 #[ay pb 4] w λ e w'=>e=.returned (.tuple #[])/\w'=w.setCell ⟨pb,4,none⟩ (ay pb 4):=by
 obtain⟨j,hj,hjs⟩:=Option.map_eq_some_iff.1 Tryz.sizeBuilder;go_enter func331,ntmps331;go_wp2_with fail;rw [Lib.run_to_unsafe w ⟨pb,4,none⟩ underlying202 underlying427 hj (by rw [hjs];decide) hsh (show 4<13 by decide)];simp only [Result.andThen];rw [Oper.upon_value];go_wp2_with fail;rw [run_callFunc_extern func355 (by kernel_rfl) (by kernel_rfl) (by kernel_rfl) (e:=Extern.AbiNoEscape.same) (by kernel_rfl)];rw [Lib.run_noEscape];simp only [Result.andThen];rw [Oper.upon_value];go_wp2_with fail;rw [Lib.run_from_unsafe w ⟨pb,4,none⟩ underlying427 underlying202 hj hsh Tryz.liesBuilder];simp only [Result.andThen];rw [Oper.upon_value];go_wp2_with fail
 go_end0
 exact⟨rfl,rfl⟩
theorem uQ(l:List UInt8)(s:ByteArray):iD l++Lib.strCells s=iD (l++s.data.toList):=by
 simp [iD,Lib.strCells]
def jh(st:RS)(s:ByteArray):RS:={ st with page:=st.page++s.data.toList }
theorem nA.wrote{w w2:World}{pb:Nat}{ts:List aw}{st:RS}{D:Nat->Prop}{tb tc:Nat}{dv bv v':Value}{s:ByteArray}(h:nA w pb ts st D tb tc dv (ay pb 4) bv)
  (hown:w2.ownsRow 0 5 1 v' (st.page.length+s.size) (iD st.page++Lib.strCells s)) (hg:w.grownBy w2 bv.ownBlock) (hat:v'.ownBlock=bv.ownBlock\/v'.ownBlock=some w.heap.size) :
  nA (w2.setCell ⟨pb,5,none⟩ v') pb ts (jh st s) D tb tc dv (ay pb 4) v'/\Fr (dS pb tb dv bv) w (dS pb tb dv v') (w2.setCell ⟨pb,5,none⟩ v'):=by
 have lp:pb<w.heap.size:=ai h.blk;have lt:tb<w.heap.size:=h.lt (inr (inl rfl))
 have hne:∀ k,k<w.heap.size->bv.ownBlock≠some k->v'.ownBlock≠some k:=λ k hk hb e=>by
  rcases hat with h1|h1
  ·exact hb (h1▸e)
  rw [h1]at e;cases e;omega
 have hs:w.heap.size<=(w2.setCell ⟨pb,5,none⟩ v').heap.size:=by have:=hg.size;simp [World.setCell];omega
 have hold:∀ k,k<w.heap.size->k≠pb->bv.ownBlock≠some k->(w2.setCell ⟨pb,5,none⟩ v').heap[k]?=w.heap[k]?:=λ k hk hp hb=>by
  rw [ah hp,hg.block k hk (λ e=>hb e.symm)]
 have hdn:∀ k,dv.ownBlock=some k->k<w.heap.size/\k≠pb/\bv.ownBlock≠some k:=λ k hk =>
  ⟨h.lt (inr (inr (inr hk))),λ e=>h.ne4 (by rw [hk,e]),λ e=>by
   rcases h.ne6 with h6|h6
   ·rw [h6]at e;cases e
   ·exact h6 (by rw [e,hk])⟩
 have hro:∀ k,k<w.heap.size->¬dS pb tb dv bv k->¬dS pb tb dv v' k:=λ k hk hn ho=>by
  rcases ho with h1|h1|h1|h1
  ·exact hn (inl h1)
  ·exact hn (inr (inl h1))
  ·exact hne k hk (λ e=>hn (inr (inr (inl e)))) h1
  exact hn (inr (inr (inr h1)))
 refine⟨⟨?_,?_,?_,h.used,?_,h.ne1,hne pb lp h.ne2,hne tb lt h.ne3,h.ne4,h.ne5,?_,?_⟩,?_⟩
 ·rw [aB ((hg.block pb lp (λ e=>h.ne2 e.symm)).trans h.blk)];rfl
 ·exact ap h.toks (λ k e=>by
   obtain rfl:tb=k:=by simpa [Value.ownBlock]using e
   exact hold tb lt h.ne1 h.ne3)
 ·rw [uQ]at hown;have e:(jh st s).page.length=st.page.length+s.size:=by show(st.page++s.data.toList).length=_;rw [List.length_append,Array.length_toList];rfl
  rw [e];exact ap hown (λ k e=>ah (λ e2=>hne pb lp h.ne2 (by rw [e,e2])))
 ·exact h.defs.mono hs (λ k e=>hold k (hdn k e).1 (hdn k e).2.1 (hdn k e).2.2) (λ k hk ha=>⟨hold k hk (λ e=>ha.1 (inl e)) (λ e=>ha.1 (inr (inr (inl e)))),hro k hk ha.1,ha.2⟩)
 ·cases hd:dv.ownBlock with
  | none =>
   cases hv:v'.ownBlock with
   | none=>exact inl rfl
   | some k=>exact inr (by simp)
  | some k =>
   right;exact hne k (hdn k hd).1 (hdn k hd).2.2
 ·exact λ k hk=>⟨eV (h.free k hk).1 hs,hro k (h.free k hk).1 (h.free k hk).2⟩
 have f1:=((bE (dS pb tb dv bv) w).grown hg (λ k e=>inl (inr (inr (inl e))))).setCell (p:=⟨pb,5,none⟩) (inl (inl rfl)) v';refine f1.reown (λ k ho=>?_);rcases ho with h1|h1|h1|h1
 ·exact inl (inl h1)
 ·exact inl (inr (inl h1))
 ·rcases hat with h2|h2
  ·exact inl (inr (inr (inl (h2▸h1))))
  rw [h2]at h1;cases h1;exact inr (aD _)
 exact inl (inr (inr (inr h1)))
theorem nA.useIt{w:World}{pb:Nat}{ts:List aw}{st:RS}{D:Nat->Prop}{tb tc:Nat}{dv av bv:Value}(h:nA w pb ts st D tb tc dv av bv) :
  nA (w.setCell ⟨pb,4,none⟩ (ay pb 4)) pb ts st D tb tc dv (ay pb 4) bv:=by
 have h':nA w pb ts st D tb tc dv av bv:=h;have hs:w.heap.size<=(w.setCell ⟨pb,4,none⟩ (ay pb 4)).heap.size:=by simp [World.setCell]
 have hk:∀ k,k≠pb->(w.setCell ⟨pb,4,none⟩ (ay pb 4)).heap[k]?=w.heap[k]?:=λ k e=>ah e
 refine⟨by rw [aB h.blk];rfl,ap h.toks (λ k e=>hk k ?_),ap h.page (λ k e=>hk k (λ e2=>h.ne2 (by rw [e,e2]))),inr rfl,
  h.defs.mono hs (λ k e=>hk k (λ e2=>h.ne4 (by rw [e,e2]))) (λ k _ ha=>⟨hk k (λ e=>ha.1 (inl e)),ha⟩),h.ne1,h.ne2,h.ne3,h.ne4,h.ne5,h.ne6,λ k hd=>⟨eV (h.free k hd).1 hs,(h.free k hd).2⟩⟩
 obtain rfl:tb=k:=by simpa [Value.ownBlock]using e
 exact h.ne1
theorem vX{w:World}{base:Nat}{e:TypeId}{size:Nat}{v:Value}{n:Nat}{xs:List Value}(h:w.ownsRow base e size v n xs):∃ a n c,v=.slice a n c:=by
 rcases h.2 with⟨h1,_⟩|⟨g,cap,cur,h1,_⟩
 ·exact⟨_,_,_,h1⟩
 exact⟨_,_,_,h1⟩
theorem nA.grown5{w w2:World}{pb:Nat}{ts:List aw}{st:RS}{D:Nat->Prop}{tb tc:Nat}{dv av bv:Value}(h:nA w pb ts st D tb tc dv av bv)(hg:w.grownBy w2 bv.ownBlock) :
  w2.cell? ⟨pb,5,none⟩=some bv/\w2.frozen? ⟨pb,5,none⟩=false:=by
 have hb:=(hg.block pb (ai h.blk) (λ e=>h.ne2 e.symm)).trans h.blk;exact⟨af hb,ak hb⟩
theorem uF{w:World}{pb:Nat}{ts:List aw}{st:RS}{D:Nat->Prop}{tb tc:Nat}{dv bv:Value}(h:nA w pb ts st D tb tc dv (ay pb 4) bv)(s:ByteArray)(hs:st.page.length+s.size<=1000000000)
  (W0:World) (hcc:Calls prog 331 #[ay pb 4] W0 λ e w'=>e=.returned (.tuple #[])/\w'=w) :
  Calls prog 299 #[ay pb 4,.string s] W0 λ e w'=>e=.returned (.tuple #[.int .i64 (s.size:Int),.nilIface])/\∃ v',nA w' pb ts (jh st s) D tb tc dv (ay pb 4) v'/\Fr (dS pb tb dv bv) w (dS pb tb dv v') w':=by
 obtain⟨i0,hi,hz0,hz1,hz2⟩:=info_parts Tryz.infoByte;have c5:w.cell? ⟨pb,5,none⟩=some bv:=af h.blk;have HH:=ae h;have AA:=ae hcc;have hsz:s.size<=1000000000:=by omega
 obtain⟨ba,bn,bc,hbv⟩:=vX h.page;subst hbv;clear h hcc;go_enter func299,ntmps299
 go_wp2_with (first
  | (go_at_call 331;refine(ab AA).mono ?_;rintro e w' ⟨rfl,rfl⟩)
  | (at_builtin;refine uE rfl _ _ 63 9 rfl 5 i0 underlying63 underlying9 hi hz0 hz1 hz2 _ _ _ rfl (ab HH).page s rfl hs ?_;intro v' w2 hown' hgrow hat;obtain⟨a',n',c',hv'⟩:=vX hown';obtain⟨d5,z5⟩:=(ab HH).grown5 hgrow;have HR:=ae ((ab HH).wrote hown' hgrow hat);clear hown' hgrow hat;subst hv'))
 go_ret2
 exact⟨rfl,_,ab HR⟩
theorem ni{w:World}{pb:Nat}{ts:List aw}{st:RS}{D O:Nat->Prop}(h:RA w pb ts st D O)(s:ByteArray)(hs:st.page.length+s.size<=1000000000) :
  Calls prog 299 #[ay pb 4,.string s] w λ e w'=>e=.returned (.tuple #[.int .i64 (s.size:Int),.nilIface])/\∃ O',RA w' pb ts (jh st s) D O'/\Fr O w O' w':=by
 obtain⟨tb,tc,dv,av,bv,h,rfl⟩:=h;rcases h.used with rfl|rfl
 ·refine(uF h.useIt s hs w (uT pb w (af h.blk) (by simp [World.shape?,h.blk];rfl) (ak h.blk))).mono ?_;rintro e w' ⟨rfl,v',h1,h2⟩;exact⟨rfl,_,⟨tb,tc,dv,_,v',h1,rfl⟩,(((bE _ _).setCell (inl (inl rfl)) _)).trans h2⟩
 refine(uF h s hs w (sZ pb w (af h.blk))).mono ?_;rintro e w' ⟨rfl,v',h1,h2⟩;exact⟨rfl,_,⟨tb,tc,dv,_,v',h1,rfl⟩,h2⟩
theorem RA.cells{w:World}{pb:Nat}{ts:List aw}{st:RS}{D O:Nat->Prop}(h:RA w pb ts st D O) :
  w.cell? ⟨pb,6,none⟩=some (.string st.gap)/\w.frozen? ⟨pb,6,none⟩=false/\w.cell? ⟨pb,2,none⟩=some (.int .i64 st.depth)/\w.frozen? ⟨pb,2,none⟩=false/\w.cell? ⟨pb,1,none⟩=some (.int .i64 (st.next:Int))/\w.frozen? ⟨pb,1,none⟩=false:=by
 obtain⟨tb,tc,dv,av,bv,h,rfl⟩:=h;exact⟨af h.blk,ak h.blk,af h.blk,ak h.blk,af h.blk,ak h.blk⟩
theorem RA.put{w:World}{pb o:Nat}{v:Value}{ts:List aw}{st st':RS}{D O:Nat->Prop}(h:RA w pb ts st D O)(hp:st'.page=st.page)(hd:st'.defs=st.defs)
  (hc:∀ tv dv av bv,(iq tv dv av bv st).setIfInBounds o v=iq tv dv av bv st'):RA (w.setCell ⟨pb,o,none⟩ v) pb ts st' D O:=by
 obtain⟨tb,tc,dv,av,bv,h,rfl⟩:=h;refine⟨tb,tc,dv,av,bv,h.set (by simp [World.setCell]) ?_ hp hd (λ k _ hk _=>ah hk),rfl⟩;rw [aB h.blk,hc]
theorem RA.putGap{w:World}{pb:Nat}{ts:List aw}{st:RS}{D O:Nat->Prop}(h:RA w pb ts st D O)(g:ByteArray):RA (w.setCell ⟨pb,6,none⟩ (.string g)) pb ts { st with gap:=g } D O:=h.put rfl rfl (λ _ _ _ _=>rfl)
theorem RA.putDepth{w:World}{pb:Nat}{ts:List aw}{st:RS}{D O:Nat->Prop}(h:RA w pb ts st D O)(g:Int):RA (w.setCell ⟨pb,2,none⟩ (.int .i64 g)) pb ts { st with depth:=g } D O:=h.put rfl rfl (λ _ _ _ _=>rfl)
theorem RA.putNext{w:World}{pb:Nat}{ts:List aw}{st:RS}{D O:Nat->Prop}(h:RA w pb ts st D O)(g:Nat):RA (w.setCell ⟨pb,1,none⟩ (.int .i64 (g:Int))) pb ts { st with next:=g } D O:=h.put rfl rfl (λ _ _ _ _=>rfl)
theorem mu{w:World}{pb:Nat}{ts:List aw}{st:RS}{D O:Nat->Prop}(h:RA w pb ts st D O) :
  Calls prog 300 #[ay pb 4] w λ e w'=>e=.returned (.tuple #[])/\RA w' pb ts (eA st) D O/\Fr O w O w':=by
 obtain⟨c6,z6,_⟩:=h.cells;have HH:=ae h;clear h;go_enter func300,ntmps300;go_wp2_with fail
 go_end0
 exact⟨rfl,(ab HH).putGap _,(bE _ _).setCell (inl (ab HH).own) _⟩
abbrev eG(t:aw):Value:=.agg #[.int .i64 t.kind,.int .i64 t.at_,.string t.text,.int .i64 t.number,.int .i64 t.addr,.int .i64 t.len]
abbrev aR(t:aw):Obj:=.cells #[.int .i64 t.kind,.int .i64 t.at_,.string t.text,.int .i64 t.number,.int .i64 t.addr,.int .i64 t.len] 216
theorem fp(w:World)(c:Array Value)(T:TypeId):(w.alloc (.cells c T)).heap[w.heap.size]?=some (.cells c T (0,0)):=cN w _
theorem RA.newTok{w w1:World}{pb:Nat}{ts:List aw}{st:RS}{D O O1:Nat->Prop}(h:RA w pb ts st D O)(t:aw)(hf:Fr O (w.alloc (aR t)) O1 w1) :
  w1.heap[w.heap.size]?=some (aR t)/\Fr O w O1 w1:=by
 refine⟨(hf.block w.heap.size (by simp) (λ ho=>by have:=h.lt ho;omega)).trans (fp w _ _),((bE O w).alloc _).trans hf⟩
theorem GL{w:World}{pb:Nat}{ts:List aw}{st:RS}{D O:Nat->Prop}(h:RA w pb ts st D O)(t:aw)(ht:t.text.size<=600)(hp:st.page.length<=1000000)(h27:t.kind=27) :
  Calls prog 259 #[ay pb 4,eG t] w λ e w'=>e=.returned (.tuple #[])/\∃ O',RA w' pb ts (rG st t) D O'/\Fr O w O' w':=by
 have c0:(w.alloc (aR t)).cell? ⟨w.heap.size,2,none⟩=some (.string t.text):=af (fp w _ _);have HH:=ae h;have HW:=ae (ni (h.alloc (aR t)).drew t.text (by omega));have hk:(t.kind != 27)=false:=by rw [h27];rfl
 have EQ:=ae (show rG st t=eA { jh st t.text with gap:=⟨#[32]⟩ }by simp [rG,h27,eA,jh]);have HK:=ae h27;clear h h27 hp ht;go_enter func259,ntmps259;go_wp2_with fail;go_region_with (go_at_call 299;refine(ab HW).mono ?_;rintro e w1 ⟨rfl,O1,hr1,hf1⟩)
 all_goals
  have f0:=(ab HH).newTok t (((bE _ _).drew).trans hf1);have k0:w1.cell? ⟨w.heap.size,0,none⟩=some (.int .i64 27):=by rw [<-ab HK];exact af f0.1
  obtain⟨c6,z6,_⟩:=hr1.cells;have AA:=ae hr1;have BA:=ae f0.2;clear hr1 hf1 f0;go_wp2_with (go_at_call 300;refine(mu ((ab AA).putGap _)).mono ?_;rintro e w2 ⟨rfl,hr2,hf2⟩)
  go_end0
  exact⟨rfl,O1,by rw [ab EQ];exact hr2,((ab BA).setCell (inl (ab AA).own) _).trans hf2⟩
theorem Ea{w:World}{pb:Nat}{ts:List aw}{st:RS}{D O:Nat->Prop}(h:RA w pb ts st D O)(t:aw)(ht:t.text.size<=600)(hp:st.page.length<=1000000)(h27:t.kind=28) :
  Calls prog 259 #[ay pb 4,eG t] w λ e w'=>e=.returned (.tuple #[])/\∃ O',RA w' pb ts (rG st t) D O'/\Fr O w O' w':=by
 have c0:(w.alloc (aR t)).cell? ⟨w.heap.size,2,none⟩=some (.string t.text):=af (fp w _ _);have HH:=ae h;have HW:=ae (ni (h.alloc (aR t)).drew t.text (by omega));have hk:(t.kind != 27)=true:=by rw [h27];rfl
 have hk2:(t.kind != 28)=false:=by rw [h27];rfl
 have EQ:=ae (show rG st t={ jh st t.text with gap:=⟨#[32]⟩ }by simp [rG,h27,fH,jh]);have HK:=ae h27;clear h h27 hp ht;go_enter func259,ntmps259;go_wp2_with fail;go_region_with (go_at_call 299;refine(ab HW).mono ?_;rintro e w1 ⟨rfl,O1,hr1,hf1⟩)
 all_goals
  have f0:=(ab HH).newTok t (((bE _ _).drew).trans hf1);have k0:w1.cell? ⟨w.heap.size,0,none⟩=some (.int .i64 28):=by rw [<-ab HK];exact af f0.1
  obtain⟨c6,z6,_⟩:=hr1.cells;have AA:=ae hr1;have BA:=ae f0.2;clear hr1 hf1 f0;go_wp2_with fail
  go_end0
  exact⟨rfl,O1,by rw [ab EQ];exact(ab AA).putGap _,((ab BA).setCell (inl (ab AA).own) _)⟩
theorem GK{w:World}{pb:Nat}{ts:List aw}{st:RS}{D O:Nat->Prop}(h:RA w pb ts st D O)(t:aw)(ht:t.text.size<=600)(hg:st.gap.size<=1)(hp:st.page.length<=1000000)(h27:t.kind≠27)(h28:t.kind≠28) :
  Calls prog 259 #[ay pb 4,eG t] w λ e w'=>e=.returned (.tuple #[])/\∃ O',RA w' pb ts (rG st t) D O'/\Fr O w O' w':=by
 have c0:(w.alloc (aR t)).cell? ⟨w.heap.size,2,none⟩=some (.string t.text):=af (fp w _ _);have c6:(w.alloc (aR t)).cell? ⟨pb,6,none⟩=some (.string st.gap):=(h.alloc (aR t)).cells.1;have HH:=ae h;have HW:=ae (ni (h.alloc (aR t)).drew st.gap (by omega));have hk:(t.kind != 27)=true:=by simpa using h27
 have hk2:(t.kind != 28)=true:=by simpa using h28
 have hk3:(t.kind==27)=false:=by simpa using h27
 have EQ:=ae (show rG st t={ jh (jh st st.gap) t.text with gap:=⟨#[32]⟩ }by simp [rG,h27,h28,fH,jh]);have EA:Hid ((jh st st.gap).page.length+t.text.size<=1000000000):=by show(st.page++st.gap.data.toList).length+_<=_;rw [List.length_append,Array.length_toList];have:st.gap.data.size<=1:=hg;omega
 clear h h27 h28 hp ht hg;go_enter func259,ntmps259;go_wp2_with fail;go_region_with (go_at_call 299;refine(ab HW).mono ?_;rintro e w1 ⟨rfl,O1,hr1,hf1⟩)
 all_goals
  have f0:=(ab HH).newTok t (((bE _ _).drew).trans hf1);have k0:w1.cell? ⟨w.heap.size,0,none⟩=some (.int .i64 t.kind):=af f0.1;have k2:w1.cell? ⟨w.heap.size,2,none⟩=some (.string t.text):=af f0.1;have AA:=ae f0.1
  have hW1:Hid (¬O1 w.heap.size):=λ ho=>by
   rcases f0.2.own _ ho with h1|h1
   ·have:=(ab HH).lt h1;omega
   rcases hf1.own _ ho with h2|h2
   ·have:=(ab HH).lt h2;omega
   have h3:((w.alloc (aR t)).drew).heap.size=w.heap.size+1:=by simp
   omega
  have GA:=ae hr1;have CA:=ae f0.2;have FA:=ae (ni hr1.drew t.text (ab EA));clear hr1 hf1 f0;go_wp2_with fail;go_region_with (go_at_call 299;refine(ab FA).mono ?_;rintro e w2 ⟨rfl,O2,hr2,hf2⟩)
  all_goals
   have k0:w2.cell? ⟨w.heap.size,0,none⟩=some (.int .i64 t.kind):=af ((hf2.block w.heap.size (ai (ab AA)) (ab hW1)).trans (ab AA));obtain⟨c6',z6,_⟩:=hr2.cells;have BA:=ae hr2;have DA:=ae ((ab CA).drew.trans hf2);clear hr2 hf2;go_wp2_with fail
   go_end0
   exact⟨rfl,O2,by rw [ab EQ];exact(ab BA).putGap _,((ab DA).setCell (inl (ab BA).own) _)⟩
theorem JX{w:World}{pb:Nat}{ts:List aw}{st:RS}{D O:Nat->Prop}(h:RA w pb ts st D O)(t:aw)(ht:t.text.size<=600)(hg:st.gap.size<=1)(hp:st.page.length<=1000000) :
  Calls prog 259 #[ay pb 4,eG t] w λ e w'=>e=.returned (.tuple #[])/\∃ O',RA w' pb ts (rG st t) D O'/\Fr O w O' w':=by
 by_cases h27:t.kind=27
 ·exact GL h t ht hp h27
 by_cases h28:t.kind=28
 ·exact Ea h t ht hp h28
 exact GK h t ht hg hp h27 h28
