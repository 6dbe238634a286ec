/- part -/
import Derived.Test.YtphhnjljlllnlaaGreatDoorSpA
import Derived.Shelf.Spec.SlicesInsert
import Derived.Lib.Overlaps
import Derived.Laws.Externs
import Derived.Lib.AppendZerosOnto
set_option maxRecDepth 100000
set_option maxHeartbeats 8000000
namespace Go.Proofs.YtphhnjljlllnlaaGreatDoor
open Go.Proofs.Tryz
open Or
open Go.RowKit Go.Sort
theorem nQ{P:Program}(k m:Nat)(w:World)(dT sT ty elem:TypeId)(b o dLen dCap:Nat)(a:Addr)(sLen sCap:Nat)(cs:List Value)
  (hu:P.underlying dT=some (.slice elem)) (hs:(P.info? elem).map (·.size)=some k) (hm:Nat.min sLen dLen=m) (hn:cs.length=m*k)
  (hsrc:∀ j v,cs[j]?=some v->w.cell? (a.add j)=some v) (hc:∀ j,j<cs.length->(w.cell? ⟨b,o+j,none⟩).isSome=true) (hf:∀ j,j<cs.length->w.frozen? ⟨b,o+j,none⟩=false) (h1:∀ v∈cs,v.oneCell'=true) :
  (Builtin.copy_ #[dT,sT] ty #[.slice (some ⟨b,o,none⟩) dLen dCap,.slice (some a) sLen sCap]).run P w=.ok (goInt m) (w.setCells b o cs):=by
 have hl:=run_loadCells_list (P:=P) w a cs hsrc;have hst:=run_storeCells_cells (P:=P) b o cs 0 w (by simpa using hc) (by simpa using hf) h1;cases hq:P.info? elem with
 | none=>simp [hq]at hs
 | some i =>
  have hi:i.size=k:=by simpa [hq]using hs
  simp [Builtin.copy_,run_underlying hu,Builtin.lenOf,Builtin.firstCells,sizeOf,typeInfo,hq,hi,hm,<-hn,hl,hst]
theorem LL{cur cur1 cur2:List Value}{l:List Rv}{x:Rv}{i n:Nat}(hn:l.length=n)(hi:i<=n)(h0:cur.take (n*6)=bW l)(hl:(n+1)*6<=cur.length)
  (h1:cur1=cur.take ((i+1)*6)++bW (l.drop i)++cur.drop ((i+1)*6+(bW (l.drop i)).length)) (h2:cur2=cur1.take (i*6)++bQ x++cur1.drop (i*6+(bQ x).length)) :
  cur2.take ((n+1)*6)=bW (l.take i++x::l.drop i)/\cur2.length=cur.length:=by
 have e:(bW (l.drop i)).length=(n-i)*6:=by rw [dN,List.length_drop,hn]
 have e0:cur.take (i*6)=bW (l.take i):=by
  rw [lk,<-h0,List.take_take];congr 1;omega
 have e1:(bW (l.take i)).length=i*6:=by rw [dN,List.length_take];congr 1;omega
 have ec:(cur.take ((i+1)*6)).length=(i+1)*6:=by rw [List.length_take];omega
 have h4:cur1.length=cur.length:=by rw [h1];simp only [List.length_append,List.length_drop,ec,e];omega
 have h3:cur1.take (i*6)=bW (l.take i):=by
  rw [h1,List.append_assoc,List.take_append_of_le_length (by rw [ec];omega),List.take_take,<-e0];congr 1;omega
 have h5:(cur1.drop (i*6+6)).take ((n-i)*6)=bW (l.drop i):=by
  rw [h1,List.append_assoc,List.drop_append,ec,show i*6+6-(i+1)*6=0 by omega,List.drop_zero,List.drop_eq_nil_of_le (by rw [ec];omega),List.nil_append,List.take_append_of_le_length (by rw [e];omega),List.take_of_length_le (by rw [e];omega)]
 have ex:(bQ x).length=6:=rfl;rw [h3,ex]at h2
 constructor
 ·rw [h2,List.take_append,List.take_of_length_le (by rw [List.length_append,e1,ex];omega),List.length_append,e1,ex,show(n+1)*6-(i*6+6)=(n-i)*6 by omega,h5,fS,List.append_assoc]
  rfl
 rw [h2];simp only [List.length_append,List.length_drop,e1,ex];omega
theorem Ge(l:List Rv)(x:Rv)(base g cap i vb n:Nat)(w:World)(hn:l.length=n)(ht:bS w base (.slice (some ⟨g,0,none⟩) l.length cap) l)(hi:i<n)(hroom:n+1<=cap)(hvb:vb≠g)
  (hx:w.heap[vb]?=some (.cells (bQ x).toArray 65 (0,0))) :
  Calls prog 170 #[.slice (some ⟨g,0,none⟩) n cap,.int .i64 i,.slice (some ⟨vb,0,none⟩) 1 1] w λ e w'=>e=.returned (.slice (some ⟨g,0,none⟩) (n+1) cap)/\bS w' base (.slice (some ⟨g,0,none⟩) (n+1) cap) (l.take i++x::l.drop i)/\eS w g w':=by
 obtain⟨cur,hb,hbg,hlc,hmx,hsz,hrow⟩:=ht.block;rw [hn]at hrow;have hcm:cap<=9223372036854775807:=by unfold maxLen at hmx;omega
 have hsize:(prog.info? 65).map (·.size)=some 6:=by kernel_rfl
 obtain⟨news,hnews⟩:∃ news,news=bW (l.drop i):=⟨_,rfl⟩
 have hlen:news.length=(n-i)*6:=by rw [hnews,dN,List.length_drop,hn]
 have hget:∀ t,t<news.length->news[t]?=cur[i*6+t]?:=λ t htl=>by
  rw [hnews,lj,List.getElem?_drop,<-hrow,List.getElem?_take,aS (by omega)];simp
 have hov:∀ lb cb,(callFunc 203 #[.slice (some ⟨vb,0,none⟩) 1 1,.slice (some ⟨g,(i+1)*6,none⟩) lb cb]).run prog w=.ok (.value (.bool false)) w:=λ lb cb=>by
  rw [run_callFunc_extern func203 (by kernel_rfl) (by kernel_rfl) (by kernel_rfl) (e:=Extern.SlicesOverlaps.overlaps #[34,34] #[4]) (by kernel_rfl),
   Lib.run_overlaps_apart w 34 4 65 underlying34 6 Tryz.sizeOf65 ⟨vb,0,none⟩ ⟨g,(i+1)*6,none⟩ 1 1 lb cb hvb 65 65 6 cur.size (by simp [World.shape?,hx,bQ]) (by simp [World.shape?,hb]) (by omega) (by simp [World.frozen?,hx]) (by simp [World.frozen?,hx])]
  rfl
 obtain⟨hs1,cur1,hb1,hc1⟩:=dt g 65 news ((i+1)*6) cur w.drew (show w.drew.heap[g]?=_ from hb) (by rw [hlen];omega)
 have hcp1:∀ ty dc sc,(Builtin.copy_ #[105,105] ty #[.slice (some ⟨g,(i+1)*6,none⟩) (n-i) dc,.slice (some ⟨g,i*6,none⟩) (n+1-i) sc]).run prog w.drew=.ok (goInt ((n-i:Nat):Int)) (w.drew.setCells g ((i+1)*6) news):=λ ty dc sc =>
  nQ 6 (n-i) w.drew _ _ ty 65 g ((i+1)*6) (n-i) dc ⟨g,i*6,none⟩ (n+1-i) sc news underlying105 hsize (by simp only [Nat.min_def];split<;>omega) hlen
   (λ j v hj=>by
    have hjl:=(List.getElem?_eq_some_iff.1 hj).1;rw [Addr.add_lit];show w.cell? _=_;rw [ag hb,<-hget j hjl];exact hj)
   (λ j hj=>by show(w.cell? _).isSome=true;rw [ag hb,Array.getElem?_eq_getElem (by omega)];rfl)
   (λ j hj=>by show w.frozen? _=false;simp [World.frozen?,hb]) (by rw [hnews];exact iy)
 obtain⟨W1,hW1⟩:∃ W1,W1=w.drew.setCells g ((i+1)*6) news:=⟨_,rfl⟩
 rw [<-hW1]at hs1 hb1 hcp1
 have hl1:cur1.size=cur.size:=by
  have:=jC List.length hc1;simp only [Array.length_toList,List.length_append,List.length_take,List.length_drop,hlen]at this;omega
 have hx1:W1.heap[vb]?=some (.cells (bQ x).toArray 65 (0,0)):=(hs1.other vb hvb).trans hx
 have hcp2:∀ ty dc,(Builtin.copy_ #[105,34] ty #[.slice (some ⟨g,i*6,none⟩) (n+1-i) dc,.slice (some ⟨vb,0,none⟩) 1 1]).run prog W1=.ok (goInt 1) (W1.setCells g (i*6) (bQ x)):=λ ty dc =>
  nQ 6 1 W1 _ _ ty 65 g (i*6) (n+1-i) dc ⟨vb,0,none⟩ 1 1 (bQ x) underlying105 hsize (by simp only [Nat.min_def];split<;>omega) rfl
   (λ j v hj=>by rw [Addr.add_lit,Nat.zero_add,ag hx1];simpa using hj)
   (λ j hj=>by have:j<6:=hj;rw [ag hb1,Array.getElem?_eq_getElem (by omega)];rfl)
   (λ j hj=>by simp [World.frozen?,hb1]) (λ v hv=>iy (l:=[x]) v (by unfold bW;simpa using hv))
 obtain⟨hs2,cur2,hb2,hc2⟩:=dt g 65 (bQ x) (i*6) cur1 W1 hb1 (by rw [gu];omega);obtain⟨W2,hW2⟩:∃ W2,W2=W1.setCells g (i*6) (bQ x):=⟨_,rfl⟩
 rw [<-hW2]at hs2 hb2 hcp2;have hfin:=LL hn (by omega) (cur:=cur.toList) (cur1:=cur1.toList) (cur2:=cur2.toList) hrow (by simp;omega) (by rw [<-hnews];exact hc1) hc2
 have AA:Hid (bS W2 base (.slice (some ⟨g,0,none⟩) (n+1) cap) (l.take i++x::l.drop i)/\eS w g W2):=af (by
  have hle:(l.take i++x::l.drop i).length=n+1:=by simp only [List.length_append,List.length_cons,List.length_take,List.length_drop];omega
  refine⟨⟨by rw [dN,hle],inr ⟨g,cap,cur2,by rw [hle],hbg,hb2,by omega,hmx,?_,by rw [hle];exact hfin.1⟩⟩,?_⟩
  ·have:=hfin.2;simp only [Array.length_toList]at this;omega
  ·exact((eS.refl w g).drew.trans hs1).trans hs2)
 have hz2:¬((i:Int)=(n:Int)):=by omega
 have hw1:IntKind.i64.wrap ((i:Int)+1)=(i:Int)+1:=by rw [IntKind.wrap_i64];omega
 have htn:((i:Int)+1).toNat=i+1:=by omega
 have mixed:prog.follows .mixedOrders=true:=by kernel_rfl
 have hb1':(0:Int)<=(i:Int)+1:=by omega
 have hin:i<=n:=by omega
 have hb2':¬(cap=i+1):=by omega
 have hb3:(i:Int)<=(n:Int)+1:=by omega
 have hb4:¬(cap=i):=by omega
 clear hfin hs1 hs2 hb2 hb1 hc1 hc2 hget hnews hlen hrow hb ht hbg hl1 hsz hlc hn hx hx1 hW1 hW2 hmx;go_enter func170,ntmps170;go_wp2_with (simp only [hov])
 go_region_law_o (refine step_copy_runI rfl _ _ 105 105 rfl _ _ (by simp [Act.eval,Act.put]) (by simp [Act.eval,Act.put]) (hcp1 _ _ _) ?_)
 go_wp2_with (at_builtin;refine wpList_copy_runI _ rfl _ _ 105 34 rfl _ _ rfl rfl (hcp2 _ _) ?_)
 go_ret;exact⟨rfl,(ae AA).1,(ae AA).2⟩
theorem ye{P:Program}{t tx ty e e':TypeId}{q:Option Addr}{n c k:Nat}{u:Value}{w:World}(h1:P.underlying t=some (.slice e))(h2:P.underlying tx=some (.slice e'))(h3:∀ w,(Go.sizeOf e).run P w=.ok k w) :
  (Builtin.append_ #[t,tx] ty #[.slice q n c,u]).run P w=(Builtin.append_ #[t,t] ty #[.slice q n c,u]).run P w:=by
 simp [Builtin.append_,run_underlying h1,run_underlying h2,h3]
structure KV(w:World)(base:Nat)(v:Value)(w':World)(v':Value)(l':List Rv):Prop where
 tab:bS w' base v' l'
 fr:Fr (λ k=>v.ownBlock=some k) w (λ k=>v'.ownBlock=some k) w'
theorem C0{w w':World}{v:Value}{g n c:Nat}(h:w.grownBy w' v.ownBlock)(hg:v.ownBlock=some g\/g=w.heap.size):Fr (λ k=>v.ownBlock=some k) w (λ k=>(Value.slice (some ⟨g,0,none⟩) n c).ownBlock=some k) w' :=
 Fr.reown (((dw (λ k=>v.ownBlock=some k) w).grown h λ k e=>inl e)) λ k hk=>by
  have e:g=k:=by simpa [Value.ownBlock]using hk
  subst e;rcases hg with h|h
  ·exact inl h
  exact inr (Nat.le_of_eq h.symm)
theorem LK(l:List Rv)(x:Rv)(base vb:Nat)(q:Option Addr)(cap:Nat)(w:World)(ht:bS w base (.slice q l.length cap) l)(hl:l.length<=100000)(hbase:base<=w.heap.size)
  (hx:w.heap[vb]?=some (.cells (bQ x).toArray 65 (0,0))) :
  Calls prog 170 #[.slice q l.length cap,.int .i64 l.length,.slice (some ⟨vb,0,none⟩) 1 1] w λ e w'=>∃ g c,e=.returned (.slice (some ⟨g,0,none⟩) (l.length+1) c)/\KV w base (.slice q l.length cap) w' (.slice (some ⟨g,0,none⟩) (l.length+1) c) (l++[x]):=by
 obtain⟨i0,hi0,hz0,hz1,hz2⟩:∃ i0,prog.info? 65=some i0/\i0.zero=some (.agg #[.int .i64 0,.int .i64 0,.slice none 0 0,.slice none 0 0,.int .i64 0,.int .i64 0])/\i0.size=6/\i0.bytes=80:=by
  have:=Tryz.infoRt;cases h:prog.info? 65 with
  | none=>rw [h]at this;cases this
  | some i0 =>
   rw [h]at this;have h2:=(kd this)
   exact⟨i0,rfl,jC (λ p=>p.1) h2,jC (λ p=>p.2.1) h2,jC (λ p=>p.2.2) h2⟩
 obtain⟨g,c,w',hr,ho,hgr,hgg,hgl⟩:=run_append_lies (P:=prog) (w:=w) 105 105 base 65 i0 _ 6 80 underlying105 hi0 hz0 hz1 hz2 (by rfl) (by omega) (.slice q l.length cap) l.length (bW l) ht ⟨vb,0,none⟩ 1 1 (bQ x) rfl
  (λ j u hj=>by rw [Addr.add_lit,Nat.zero_add,ag hx];simpa using hj) (λ v hv=>iy (l:=[x]) v (by unfold bW;simpa using hv)) (by omega) (by unfold maxLen;omega) (by omega) hbase _ rfl
 have AA:Hid (KV w base (.slice q l.length cap) w' (.slice (some ⟨g,0,none⟩) (l.length+1) c) (l++[x])):=af ⟨by
  show w'.ownsRow _ _ _ _ _ _;rw [List.length_append,fS,show bW [x]=bQ x by unfold bW;simp];exact ho,C0 hgr hgg⟩
 have hrun:(Builtin.append_ #[105,34] 105 #[.slice q l.length cap,.slice (some ⟨vb,0,none⟩) 1 1]).run prog w=.ok (.slice (some ⟨g,0,none⟩) (l.length+1) c) w':=(ye underlying105 underlying34 Tryz.sizeOf65).trans hr;clear hr ho hgr hgg hgl hx
 have hcap:l.length<=cap:=by
  obtain⟨_,⟨h2,h3⟩|⟨g',c',cur',h2,_,_,h3,_⟩⟩:=ht
  ·omega
  cases h2;exact h3
 clear ht;cases q with
 | none =>
  go_enter func170,ntmps170;go_wp2_with (at_builtin;refine Lib.wpList_append_run _ rfl _ _ _ _ rfl _ _ rfl rfl _ _ hrun ?_)
  all_goals (go_ret;exact⟨g,c,rfl,ae AA⟩)
 | some a =>
  obtain⟨ab,ao,asp⟩:=a;go_enter func170,ntmps170;go_wp2_with (at_builtin;refine Lib.wpList_append_run _ rfl _ _ _ _ rfl _ _ rfl rfl _ _ hrun ?_)
  all_goals (go_ret;first|exact⟨g,c,rfl,ae AA⟩|(rename_i h;simp only [h]at AA;exact⟨g,c,rfl,ae AA⟩)|(rename_i h;simp only [<-h]at AA;exact⟨g,c,rfl,ae AA⟩))
theorem Ji{cur cur1 cur2:List Value}{l:List Rv}{x:Rv}{i n:Nat}(hn:l.length=n)(hi:i<=n)(h0:cur.take (i*6)=bW (l.take i))(hl:(n+1)*6<=cur.length)
  (h1:cur1=cur.take (i*6)++bQ x++cur.drop (i*6+(bQ x).length)) (h2:cur2=cur1.take ((i+1)*6)++bW (l.drop i)++cur1.drop ((i+1)*6+(bW (l.drop i)).length)) :
  cur2.take ((n+1)*6)=bW (l.take i++x::l.drop i)/\cur2.length=cur.length:=by
 have e:(bW (l.drop i)).length=(n-i)*6:=by rw [dN,List.length_drop,hn]
 have e1:(bW (l.take i)).length=i*6:=by rw [dN,List.length_take];congr 1;omega
 have ex:(bQ x).length=6:=rfl;rw [h0,ex]at h1;have h4:cur1.length=cur.length:=by rw [h1];simp only [List.length_append,List.length_drop,e1,ex];omega
 have h3:cur1.take ((i+1)*6)=bW (l.take i)++bQ x:=by
  rw [h1,List.take_append_of_le_length (by rw [List.length_append,e1,ex];omega),List.take_of_length_le (by rw [List.length_append,e1,ex];omega)]
 rw [h3,e]at h2
 constructor
 ·rw [h2,List.take_append_of_le_length (by simp only [List.length_append,e1,ex,e];omega),List.take_of_length_le (by simp only [List.length_append,e1,ex,e];omega),fS,List.append_assoc]
  rfl
 rw [h2];simp only [List.length_append,List.length_drop,e1,ex,e];omega
theorem Jh(l:List Rv)(x:Rv)(base g cap i vb n:Nat)(w:World)(hn:l.length=n)(ht:bS w base (.slice (some ⟨g,0,none⟩) l.length cap) l)(hi:i<n)(hroom:cap<n+1)(hl:n<=100000)(hbase:base<=w.heap.size)
  (hx:w.heap[vb]?=some (.cells (bQ x).toArray 65 (0,0))) :
  Calls prog 170 #[.slice (some ⟨g,0,none⟩) n cap,.int .i64 i,.slice (some ⟨vb,0,none⟩) 1 1] w λ e w'=>∃ c,e=.returned (.slice (some ⟨w.heap.size,0,none⟩) (n+1) c)/\bS w' base (.slice (some ⟨w.heap.size,0,none⟩) (n+1) c) (l.take i++x::l.drop i)/\Below w.heap.size w w':=by
 obtain⟨cur,hb,hbg,hlc,hmx,hsz,hrow⟩:=ht.block;rw [hn]at hrow hlc
 obtain⟨i0,hi0,hz0,hzs,hzb⟩:∃ i0,prog.info? 65=some i0/\i0.zero=some (.agg #[.int .i64 0,.int .i64 0,.slice none 0 0,.slice none 0 0,.int .i64 0,.int .i64 0])/\i0.size=6/\i0.bytes=80:=by
  have:=Tryz.infoRt;cases h:prog.info? 65 with
  | none=>rw [h]at this;cases this
  | some i0 =>
   rw [h]at this;have h2:=(kd this)
   exact⟨i0,rfl,jC (λ p=>p.1) h2,jC (λ p=>p.2.1) h2,jC (λ p=>p.2.2) h2⟩
 have hsize:(prog.info? 65).map (·.size)=some 6:=by kernel_rfl
 have lg:g<w.heap.size:=ah hb;have lv:vb<w.heap.size:=ah hx;obtain⟨news,hnews⟩:∃ news,news=bW (l.drop i):=⟨_,rfl⟩
 have hlen:news.length=(n-i)*6:=by rw [hnews,dN,List.length_drop,hn]
 have hget:∀ t,t<news.length->news[t]?=cur[i*6+t]?:=λ t htl=>by
  rw [hnews,lj,List.getElem?_drop,<-hrow,List.getElem?_take,aS (by omega)];simp
 have hkk:(n:Int)+1-(i:Int)=((n+1-i:Nat):Int):=by omega
 have hik:i+(n+1-i)=n+1:=by omega
 have hold:(Builtin.firstCells i0.size i (.slice (some ⟨g,0,none⟩) i cap)).run prog w.drew=.ok (bW (l.take i)).toArray w.drew:=by
  rw [hzs]
  exact run_firstCells_some w.drew 6 i ⟨g,0,none⟩ i cap (bW (l.take i)) (by rw [dN,List.length_take];congr 1;omega) (λ j v hj=>by
   rw [Addr.add_lit,Nat.zero_add];show w.cell? _=_;rw [ag hb,<-Array.getElem?_toList];rw [lk,<-hrow,List.take_take,List.getElem?_take]at hj;split at hj
   ·exact hj
   ·cases hj)
 have hrz:∀ ty,(Builtin.append_ #[105,3] ty #[.slice (some ⟨g,0,none⟩) i cap,.int .i64 ((n:Int)+1-(i:Int))]).run prog w =
   .ok (.slice (some ⟨w.heap.size,0,none⟩) (n+1) (grownCap w (n+1) cap 65)) (w.drew.alloc (.cells ((bW (l.take i)).toArray++Builtin.zeroCells (Value.agg #[.int .i64 0,.int .i64 0,.slice none 0 0,.slice none 0 0,.int .i64 0,.int .i64 0]).cells (n+1-i)++Builtin.zeroCells (Value.agg #[.int .i64 0,.int .i64 0,.slice none 0 0,.slice none 0 0,.int .i64 0,.int .i64 0]).cells (grownCap w (n+1) cap 65-(n+1))) 65)):=λ ty=>by
  have h:=Lib.run_append_grow_zeros w 105 3 ty 65 i0 _ .i64 .i64 underlying105 underlying3 hi0 hz0 (some ⟨g,0,none⟩) i cap (bW (l.take i)) hold (n+1-i) (by omega) (by omega) (by omega) (by omega) (by rw [hzb];omega) (by rw [hzb,hik];exact growslice_fits hroom (by omega));rw [hik]at h;rw [hkk];exact h
 obtain⟨G,hG⟩:∃ G,G=grownCap w (n+1) cap 65:=⟨_,rfl⟩
 obtain⟨ROW,hROW⟩:∃ ROW:Array Value,ROW=(bW (l.take i)).toArray++Builtin.zeroCells (Value.agg #[.int .i64 0,.int .i64 0,.slice none 0 0,.slice none 0 0,.int .i64 0,.int .i64 0]).cells (n+1-i)++Builtin.zeroCells (Value.agg #[.int .i64 0,.int .i64 0,.slice none 0 0,.slice none 0 0,.int .i64 0,.int .i64 0]).cells (G-(n+1)):=⟨_,rfl⟩
 rw [<-hG]at hrz;rw [<-hROW]at hrz;have hGn:n+1<=G:=by rw [hG];exact grownCap_ge w _ _ _
 have hGm:G<=maxLen:=by rw [hG];exact grownCap_le_maxLen w (n+1) cap 65 (by unfold maxLen;omega)
 have e1:(bW (l.take i)).length=i*6:=by rw [dN,List.length_take];congr 1;omega
 have hRs:ROW.size=G*6:=by
  rw [hROW];simp only [Array.size_append,Builtin.zeroCells,Array.size_map,Array.size_range,Value.cells,List.size_toArray,e1,List.length_cons,List.length_nil];omega
 have hRt:ROW.toList.take (i*6)=bW (l.take i):=by
  rw [hROW,Array.toList_append,Array.toList_append,List.append_assoc,List.take_append_of_le_length (by simp [e1]),List.take_of_length_le (by simp [e1])]
 obtain⟨W1,hW1⟩:∃ W1,W1=(w.alloc (.cells ROW 65)).drew:=⟨_,rfl⟩
 have hB1:Below w.heap.size w W1:=by rw [hW1];exact((aY _ _).alloc (aL _) _).drew
 have hb1:W1.heap[w.heap.size]?=some (.cells ROW 65 (0,0)):=by rw [hW1];exact cM w _
 have hx1:W1.heap[vb]?=some (.cells (bQ x).toArray 65 (0,0)):=(hB1.block vb lv).trans hx;have hg1:W1.heap[g]?=some (.cells cur 65 (0,0)):=(hB1.block g lg).trans hb
 have hcpA:∀ ty dc,(Builtin.copy_ #[105,34] ty #[.slice (some ⟨w.heap.size,i*6,none⟩) (n+1-i) dc,.slice (some ⟨vb,0,none⟩) 1 1]).run prog W1=.ok (goInt 1) (W1.setCells w.heap.size (i*6) (bQ x)):=λ ty dc =>
  nQ 6 1 W1 _ _ ty 65 w.heap.size (i*6) (n+1-i) dc ⟨vb,0,none⟩ 1 1 (bQ x) underlying105 hsize (by simp only [Nat.min_def];split<;>omega) rfl
   (λ j v hj=>by rw [Addr.add_lit,Nat.zero_add,ag hx1];simpa using hj)
   (λ j hj=>by have:j<6:=hj;rw [ag hb1,Array.getElem?_eq_getElem (by omega)];rfl)
   (λ j hj=>by simp [World.frozen?,hb1]) (λ v hv=>iy (l:=[x]) v (by unfold bW;simpa using hv))
 obtain⟨hs2,cur1,hb2,hc1⟩:=dt w.heap.size 65 (bQ x) (i*6) ROW W1 hb1 (by rw [gu];omega);obtain⟨W2,hW2⟩:∃ W2,W2=W1.setCells w.heap.size (i*6) (bQ x):=⟨_,rfl⟩
 rw [<-hW2]at hs2 hb2 hcpA
 have hl1:cur1.size=ROW.size:=by
  have:=jC List.length hc1;simp only [Array.length_toList,List.length_append,List.length_take,List.length_drop,gu]at this;omega
 have hg2:W2.heap[g]?=some (.cells cur 65 (0,0)):=(hs2.other g (by omega)).trans hg1
 have hcpB:∀ ty dc sc,(Builtin.copy_ #[105,105] ty #[.slice (some ⟨w.heap.size,(i+1)*6,none⟩) (n-i) dc,.slice (some ⟨g,i*6,none⟩) (n-i) sc]).run prog W2.drew=.ok (goInt ((n-i:Nat):Int)) (W2.drew.setCells w.heap.size ((i+1)*6) news):=λ ty dc sc =>
  nQ 6 (n-i) W2.drew _ _ ty 65 w.heap.size ((i+1)*6) (n-i) dc ⟨g,i*6,none⟩ (n-i) sc news underlying105 hsize (by simp only [Nat.min_def];split<;>omega) hlen
   (λ j v hj=>by
    have hjl:=(List.getElem?_eq_some_iff.1 hj).1;rw [Addr.add_lit];show W2.cell? _=_;rw [ag hg2,<-hget j hjl];exact hj)
   (λ j hj=>by show(W2.cell? _).isSome=true;rw [ag hb2,Array.getElem?_eq_getElem (by omega)];rfl)
   (λ j hj=>by show W2.frozen? _=false;simp [World.frozen?,hb2]) (by rw [hnews];exact iy)
 obtain⟨hs3,cur2,hb3,hc2⟩:=dt w.heap.size 65 news ((i+1)*6) cur1 W2.drew (show W2.drew.heap[w.heap.size]?=_ from hb2) (by rw [hlen];omega);obtain⟨W3,hW3⟩:∃ W3,W3=W2.drew.setCells w.heap.size ((i+1)*6) news:=⟨_,rfl⟩
 rw [<-hW3]at hs3 hb3 hcpB;have hfin:=Ji hn (by omega) (cur:=ROW.toList) (cur1:=cur1.toList) (cur2:=cur2.toList) (x:=x) hRt (by simp;omega) hc1 (by rw [<-hnews];exact hc2)
 have AA:Hid (bS W3 base (.slice (some ⟨w.heap.size,0,none⟩) (n+1) G) (l.take i++x::l.drop i)/\Below w.heap.size w W3):=af (by
  have hle:(l.take i++x::l.drop i).length=n+1:=by simp only [List.length_append,List.length_cons,List.length_take,List.length_drop];omega
  refine⟨⟨by rw [dN,hle],inr ⟨w.heap.size,G,cur2,by rw [hle],hbase,hb3,by omega,hGm,?_,by rw [hle];exact hfin.1⟩⟩,?_⟩
  ·have:=hfin.2;simp only [Array.length_toList]at this;omega
  ·have h4:eS W1 w.heap.size W3:=(hs2.drew).trans hs3;exact⟨h4.os.trans hB1.os,h4.tape.trans hB1.tape,h4.output.trans hB1.output,by rw [h4.size];exact hB1.size,λ k hk=>(h4.other k (by omega)).trans (hB1.block k hk)⟩)
 have hz2:¬((i:Int)=(n:Int)):=by omega
 have hz3:(cap:Int)<(n:Int)+1:=by omega
 have hw1:IntKind.i64.wrap ((i:Int)+1)=(i:Int)+1:=by rw [IntKind.wrap_i64];omega
 have htn:((i:Int)+1).toNat=i+1:=by omega
 have mixed:prog.follows .mixedOrders=true:=by kernel_rfl
 have hb1':(0:Int)<=(i:Int)+1:=by omega
 have hin:i<=n:=by omega
 have hG63:G<=9223372036854775807:=by unfold maxLen at hGm;omega
 have hGi:¬(G=i):=by omega
 have hGim:¬(G=i+1):=by omega
 have hci:¬(cap=i):=by omega
 have hb3':(i:Int)<=(n:Int):=by omega
 have BA:=af hW1;clear hfin hs2 hs3 hb1 hb2 hb3 hc1 hc2 hget hnews hlen hrow hb ht hbg hl1 hsz hn hx hx1 hg1 hg2 hW1 hW2 hW3 hmx hkk hik hold hROW hG hRs hRt e1 hB1;go_enter func170,ntmps170;go_upto_region 10 with(at_builtin;refine Lib.wpList_append_run _ rfl _ _ _ _ rfl _ _ rfl rfl _ _ (hrz _) ?_)
 rw [<-ae BA];go_upto_region 11 with(at_builtin;refine wpList_copy_runI _ rfl _ _ 105 34 rfl _ _ rfl rfl (hcpA _ _) ?_)
 go_region_law_o (refine step_copy_runI rfl _ _ 105 105 rfl _ _ (by simp [Act.eval,Act.put]) (by simp [Act.eval,Act.put]) (hcpB _ _ _) ?_)
 go_wp2
 go_ret;exact⟨G,rfl,(ae AA).1,(ae AA).2⟩
theorem LJ(l:List Rv)(x:Rv)(base vb i:Nat)(q:Option Addr)(cap:Nat)(w:World)(ht:bS w base (.slice q l.length cap) l)(hi:i<=l.length)(hl:l.length<=100000)(hbase:base<=w.heap.size)
  (hx:w.heap[vb]?=some (.cells (bQ x).toArray 65 (0,0))) (hvb:(Value.slice q l.length cap).ownBlock≠some vb) :
  Calls prog 170 #[.slice q l.length cap,.int .i64 i,.slice (some ⟨vb,0,none⟩) 1 1] w λ e w'=>∃ g c,e=.returned (.slice (some ⟨g,0,none⟩) (l.length+1) c)/\KV w base (.slice q l.length cap) w' (.slice (some ⟨g,0,none⟩) (l.length+1) c) (l.take i++x::l.drop i):=by
 by_cases hin:i=l.length
 ·subst hin;refine(LK l x base vb q cap w ht hl hbase hx).mono ?_;rintro e w' ⟨g,c,rfl,hg⟩;exact⟨g,c,rfl,by rw [List.take_length,List.drop_length];exact hg⟩
 have hlt:i<l.length:=by omega
 obtain⟨g,rfl,hgw,hgc⟩:=ht.atG (by omega);have hvg:vb≠g:=λ e=>hvb (by rw [e];rfl)
 by_cases hroom:l.length+1<=cap
 ·refine(Ge l x base g cap i vb l.length w rfl ht hlt hroom hvg hx).mono ?_;rintro e w' ⟨rfl,h1,h2⟩;refine⟨g,cap,rfl,h1,?_⟩;have f:=h2.fr;exact⟨f.os,f.tape,f.output,f.size,λ k hk hne=>f.block k hk λ e=>hne (by rw [e];rfl),λ k hk=>inl hk⟩
 refine(Jh l x base g cap i vb l.length w rfl ht hlt (by omega) hl hbase hx).mono ?_;rintro e w' ⟨c,rfl,h1,h2⟩;exact⟨w.heap.size,c,rfl,h1,Fr.reown (Fr.of_below h2) λ k hk=>inr (by have:w.heap.size=k:=(by simpa [Value.ownBlock]using hk);omega)⟩
theorem bB.ofGrew{w U w2:World}{base b o:Nat}{cs:Array Value}{T:TypeId}{v v':Value}{l':List Rv}(hU:Below w.heap.size w U)(hg:KV U base v w2 v' l')(hb:w2.heap[b]?=some (.cells cs T (0,0)))(hbU:b<U.heap.size)(hne:v.ownBlock≠some b) :
  bB w base b o cs T v (w2.setCell ⟨b,o,none⟩ v') v' l':=by
 have hap:v'.ownBlock≠some b:=λ e=>(hg.fr.own b e).elim hne (λ h=>by omega)
 refine⟨⟨hg.fr.os.trans hU.os,hg.fr.tape.trans hU.tape,hg.fr.output.trans hU.output,?_,λ k hk hno=>?_,λ k hk=>?_⟩,dm hb,hg.tab.fr λ k e=>ai λ h=>hap (by rw [e];simpa using h),hap⟩
 ·have h1:=hg.fr.size;have h2:=hU.size;simp only [World.setCell,Array.size_modify];omega
 ·exact(ai λ e=>hno (inl e)).trans ((hg.fr.block k (gY hk hU.size) λ e=>hno (inr e)).trans (hU.block k hk))
 rcases hk with h|h
 ·exact inl (inl h)
 exact(hg.fr.own k h).elim (λ e=>inl (inr e)) λ e=>inr (gG hU.size e)
theorem My{cur cur1:List Value}{l:List Rv}{x:Rv}{i n:Nat}(hn:l.length=n)(hi:i<n)(h0:cur.take (n*6)=bW l)(hl:n*6<=cur.length)
  (h1:cur1=cur.take (i*6)++bQ x++cur.drop (i*6+(bQ x).length)):cur1.take (n*6)=bW (l.set i x)/\cur1.length=cur.length:=by
 have ex:(bQ x).length=6:=rfl
 have e0:cur.take (i*6)=bW (l.take i):=by
  rw [lk,<-h0,List.take_take];congr 1;omega
 have e1:(bW (l.take i)).length=i*6:=by rw [dN,List.length_take];congr 1;omega
 have e2:(cur.drop (i*6+6)).take ((n-(i+1))*6)=bW (l.drop (i+1)):=by
  rw [lj,<-h0,show(i+1)*6=i*6+6 by omega,List.drop_take];congr 1;omega
 rw [e0,ex]at h1
 constructor
 ·rw [h1,List.take_append,List.take_of_length_le (by rw [List.length_append,e1,ex];omega),List.length_append,e1,ex,show n*6-(i*6+6)=(n-(i+1))*6 by omega,e2,List.set_eq_take_append_cons_drop,aS (by omega),fS,List.append_assoc]
  rfl
 rw [h1];simp only [List.length_append,List.length_drop,e1,ex];omega
def oh(l:List Rv)(x:Rv):List Rv:=if sr l x.net then l.set (dj l x.net) x else l.take (dj l x.net)++x::l.drop (dj l x.net)
theorem Mo(l:List Rv)(x:Rv)(v:Value)(w:World)(base b o:Nat)(cs:Array Value)(T:TypeId)(hb:w.heap[b]?=some (.cells cs T (0,0)))(hv:cs[o]?=some v)(hl:l.length<=100000)(hbase:base<=w.heap.size)(ht:bS w base v l)(hs:eo l)(hne:v.ownBlock≠some b) :
  Calls prog 118 #[.pointer (some ⟨b,o,none⟩),.agg (bQ x).toArray] w λ e w'=>e=.returned (.tuple #[])/\∃ v',bB w base b o cs T v w' v' (oh l x):=by
 have ht0:bS w 0 v l:=⟨ht.1,ht.2.imp id λ⟨g,c,cur,h1,_,h2⟩=>⟨g,c,cur,h1,dG _,h2⟩⟩
 have hg:bF w (w.alloc (.cells (bQ x).toArray 65)):=(bF.refl w).alloc _;have hn:=cM w (.cells (bQ x).toArray 65);have hb1:(w.alloc (.cells (bQ x).toArray 65)).heap[b]?=some (.cells cs T (0,0)):=(hg.below.block b (ah hb)).trans hb;generalize hW:w.alloc (.cells (bQ x).toArray 65)=W at hg hn hb1;have lb:b<W.heap.size:=ah hb1;have HF:=af (xM l v x.net W b o ((ag hb1).trans hv) lb hl (ht0.grown hg) hs);have HW:=af hW;have HG:=af hg;have HX:=af hn;obtain⟨q,cap,rfl⟩:=al ht;have HT:=af ht;have HB:=af hb1;have HV:=af hv;have HN:=af hne;clear hW hg hn hb1 ht ht0 hs hb hne hv;have hlow:=EP l x.net;cases hh:sr l x.net with
 | true =>
  have hlo:=EI hh;have HD:=af (show oh l x=l.set (dj l x.net) x from by unfold oh;rw [hh];rfl);rw [hh]at HF;generalize dj l x.net=i at *;obtain⟨g,rfl,hgw,hgc⟩:=(ae HT).atG (by omega);have hgb:g≠b:=λ e=>ae HN (by rw [e];rfl)
  have HX2:=ae HX;obtain⟨y,hy⟩:∃ y,y=x:=⟨_,rfl⟩
  have HY:=af hy;obtain⟨⟨a0,a1,ap,am,a4,a5⟩,aq,ac,aq2,ac2⟩:=x;dsimp only [bQ,Rv.net]at HX2 HF HW ⊢;generalize hn1:ap.length=n1 at HX2 HF HW ⊢;generalize hn3:am.length=n3 at HX2 HF HW ⊢;have EY:=af (show bQ y=[.int .i64 a0,.int .i64 a1,.slice aq n1 ac,.slice aq2 n3 ac2,.int .i64 a4,.int .i64 a5]from by rw [hy];simp only [bQ,hn1,hn3]);clear hn1 hn3 hy HX;have t0:W.cell? ⟨w.heap.size,0,none⟩=some (.int .i64 a0):=ag HX2;have t1:W.cell? ⟨w.heap.size,1,none⟩=some (.int .i64 a1):=ag HX2;go_enter func118,ntmps118;go_upto_region 1 with fail
  rw [ae HW];go_upto_region 3 with(go_at_call 116;refine(ae HF).mono ?_;rintro e w1 ⟨rfl,hg⟩;have AA:=af hg;clear hg)
  have hb1:=((ae AA).below.block b lb).trans (ae HB);have hx1:=((ae AA).below.block w.heap.size (ah HX2)).trans HX2;have hT1:=((ae HT).grown (ae HG)).grown (ae AA);obtain⟨cur,hk1,hbg,hlc,hmx,hsz,hrow⟩:=hT1.block;have c1:=(ag hb1).trans (ae HV);have z0:w1.cell? ⟨w.heap.size,0,none⟩=some (.int .i64 a0):=ag hx1;have z1:w1.cell? ⟨w.heap.size,1,none⟩=some (.int .i64 a1):=ag hx1;have z2:w1.cell? ⟨w.heap.size,2,none⟩=some (.slice aq n1 ac):=ag hx1;have z3:w1.cell? ⟨w.heap.size,3,none⟩=some (.slice aq2 n3 ac2):=ag hx1;have z4:w1.cell? ⟨w.heap.size,4,none⟩=some (.int .i64 a4):=ag hx1;have z5:w1.cell? ⟨w.heap.size,5,none⟩=some (.int .i64 a5):=ag hx1;have q0:w1.cell? ⟨g,i*6,none⟩=some (.int .i64 l[i].r.addr):=hT1.cell hlo (i:=0) (by decide);have q1:w1.cell? ⟨g,i*6+1,none⟩=some (.int .i64 l[i].r.len):=hT1.cell hlo (by decide);have q2:w1.cell? ⟨g,i*6+2,none⟩=some (.slice l[i].pq l[i].r.path.length l[i].pc):=hT1.cell hlo (by decide);have q3:w1.cell? ⟨g,i*6+3,none⟩=some (.slice l[i].mq l[i].r.marks.length l[i].mc):=hT1.cell hlo (by decide);have q4:w1.cell? ⟨g,i*6+4,none⟩=some (.int .i64 l[i].r.pref):=hT1.cell hlo (by decide);have q5:w1.cell? ⟨g,i*6+5,none⟩=some (.int .i64 l[i].r.med):=hT1.cell hlo (by decide);have fz:∀ k,w1.frozen? ⟨g,k,none⟩=false:=λ k=>by simp [World.frozen?,hk1]
  obtain⟨hs2,cur1,hb2,hc1⟩:=dt g 65 (bQ y) (i*6) cur w1.drew (show w1.drew.heap[g]?=_ from hk1) (by rw [gu];omega);have hfin:=My rfl hlo (cur:=cur.toList) (cur1:=cur1.toList) hrow (by simp;omega) hc1;rw [ae EY]at hs2 hb2
  have BA:Hid (bB w base b o cs T (.slice (some ⟨g,0,none⟩) l.length cap) (w1.drew.setCells g (i*6) [.int .i64 a0,.int .i64 a1,.slice aq n1 ac,.slice aq2 n3 ac2,.int .i64 a4,.int .i64 a5]) (.slice (some ⟨g,0,none⟩) l.length cap) (l.set i y)):=af (by
   have h2:=(ae HG).trans (ae AA);refine⟨⟨hs2.os.trans h2.below.os,hs2.tape.trans h2.below.tape,hs2.output.trans h2.below.output,by rw [hs2.size];exact h2.below.size,λ k hk hno=>?_,λ k hk=>inl hk⟩,?_,⟨by rw [dN],inr ⟨g,cap,cur1,by rw [List.length_set],hbg,hb2,by rw [List.length_set];exact hlc,hmx,?_,by rw [List.length_set];exact hfin.1⟩⟩,ae HN⟩
   ·exact(hs2.other k λ e=>hno (inr (by rw [e];rfl))).trans (h2.below.block k hk)
   ·rw [uX (ae HV)];exact(hs2.other b (Ne.symm hgb)).trans hb1
   ·have:=hfin.2;simp only [Array.length_toList]at this;omega)
  rw [<-drew_setCells]at BA;simp only [World.setCells,Nat.add_assoc,Nat.reduceAdd]at BA;clear hs2 hb2 hc1 hfin hk1 hsz hrow hbg hlc hmx hT1 hb1 hx1 t0 t1 HX2 HF;go_region
  go_wp2
  refine gH (v:=.tuple #[]) (by simp [results,results118,go_sem]) rfl ?_;refine⟨rfl,.slice (some ⟨g,0,none⟩) l.length cap,?_⟩;rw [ae HD,<-ae HY]
  with_reducible exact ae BA
 | false =>
  have HD:=af (show oh l x=l.take (dj l x.net)++x::l.drop (dj l x.net)from by unfold oh;rw [hh];rfl);rw [hh]at HF;generalize dj l x.net=i at *;have HX2:=ae HX;obtain⟨y,hy⟩:∃ y,y=x:=⟨_,rfl⟩
  have HY:=af hy;obtain⟨⟨a0,a1,ap,am,a4,a5⟩,aq,ac,aq2,ac2⟩:=x;dsimp only [bQ,Rv.net]at HX2 HF HW ⊢;generalize hn1:ap.length=n1 at HX2 HF HW ⊢;generalize hn3:am.length=n3 at HX2 HF HW ⊢;have EY:=af (show(bQ y).toArray=#[.int .i64 a0,.int .i64 a1,.slice aq n1 ac,.slice aq2 n3 ac2,.int .i64 a4,.int .i64 a5]from by rw [hy];simp only [bQ,hn1,hn3]);clear hn1 hn3 hy HX;have t0:W.cell? ⟨w.heap.size,0,none⟩=some (.int .i64 a0):=ag HX2;have t1:W.cell? ⟨w.heap.size,1,none⟩=some (.int .i64 a1):=ag HX2;go_enter func118,ntmps118;go_upto_region 1 with fail
  rw [ae HW];go_upto_region 4 with(go_at_call 116;refine(ae HF).mono ?_;rintro e w1 ⟨rfl,hg⟩;have AA:=af hg;clear hg)
  have hb1:=((ae AA).below.block b lb).trans (ae HB);have hx1:=((ae AA).below.block w.heap.size (ah HX2)).trans HX2;have lb1:b<w1.heap.size:=ah hb1;have lx1:w.heap.size<w1.heap.size:=ah hx1;have c1:=(ag hb1).trans (ae HV);have z0:w1.cell? ⟨w.heap.size,0,none⟩=some (.int .i64 a0):=ag hx1;have z1:w1.cell? ⟨w.heap.size,1,none⟩=some (.int .i64 a1):=ag hx1;have z2:w1.cell? ⟨w.heap.size,2,none⟩=some (.slice aq n1 ac):=ag hx1;have z3:w1.cell? ⟨w.heap.size,3,none⟩=some (.slice aq2 n3 ac2):=ag hx1;have z4:w1.cell? ⟨w.heap.size,4,none⟩=some (.int .i64 a4):=ag hx1;have z5:w1.cell? ⟨w.heap.size,5,none⟩=some (.int .i64 a5):=ag hx1;have hgU:bF w1 (w1.alloc (.cells #[.int .i64 a0,.int .i64 a1,.slice aq n1 ac,.slice aq2 n3 ac2,.int .i64 a4,.int .i64 a5] 65)).drew:=((bF.refl w1).alloc _).drew
  have hxU:(w1.alloc (.cells #[.int .i64 a0,.int .i64 a1,.slice aq n1 ac,.slice aq2 n3 ac2,.int .i64 a4,.int .i64 a5] 65)).drew.heap[w1.heap.size]?=some (.cells (bQ y).toArray 65 (0,0)):=by
   rw [ae EY];exact cM w1 _
  have hTU:=(((ae HT).grown (ae HG)).grown (ae AA)).grown hgU;have GA:=af (LJ l y base w1.heap.size i q cap _ hTU hlow hl (by have h1:=(ae HG).below.size;have h2:=(ae AA).below.size;have h3:=hgU.below.size;omega) hxU (λ e=>by have h1:=(World.ownsRow.lt (ae HT) _ e).2;omega));have DA:=af hb1;have CA:=af hgU;have lbU:b<(w1.alloc (.cells #[.int .i64 a0,.int .i64 a1,.slice aq n1 ac,.slice aq2 n3 ac2,.int .i64 a4,.int .i64 a5] 65)).drew.heap.size:=gY lb1 hgU.below.size;clear hb1 hx1 hxU hTU hgU t0 t1 HX2 HF;go_region_with (go_at_call 170;refine(ae GA).mono ?_;rintro e w2 ⟨g,c,rfl,hg2⟩;have hb2:=(hg2.fr.block b lbU (ae HN)).trans (((ae CA).below.block b lb1).trans (ae DA));have c2:=(ag hb2).trans (ae HV);have f2:w2.frozen? ⟨b,o,none⟩=false:=(by simp [World.frozen?,hb2]);have EA:=af hb2;have FA:=af hg2;clear hb2 hg2)
  all_goals
   go_wp2
   go_end0
   refine⟨rfl,.slice (some ⟨g,0,none⟩) (l.length+1) c,?_⟩;rw [ae HD,<-ae HY];exact bB.ofGrew (((ae HG).trans (ae AA)).trans (ae CA)).below (ae FA) (ae EA) lbU (ae HN)
