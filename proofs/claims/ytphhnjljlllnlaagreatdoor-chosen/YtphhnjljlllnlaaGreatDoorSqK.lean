/- part -/
import Derived.Test.YtphhnjljlllnlaaGreatDoorSpR
import Derived.Shelf.SlSortCmp.WholeK
import Derived.Shelf.SlGeneric
import Derived.Ground.SlsfProg
set_option maxRecDepth 100000
set_option maxHeartbeats 4000000
namespace Go.Proofs.YtphhnjljlllnlaaGreatDoor
open Go.Proofs.Tryz
open Or
open Go.RowKit Go.Sort
open Go.Shelf
open Go.RowKit Go.Sort Go.Shelf
structure TV where
 peer:Int
 m:fI
 bv:Value
def N8(x:TV):List Value:=[.int .i64 x.peer,x.bv]
def y9(l:List TV):List Value:=l.flatMap N8
theorem Ha(l:List TV)(x:TV):y9 (l++[x])=y9 l++N8 x:=by unfold y9;rw [List.flatMap_append];simp
structure eC(w:World)(base:Nat)(v:Value)(l:List TV):Prop where
 row:w.ownsRow base 93 2 v l.length (y9 l)
 bytes:∀ x∈l,dK w base x.bv (jv x.m)/\eW x.m
theorem own_typed{w:World}{base size n:Nat}{e:TypeId}{v:Value}{xs:List Value}(h:w.ownsRow base e size v n xs){k:Nat}(hk:v.ownBlock=some k):∃ cur,w.heap[k]?=some (.cells cur e (0,0)):=by
 obtain⟨_,⟨h2,_⟩|⟨g,c,cur,h2,_,h3,_⟩⟩:=h
 ·rw [h2]at hk;cases hk
 rw [h2]at hk;have:g=k:=by simpa [Value.ownBlock]using hk
 subst this;exact⟨cur,h3⟩
theorem eC.fr{w w':World}{base:Nat}{v:Value}{l:List TV}(h:eC w base v l)(h1:∀ k,v.ownBlock=some k->w'.heap[k]?=w.heap[k]?)(h2:∀ x∈l,∀ k,x.bv.ownBlock=some k->w'.heap[k]?=w.heap[k]?):eC w' base v l :=
 ⟨ay h.row h1,λ x hx=>⟨ay (h.bytes x hx).1 (h2 x hx),(h.bytes x hx).2⟩⟩
theorem eC.below{w w':World}{base:Nat}{v:Value}{l:List TV}(h:eC w base v l)(hb:Below w.heap.size w w'):eC w' base v l :=
 h.fr (λ k e=>hb.block k (h.row.lt k e).2) λ x hx k e=>hb.block k ((h.bytes x hx).1.lt k e).2
def OL(Lb Bv Bm:Nat)(v:Value)(k:Nat):Prop:=k=Lb\/v.ownBlock=some k\/k=Bv\/k=Bm
structure zG(V:World)(Lb Bv Bm base:Nat)(vL0:Value)(T0:List (Int×fI))(i:Int)(pre:List MV)(vL:Value)(T:List TV)(X:World):Prop where
 fr:Fr (OL Lb Bv Bm vL0) V (OL Lb Bv Bm vL) X
 box:X.heap[Lb]?=some (.cells #[vL] 51 (0,0))
 told:eC X base vL T
 what:T.map (λ x=>(x.peer,x.m))=T0++pre.map (λ x=>(i,x.m))
 apart:∀ k,vL.ownBlock=some k->k≠Bv/\k≠Bm
 bapart:∀ x∈T,∀ k,x.bv.ownBlock=some k->k≠Bv/\k≠Bm
def rx(V:World)(Lb Bv Bm base:Nat)(vL0:Value)(T0:List (Int×fI))(i:Int)(pre:List MV)(X:World):Prop:=∃ vL T,zG V Lb Bv Bm base vL0 T0 i pre vL T X
theorem rx.iter{V:World}{Lb Bv Bm base:Nat}{vL0:Value}{T0:List (Int×fI)}{i:Int}{pre:List MV}{X Y:World}(hv:Lb≠Bv)(hm:Lb≠Bm)(h:rx V Lb Bv Bm base vL0 T0 i pre X)(hf:Fr (λ k=>k=Bv\/k=Bm) X (λ k=>k=Bv\/k=Bm) Y):rx V Lb Bv Bm base vL0 T0 i pre Y:=by
 obtain⟨vL,T,h⟩:=h;refine⟨vL,T,h.fr.trans ⟨hf.os,hf.tape,hf.output,hf.size,λ k hk hno=>hf.block k hk λ e=>hno (inr (inr e)),λ k hk=>inl hk⟩,(hf.block _ (ah h.box) λ e=>e.elim hv hm).trans h.box,h.told.fr (λ k e=>hf.block k (h.told.row.lt k e).2 λ e2=>e2.elim (h.apart k e).1 (h.apart k e).2) (λ x hx k e=>hf.block k ((h.told.bytes x hx).1.lt k e).2 λ e2=>e2.elim (h.bapart x hx k e).1 (h.bapart x hx k e).2),h.what,h.apart,h.bapart⟩
theorem rx.putObj{V:World}{Lb Bv Bm base:Nat}{vL0:Value}{T0:List (Int×fI)}{i:Int}{pre:List MV}{X:World}{l:Nat}{o o':Obj}(h:rx V Lb Bv Bm base vL0 T0 i pre X)(hl:V.heap.size<=l)(ho:X.heap[l]?=some o)(hc:o.isCells=false):rx V Lb Bv Bm base vL0 T0 i pre (X.putObj l o'):=by
 obtain⟨vL,T,h⟩:=h;have key:∀(k:Nat) (c:Array Value) (Ty:TypeId) (z:Nat×Nat),X.heap[k]?=some (.cells c Ty z)->(X.putObj l o').heap[k]?=X.heap[k]?:=λ k c Ty z hk=>World.putObj_heap_other λ e=>by rw [e,ho]at hk;cases hk;cases hc
 refine⟨vL,T,⟨h.fr.os,h.fr.tape,h.fr.output,by simpa using h.fr.size,λ k hk hno=>(World.putObj_heap_other (by omega)).trans (h.fr.block k hk hno),h.fr.own⟩,(key _ _ _ _ h.box).trans h.box,h.told.fr (λ k e=>?_) (λ x hx k e=>?_),h.what,h.apart,h.bapart⟩
 ·obtain⟨cur,hk⟩:=own_typed h.told.row e;exact key _ _ _ _ hk
 obtain⟨cur,hk⟩:=own_typed (h.told.bytes x hx).1 e;exact key _ _ _ _ hk
theorem Tryz.infoTold:(prog.info? 93).map (λ i=>(i.zero,i.size,i.bytes))=some (some (.agg #[.int .i64 0,.slice none 0 0]),2,32):=by kernel_rfl
theorem zG.snoc{V X X2 X3 w1:World}{Lb Bv Bm base L:Nat}{vL0 vL v' bv:Value}{T0:List (Int×fI)}{i:Int}{pre:List MV}{T:List TV}{x:MV}{U o':Obj}{tb:Obj}(h:zG V Lb Bv Bm base vL0 T0 i pre vL T X)(hX2:X2=(X.alloc U).putObj L o')(hLV:V.heap.size<=L)(hL:L<X.heap.size)(hLc:∃ o:Obj,X.heap[L]?=some o/\o.isCells=false)
  (hb3:Below X2.heap.size X2 X3) (hbv:dK X3 X2.heap.size bv (jv x.m)) (hok:eW x.m) (hbase:base<=V.heap.size) (hBv:Bv<V.heap.size) (hBm:Bm<V.heap.size)
  (hown:w1.ownsRow base 93 2 v' (T.length+1) (y9 T++[.int .i64 i,bv])) (hgr:(X3.alloc tb).grownBy w1 vL.ownBlock) (hat:v'.ownBlock=vL.ownBlock\/v'.ownBlock=some (X3.alloc tb).heap.size) :
  KeepsFrom V.heap.size X2 (w1.setCell ⟨Lb,0,none⟩ v')/\(∀ o2,zA X ((w1.setCell ⟨Lb,0,none⟩ v').putObj L o2))/\rx V Lb Bv Bm base vL0 T0 i (pre++[x]) (w1.setCell ⟨Lb,0,none⟩ v'):=by
 obtain⟨oL,hoL,hoLc⟩:=hLc;have hsX2:X2.heap.size=X.heap.size+1:=by rw [hX2];simp
 have hs3:=hb3.size;have hsg:=hgr.size;rw [World.size_alloc]at hsg;have hszV:=h.fr.size
 have hXk:∀ k,k<X.heap.size->k≠L->X2.heap[k]?=X.heap[k]?:=λ k hk hne=>by
  rw [hX2,World.putObj_heap_other hne];exact mC _ _ _ hk
 have h3w:∀ k,k<X3.heap.size->vL.ownBlock≠some k->k≠Lb->(w1.setCell ⟨Lb,0,none⟩ v').heap[k]?=X3.heap[k]?:=λ k hk hv hne=>by
  rw [ai hne,hgr.block k (by rw [World.size_alloc];omega) (λ e=>hv e.symm)];exact mC _ _ _ hk
 have hall:∀ k,k<X.heap.size->k≠L->vL.ownBlock≠some k->k≠Lb->(w1.setCell ⟨Lb,0,none⟩ v').heap[k]?=X.heap[k]?:=λ k hk hne hv hb =>
  (h3w k (by omega) hv hb).trans ((hb3.block k (by omega)).trans (hXk k hk hne))
 have hvL:∀ k,vL.ownBlock=some k->∃ cur,X.heap[k]?=some (.cells cur 93 (0,0)):=λ k e=>own_typed h.told.row e
 have hLbL:Lb≠L:=λ e=>by rw [e]at h;have:=h.box;rw [hoL]at this;cases this;cases hoLc
 have hvLL:vL.ownBlock≠some L:=λ e=>by obtain⟨cur,hc⟩:=hvL L e;rw [hoL]at hc;cases hc;cases hoLc
 have hsz1:(w1.setCell ⟨Lb,0,none⟩ v').heap.size=w1.heap.size:=by simp [World.setCell]
 have hbox1:w1.heap[Lb]?=some (.cells #[vL] 51 (0,0)):=by
  have hLbX:=ah h.box;rw [hgr.block Lb (by rw [World.size_alloc];omega) (λ e=>by obtain⟨cur,hc⟩:=hvL Lb e.symm;rw [h.box]at hc;cases hc),mC _ _ _ (by omega),hb3.block Lb (by omega),hXk Lb hLbX hLbL];exact h.box
 have hv'n:∀ k,v'.ownBlock=some k->vL.ownBlock=some k\/X.heap.size<=k:=λ k e=>by
  rcases hat with h1|h1
  ·exact inl (h1▸e)
  rw [h1,World.size_alloc]at e;cases e;exact inr (by omega)
 have hv'Lb:v'.ownBlock≠some Lb:=λ e=>by
  obtain⟨cur,hc⟩:=own_typed hown e;rw [hbox1]at hc;cases hc
 refine⟨⟨by rw [hsz1];omega,λ k o hk hko hc=>?_⟩,λ o2=>⟨by simp [World.setCell];omega,λ k c Ty z hk h1 h2=>?_⟩,v',T++[⟨i,x.m,bv⟩],⟨?_,?_,⟨?_,λ y hy=>?_⟩,?_,λ k e=>?_,λ y hy k e=>?_⟩⟩
 ·have hk3:=(hb3.block k (ah hko)).trans hko;rw [h3w k (ah hk3) (λ e=>?_) (λ e=>?_)]
  ·exact hk3
  ·obtain⟨cur,hc2⟩:=hvL k e;have hkX:=ah hc2;rw [<-hXk k hkX (λ e2=>hvLL (e2▸e)),hko]at hc2;cases hc2;cases hc
  subst e;have hkX:=ah h.box;have:=h.box;rw [<-hXk k hkX hLbL,hko]at this;cases this;cases hc
 ·have hkX:=ah hk;rw [World.putObj_heap_other (λ e=>by rw [e,hoL]at hk;cases hk;cases hoLc),hall k hkX (λ e=>by rw [e,hoL]at hk;cases hk;cases hoLc) (λ e=>by obtain⟨cur,hc⟩:=hvL k e;rw [hk]at hc;cases hc;exact h1 rfl) (λ e=>by rw [e,h.box]at hk;cases hk;exact h2 rfl)];exact hk
 ·refine⟨?_,?_,?_,by rw [hsz1];omega,λ k hk hno=>?_,λ k hk=>?_⟩
  ·show w1.os=_;rw [hgr.os];show X3.os=_;rw [hb3.os,hX2];exact h.fr.os
  ·show w1.tape=_;rw [hgr.tape];show X3.tape=_;rw [hb3.tape,hX2];exact h.fr.tape
  ·show w1.output=_;rw [hgr.output];show X3.output=_;rw [hb3.output,hX2];exact h.fr.output
  ·have hnoX:¬OL Lb Bv Bm vL k:=λ e=>(h.fr.own k e).elim hno (λ e=>by omega)
   exact(hall k (by omega) (by omega) (λ e=>hnoX (inr (inl e))) (λ e=>hnoX (inl e))).trans (h.fr.block k hk hno)
  rcases hk with e|e|e|e
  ·exact h.fr.own k (inl e)
  ·rcases hv'n k e with e2|e2
   ·exact h.fr.own k (inr (inl e2))
   exact inr (by omega)
  ·exact h.fr.own k (inr (inr (inl e)))
  exact h.fr.own k (inr (inr (inr e)))
 ·rw [aV hbox1];rfl
 ·rw [List.length_append,Ha];exact ay hown λ k e=>ai λ e2=>hv'Lb (by rw [e,show k=Lb from e2])
 ·rcases List.mem_append.1 hy with hy|hy
  ·refine⟨ay (h.told.bytes y hy).1 λ k e=>?_,(h.told.bytes y hy).2⟩;obtain⟨cur,hc⟩:=own_typed (h.told.bytes y hy).1 e;exact hall k (ah hc) (λ e2=>by rw [e2,hoL]at hc;cases hc;cases hoLc) (λ e2=>by obtain⟨c2,h2⟩:=hvL k e2;rw [hc]at h2;cases h2) (λ e2=>by rw [e2,h.box]at hc;cases hc)
  rw [List.mem_singleton.1 hy];refine⟨aZ (ay hbv λ k e=>?_) (by omega),hok⟩;have hk:=hbv.lt k e;exact h3w k hk.2 (λ e2=>by have:=(h.told.row.lt k e2).2;omega) (λ e2=>by have:=ah h.box;omega)
 ·rw [List.map_append,h.what,List.map_append,List.append_assoc];rfl
 ·rcases hv'n k e with e2|e2
  ·exact h.apart k e2
  exact⟨by omega,by omega⟩
 rcases List.mem_append.1 hy with hy|hy
 ·exact h.bapart y hy k e
 rw [List.mem_singleton.1 hy]at e;have:=(hbv.lt k e).1;exact⟨by omega,by omega⟩
def kY(a b:Kp):Prop :=
 a.r.addr<b.r.addr\/a.r.addr=b.r.addr/\(a.r.len<b.r.len\/a.r.len=b.r.len/\(b.r.pref<a.r.pref\/b.r.pref=a.r.pref/\(a.r.path.length<b.r.path.length\/a.r.path.length=b.r.path.length/\(a.r.med<b.r.med\/a.r.med=b.r.med/\a.peer<b.peer))))
theorem eV{x:Int}{l:List Int}:dD (x::l)<0↔x<0\/x=0/\dD l<0:=by
 rw [show dD (x::l)=if x=0 then dD l else x from rfl];generalize dD l=y;split
 ·rename_i h;subst h;simp
 omega
theorem LX{a b:Kp}:EM a b<0↔kY a b:=by
 unfold EM kY;rw [eV,io,kZ,eV,kT,fV,eV,kT,fV,eV,kT,fV,eV,kT];simp only [ck,Prod.mk.injEq,dD,Int.lt_irrefl,and_false,or_false,Int.ofNat_lt,Int.ofNat_inj];omega
theorem nM(a b:Kp):ltOf EM a b=true↔kY a b:=by
 unfold ltOf;rw [decide_eq_true_iff,LX]
theorem Js:SWO (ltOf EM) where
 irrefl x:=by
  cases h:ltOf EM x x with
  | false=>rfl
  | true=>have:=(nM _ _).1 h;unfold kY at this;omega
 trans x y z h1 h2:=by
  rw [nM]at *;unfold kY at *;omega
 ntrans x y z h1 h2:=by
  cases h:ltOf EM x z with
  | false=>rfl
  | true =>
   exfalso;have h3:=(nM _ _).1 h;have h4:¬kY x y:=λ e=>by rw [(nM _ _).2 e]at h1;cases h1
   have h5:¬kY y z:=λ e=>by rw [(nM _ _).2 e]at h2;cases h2
   unfold kY at *;omega
end Go.Proofs.YtphhnjljlllnlaaGreatDoor
namespace Go.Proofs
open Go.Shelf
def Tryz.shSort_ren:Go.Shelf.Ren:=⟨fun|6=>53|15=>80|14=>79|28=>127|29=>128|20=>119|21=>120|22=>121|23=>122|24=>123|25=>124|26=>125|27=>126|46=>171|47=>172|48=>173|49=>174|50=>175|57=>205|n=>n,fun|22=>30|24=>67|25=>116|3=>3|39=>109|0=>0|53=>215|55=>179|4=>4|46=>209|45=>208|50=>204|5=>5|9=>9|66=>253|70=>257|76=>288|77=>289|n=>n,fun|n=>n⟩
theorem Tryz.shSort:Go.Proofs.SlLaysF0.n6 prog Tryz.shSort_ren:={
 mixed:=by kernel_rfl
 f6:=⟨Tryz.f53.name,by decide,func53.trans (congrArg some (by kernel_rfl))⟩
 f14:=⟨Tryz.f79.name,by decide,func79.trans (congrArg some (by kernel_rfl))⟩
 f15:=func80.trans (congrArg some (by kernel_rfl))
 f20:=⟨Tryz.f119.name,by decide,func119.trans (congrArg some (by kernel_rfl))⟩
 f21:=⟨Tryz.f120.name,by decide,func120.trans (congrArg some (by kernel_rfl))⟩
 f22:=⟨Tryz.f121.name,by decide,func121.trans (congrArg some (by kernel_rfl))⟩
 f23:=⟨Tryz.f122.name,by decide,func122.trans (congrArg some (by kernel_rfl))⟩
 f24:=⟨Tryz.f123.name,by decide,func123.trans (congrArg some (by kernel_rfl))⟩
 f25:=⟨Tryz.f124.name,by decide,func124.trans (congrArg some (by kernel_rfl))⟩
 f26:=⟨Tryz.f125.name,by decide,func125.trans (congrArg some (by kernel_rfl))⟩
 f27:=⟨Tryz.f126.name,by decide,func126.trans (congrArg some (by kernel_rfl))⟩
 f28:=func127.trans (congrArg some (by kernel_rfl))
 f29:=func128.trans (congrArg some (by kernel_rfl))
 f46:=⟨Tryz.f171.name,by decide,func171.trans (congrArg some (by kernel_rfl))⟩
 f47:=func172.trans (congrArg some (by kernel_rfl))
 f48:=func173.trans (congrArg some (by kernel_rfl))
 f49:=⟨Tryz.f174.name,by decide,func174.trans (congrArg some (by kernel_rfl))⟩
 f50:=⟨Tryz.f175.name,by decide,func175.trans (congrArg some (by kernel_rfl))⟩
 f57:=⟨Tryz.f205.name,by decide,func205.trans (congrArg some (by kernel_rfl))⟩
 t0:=underlying0
 a0:=Tryz.isAgg0
 z0:=Tryz.sizeOf0
 v0:=Tryz.zeroValue0
 t3:=underlying3
 a3:=Tryz.isAgg3
 z3:=Tryz.sizeOf3
 v3:=Tryz.zeroValue3
 t4:=underlying4
 a4:=Tryz.isAgg4
 z4:=Tryz.sizeOf4
 v4:=Tryz.zeroValue4
 t5:=underlying5
 a5:=Tryz.isAgg5
 z5:=Tryz.sizeOf5
 v5:=Tryz.zeroValue5
 t9:=underlying9
 a9:=Tryz.isAgg9
 z9:=Tryz.sizeOf9
 v9:=Tryz.zeroValue9
 t22:=underlying30
 a22:=Tryz.isAgg30
 z22:=Tryz.sizeOf30
 v22:=Tryz.zeroValue30
 t25:=underlying116
 a25:=Tryz.isAgg116
 z25:=Tryz.sizeOf116
 v25:=Tryz.zeroValue116
 t39:=underlying109
 a39:=Tryz.isAgg109
 z39:=Tryz.sizeOf109
 v39:=Tryz.zeroValue109
 t45:=underlying208
 a45:=Tryz.isAgg208
 z45:=Tryz.sizeOf208
 v45:=Tryz.zeroValue208
 t46:=underlying209
 a46:=Tryz.isAgg209
 z46:=Tryz.sizeOf209
 v46:=Tryz.zeroValue209
 t50:=underlying204
 a50:=Tryz.isAgg204
 z50:=Tryz.sizeOf204
 v50:=Tryz.zeroValue204
 t53:=underlying215
 a53:=Tryz.isAgg215
 z53:=Tryz.sizeOf215
 v53:=Tryz.zeroValue215
 t55:=underlying179
 a55:=Tryz.isAgg179
 z55:=Tryz.sizeOf179
 v55:=Tryz.zeroValue179
 t66:=underlying253
 a66:=Tryz.isAgg253
 z66:=Tryz.sizeOf253
 v66:=Tryz.zeroValue253
 t70:=underlying257
 a70:=Tryz.isAgg257
 z70:=Tryz.sizeOf257
 v70:=Tryz.zeroValue257
 t76:=underlying288
 a76:=Tryz.isAgg288
 z76:=Tryz.sizeOf288
 v76:=Tryz.zeroValue288
 t77:=underlying289
 a77:=Tryz.isAgg289
 z77:=Tryz.sizeOf289
 v77:=Tryz.zeroValue289 }
end Go.Proofs
namespace Go.Proofs.YtphhnjljlllnlaaGreatDoor
open Go.Proofs.Tryz
open Or
open Go.RowKit Go.Sort
open Go.Shelf
open Go.RowKit Go.Sort Go.Shelf
theorem OU[Inhabited Kp](blk off size:Nat)(w:World):CmpLays prog 54 #[] ey 7 EM blk off size w:=λ _ _ _ _ x y=>LW x y _
theorem Km[Inhabited Kp](blk cap:Nat)(d:Array Kp)(w:World)(hH:HoldsK ey 7 w blk 0 d)(hblk:blk<w.heap.size)(hsz:d.size<4611686018427387904) :
  Calls prog 53 #[.slice (some ⟨blk,0,none⟩) d.size cap,.func (.func 54) #[] #[]] w λ e w'=>e=.returned (.tuple #[])/\∃ n os,w'=sortWorldK ey 7 w blk 0 n (pdq (ltOf EM) d 0 d.size (Lib.bitLen d.size) true true) os:=by
 have eg:∀ args w,(callFunc 54 args).run prog w=.ok (.enter 54 args) w:=enters_of func54 (by kernel_rfl) rfl;exact AnyQ.slices_SortFunc_eq Tryz.shSort 7 Tryz.isAgg67 Tryz.sizeOf67 ey (λ _=>rfl) (λ x v hv=>by simp only [ey,List.mem_cons,List.not_mem_nil,or_false]at hv;rcases hv with rfl|rfl|rfl|rfl|rfl|rfl|rfl<;>rfl) EM Js 54 #[] blk 0 cap d w eg (OU _ _ _ _) hH hblk hsz
def fR(l:List Kp):List Value:=l.flatMap ey
theorem gr(x:Kp):(ey x).length=7:=rfl
theorem j9(l:List Kp):(fR l).length=l.length*7:=by
 induction l with
 | nil=>rfl
 | cons x l ih=>simp only [fR,List.flatMap_cons,List.length_append,gr,List.length_cons]at *;omega
theorem rZ(a b:List Kp):fR (a++b)=fR a++fR b:=List.flatMap_append
theorem J8{l:List Kp}:∀ v∈fR l,v.oneCell'=true:=λ v hv=>by
 unfold fR at hv;obtain⟨x,_,hx⟩:=List.mem_flatMap.1 hv;simp only [ey,List.mem_cons,List.not_mem_nil,or_false]at hx;rcases hx with rfl|rfl|rfl|rfl|rfl|rfl|rfl<;>rfl
theorem uR:∀(l:List Kp) (k:Nat) (h:k<l.length) (i:Nat),i<7->(fR l)[k*7+i]?=(ey l[k])[i]?
 | x::l,0,_,i,hi=>by
  rw [Nat.zero_mul,Nat.zero_add,fR,List.flatMap_cons,List.getElem?_append_left (by rw [gr];exact hi)];rfl
 | x::l,k+1,h,i,hi=>by
  rw [fR,List.flatMap_cons,List.getElem?_append_right (by rw [gr];omega),gr,show(k+1)*7+i-7=k*7+i by omega];exact uR l k (by simpa using h) i hi
def Rv.kept(x:Rv)(i:Int):Kp:=⟨x.r,x.pq,x.pc,x.mq,x.mc,i⟩
def gl:Nat->List (List Rv)->List Kp
 | _,[]=>[]
 | i,l::ps=>l.map (·.kept i)++gl (i+1) ps
theorem wl:∀(ps:List (List Rv)) (i:Nat) (l:List Rv),gl i (ps++[l])=gl i ps++l.map (·.kept (i+ps.length:Nat))
 | [],i,l=>by simp [gl]
 | p::ps,i,l=>by
  show p.map _++gl (i+1) (ps++[l])=_;rw [wl ps (i+1) l,<-List.append_assoc,show i+1+ps.length=i+(p::ps).length by simp only [List.length_cons];omega]
  rfl
theorem Tryz.infoKept:(prog.info? 67).map (λ i=>(i.zero,i.size,i.bytes))=some (some (.agg #[.int .i64 0,.int .i64 0,.slice none 0 0,.slice none 0 0,.int .i64 0,.int .i64 0,.int .i64 0]),7,88):=by kernel_rfl
def dg(w:World)(base:Nat)(v:Value)(l:List Kp):Prop:=w.ownsRow base 67 7 v l.length (fR l)
def xX(w:World)(pb base:Nat)(ps:List (List Rv)):Prop:=∀ i (h:i<ps.length),∃(p1 p2:ByteArray) (a1 a2 a3:Option Addr) (n1 n2 n3 c1 c2 c3:Nat) (v:Value) (u:Bool),w.cell? ⟨pb,i*7,none⟩=some (.string p1)/\w.cell? ⟨pb,i*7+1,none⟩=some (.slice a1 n1 c1)/\w.cell? ⟨pb,i*7+2,none⟩=some (.string p2)/\w.cell? ⟨pb,i*7+3,none⟩=some (.slice a2 n2 c2)/\w.cell? ⟨pb,i*7+4,none⟩=some (.bool u)/\w.cell? ⟨pb,i*7+5,none⟩=some v/\w.cell? ⟨pb,i*7+6,none⟩=some (.slice a3 n3 c3)/\bS w base v ps[i]/\ps[i].length<=1000
theorem Cx(P Q:Value->World->Prop)(w:World)(sb pb base c:Nat)(ps:List (List Rv))(hs:w.cell? ⟨sb,0,none⟩=some (.slice (some ⟨pb,0,none⟩) ps.length c))(hp:xX w pb base ps)(hlb:pb<w.heap.size)(hc:ps.length<=100)
  (SORT:∀ wr v3,dg wr w.heap.size v3 (gl 0 ps)->(gl 0 ps).length<=100000->Below w.heap.size w wr->Calls prog 53 #[v3,.func (.func 54) #[] #[]] wr λ e w'=>e=.returned (.tuple #[])/\P v3 w')
  (COMP:∀ wr v3,P v3 wr->Calls prog 55 #[v3,.func (.func 56) #[] #[]] wr λ e w'=>∃ r,e=.returned r/\Q r w') :
  Calls prog 38 #[.pointer (some ⟨sb,0,none⟩)] w λ e w'=>∃ r,e=.returned r/\Q r w':=by
 obtain⟨i0,hi0,hz0,hz1,hz2⟩:∃ i0,prog.info? 67=some i0/\i0.zero=some (.agg #[.int .i64 0,.int .i64 0,.slice none 0 0,.slice none 0 0,.int .i64 0,.int .i64 0,.int .i64 0])/\i0.size=7/\i0.bytes=88:=by
  have:=Tryz.infoKept;cases h:prog.info? 67 with
  | none=>rw [h]at this;cases this
  | some i0 =>
   rw [h]at this;have h2:=(kd this)
   exact⟨i0,rfl,jC (λ p=>p.1) h2,jC (λ p=>p.2.1) h2,jC (λ p=>p.2.2) h2⟩
 have HP:=af hp;have PA:=af SORT;have MA:=af COMP;clear hp SORT COMP;go_enter func38,ntmps38;go_wp2
 go_loopw [3,13] (λ v3 i wr=>∃ k:Nat,k<=ps.length/\i=.int .i64 k/\dg wr w.heap.size v3 (gl 0 (ps.take k))/\(gl 0 (ps.take k)).length<=k*1000/\Below w.heap.size w wr) (λ _ i _=>ps.length-(intOf i).toNat)
 case atStart=>exact⟨0,dG _,rfl,i7 _ _ _ _,dG _,aY _ _⟩
 case round =>
  obtain⟨k,hk,rfl,hkv,hkl,hbe⟩:=hrel;by_cases hlt:k<ps.length
  ·obtain⟨p1,p2,b1,b2,b3,n1,n2,n3,c1,c2,c3,v,u,e0,e1,e2,e3,e4,e5,e6,htv,htl⟩:=ae HP k hlt;have d0:=(hbe.cell (p:=⟨pb,k*7,none⟩) hlb).trans e0;have d1:=(hbe.cell (p:=⟨pb,k*7+1,none⟩) hlb).trans e1;have d2:=(hbe.cell (p:=⟨pb,k*7+2,none⟩) hlb).trans e2;have d3:=(hbe.cell (p:=⟨pb,k*7+3,none⟩) hlb).trans e3;have d4:=(hbe.cell (p:=⟨pb,k*7+4,none⟩) hlb).trans e4;have d5:=(hbe.cell (p:=⟨pb,k*7+5,none⟩) hlb).trans e5;have d6:=(hbe.cell (p:=⟨pb,k*7+6,none⟩) hlb).trans e6;have QA:=af (htv.below hbe);have GA:=af htv;have FA:=af hkv;have EA:=af hbe;obtain⟨qv,cv,rfl⟩:=al htv;clear e0 e1 e2 e3 e4 e5 e6 htv hkv hbe;go_upto_region 5 with fail
   have hb1:Below wr.heap.size wr (wr.alloc (.cells #[.string p1,.slice b1 n1 c1,.string p2,.slice b2 n2 c2,.bool u,.slice qv ps[k].length cv,.slice b3 n3 c3] 107)):=(aY _ _).alloc (aL _) _;have hnw:=cM wr (.cells #[.string p1,.slice b1 n1 c1,.string p2,.slice b2 n2 c2,.bool u,.slice qv ps[k].length cv,.slice b3 n3 c3] 107);have DA:=af (World.ownsRow.alloc (ae FA) (.cells #[.string p1,.slice b1 n1 c1,.string p2,.slice b2 n2 c2,.bool u,.slice qv ps[k].length cv,.slice b3 n3 c3] 107));generalize wr.alloc (.cells #[.string p1,.slice b1 n1 c1,.string p2,.slice b2 n2 c2,.bool u,.slice qv ps[k].length cv,.slice b3 n3 c3] 107)=W1 at hb1 hnw DA ⊢;have t5:W1.cell? ⟨wr.heap.size,5,none⟩=some (.slice qv ps[k].length cv):=ag hnw;have LA:=af ((ae EA).trans (hb1.mono (ae EA).size));have HA:=af ((ae QA).below hb1);clear hb1 hnw d0 d1 d2 d3 d4 d5 d6;go_wp2
   go_loopw [3,21] (λ v3 j w2=>∃ m:Nat,m<=ps[k].length/\j=.int .i64 m/\dg w2 w.heap.size v3 (gl 0 (ps.take k)++(ps[k].take m).map (·.kept k))/\Below w.heap.size w w2/\bS w2 base (.slice qv ps[k].length cv) ps[k]) (λ _ j _=>ps[k].length-(intOf j).toNat)
   case atStart=>exact⟨0,dG _,rfl,by rw [List.take_zero,List.map_nil,List.append_nil];exact ae DA,ae LA,ae HA⟩
   case round =>
    rename World=>w2
    obtain⟨m,hm,rfl,hkv,hbe,htv⟩:=hrel;by_cases hlm:m<ps[k].length
    ·obtain⟨g,rfl,hg,_⟩:=htv.atG (by omega);have x0:w2.cell? ⟨g,m*6,none⟩=some (.int .i64 ps[k][m].r.addr):=htv.cell hlm (i:=0) (by decide);have x1:w2.cell? ⟨g,m*6+1,none⟩=some (.int .i64 ps[k][m].r.len):=htv.cell hlm (by decide);have x2:w2.cell? ⟨g,m*6+2,none⟩=some (.slice ps[k][m].pq ps[k][m].r.path.length ps[k][m].pc):=htv.cell hlm (by decide);have x3:w2.cell? ⟨g,m*6+3,none⟩=some (.slice ps[k][m].mq ps[k][m].r.marks.length ps[k][m].mc):=htv.cell hlm (by decide);have x4:w2.cell? ⟨g,m*6+4,none⟩=some (.int .i64 ps[k][m].r.pref):=htv.cell hlm (by decide);have x5:w2.cell? ⟨g,m*6+5,none⟩=some (.int .i64 ps[k][m].r.med):=htv.cell hlm (by decide);have BA:=af hkv;have AA:=af hbe;have IA:=af htv;clear hkv hbe htv t5;go_upto_region 8 with fail
     have hb2:Below w2.heap.size w2 (w2.alloc (.cells #[.int .i64 ps[k][m].r.addr,.int .i64 ps[k][m].r.len,.slice ps[k][m].pq ps[k][m].r.path.length ps[k][m].pc,.slice ps[k][m].mq ps[k][m].r.marks.length ps[k][m].mc,.int .i64 ps[k][m].r.pref,.int .i64 ps[k][m].r.med] 65)):=(aY _ _).alloc (aL _) _;have hnw:=cM w2 (.cells #[.int .i64 ps[k][m].r.addr,.int .i64 ps[k][m].r.len,.slice ps[k][m].pq ps[k][m].r.path.length ps[k][m].pc,.slice ps[k][m].mq ps[k][m].r.marks.length ps[k][m].mc,.int .i64 ps[k][m].r.pref,.int .i64 ps[k][m].r.med] 65);have CA:=af (World.ownsRow.alloc (ae BA) (.cells #[.int .i64 ps[k][m].r.addr,.int .i64 ps[k][m].r.len,.slice ps[k][m].pq ps[k][m].r.path.length ps[k][m].pc,.slice ps[k][m].mq ps[k][m].r.marks.length ps[k][m].mc,.int .i64 ps[k][m].r.pref,.int .i64 ps[k][m].r.med] 65));generalize w2.alloc (.cells #[.int .i64 ps[k][m].r.addr,.int .i64 ps[k][m].r.len,.slice ps[k][m].pq ps[k][m].r.path.length ps[k][m].pc,.slice ps[k][m].mq ps[k][m].r.marks.length ps[k][m].mc,.int .i64 ps[k][m].r.pref,.int .i64 ps[k][m].r.med] 65)=X1 at hb2 hnw CA ⊢;have y0:X1.cell? ⟨w2.heap.size,0,none⟩=some (.int .i64 ps[k][m].r.addr):=ag hnw;have y1:X1.cell? ⟨w2.heap.size,1,none⟩=some (.int .i64 ps[k][m].r.len):=ag hnw;have y2:X1.cell? ⟨w2.heap.size,2,none⟩=some (.slice ps[k][m].pq ps[k][m].r.path.length ps[k][m].pc):=ag hnw;have y3:X1.cell? ⟨w2.heap.size,3,none⟩=some (.slice ps[k][m].mq ps[k][m].r.marks.length ps[k][m].mc):=ag hnw;have y4:X1.cell? ⟨w2.heap.size,4,none⟩=some (.int .i64 ps[k][m].r.pref):=ag hnw;have y5:X1.cell? ⟨w2.heap.size,5,none⟩=some (.int .i64 ps[k][m].r.med):=ag hnw;have KA:=af ((ae AA).trans (hb2.mono (ae AA).size));have JA:=af ((ae IA).below hb2);have hsz:=(ae KA).size
     have hlen:(gl 0 (ps.take k)++(ps[k].take m).map (·.kept k)).length<=200000:=by
      rw [List.length_append,List.length_map,List.length_take];omega
     clear hb2 hnw x0 x1 x2 x3 x4 x5;go_wp2_with (at_builtin;refine wpList_append_lies _ rfl _ _ _ rfl w.heap.size 67 i0 _ 7 88 underlying30 hi0 hz0 hz1 hz2 rfl (by omega) u3 (gl 0 (ps.take k)++(ps[k].take m).map (·.kept k)).length (fR (gl 0 (ps.take k)++(ps[k].take m).map (·.kept k))) rfl (World.ownsRow.alloc (ae CA) _) ⟨X1.heap.size,0,none⟩ 1 1 (ey (ps[k][m].kept k)) rfl rfl (World.news_of_block (cs:=#[.int .i64 ps[k][m].r.addr,.int .i64 ps[k][m].r.len,.slice ps[k][m].pq ps[k][m].r.path.length ps[k][m].pc,.slice ps[k][m].mq ps[k][m].r.marks.length ps[k][m].mc,.int .i64 ps[k][m].r.pref,.int .i64 ps[k][m].r.med,.int .i64 k]) (cM _ _)) (λ v hv=>J8 (l:=[ps[k][m].kept k]) v (by unfold fR;simpa using hv)) (by omega) (by unfold maxLen;omega) (by omega) (by rw [World.size_alloc];omega) _ rfl ?_;intro g3 cap3 w3 ho hgr hgg hgl)
     have hL:(gl 0 (ps.take k)++(ps[k].take m).map (·.kept k)).length=(gl 0 (ps.take k)).length+m:=by rw [List.length_append,List.length_map,List.length_take];omega
     have hE:gl 0 (ps.take k)++(ps[k].take (m+1)).map (·.kept k)=(gl 0 (ps.take k)++(ps[k].take m).map (·.kept k))++[ps[k][m].kept k]:=by rw [List.take_succ_eq_append_getElem hlm,List.map_append,List.append_assoc];rfl
     refine⟨⟨m+1,by omega,by go_num,?_,?_,?_⟩,by simp [intOf];omega⟩
     ·rw [hE];show w3.ownsRow _ _ _ _ _ _;rw [List.length_append,rZ,show fR [ps[k][m].kept k]=ey (ps[k][m].kept k)by unfold fR;simp];rw [hL]at ho ⊢;exact ho
     ·exact((ae KA).alloc hsz _).grown hgr (by rw [World.size_alloc];omega) (λ j e=>(World.ownsRow.lt (ae CA) j e).1)
     refine(World.ownsRow.alloc (ae JA) _).kept hgr (inr λ e=>?_);have h1:=(World.ownsRow.lt (ae CA) g e.symm).1;have h2:=(World.ownsRow.lt (ae GA) g rfl).2;omega
    have hme:m=ps[k].length:=by omega
    subst hme;rw [List.take_length]at hkv;have BA:=af hkv;have AA:=af hbe
    have hE:gl 0 (ps.take (k+1))=gl 0 (ps.take k)++ps[k].map (·.kept k):=by
     rw [List.take_succ_eq_append_getElem hlt,wl,List.length_take,show 0+min k ps.length=k by omega]
    have hlen2:(gl 0 (ps.take (k+1))).length<=(k+1)*1000:=by rw [hE,List.length_append,List.length_map];omega
    rw [<-hE]at BA;clear hkv hbe htv t5;go_wp2
    exact⟨⟨k+1,by omega,by go_num,ae BA,hlen2,ae AA⟩,by simp [intOf];omega⟩
  have hke:k=ps.length:=by omega
  subst hke;rw [List.take_length]at hkv hkl;have FA:=af hkv;have EA:=af hbe;clear hkv hbe;have hkm:(gl 0 ps).length<=100000:=by omega
  go_wp2_with (first
   | (go_at_call 53;refine(ae PA _ _ (ae FA) hkm (ae EA)).mono ?_;rintro e w3 ⟨rfl,hp⟩;have NA:=af hp;clear hp)
   | (go_at_call 55;refine(ae MA _ _ (ae NA)).mono ?_;rintro e w4 ⟨r,rfl,hq⟩;have OA:=af hq;clear hq))
  go_ret;exact⟨r,rfl,ae OA⟩
theorem Hc(x y:Kp)(w:World):eO 56 #[.agg (ey x).toArray,.agg (ey y).toArray] (.bool (decide ((x.r.addr,x.r.len)=(y.r.addr,y.r.len)))) w:=by
 obtain⟨⟨a0,a1,ap,am,a4,a5⟩,aq,ac,aq2,ac2,a6⟩:=x;obtain⟨⟨b0,b1,bp,bm,b4,b5⟩,bq,bc,bq2,bc2,b6⟩:=y;dsimp only [ey]at *;generalize ap.length=n1 at *;generalize bp.length=n2 at *;generalize am.length=n3 at *;generalize bm.length=n4 at *;go_enter func56,ntmps56;go_wp2
 all_goals
  go_ret;refine⟨?_,((bF.refl w).alloc _).alloc _⟩;exact aO (by simp_all)
def Kp.net(x:Kp):Int×Int:=(x.r.addr,x.r.len)
def cO:Kp->List Kp->List Kp
 | _,[]=>[]
 | x,y::l=>if y.net=x.net then cO y l else y::cO y l
def gp:List Kp->List Kp
 | []=>[]
 | x::l=>x::cO x l
theorem lN:∀(l:List Kp) (x:Kp),List.Sublist (cO x l) l
 | [],_=>List.Sublist.refl _
 | y::l,x=>by
  unfold cO;split
  ·exact List.Sublist.cons _ (lN l y)
  exact List.Sublist.cons_cons _ (lN l y)
theorem wH:∀ l:List Kp,List.Sublist (gp l) l
 | []=>List.Sublist.refl _
 | x::l=>List.Sublist.cons_cons _ (lN l x)
def Fm(l:List Kp):Prop:=l.Pairwise λ a b=>¬kY b a
theorem Mi{a b:Kp}(h:¬kY b a)(hne:b.net≠a.net):ck a.net b.net:=by
 unfold kY Kp.net ck at *;simp only [ne_eq,Prod.mk.injEq]at hne;omega
theorem oz:∀(l:List Kp) (x:Kp),Fm (x::l)->(∀ y∈cO x l,ck x.net y.net)/\(cO x l).Pairwise λ a b=>ck a.net b.net
 | [],_,_=>⟨λ y hy=>by simp [cO]at hy,List.Pairwise.nil⟩
 | y::l,x,h=>by
  obtain⟨h1,h2⟩:=List.pairwise_cons.1 h;obtain⟨i1,i2⟩:=oz l y h2;unfold cO;split
  ·rename_i e;exact⟨λ z hz=>e▸i1 z hz,i2⟩
  rename_i e;have hxy:=Mi (h1 y (by simp)) e;exact⟨λ z hz=>(List.mem_cons.1 hz).elim (λ e=>e▸hxy) λ hz=>hxy.trans (i1 z hz),List.pairwise_cons.2 ⟨i1,i2⟩⟩
theorem CM:∀{l:List Kp},Fm l->(gp l).Pairwise λ a b=>ck a.net b.net
 | [],_=>List.Pairwise.nil
 | x::l,h=>List.pairwise_cons.2 (oz l x h)
theorem ow:∀(l:List Kp) (x:Kp),Fm (x::l)->∀ y∈l,(y.net=x.net/\¬kY y x)\/∃ z∈cO x l,z.net=y.net/\¬kY y z
 | [],_,_,y,hy=>by cases hy
 | a::l,x,h,y,hy=>by
  obtain⟨h1,h2⟩:=List.pairwise_cons.1 h;have hyx:¬kY y x:=h1 y hy;unfold cO;rcases List.mem_cons.1 hy with rfl|hy
  ·split
   ·rename_i e;exact inl ⟨e,hyx⟩
   exact inr ⟨y,by simp,rfl,λ h=>by unfold kY at h;omega⟩
  rcases ow l a h2 y hy with⟨e1,e2⟩|⟨z,hz,e1,e2⟩
  ·split
   ·rename_i e;exact inl ⟨e1.trans e,hyx⟩
   exact inr ⟨a,by simp,e1.symm,e2⟩
  split
  ·exact inr ⟨z,hz,e1,e2⟩
  exact inr ⟨z,List.mem_cons_of_mem _ hz,e1,e2⟩
theorem CL:∀{l:List Kp},Fm l->∀ y∈l,∃ z∈gp l,z.net=y.net/\¬kY y z
 | x::l,h,y,hy=>by
  rcases List.mem_cons.1 hy with rfl|hy
  ·exact⟨y,by simp [gp],rfl,λ h=>by unfold kY at h;omega⟩
  rcases ow l x h y hy with⟨e1,e2⟩|⟨z,hz,e1,e2⟩
  ·exact⟨x,by simp [gp],e1.symm,e2⟩
  exact⟨z,List.mem_cons_of_mem _ hz,e1,e2⟩
theorem wN[Inhabited Kp](l:List Kp):(flatK ey 7 l.toArray).toList=fR l:=by
 apply List.ext_getElem
 ·rw [Array.length_toList,size_flatK,j9];simp
 intro t h1 h2;rw [Array.length_toList,size_flatK]at h1;have hsz:l.toArray.size=l.length:=by simp
 rw [hsz]at h1;have hd:t / 7<l.length:=by omega
 have hm:t % 7<7:=Nat.mod_lt _ (by decide);have hg:=uR l (t / 7) hd (t % 7) hm;rw [show t / 7*7+t % 7=t by omega]at hg
 have e1:(flatK ey 7 l.toArray).toList[t]=(ey l.toArray[t / 7]!)[t % 7]!:=by
  have:=get_flatK ey 7 l.toArray t (by rw [hsz];exact h1);rw [getElem!_pos _ t (by rw [size_flatK,hsz];exact h1)]at this;rw [Array.getElem_toList];exact this
 have e2:(l.toArray[t / 7]!)=l[t / 7]:=by rw [getElem!_pos _ _ (by simpa using hd)];simp
 rw [e1,e2,getElem!_pos _ _ (by rw [gr];exact hm)];rw [gW h2,gW (by rw [gr];exact hm)]at hg;exact(kd hg).symm
theorem dg.holds[Inhabited Kp]{w:World}{base g cap:Nat}{l:List Kp}(h:dg w base (.slice (some ⟨g,0,none⟩) l.length cap) l):HoldsK ey 7 w g 0 l.toArray:=λ j hj=>by
 rw [size_flatK]at hj;have hsz:l.toArray.size=l.length:=by simp
 rw [hsz]at hj;have h2:w.ownsRow base 67 7 (.slice (some ⟨g,0,none⟩) l.length cap) l.length (fR l):=h;rw [Nat.zero_add];refine⟨?_,World.ownsRow.frozenAt h2 j⟩;rw [World.ownsRow.cellAt h2 j hj,<-wN,Array.getElem?_toList,Array.getElem?_eq_getElem (by rw [size_flatK,hsz];exact hj),getElem!_pos _ j (by rw [size_flatK,hsz];exact hj)]
 rfl
theorem zg[Inhabited Kp]{w:World}{g n:Nat}{d:Array Kp}{os:Array Obj}{cur:Array Value}{T:TypeId}{fr:Nat×Nat}(hb:w.heap[g]?=some (.cells cur T fr)) :
  ∃ cur',(sortWorldK ey 7 w g 0 n d os).heap[g]?=some (.cells cur' T fr)/\cur'.size=cur.size:=by
 have hlt:=ah hb;refine⟨putCells id 0 (flatK ey 7 d) cur,?_,by simp [putCells]⟩;show((w.heap.modify g (onCells (putCells id 0 (flatK ey 7 d))))++os)[g]?=_;rw [Array.getElem?_append_left (by simpa using hlt),Array.getElem?_modify,aS rfl,hb]
 rfl
theorem zh[Inhabited Kp]{w:World}{g n k:Nat}{d:Array Kp}{os:Array Obj}(hk:k<w.heap.size)(hne:k≠g):(sortWorldK ey 7 w g 0 n d os).heap[k]?=w.heap[k]?:=by
 show((w.heap.modify g (onCells (putCells id 0 (flatK ey 7 d))))++os)[k]?=_;rw [Array.getElem?_append_left (by simpa using hk),Array.getElem?_modify,aG (Ne.symm hne)]
theorem BI[Inhabited Kp]{w:World}{base g cap n:Nat}{l l':List Kp}{os:Array Obj}(h:dg w base (.slice (some ⟨g,0,none⟩) l.length cap) l)(hl:l'.length=l.length):dg (sortWorldK ey 7 w g 0 n l'.toArray os) base (.slice (some ⟨g,0,none⟩) l.length cap) l':=by
 have hH:=h.holds;obtain⟨_,⟨h2,_⟩|⟨g',c,cur,h2,h3,h4,h5,h6,h7,h8⟩⟩:=h
 ·cases h2
 cases h2
 have hH2:=holdsK_sortWorldK_c ey 7 w g 0 l.toArray l'.toArray n os hH (ah h4) (by simp [hl]);obtain⟨cur',hb,hs⟩:=zg (n:=n) (d:=l'.toArray) (os:=os) h4;have hle:l.length*7<=cap*7:=Nat.mul_le_mul_right 7 h5;refine⟨by rw [j9],inr ⟨g,cap,cur',by rw [hl],h3,hb,by rw [hl];exact h5,h6,by rw [hs];exact h7,?_⟩⟩;rw [<-wN l'];apply List.ext_getElem?;intro t;rw [List.getElem?_take];split
 ·rename_i ht;have h9:=hH2 t (by rw [size_flatK];simpa using ht);rw [Nat.zero_add]at h9;have h10:=(ag hb (o:=t)).symm.trans h9.1;rw [Array.getElem?_toList,h10,Array.getElem?_toList,Array.getElem?_eq_getElem (by rw [size_flatK];simpa using ht),getElem!_pos _ t (by rw [size_flatK];simpa using ht)]
  rfl
 rename_i ht;rw [Array.getElem?_toList,Array.getElem?_eq_none (by rw [size_flatK];simp;omega)]
def r8[Inhabited Kp](l:List Kp):List Kp:=(pdq (ltOf EM) l.toArray 0 l.length (Lib.bitLen l.length) true true).toList
theorem r9[Inhabited Kp](l:List Kp):(r8 l).Perm l/\Fm (r8 l):=by
 have hsz:l.toArray.size=l.length:=by simp
 have h:=pdq_sorts (ltOf EM) Js l.toArray 0 l.length (Lib.bitLen l.length) true true (dG _) (by rw [hsz];exact aL _) (inl rfl);obtain⟨⟨h1,_,h2⟩,h3⟩:=h
 have hp:(r8 l).Perm l:=by
  unfold r8;rw [Array.extract_eq_self_of_le (by rw [h1,hsz];exact aL _),Array.extract_eq_self_of_le (by rw [hsz];exact aL _)]at h2;simpa using h2
 refine⟨hp,List.pairwise_iff_getElem.2 λ i j hi hj hij=>?_⟩;have hlen:=hp.length_eq;have h4:=h3 i j (dG _) hij (by omega);intro h5;rw [<-nM]at h5;unfold r8 at hi hj h5;rw [getElem!_pos _ j (by simpa using hj),getElem!_pos _ i (by simpa using hi)]at h4;simp only [Array.getElem_toList]at h5;rw [h5]at h4;cases h4
theorem Hi[Inhabited Kp](w:World)(base:Nat)(v:Value)(l:List Kp)(h:dg w base v l)(h0:0<l.length)(hl:l.length<=1000000) :
  Calls prog 53 #[v,.func (.func 54) #[] #[]] w λ e w'=>e=.returned (.tuple #[])/\dg w' base v (r8 l)/\Fr (λ k=>v.ownBlock=some k) w (λ k=>v.ownBlock=some k) w':=by
 obtain⟨q,cap,rfl⟩:=al h;have hlen:=(r9 l).1.length_eq
 obtain⟨g,rfl⟩:∃ g,q=some ⟨g,0,none⟩:=by
  obtain⟨_,⟨_,h2⟩|⟨g',c,cur,h2,_⟩⟩:=h
  ·omega
  cases h2;exact⟨g',rfl⟩
 have hg:=(World.ownsRow.lt (h:w.ownsRow _ _ _ _ _ _) g rfl).2;have hs:=Km g cap l.toArray w h.holds hg (by simp;omega);have hsz:l.toArray.size=l.length:=by simp
 rw [hsz]at hs;refine hs.mono ?_;rintro e w' ⟨rfl,n,os,rfl⟩;have hk:=BI (n:=n) (os:=os) h hlen;refine⟨rfl,?_,rfl,rfl,rfl,?_,λ k hk hne=>zh hk λ e=>hne (by rw [e];rfl),λ k hk=>inl hk⟩
 ·unfold r8 at hk ⊢;simpa using hk
 show w.heap.size<=((w.heap.modify g (onCells (putCells id 0 _)))++os).size;simp
theorem oA:∀(l:List Kp) (x y:Kp),cO x (l++[y])=cO x l++if y.net=(l.getLastD x).net then []else [y]
 | [],x,y=>by
  show cO x [y]=_;unfold cO;show(if y.net=x.net then cO y []else y::cO y [])=[]++if y.net=x.net then []else [y];split<;>rfl
 | a::l,x,y=>by
  show cO x (a::(l++[y]))=_;have ih:=oA l a y;rw [show(a::l).getLastD x=l.getLastD a from List.getLastD_cons ..];unfold cO;split
  ·exact ih
  rw [ih];rfl
theorem Gm:∀(k:Nat) (t:List Kp) (x:Kp) (h:k<=t.length),(t.take k).getLastD x=(x::t)[k]'(by simp;omega)
 | 0,_,_,_=>rfl
 | k+1,t,x,h=>by
  rw [List.take_succ_eq_append_getElem (by omega),List.getLastD_eq_getLast?,List.getLast?_concat]
  rfl
theorem lO{l:List Kp}{m:Nat}(h0:0<m)(h:m<l.length):gp (l.take (m+1))=gp (l.take m)++if l[m].net=(l[m-1]'(by omega)).net then []else [l[m]]:=by
 match l,m,h0,h with
 | x::t,k+1,_,h =>
  have hk:k<t.length:=by simpa using h
  rw [List.take_succ_cons,List.take_succ_cons,List.take_succ_eq_append_getElem hk];show x::cO x (t.take k++[t[k]])=x::cO x (t.take k)++_;rw [oA,Gm k t x (by omega)]
  rfl
theorem FM(l:List Kp):(gp l).length<=l.length:=(wH l).length_le
theorem wG{l:List Kp}(h:l.length<=1):gp l=l:=by
 match l,h with
 | [],_=>rfl
 | [x],_=>rfl
theorem re:∀(l:List Kp) (i:Nat),fR (l.take i)=(fR l).take (i*7)
 | [],_=>by simp [fR]
 | _::_,0=>by simp [fR]
 | x::l,i+1=>by
  have ih:=re l i;unfold fR at *;rw [List.take_succ_cons,List.flatMap_cons,List.flatMap_cons,ih,show(i+1)*7=(ey x).length+i*7 by rw [gr];omega,List.take_length_add_append]
theorem xy:∀(l:List Kp) (i:Nat),fR (l.drop i)=(fR l).drop (i*7)
 | [],_=>by simp [fR]
 | _::_,0=>by simp [fR]
 | x::l,i+1=>by
  have ih:=xy l i;unfold fR at *;rw [List.drop_succ_cons,List.flatMap_cons,ih,show(i+1)*7=(ey x).length+i*7 by rw [gr];omega,List.drop_length_add_append]
theorem dg.block{w:World}{base g cap n:Nat}{l:List Kp}(h:dg w base (.slice (some ⟨g,0,none⟩) n cap) l):∃ cur,w.heap[g]?=some (.cells cur 67 (0,0))/\base<=g/\n=l.length/\n<=cap/\cap<=maxLen/\cur.size=cap*7/\cur.toList.take (n*7)=fR l:=by
 obtain⟨_,⟨h2,_⟩|⟨g',c,cur,h2,h3,h4,h5,h6,h7,h8⟩⟩:=h
 ·cases h2
 cases h2
 exact⟨cur,h4,h3,rfl,h5,h6,h7,h8⟩
theorem dg.cell{w:World}{base g cap n:Nat}{l:List Kp}(h:dg w base (.slice (some ⟨g,0,none⟩) n cap) l){k i:Nat}(hk:k<l.length)(hi:i<7):w.cell? ⟨g,k*7+i,none⟩=(ey l[k])[i]?:=by
 obtain⟨_,_,_,hn,_⟩:=h.block;subst hn;rw [World.ownsRow.cellAt (h:w.ownsRow _ _ _ _ _ _) (k*7+i) (by have:(k+1)*7<=l.length*7:=Nat.mul_le_mul_right 7 hk;omega)];exact uR l k hk i hi
theorem dg.fr{w w':World}{base:Nat}{v:Value}{l:List Kp}(h:dg w base v l)(hk:∀ k,v.ownBlock=some k->w'.heap[k]?=w.heap[k]?):dg w' base v l:=ay h hk
theorem dg.below{w w':World}{base:Nat}{v:Value}{l:List Kp}(h:dg w base v l)(hb:Below w.heap.size w w'):dg w' base v l:=h.fr λ k e=>hb.block k (World.ownsRow.lt h k e).2
theorem By{cur cur1:List Value}{l:List Kp}{x:Kp}{i n:Nat}(hn:l.length=n)(hi:i<n)(h0:cur.take (n*7)=fR l)(hl:n*7<=cur.length)
  (h1:cur1=cur.take (i*7)++ey x++cur.drop (i*7+(ey x).length)):cur1.take (n*7)=fR (l.set i x)/\cur1.length=cur.length:=by
 have ex:(ey x).length=7:=rfl
 have e0:cur.take (i*7)=fR (l.take i):=by
  rw [re,<-h0,List.take_take];congr 1;omega
 have e1:(fR (l.take i)).length=i*7:=by rw [j9,List.length_take];congr 1;omega
 have e2:(cur.drop (i*7+7)).take ((n-(i+1))*7)=fR (l.drop (i+1)):=by
  rw [xy,<-h0,show(i+1)*7=i*7+7 by omega,List.drop_take];congr 1;omega
 rw [e0,ex]at h1
 constructor
 ·rw [h1,List.take_append,List.take_of_length_le (by rw [List.length_append,e1,ex];omega),List.length_append,e1,ex,show n*7-(i*7+7)=(n-(i+1))*7 by omega,e2,List.set_eq_take_append_cons_drop,aS (by omega),rZ,List.append_assoc]
  rfl
 rw [h1];simp only [List.length_append,List.length_drop,e1,ex];omega
theorem dg.put{w:World}{base g cap n:Nat}{l:List Kp}(h:dg w base (.slice (some ⟨g,0,none⟩) n cap) l){i:Nat}(hi:i<n)(x:Kp):dg (w.setCells g (i*7) (ey x)) base (.slice (some ⟨g,0,none⟩) n cap) (l.set i x)/\eS w g (w.setCells g (i*7) (ey x)):=by
 obtain⟨cur,hb,hbg,hn,hlc,hmx,hsz,hrow⟩:=h.block;have hic:(i+1)*7<=cap*7:=Nat.mul_le_mul_right 7 (by omega);have hnc:n*7<=cap*7:=Nat.mul_le_mul_right 7 hlc;obtain⟨hs,cur1,hb1,hc1⟩:=dt g 67 (ey x) (i*7) cur w hb (by rw [gr];omega);have hf:=By hn.symm hi hrow (by simp;omega) hc1;refine⟨⟨by rw [j9],inr ⟨g,cap,cur1,by rw [List.length_set,hn],hbg,hb1,by rw [List.length_set,<-hn];exact hlc,hmx,?_,by rw [List.length_set,<-hn];exact hf.1⟩⟩,hs⟩;have:=hf.2;simp only [Array.length_toList]at this;omega
theorem dg.cut{w:World}{base g cap n:Nat}{l:List Kp}(h:dg w base (.slice (some ⟨g,0,none⟩) n cap) l){k:Nat}(hk:k<=n)(zs:List Value)(hz:zs.length=(n-k)*7):dg (w.setCells g (k*7) zs) base (.slice (some ⟨g,0,none⟩) k cap) (l.take k)/\eS w g (w.setCells g (k*7) zs):=by
 obtain⟨cur,hb,hbg,hn,hlc,hmx,hsz,hrow⟩:=h.block;have hnc:n*7<=cap*7:=Nat.mul_le_mul_right 7 hlc;have hkn:k*7<=n*7:=Nat.mul_le_mul_right 7 hk;have hnk:(n-k)*7=n*7-k*7:=Nat.sub_mul ..;obtain⟨hs,cur1,hb1,hc1⟩:=dt g 67 zs (k*7) cur w hb (by omega);have hlt:(l.take k).length=k:=by rw [List.length_take];omega
 have e0:cur.toList.take (k*7)=fR (l.take k):=by
  rw [re,<-hrow,List.take_take];congr 1;omega
 have e1:(fR (l.take k)).length=k*7:=by rw [j9,hlt]
 rw [e0]at hc1;refine⟨⟨by rw [j9],inr ⟨g,cap,cur1,by rw [hlt],hbg,hb1,by rw [hlt];omega,hmx,?_,?_⟩⟩,hs⟩
 ·have:=jC List.length hc1;simp only [Array.length_toList,List.length_append,List.length_drop,e1,hz]at this;omega
 rw [hlt,hc1,List.append_assoc,List.take_append_of_le_length (by omega),List.take_of_length_le (by omega)]
structure kN(l L:List Kp)(k m:Nat):Prop where
 len:L.length=l.length
 done:L.take k=gp (l.take m)
 rest:L.drop (m-1)=l.drop (m-1)
 lt:k<m
 pos:0<k
theorem kN.get{l L:List Kp}{k m:Nat}(h:kN l L k m){j:Nat}(hj:j<L.length)(h1:m-1<=j):L[j]=l[j]'(by rw [<-h.len];exact hj):=by
 have e:=jC (λ t=>t[j-(m-1)]?) h.rest;simp only [List.getElem?_drop,show m-1+(j-(m-1))=j by omega]at e;rw [gW hj,gW (by rw [<-h.len];exact hj)]at e;exact kd e
theorem kN.start{l:List Kp}{k:Nat}(h0:0<k)(hk:k<l.length)(hc:gp (l.take k)=l.take k)(he:l[k].net=(l[k-1]'(by omega)).net):kN l l k (k+1) :=
 ⟨rfl,by rw [lO h0 hk,aS he,List.append_nil,hc],rfl,by omega,h0⟩
theorem kN.skip{l L:List Kp}{k m:Nat}(h:kN l L k m)(hm:m<l.length)(he:l[m].net=(l[m-1]'(by omega)).net):kN l L k (m+1) :=
 ⟨h.len,by rw [lO (by have:=h.lt;omega) hm,aS he,List.append_nil,h.done],by
  have e:=jC (List.drop 1) h.rest;rw [List.drop_drop,List.drop_drop,show m-1+1=m by have:=h.lt;omega]at e;exact e,by have:=h.lt;omega,h.pos⟩
theorem kN.take{l L:List Kp}{k m:Nat}(h:kN l L k m)(hm:m<l.length)(he:¬l[m].net=(l[m-1]'(by omega)).net):kN l (L.set k l[m]) (k+1) (m+1):=by
 have hlt:=h.lt;refine⟨by rw [List.length_set,h.len],?_,?_,by omega,by omega⟩
 ·have hkl:k<L.length:=by rw [h.len];omega
  rw [lO (by omega) hm,aG he,<-h.done,List.take_succ_eq_append_getElem (by rw [List.length_set];exact hkl),List.take_set_of_le (aL _),List.getElem_set_self]
 have e:=jC (List.drop 1) h.rest;rw [List.drop_drop,List.drop_drop,show m-1+1=m by omega]at e;rw [show m+1-1=m by omega,List.drop_set_of_lt hlt];exact e
