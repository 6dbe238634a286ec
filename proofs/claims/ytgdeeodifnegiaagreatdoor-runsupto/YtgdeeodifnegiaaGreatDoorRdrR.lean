/- part -/
import Derived.Test.YtgdeeodifnegiaaGreatDoorRdrO
import Derived.Test.YtgdeeodifnegiaaGreatDoorTokD
import Derived.RangeFuncBox
import Derived.Maps.OwnIn
import Derived.Lib.ItoaNum
import Derived.Shelf.Spec.SlicesInsertGrow
import Derived.Shelf.Slices.Cells
import Derived.Shelf.Slices.Empties
set_option maxRecDepth 100000
set_option maxHeartbeats 4000000
namespace Go.Proofs.YtgdeeodifnegiaaGreatDoor
open Go.Proofs.Tryz
open Or
open Go.RowKit Go.Shelf
open Go.RowKit
open Go.Shelf
attribute [local go_sem] Oper.semAt_some
theorem ym(s:ByteArray)(w:World) :
  Calls prog 109 #[.string s] w λ e w'=>e=.returned (.func (.func 164) #[] #[ay w.heap.size 0])/\w'=w.alloc (aF (.string s) 9):=by
 have hmf:∀(fn:Fn) (first cap:Array Value) (w:World),(Instr.makeFunc fn first cap).run prog w=.ok (.func fn first cap) w:=λ _ _ _ _=>rfl
 go_enter func109,ntmps109;go_wp2_with fail;go_ret;exact⟨rfl,rfl⟩
abbrev oj:Obj:=.cells #[.string ⟨#[]⟩,.slice none 0 0] 109
abbrev kO(v:Value):Obj:=.cells (iq v (.slice none 0 0) (.pointer none) (.slice none 0 0) lJ) 210
theorem vq.trans{pb:Nat}{A B C:World}(h:vq pb A B)(g:vq pb B C):vq pb A C:=by
 refine⟨kr h.size g.size,λ k c T z hA hp hr=>g.keep k c T z (h.keep k c T z hA hp hr) hp (λ e=>?_),?_⟩
 ·rcases h.row with h1|⟨q,h1,h2,_⟩
  ·exact hr (h1▸e)
  rw [h1]at e;cases e;have:=ai hA;omega
 rcases g.row with h1|⟨q,h1,h2,h3⟩
 ·rcases h.row with h4|⟨q,h4,h5,h6⟩
  ·exact inl (h1.trans h4)
  exact inr ⟨q,h1.trans h4,h5,eV h6 g.size⟩
 exact inr ⟨q,h1,kr h.size h2,h3⟩
theorem ub{pb:Nat}{A B:World}(h:B.heap[pb]?=A.heap[pb]?):ir pb B=ir pb A:=by
 unfold ir World.cell?;rw [h]
theorem vq.putObj{pb:Nat}{W:World}{l:Nat}{o o':Obj}(hp:pb≠l)(hl:W.heap[l]?=some o)(ho:o.isCells=false):vq pb W (W.putObj l o'):=by
 refine⟨by simp,λ k c T z hk _ _=>(World.putObj_heap_other (λ e=>by subst e;rw [hk]at hl;cases hl;cases ho)).trans hk,inl (ub (World.putObj_heap_other hp))⟩
theorem vq.of_below{pb:Nat}{A B:World}(hp:pb<A.heap.size)(h:Below A.heap.size A B):vq pb A B :=
 ⟨h.size,λ k _ _ _ hk _ _=>(h.block k (ai hk)).trans hk,inl (gX hp h)⟩
def Gr(w:World)(pb n0:Nat)(pre:List aw)(W:World):Prop :=
 (∃ v,W.heap[pb]?=some (kO v)/\W.ownsRow 0 216 6 v pre.length (cj pre)/\∀ k,v.ownBlock=some k->n0<=k)/\W.heap[w.heap.size]?=some oj/\Below w.heap.size w W/\n0<=W.heap.size
theorem Gr.own(w:World)(pb n0:Nat)(hw:w.heap.size<=n0):OwnFrom n0 (Gr w pb n0):=by
 rintro pre W W' row ⟨⟨v,hb,ho,hn⟩,hR,hB,hz⟩ hg hr
 have hk:∀(k:Nat) (c:Array Value) (T:TypeId) (z:Nat×Nat),W.heap[k]?=some (.cells c T z)->W'.heap[k]?=some (.cells c T z):=λ k c T z h=>(hg.block k (ai h) (λ e=>by
  obtain⟨_,o,ho,hc⟩:=hr k e.symm;rw [h]at ho;cases ho;cases hc)).trans h
 refine⟨⟨v,hk _ _ _ _ hb,?_,hn⟩,hk _ _ _ _ hR,hB.grown hg hB.size (λ k e=>kr hw (hr k e).1),kr hz hg.size⟩;refine ap ho (λ k e=>?_);rcases ho.2 with⟨h1,_⟩|⟨g,cap,cur,h1,_,hg2,_⟩
 ·rw [h1]at e;cases e
 rw [h1]at e;obtain rfl:g=k:=by simpa [Value.ownBlock]using e
 rw [hg2];exact hk _ _ _ _ hg2
theorem kP{W:World}{pb:Nat}{v:Value}(h:W.heap[pb]?=some (kO v)):ir pb W=v.ownBlock:=by
 have:W.cell? ⟨pb,0,none⟩=some v:=af h;unfold ir;rw [this]
theorem kq(l:List aw)(t:aw):cj (l++[t])=cj l++[.int .i64 t.kind,.int .i64 t.at_,.string t.text,.int .i64 t.number,.int .i64 t.addr,.int .i64 t.len]:=by simp [cj]
theorem Gr.snoc{w W w1:World}{pb n0:Nat}{pre:List aw}{v v':Value}{x:aw}(hB:W.heap[pb]?=some (kO v))(ho:W.ownsRow 0 216 6 v pre.length (cj pre))(hn:∀ k,v.ownBlock=some k->n0<=k)(hR:W.heap[w.heap.size]?=some oj)(hBw:Below w.heap.size w W)
  (hpn:pb<n0) (hRp:w.heap.size<pb) (hnW:n0<=W.heap.size)
  (hown:w1.ownsRow 0 216 6 v' (pre.length+1) (cj pre++[.int .i64 x.kind,.int .i64 x.at_,.string x.text,.int .i64 x.number,.int .i64 x.addr,.int .i64 x.len])) (hg:(W.alloc (aR x)).grownBy w1 v.ownBlock) (hat:v'.ownBlock=v.ownBlock\/v'.ownBlock=some (W.alloc (aR x)).heap.size) :
  KeepsFrom n0 W (w1.setCell ⟨pb,0,none⟩ v')/\vq pb W (w1.setCell ⟨pb,0,none⟩ v')/\Gr w pb n0 (pre++[x]) (w1.setCell ⟨pb,0,none⟩ v'):=by
 have hold:∀ k,k<W.heap.size->k≠pb->v.ownBlock≠some k->(w1.setCell ⟨pb,0,none⟩ v').heap[k]?=W.heap[k]?:=λ k hk hp hv=>by
  rw [ah hp,hg.block k (by simp;omega) (λ e=>hv e.symm)];exact eW _ _ _ hk
 have hsz:W.heap.size+1<=(w1.setCell ⟨pb,0,none⟩ v').heap.size:=by have:=hg.size;simp [World.setCell]at this ⊢;omega
 have hvb:∀ k,v.ownBlock=some k->∃ cur,W.heap[k]?=some (.cells cur 216 (0,0)):=λ k e=>by
  rcases ho.2 with⟨h1,_⟩|⟨g,cap,cur,h1,_,hg2,_⟩
  ·rw [h1]at e;cases e
  rw [h1]at e;obtain rfl:g=k:=by simpa [Value.ownBlock]using e
  exact⟨cur,hg2⟩
 have hvp:∀ k,k<n0->v.ownBlock≠some k:=λ k hk e=>by have:=hn k e;omega
 have hn':∀ k,v'.ownBlock=some k->n0<=k:=λ k e=>by
  rcases hat with h1|h1
  ·exact hn k (h1▸e)
  rw [h1]at e;cases e;simp;omega
 have hpb1:w1.heap[pb]?=some (kO v):=by rw [hg.block pb (by have:=ai hB;simp;omega) (λ e=>hvp pb hpn e.symm)];exact(eW _ _ _ (ai hB)).trans hB
 have hb2:(w1.setCell ⟨pb,0,none⟩ v').heap[pb]?=some (kO v'):=by rw [aB hpb1];rfl
 refine⟨⟨by omega,λ k o hk hko hc=>(hold k (ai hko) (by omega) (λ e=>?_)).trans hko⟩,⟨by omega,λ k c T z hk hp hr=>(hold k (ai hk) hp (λ e=>hr (by rw [kP hB];exact e))).trans hk,?_⟩,⟨v',hb2,?_,hn'⟩,?_,?_,by omega⟩
 ·obtain⟨cur,h1⟩:=hvb k e;rw [h1]at hko;cases hko;cases hc
 ·rw [kP hb2,kP hB];rcases hat with h1|h1
  ·exact inl h1
  refine inr ⟨_,h1,by simp,?_⟩;have h2:=(hown.lt _ h1).2;simpa [World.setCell]using h2
 ·rw [List.length_append,List.length_singleton,kq];exact ap hown (λ k e=>ah (λ e2=>by have:=hn' k e;simp at e2;omega))
 ·exact(hold _ (ai hR) (by omega) (hvp _ (by omega))).trans hR
 refine⟨hg.os.trans hBw.os,hg.tape.trans hBw.tape,hg.output.trans hBw.output,by have:=hBw.size;omega,λ k hk=>?_⟩;exact(hold k (by have:=hBw.size;omega) (by omega) (hvp k (by omega))).trans (hBw.block k hk)
theorem Tryz.infoTok:(prog.info? 216).map (λ i=>(i.zero,i.size,i.bytes))=some (some (.agg #[.int .i64 0,.int .i64 0,.string ⟨#[]⟩,.int .i64 0,.int .i64 0,.int .i64 0]),6,56):=by kernel_rfl
def Cj(s:ByteArray)(w:World)(x6 x15:Value):Array Value:=#[Value.string s,undef,ay w.heap.size 0,Value.int .i64 0,Value.int .i64 0,ay (w.heap.size+1) 0,x6,undef,Value.string s,Value.int .i64 (s.size:Int),Value.bool (decide (600<(s.size:Int))),undef,Value.agg (iq (.slice none 0 0) (.slice none 0 0) (.pointer none) (.slice none 0 0) lJ),Value.string s,Value.func (Fn.func 164) #[] #[ay (w.heap.size+1+1) 0],x15,undef,undef,undef,undef,undef,undef,undef,undef,undef,undef,undef,undef,undef,undef,undef,undef,undef,undef,undef,undef,undef,undef,undef,undef,undef,undef,undef,undef,undef,undef,undef,undef,undef,undef,undef]
def D7(s:ByteArray)(w:World)(pb n0:Nat)(x:aw)(a':Act)(W:World):Prop:=∃ Bx,n0<=Bx/\W.heap[Bx]?=some (aR x)/\ir pb W≠some Bx/\pb<W.heap.size/\a'={ tmps:=Cj s w (ay Bx 0) (eG x),defers:=[] }
theorem D7.own(s:ByteArray)(w:World)(pb n0:Nat)(hp:pb<n0)(x:aw)(a':Act):OwnFrom n0 (λ(_:Unit) W=>D7 s w pb n0 x a' W):=by
 rintro _ W W' row ⟨Bx,h1,h2,h3,h4,h5⟩ hg hr;refine⟨Bx,h1,(hg.block Bx (ai h2) (λ e=>?_)).trans h2,?_,eV h4 hg.size,h5⟩
 ·obtain⟨_,o,ho,hc⟩:=hr Bx e.symm;rw [h2]at ho;cases ho;cases hc
 rw [ub (hg.block pb h4 (λ e=>by have:=(hr pb e.symm).1;omega))];exact h3
abbrev nk(s:ByteArray)(w:World):World:=((w.alloc oj).alloc (kO (.slice none 0 0))).alloc (aF (.string s) 9)
theorem oE(s:ByteArray)(w:World):(nk s w).heap.size=w.heap.size+3:=(g6 w oj (kO (.slice none 0 0)) (aF (.string s) 9)).2.2.2
theorem sE(s:ByteArray)(w:World):Below w.heap.size w (nk s w) :=
 (((aX _ w).alloc (aD _) _).alloc (by rw [World.size_alloc];omega) _).alloc (by rw [World.size_alloc,World.size_alloc];omega) _
theorem bB.kept{pb n0:Nat}{A B:World}(hG1:2<n0/\2≠pb)(hG2:0<n0/\0≠pb)(hG3:3<n0/\3≠pb)(hk:vq pb A B)(hr:∀ k,ir pb A=some k->n0<=k)(h:bB A):bB B:=by
 have e:∀ g,g<n0/\g≠pb->∀ j v,A.cell? ⟨g,j,none⟩=some v->B.cell? ⟨g,j,none⟩=some v:=λ g hg j v hv=>by
  obtain⟨o,ho,hc⟩:=cells_of_cell hv;cases o with
  | cells c T z =>
   have h1:=hk.keep g c T z ho hg.2 (λ e=>by have:=hr g e;omega);rw [show B.cell? ⟨g,j,none⟩=c[j]? from af h1,<-show A.cell? ⟨g,j,none⟩=c[j]? from af ho];exact hv
  | _=>cases hc
 exact⟨eV h.lw hk.size,eV h.ls hk.size,λ j v hv=>e _ hG1 _ _ (h.words j v hv),λ j v hv=>e _ hG2 _ _ (h.signs j v hv),eV h.mx.1 hk.size,h.mx.2.choose,e _ hG3 _ _ h.mx.2.choose_spec⟩
theorem vt(n:Nat)(hn:1<=n)(s:ByteArray)(hs:s.size<=600)(w:World)(ht:bB w) :
  SeqStopsK Fence.wide n prog 164 #[ay (w.heap.size+1+1) 0] (λ x:aw=>#[eG x]) (vq (w.heap.size+1)) (λ ys=>ys=cO s) (λ _=>True) 1000 (nk s w):=by
 intro l J Jx W hW hJ hJx hY h0;obtain⟨n1,n2,n3,sz⟩:=g6 w oj (kO (.slice none 0 0)) (aF (.string s) 9);have h2:W.heap[w.heap.size+1]?=some (kO (.slice none 0 0)):=(hW.block _ (by rw [oE];omega)).trans n2;have h3:W.heap[w.heap.size+1+1]?=some (aF (.string s) 9):=(hW.block _ (by rw [oE];omega)).trans n3;have hsz:w.heap.size+3<=W.heap.size:=by have h:=hW.size;rw [oE]at h;exact h
 have hG1:=ht.lw;have hG2:=ht.ls;have hT0:bB (nk s w):=ht.below (sE s w);refine JY n hn l (w.heap.size+1+1) (w.heap.size+1) (w.heap.size+3) s hs J Jx W hJ h0 ⟨by omega,h3,λ k e=>?_,hT0.below hW⟩ (by omega) (by omega) hsz (λ hk hr hT=>bB.kept (pb:=w.heap.size+1) (n0:=w.heap.size+3) ⟨by omega,by omega⟩ ⟨by omega,by omega⟩ ⟨by have:=ht.mx.1;omega,by have:=ht.mx.1;omega⟩ hk hr hT) hY;rw [kP h2]at e;cases e
def MR(pp:Nat)(ms:List aM)(K:Nat->Prop)(W:World):Prop:=K pp/\∃ p sv,W.heap[pp]?=some (.cells #[.string p,sv] 111 (0,0))/\jE sv ms K W
theorem jE.mono{sv:Value}{ms:List aM}{K K':Nat->Prop}{W:World}(h:jE sv ms K W)(hk:∀ k,K k->K' k):jE sv ms K' W:=by
 obtain⟨h0,vs,h1,h2,h3⟩:=h;refine⟨h0,vs,h1,?_,λ i v m hv hm=>(h3 i v m hv hm).mono hk⟩;rcases h2 with h2|⟨S,cap,e1,e2,e3⟩
 ·exact inl h2
 exact inr ⟨S,cap,e1,hk S e2,e3⟩
theorem sI{s:ByteArray}(hs:s.size<=600):∀ f k,k<=s.size->s.size+1<=f+k->0<(dh s f k).length/\(dh s f k).length<=s.size+1-k/\(∀ i (h:i<(dh s f k).length),2<=(dh s f k)[i].kind->i+1<(dh s f k).length)/\(∀ i (h:i<(dh s f k).length),(dh s f k)[i].text.size<=600)
 | 0,k,hk,hf=>by omega
 | f+1,k,hk,hf=>by
  by_cases hlt:k<s.size
  ·cases hb:cP (bt s k)with
   | true =>
    have e:dh s (f+1) k=dh s f (k+1):=by rw [dh,aC hlt,aC hb]
    rw [e];have ih:=sI hs f (k+1) (by omega) (by omega);exact⟨ih.1,by omega,ih.2.2⟩
   | false =>
    have ht:=mY hlt;by_cases h0:(hC s k).kind=0
    ·rw [pT hlt hb h0];refine⟨by simp,by simp;omega,λ i h h2=>?_,λ i h=>?_⟩
     ·obtain rfl:i=0:=by simpa using h
      simp [h0]at h2
     obtain rfl:i=0:=by simpa using h
     simp;omega
    rw [nQ hlt hb h0];have ih:=sI hs f (k+(hC s k).text.size) ht.2 (by omega);refine⟨by simp,by simp;omega,λ i h h2=>?_,λ i h=>?_⟩
    ·cases i with
     | zero=>simp;exact ih.1
     | succ i=>have:=ih.2.2.1 i (by simpa using h) (by simpa using h2);simp;omega
    cases i with
    | zero=>simp;omega
    | succ i=>have:=ih.2.2.2 i (by simpa using h);simpa using this
  have e:dh s (f+1) k=[nV s]:=by rw [dh,au hlt]
  rw [e];refine⟨by simp,by simp;omega,λ i h h2=>?_,λ i h=>?_⟩
  ·obtain rfl:i=0:=by simpa using h
   simp [nV]at h2
  obtain rfl:i=0:=by simpa using h
  show(⟨#[]⟩:ByteArray).size<=600;decide
theorem ju{s:ByteArray}(hs:s.size<=600):cE (cO s)/\0<(cO s).length:=by
 have h:=sI hs (s.size+1) 0 (by omega) (by omega);exact⟨⟨by show(dh s (s.size+1) 0).length<=601;omega,h.2.2.1,h.2.2.2⟩,h.1⟩
abbrev gA(l:List UInt8):ByteArray:=⟨l.toArray⟩
theorem sU(l:List UInt8):(gA l).size=l.length:=by show l.toArray.size=_;simp
theorem gI(s:ByteArray):gA s.data.toList=s:=by cases s;simp [gA]
theorem sV{l:List UInt8}{k:Nat}{b:UInt8}(h:l[k]?=some b):bt (gA l) k=(b.toNat:Int):=by
 have hk:k<l.length:=(List.getElem?_eq_some_iff.mp h).1;rw [cA (by rw [sU];exact hk)];have:(gA l)[k]'(by rw [sU];exact hk)=l[k]:=by show(l.toArray)[k]'_=_;simp
 rw [this,(List.getElem?_eq_some_iff.mp h).2]
theorem tg(s:ByteArray)(k:Nat):s.extract k s.size=gA (s.data.toList.drop k):=by
 have h:(s.extract k s.size).data=(gA (s.data.toList.drop k)).data:=by
  rw [ByteArray.data_extract];show s.data.extract k s.data.size=(s.data.toList.drop k).toArray;rw [<-Array.toList_inj,Array.toList_extract];simp [List.extract];exact List.take_of_length_le (by simp)
 cases hx:s.extract k s.size with
 | mk d=>rw [hx]at h;simp only at h;rw [h]
theorem sJ(l:List aM):iz (l.map some)=some l:=by
 induction l with
 | nil=>rfl
 | cons a l ih=>rw [List.map_cons,iz,ih];rfl
def DI(_:Int):Bool:=true
end Go.Proofs.YtgdeeodifnegiaaGreatDoor
namespace Go.Proofs
open Go.Shelf
def Tryz.shIns_ren:Go.Shelf.Ren:=⟨fun|21=>274|27=>319|28=>320|35=>348|39=>362|n=>n,fun|22=>26|3=>3|4=>4|0=>0|n=>n,fun|n=>n⟩
theorem Tryz.shIns:Go.Proofs.Lays2.n21 prog Tryz.shIns_ren:={
 mixed:=by kernel_rfl
 f21:=func274.trans (congrArg some (by kernel_rfl))
 f27:=func319.trans (congrArg some (by kernel_rfl))
 f28:=func320.trans (congrArg some (by kernel_rfl))
 f35:=func348.trans (congrArg some (by kernel_rfl))
 f39:=func362.trans (congrArg some (by kernel_rfl))
 t0:=underlying0
 a0:=Tryz.isAgg0
 z0:=Tryz.sizeOf0
 v0:=Tryz.zeroValue0
 t3:=underlying3
 a3:=Tryz.isAgg3
 z3:=Tryz.sizeOf3
 v3:=Tryz.zeroValue3
 t4:=underlying4
 a4:=Tryz.isAgg4
 z4:=Tryz.sizeOf4
 v4:=Tryz.zeroValue4
 t22:=underlying26
 a22:=Tryz.isAgg26
 z22:=Tryz.sizeOf26
 v22:=Tryz.zeroValue26
 i3:=by kernel_rfl }
end Go.Proofs
namespace Go.Proofs.YtgdeeodifnegiaaGreatDoor
open Go.Proofs.Tryz
open Or
open Go.RowKit Go.Shelf
open Go.RowKit
open Go.Shelf
theorem eY{b:Nat}{T:TypeId}{z:Nat×Nat}:∀(vs:List Value) (o:Nat) (w:World) (cur:Array Value),w.heap[b]?=some (.cells cur T z)->o+vs.length<=cur.size ->
  ∃ cur',(w.setCells b o vs).heap[b]?=some (.cells cur' T z)/\cur'.size=cur.size/\∀ j,cur'[j]?=if o<=j/\j<o+vs.length then vs[j-o]? else cur[j]?
 | [],o,w,cur,h,_=>⟨cur,h,rfl,λ j=>by rw [au];simp⟩
 | v::r,o,w,cur,h,hl=>by
  obtain⟨cur',h1,h2,h3⟩:=eY r (o+1) (w.setCell ⟨b,o,none⟩ v) (cur.setIfInBounds o v) (aB h) (by simp at hl ⊢;omega);refine⟨cur',h1,by rw [h2];simp,λ j=>?_⟩;rw [h3 j];simp only [List.length_cons]at hl ⊢;by_cases hj:o<=j/\j<o+(r.length+1)
  ·rw [aC hj];by_cases he:j=o
   ·subst he;rw [au (by omega),Array.getElem?_setIfInBounds_self_of_lt (by omega)];simp
   rw [aC (by omega),show j-o=(j-(o+1))+1 by omega];simp
  rw [au hj,au (by omega),Array.getElem?_setIfInBounds_ne (by omega)]
theorem eE(b:Nat):∀(vs:List Value) (o:Nat) (w w0:World) (row:Option Nat),w0.grownBy w row->(row=some b\/w0.heap.size<=b)->w0.grownBy (w.setCells b o vs) row
 | [],_,_,_,_,h,_=>h
 | v::r,o,w,w0,row,h,hb=>eE b r (o+1) _ _ _ ⟨h.os,h.tape,h.output,by simpa [World.setCell]using h.size,λ k hk hn=>(ah (λ e=>by
   have e':k=b:=e;subst e';rcases hb with hb|hb
   ·exact hn hb.symm
   ·omega)).trans (h.block k hk hn)⟩ hb
theorem iZ{w:World}{g cap:Nat}{cur:Array Value}{l:List Int}(h:w.heap[g]?=some (.cells cur 3 (0,0)))(hn:l.length<=cap)(hc:cap<=maxLen)(hs:cur.size=cap)(hx:∀(j:Nat) (x:Int),l[j]?=some x->cur[j]?=some (Value.int .i64 x)) :
  w.ownsRow 0 3 1 (.slice (some ⟨g,0,none⟩) l.length cap) l.length (aq l):=by
 refine⟨by simp [aq],inr ⟨g,cap,cur,rfl,iL _,h,hn,hc,by omega,?_⟩⟩;refine List.ext_getElem? (λ j=>?_);rw [List.getElem?_take,Nat.mul_one];by_cases hj:j<l.length
 ·rw [aC hj];have h1:=hx j l[j] (iK hj);simp [aq,iK hj];simpa using h1
 rw [au hj];simp [aq,List.getElem?_eq_none (Nat.le_of_not_lt hj)]
theorem xA{l:List Int}{i:Nat}{x:Int}(hi:i<=l.length)(j:Nat):(l.take i++x::l.drop i)[j]?=if j<i then l[j]? else if j=i then some x else l[j-1]?:=by
 have hlt:(l.take i).length=i:=by simp;omega
 by_cases h1:j<i
 ·rw [aC h1,List.getElem?_append_left (by omega),List.getElem?_take,aC h1]
 rw [au h1,List.getElem?_append_right (by omega),hlt];by_cases h2:j=i
 ·rw [aC h2,h2];simp
 rw [au h2,show j-i=(j-i-1)+1 by omega,List.getElem?_cons_succ,List.getElem?_drop]
 congr 1;omega
theorem fg(l:List Int)(i:Nat)(x:Int):(l.take i++x::l.drop i).length=l.length+1:=by simp;omega
def wN(w:World)(v:Value)(l':List Int)(e:Ending)(w':World):Prop :=
 ∃ v',e=.returned v'/\w'.ownsRow 0 3 1 v' l'.length (aq l')/\w.grownBy w' v.ownBlock/\(v'.ownBlock=v.ownBlock\/v'.ownBlock=some w.heap.size)
theorem jK(w:World)(row:Option Nat):w.grownBy w row:=⟨rfl,rfl,rfl,aD _,λ _ _ _=>rfl⟩
theorem lj{w0 w:World}{row:Option Nat}(h:w0.grownBy w row):w0.grownBy w.drew row:=⟨h.os,h.tape,h.output,h.size,h.block⟩
theorem qW{w0 w:World}{row:Option Nat}(h:w0.grownBy w row)(o:Obj):w0.grownBy (w.alloc o) row :=
 ⟨h.os,h.tape,h.output,by rw [World.size_alloc];have:=h.size;omega,λ k hk hn=>(eW _ _ _ (by have:=h.size;omega)).trans (h.block k hk hn)⟩
theorem M7(l:List Int):∀ v∈aq l,v.oneCell'=true:=λ v hv=>by
 simp only [aq,List.mem_map]at hv;obtain⟨x,_,rfl⟩:=hv;rfl
theorem Dz(w:World)(v:Value)(l:List Int)(i:Nat)(x:Int)(vb:Nat)(hv:w.ownsRow 0 3 1 v l.length (aq l))(hi:i<=l.length)(hl:l.length<=1000)(hb:w.heap[vb]?=some (.cells #[.int .i64 x] 3 (0,0)))(hne:v.ownBlock≠some vb) :
  Calls prog 274 #[v,.int .i64 (i:Int),.slice (some ⟨vb,0,none⟩) 1 1] w (wN w v (l.take i++x::l.drop i)):=by
 have hvs:∀ j u,([.int .i64 x]:List Value)[j]?=some u->w.cell? ⟨vb,0+j,none⟩=some u:=λ j u hu=>by
  rw [af hb,Nat.zero_add];cases j with
  | zero=>simpa using hu
  | succ j=>simp at hu
 have h1v:∀ u∈([.int .i64 x]:List Value),u.oneCell'=true:=λ u hu=>by simp at hu;subst hu;rfl
 have hvb:=ai hb;have hcl:(aq l).length=l.length:=by simp [aq]
 have endGrow:∀(base:Option Addr) (c:Nat),l.length<=c->c<l.length+1->(base=none->l.length=0)->(∀ a,base=some a->∀ j u,(aq l)[j]?=some u->w.cell? (a.add j)=some u)->v=.slice base l.length c ->
   Calls prog 274 #[v,.int .i64 (l.length:Int),.slice (some ⟨vb,0,none⟩) 1 1] w (wN w v (l.take l.length++x::l.drop l.length)):=λ base c hc1 hc2 hbn hcs hv=>by
  subst hv;refine(Any2.slices_Insert_int_end_grow Tryz.shIns base l.length c vb 0 1 1 (aq l) [.int .i64 x] w (by omega) hc1 hc2 (by omega) hcl rfl hbn hcs hvs h1v).mono ?_;rintro e w' ⟨rfl,rfl⟩;have hge:=grownCap_ge w (l.length+1) c 3;have hle:=grownCap_le_maxLen w (l.length+1) c 3 (by unfold maxLen;omega);have hn:=cN w.drew (.cells ((aq l++[Value.int .i64 x]).toArray++Builtin.zeroCells (Value.int .i64 0).cells (grownCap w (l.length+1) c 3-(l.length+1))) 3);refine⟨_,rfl,?_,qW (lj (jK _ _)) _,inr rfl⟩
  have hg:=iZ (g:=w.heap.size) (cap:=grownCap w (l.length+1) c 3) (l:=l.take l.length++x::l.drop l.length) hn (by rw [fg];exact hge) hle (by simp [Builtin.zeroCells,Value.cells,aq];omega) (λ j y hy=>by
   have hj:j<l.length+1:=by
    have:=(List.getElem?_eq_some_iff.mp hy).1;rw [fg]at this;exact this
   rw [Array.getElem?_append_left (by simp [aq];omega)];simp only [List.take_length,List.drop_length]at hy;simp only [List.getElem?_toArray,aq];rw [show(l.map (λ x=>Value.int .i64 x)++[.int .i64 x]:List Value)=(l++[x]).map (λ x=>Value.int .i64 x)by simp,List.getElem?_map,hy];rfl)
  rw [fg]at hg;rw [fg];exact hg
 obtain⟨_,hv2⟩:=hv;rcases hv2 with⟨rfl,h0⟩|⟨g,cap,cur,rfl,_,hg,hnc,hcm,hcs,htk⟩
 ·obtain rfl:i=l.length:=by omega
  exact endGrow none 0 (by omega) (by omega) (λ _=>h0) (λ a e=>by cases e) (by rw [h0])
 rw [Nat.mul_one]at hcs htk;have hgv:g≠vb:=λ e=>hne (by rw [e];rfl)
 have hc0:∀ j u,(aq l)[j]?=some u->cur[j]?=some u:=λ j u hu=>by
  have hj:j<l.length:=by have:=(List.getElem?_eq_some_iff.mp hu).1;rw [hcl]at this;exact this
  rw [<-htk,List.getElem?_take,aC hj]at hu;simpa using hu
 have hcells:∀ j u,(aq l)[j]?=some u->w.cell? ⟨g,0+j,none⟩=some u:=λ j u hu=>by
  rw [af hg,Nat.zero_add];exact hc0 j u hu
 have hm63:cap<=9223372036854775807:=by unfold maxLen at hcm;omega
 by_cases hroom:l.length+1<=cap
 ·by_cases hin:i=l.length
  ·subst hin;refine(Any2.slices_Insert_int_end_room Tryz.shIns g 0 l.length cap vb 0 1 1 [.int .i64 x] w (by omega) hroom hm63 rfl (λ j hj=>by rw [af hg,Array.getElem?_eq_getElem (by omega)];rfl) (λ j hj=>ak hg) hvs h1v).mono ?_;rintro e w' ⟨rfl,rfl⟩;obtain⟨cur',q1,q2,q3⟩:=eY [.int .i64 x] (0+l.length) w cur hg (by simp;omega);refine⟨_,rfl,?_,eE g _ _ _ _ _ (jK _ _) (inl rfl),inl rfl⟩
   have hgo:=iZ (g:=g) (cap:=cap) (l:=l.take l.length++x::l.drop l.length) q1 (by rw [fg];exact hroom) hcm (by omega) (λ j y hy=>by
    rw [xA (aD _)]at hy;rw [q3 j];by_cases h1:j<l.length
    ·rw [aC h1]at hy;rw [au (by simp;omega)];exact hc0 j _ (by simp [aq,hy])
    ·rw [au h1]at hy;by_cases h2:j=l.length
     ·rw [aC h2]at hy;rw [aC (by simp;omega),h2];simpa using hy
     ·rw [au h2]at hy;have:=(List.getElem?_eq_some_iff.mp hy).1;omega)
   rw [fg]at hgo;rw [fg];exact hgo
  have hin':i<l.length:=by omega
  refine(Any2.slices_Insert_int_shift Tryz.shIns g 0 l.length cap i vb 0 1 1 (aq l) [.int .i64 x] w hin' (by omega) hroom hm63 (Ne.symm hgv) hcl rfl hcells (λ j hj=>by rw [af hg,Array.getElem?_eq_getElem (by omega)];rfl) (λ j hj=>ak hg) hvs (M7 l) h1v 3 3 1 cur.size (by simp [World.shape?,hb]) (by simp [World.shape?,hg]) (by omega) (ak hb) (ak hb)).mono ?_;rintro e w' ⟨rfl,rfl⟩;have hdl:((aq l).drop i).length=l.length-i:=by rw [List.length_drop,hcl]
  obtain⟨cur1,p1,p2,p3⟩:=eY ((aq l).drop i) (0+(i+1)) w.drew cur hg (by rw [hdl];omega);obtain⟨cur',q1,q2,q3⟩:=eY [.int .i64 x] (0+i) (w.drew.setCells g (0+(i+1)) ((aq l).drop i)) cur1 p1 (by simp;omega);refine⟨_,rfl,?_,eE g _ _ _ _ _ (eE g _ _ _ _ _ (lj (jK _ _)) (inl rfl)) (inl rfl),inl rfl⟩
  have hgo:=iZ (g:=g) (cap:=cap) (l:=l.take i++x::l.drop i) q1 (by rw [fg];exact hroom) hcm (by omega) (λ j y hy=>by
   have hjl:j<l.length+1:=by
    have:=(List.getElem?_eq_some_iff.mp hy).1;rw [fg]at this;exact this
   rw [xA hi]at hy;rw [q3 j];by_cases h1:j<i
   ·rw [aC h1]at hy;rw [au (by simp;omega),p3 j,au (by omega)];exact hc0 j _ (by simp [aq,hy])
   ·rw [au h1]at hy;by_cases h2:j=i
    ·rw [aC h2]at hy;rw [aC (by simp;omega),h2];simpa using hy
    ·rw [au h2]at hy;rw [au (by simp;omega),p3 j,aC (by rw [hdl];omega),List.getElem?_drop,show i+(j-(0+(i+1)))=j-1 by omega];simp [aq,hy])
  rw [fg]at hgo;rw [fg];exact hgo
 by_cases hin:i=l.length
 ·subst hin;exact endGrow (some ⟨g,0,none⟩) cap hnc (by omega) (λ e=>by cases e) (λ a ha j u hu=>by cases ha;rw [Addr.add_lit];exact hcells j u hu) rfl
 have hin':i<l.length:=by omega
 refine(Any2.slices_Insert_int_grow Tryz.shIns g 0 l.length cap i vb 0 1 1 (aq l) [.int .i64 x] w hin' (by omega) hnc (by omega) (by omega) hcl rfl hcells hvs (M7 l) h1v).mono ?_;rintro e w' ⟨rfl,rfl⟩;have hge:=grownCap_ge w (l.length+1) cap 3;have hle:=grownCap_le_maxLen w (l.length+1) cap 3 (by unfold maxLen;omega);obtain⟨ROW,hROW⟩:∃ ROW:Array Value,ROW=((aq l).take i).toArray++Builtin.zeroCells (Value.int .i64 0).cells (l.length+1-i)++Builtin.zeroCells (Value.int .i64 0).cells (grownCap w (l.length+1) cap 3-(l.length+1)):=⟨_,rfl⟩
 have hRs:ROW.size=grownCap w (l.length+1) cap 3:=by
  rw [hROW];simp [Builtin.zeroCells,Value.cells,hcl];omega
 have hRt:∀ j u,j<i->(aq l)[j]?=some u->ROW[j]?=some u:=λ j u hj hu=>by
  rw [hROW,Array.append_assoc,Array.getElem?_append_left (by simp [hcl];omega),List.getElem?_toArray,List.getElem?_take,aC hj,hu]
 show wN w _ _ _ ((((w.alloc (.cells (((aq l).take i).toArray++Builtin.zeroCells (Value.int .i64 0).cells (l.length+1-i)++Builtin.zeroCells (Value.int .i64 0).cells (grownCap w (l.length+1) cap 3-(l.length+1))) 3)).drew.setCells w.heap.size i [.int .i64 x]).drew).setCells w.heap.size (i+1) ((aq l).drop i));rw [<-hROW];have hn:=cN w (.cells ROW 3);have hdl:((aq l).drop i).length=l.length-i:=by rw [List.length_drop,hcl]
 obtain⟨cur1,p1,p2,p3⟩:=eY [.int .i64 x] i (w.alloc (.cells ROW 3)).drew ROW hn (by simp;omega);obtain⟨cur',q1,q2,q3⟩:=eY ((aq l).drop i) (i+1) ((w.alloc (.cells ROW 3)).drew.setCells w.heap.size i [.int .i64 x]).drew cur1 p1 (by rw [hdl];omega);refine⟨_,rfl,?_,eE _ _ _ _ _ _ (lj (eE _ _ _ _ _ _ (lj (qW (jK _ _) _)) (inr (aD _)))) (inr (aD _)),inr rfl⟩
 have hgo:=iZ (g:=w.heap.size) (cap:=grownCap w (l.length+1) cap 3) (l:=l.take i++x::l.drop i) q1 (by rw [fg];exact hge) hle (by omega) (λ j y hy=>by
  have hjl:j<l.length+1:=by
   have:=(List.getElem?_eq_some_iff.mp hy).1;rw [fg]at this;exact this
  rw [xA hi]at hy;rw [q3 j];by_cases h1:j<i
  ·rw [aC h1]at hy;rw [au (by omega),p3 j,au (by omega)];exact hRt j _ h1 (by simp [aq,hy])
  ·rw [au h1]at hy;by_cases h2:j=i
   ·rw [aC h2]at hy;rw [au (by omega),p3 j,aC (by simp;omega),h2];simpa using hy
   ·rw [au h2]at hy;rw [aC (by rw [hdl];omega),List.getElem?_drop,show i+(j-(i+1))=j-1 by omega];simp [aq,hy])
 rw [fg]at hgo;rw [fg];exact hgo
theorem dK.ins{W W1 w2:World}{b:Nat}{r:Rt}{pv mv v':Value}{l':List Int}(h:dK W b r pv mv)(hb:Below W.heap.size W W1)(hl:l'.length<=12)
  (ho:w2.ownsRow 0 3 1 v' l'.length (aq l')) (hg:W1.grownBy w2 pv.ownBlock) (hat:v'.ownBlock=pv.ownBlock\/v'.ownBlock=some W1.heap.size) :
  dK (w2.setCell ⟨b,2,none⟩ v') b { r with path:=l' } v' mv/\Fr (fv b pv mv) W (fv b v' mv) (w2.setCell ⟨b,2,none⟩ v'):=by
 have hbl:=ai h.blk;have hsz:=hb.size;have hbk:w2.heap[b]?=W.heap[b]?:=(hg.block b (by omega) (λ e=>h.ne1 e.symm)).trans (hb.block b hbl)
 have hmk:∀ k,mv.ownBlock=some k->w2.heap[k]?=W.heap[k]?:=λ k e=>by
  have hk:=(h.marks.lt k e).2;refine(hg.block k (by omega) (λ e2=>?_)).trans (hb.block k hk);rcases h.ne3 with h1|h1
  ·rw [h1]at e2;cases e2
  exact h1 (e2.symm.trans e.symm)
 have hvb:v'.ownBlock≠some b:=λ e=>by
  rcases hat with h1|h1
  ·exact h.ne1 (h1.symm.trans e)
  rw [h1]at e;cases e;omega
 have hF:Fr (fv b pv mv) W (fv b pv mv) w2:=(Fr.of_below hb).grown hg (λ k e=>inl (inr (inl e)));refine⟨⟨?_,ap ho (λ k e=>ah (λ e2=>hvb (by rw [e];exact pP some e2))),ap h.marks (λ k e=>(ah (λ e2=>h.ne2 (by rw [e];exact pP some e2))).trans (hmk k e)),hvb,h.ne2,?_,hl,h.n2,h.srt⟩,?_⟩
 ·rw [aB (hbk.trans h.blk)];rfl
 ·rcases hat with h1|h1
  ·rw [h1];exact h.ne3
  right;rw [h1];intro e;have:=(h.marks.lt _ e.symm).2;omega
 refine(hF.reown (O2:=fv b v' mv) (λ k hk=>?_)).setCell (inl (inl rfl)) _;rcases hk with h1|h1|h1
 ·exact inl (inl h1)
 ·rcases hat with h2|h2
  ·exact inl (inr (inl (h2.symm.trans h1)))
  rw [h2]at h1;cases h1;exact inr hsz
 exact inl (inr (inr h1))
theorem zP(W:World)(B:Nat)(n:Int)(hb:W.cell? ⟨B,0,none⟩=some (.int .i64 n))(b:Nat)(r:Rt)(pv mv:Value)(h:dK W b r pv mv) :
  Calls prog 278 (#[ay b 0]++#[ay B 0]) W (ic b pv mv W (dw n r)):=by
 have HR:=ae h;obtain⟨pa,pc,hpv⟩:=bi h.path;have c2:W.cell? ⟨b,2,none⟩=some pv:=af h.blk;have n1:=h.n1;by_cases hl:r.path.length=12
 ·have EQ:=ae (show dw n r=(r,3)by rw [dw,aC hl]);clear h;subst hpv;have hl':((r.path.length:Nat):Int)=12:=by omega
  go_enter func278,ntmps278;go_wp2_with fail;all_goals first|(go_ret;rw [ab EQ];exact⟨rfl,_,mv,ab HR,bE _ _⟩)|skip
 have EQ:=ae (show dw n r=({ r with path:=n::r.path },0)by rw [dw,au hl]);have hl':¬((r.path.length:Nat):Int)=12:=by omega
 have HI:=ae (λ(W1:World) (hW:Below W.heap.size W W1) (vb:Nat) (hvb:W1.heap[vb]?=some (.cells #[.int .i64 n] 3 (0,0))) (hge:W.heap.size<=vb) =>
  Dz W1 pv r.path 0 n vb (ap h.path (λ k e=>hW.block k (h.path.lt k e).2)) (iL _) (by omega) hvb (λ e=>by have:=(h.path.lt _ e).2;omega))
 have z2:W.frozen? ⟨b,2,none⟩=false:=ak h.blk;have hbl:=ai h.blk;clear h;subst hpv;go_enter func278,ntmps278;go_wp2_with fail;go_region_with (go_at_call 274;refine((ab HI) _ ((aX _ _).alloc (aD _) _).drew W.heap.size (cN W _) (aD _)).mono ?_;rintro e w2 ⟨v',rfl,ho,hg,hat⟩;obtain⟨fa,fc,hf⟩:=bi ho;have HX:=ae ((ab HR).ins ((aX W.heap.size W).alloc (aD _) (.cells #[.int .i64 n] 3)).drew (by simp;omega) ho hg hat);have hbb:w2.heap[b]?=W.heap[b]?:=(hg.block b (by simp;omega) (λ e=>(ab HR).ne1 e.symm)).trans (((aX W.heap.size W).alloc (aD _) (.cells #[.int .i64 n] 3)).drew.block b hbl);have y2:w2.cell? ⟨b,2,none⟩=some (.slice pa r.path.length pc):=(World.cell?_of_block (a:=⟨b,2,none⟩) hbb).trans c2;have yz:w2.frozen? ⟨b,2,none⟩=false:=(World.frozen?_of_block (a:=⟨b,2,none⟩) hbb).trans z2;clear ho hg hat hbb;subst hf)
 all_goals
  go_wp2_with fail;go_ret;rw [ab EQ];exact⟨rfl,_,mv,(ab HX).1,(ab HX).2⟩
theorem Tryz.entPrepend:Enters prog 278:=enters_of func278 (by kernel_rfl) rfl
theorem xN(w:World)(n:Int) :
  Calls prog 226 #[.int .i64 n] w λ e w'=>e=.returned (.func (.func 278) #[] #[ay w.heap.size 0])/\w'=w.alloc (aF (.int .i64 n) 3):=by
 have hmf:∀(fn:Fn) (first cap:Array Value) (w:World),(Instr.makeFunc fn first cap).run prog w=.ok (.func fn first cap) w:=λ _ _ _ _=>rfl
 go_enter func226,ntmps226;go_wp2_with fail;go_ret;exact⟨rfl,rfl⟩
theorem xO:kY 226 dw:=by
 intro w n A hA;refine(xN w n).mono ?_;rintro e w' ⟨rfl,rfl⟩;refine⟨_,rfl,rfl,az.new (λ k=>k=w.heap.size) (λ k hk=>⟨by subst hk;simp,hA k (by omega)⟩) (λ W hW hk=>?_)⟩;exact⟨_,_,rfl,Tryz.entPrepend,λ b r pv mv hr _=>zP W _ n (lS (hk _ rfl) (cN w _)) b r pv mv hr⟩
end Go.Proofs.YtgdeeodifnegiaaGreatDoor
namespace Go.Proofs
open Go.Shelf
def Tryz.shSch_ren:Go.Shelf.Ren:=⟨fun|25=>273|31=>317|32=>318|37=>290|n=>n,fun|22=>26|3=>3|4=>4|40=>321|0=>0|n=>n,fun|n=>n⟩
theorem Tryz.shSch:Go.Proofs.Lays2.n25 prog Tryz.shSch_ren:={
 mixed:=by kernel_rfl
 f25:=func273.trans (congrArg some (by kernel_rfl))
 f31:=func317.trans (congrArg some (by kernel_rfl))
 f32:=func318.trans (congrArg some (by kernel_rfl))
 f37:=func290.trans (congrArg some (by kernel_rfl))
 t0:=underlying0
 a0:=Tryz.isAgg0
 z0:=Tryz.sizeOf0
 v0:=Tryz.zeroValue0
 t3:=underlying3
 a3:=Tryz.isAgg3
 z3:=Tryz.sizeOf3
 v3:=Tryz.zeroValue3
 t4:=underlying4
 a4:=Tryz.isAgg4
 z4:=Tryz.sizeOf4
 v4:=Tryz.zeroValue4
 t22:=underlying26
 a22:=Tryz.isAgg26
 z22:=Tryz.sizeOf26
 v22:=Tryz.zeroValue26
 t40:=underlying321
 a40:=Tryz.isAgg321
 z40:=Tryz.sizeOf321
 v40:=Tryz.zeroValue321 }
def Tryz.shDel_ren:Go.Shelf.Ren:=⟨fun|23=>277|n=>n,fun|22=>26|3=>3|4=>4|0=>0|n=>n,fun|n=>n⟩
theorem Tryz.shDel:Go.Proofs.Lays2.n23 prog Tryz.shDel_ren:={
 mixed:=by kernel_rfl
 f23:=func277.trans (congrArg some (by kernel_rfl))
 t0:=underlying0
 a0:=Tryz.isAgg0
 z0:=Tryz.sizeOf0
 v0:=Tryz.zeroValue0
 t3:=underlying3
 a3:=Tryz.isAgg3
 z3:=Tryz.sizeOf3
 v3:=Tryz.zeroValue3
 t4:=underlying4
 a4:=Tryz.isAgg4
 z4:=Tryz.sizeOf4
 v4:=Tryz.zeroValue4
 t22:=underlying26
 a22:=Tryz.isAgg26
 z22:=Tryz.sizeOf26
 v22:=Tryz.zeroValue26
 i3:=by kernel_rfl }
end Go.Proofs
namespace Go.Proofs.YtgdeeodifnegiaaGreatDoor
open Go.Proofs.Tryz
open Or
open Go.RowKit Go.Shelf
open Go.RowKit
open Go.Shelf
theorem zL(l:List Int)(x:Int):ce l x=l.countP (· < x):=by
 rw [ce,List.countP_eq_length_filter]
theorem tQ(l:List Int)(x:Int):ce l x<=l.length:=by unfold ce;exact List.length_filter_le _ _
theorem tR{x:Int}:∀{l:List Int},(∀ y∈l,x<=y)->ce l x=0:=λ{l} h=>by
 rw [ce,List.length_eq_zero_iff,List.filter_eq_nil_iff];intro y hy;have:=h y hy;simp;omega
theorem tP(y:Int)(l:List Int)(x:Int):ce (y::l) x=if y<x then ce l x+1 else ce l x:=by
 unfold ce;by_cases h:y<x
 ·rw [List.filter_cons_of_pos (by simpa using h),aC h];rfl
 rw [List.filter_cons_of_neg (by simpa using h),au h]
theorem qU{x:Int}:∀{l:List Int},l.Pairwise (· < ·)->x∈l->l.erase x=l.take (ce l x)++l.drop (ce l x+1)/\ce l x<l.length
 | [],_,h=>by cases h
 | y::l,hs,hx=>by
  obtain⟨h1,h2⟩:=List.pairwise_cons.1 hs;by_cases hy:y=x
  ·subst hy
   have h0:ce (y::l) y=0:=tR λ z hz=>by
    rcases List.mem_cons.1 hz with rfl|hz
    ·omega
    have:=h1 z hz;omega
   rw [h0];simp
  have hx':x∈l:=by
   rcases List.mem_cons.1 hx with e|e
   ·exact absurd e.symm hy
   exact e
  have hlt:=h1 x hx';obtain⟨i1,i2⟩:=qU h2 hx';rw [tP,aC hlt,List.erase_cons_tail (by simpa using hy),i1];exact⟨by simp,by simp;omega⟩
theorem nX{x:Int}:∀{l:List Int},l.Pairwise (· < ·)->x ∉ l->(l.take (ce l x)++x::l.drop (ce l x)).Pairwise (· < ·)
 | [],_,_=>by simp [ce]
 | y::l,hs,hx=>by
  obtain⟨h1,h2⟩:=List.pairwise_cons.1 hs;have hne:y≠x:=λ e=>hx (by rw [e];exact List.mem_cons_self)
  have hx':x ∉ l:=λ e=>hx (List.mem_cons_of_mem _ e)
  by_cases hlt:y<x
  ·rw [tP,aC hlt];simp only [List.take_succ_cons,List.drop_succ_cons,List.cons_append];refine List.pairwise_cons.2 ⟨λ z hz=>?_,nX h2 hx'⟩;rcases List.mem_append.1 hz with e|e
   ·exact h1 z (List.mem_of_mem_take e)
   rcases List.mem_cons.1 e with rfl|e
   ·exact hlt
   exact h1 z (List.mem_of_mem_drop e)
  have h0:ce (y::l) x=0:=tR λ z hz=>by
   rcases List.mem_cons.1 hz with rfl|hz
   ·omega
   have:=h1 z hz;omega
  rw [h0];simp only [List.take_zero,List.drop_zero,List.nil_append];refine List.pairwise_cons.2 ⟨λ z hz=>?_,hs⟩;rcases List.mem_cons.1 hz with rfl|hz
  ·omega
  have:=h1 z hz;omega
theorem vW{w:World}{g:Nat}{cur:Array Value}{l:List Int}(hg:w.heap[g]?=some (.cells cur 3 (0,0)))(htk:cur.toList.take (l.length*1)=aq l)(j:Nat)(hj:j<l.length):w.cell? ⟨g,0+j,none⟩=some (.int .i64 (l.getD j 0)):=by
 rw [af hg,Nat.zero_add];have:(cur.toList.take (l.length*1))[j]?=some (.int .i64 (l.getD j 0)):=by rw [htk];simp [aq,List.getD,iK hj]
 rw [List.getElem?_take,aC (by omega)]at this;simpa using this
theorem DT(w:World)(v:Value)(l:List Int)(x:Int)(hv:w.ownsRow 0 3 1 v l.length (aq l))(hs:l.Pairwise (· < ·))(hl:l.length<=1000) :
  Calls prog 273 #[v,.int .i64 x] w λ e w'=>e=.returned (.tuple #[.int .i64 (ce l x:Nat),.bool (l.contains x)])/\∃ q,w'=w.drewN q:=by
 rcases hv.2 with⟨rfl,h0⟩|⟨g,cap,cur,rfl,_,hg,hnc,hcm,hcs,htk⟩
 ·obtain rfl:=List.length_eq_zero_iff.mp h0;refine(Any.slices_BinarySearch_int_empty Tryz.shSch none 0 x w).mono ?_;rintro e w' ⟨rfl,rfl⟩;exact⟨rfl,0,rfl⟩
 refine(Any.slices_BinarySearch_int Tryz.shSch g 0 l.length cap l x w (aD _) (by omega) (vW hg htk) (by rw [List.take_length];exact hs.imp (λ h=>Int.le_of_lt h))).mono ?_;rintro e w' ⟨rfl,q,rfl⟩;rw [List.take_length,<-zL];exact⟨rfl,q,rfl⟩
theorem zq{w0 w:World}{row:Option Nat}(h:w0.grownBy w row)(q:Nat):w0.grownBy (w.drewN q) row:=⟨h.os,h.tape,h.output,h.size,h.block⟩
theorem Kh(w:World)(v:Value)(l:List Int)(x:Int)(hv:w.ownsRow 0 3 1 v l.length (aq l))(hs:l.Pairwise (· < ·))(hx:x∈l) :
  Calls prog 277 #[v,.int .i64 (ce l x:Nat),.int .i64 ((ce l x:Nat)+1)] w (wN w v (l.erase x)):=by
 obtain⟨h1,h2⟩:=qU hs hx;have hel:(l.erase x).length=l.length-1:=by rw [h1];simp;omega
 rcases hv.2 with⟨rfl,h0⟩|⟨g,cap,cur,rfl,_,hg,hnc,hcm,hcs,htk⟩
 ·omega
 refine(Any.slices_Delete_int_cells Tryz.shDel g 0 l.length cap (ce l x) (ce l x+1) l w (aD _) hnc (by unfold maxLen at hcm;omega) (by omega) (by omega) (vW hg htk) (λ j hj=>ak hg)).mono ?_;rintro e w' ⟨rfl,q,rfl⟩;rw [List.take_length,<-h1];have hsl:((l.erase x++List.replicate (ce l x+1-ce l x) 0).map (Value.int .i64)).length=l.length:=by simp [hel];omega
 obtain⟨cur',q1,q2,q3⟩:=eY ((l.erase x++List.replicate (ce l x+1-ce l x) 0).map (Value.int .i64)) 0 (w.drewN q) cur hg (by rw [hsl];omega);refine⟨_,rfl,?_,eE g _ _ _ _ _ (zq (jK _ _) q) (inl rfl),inl rfl⟩;rw [show l.length-(ce l x+1-ce l x)=(l.erase x).length by rw [hel];omega];refine iZ (g:=g) (cap:=cap) (l:=l.erase x) q1 (by omega) hcm (by omega) (λ j y hy=>?_);have hj:=(List.getElem?_eq_some_iff.mp hy).1;rw [q3 j,aC (by rw [hsl];omega),Nat.sub_zero,List.getElem?_map,List.getElem?_append_left hj,hy]
 rfl
theorem dK.insM{W W1 w2:World}{b:Nat}{r:Rt}{pv mv v':Value}{l':List Int}(h:dK W b r pv mv)(hb:Below W.heap.size W W1)(hl:l'.length<=8)(hso:l'.Pairwise (· < ·))
  (ho:w2.ownsRow 0 3 1 v' l'.length (aq l')) (hg:W1.grownBy w2 mv.ownBlock) (hat:v'.ownBlock=mv.ownBlock\/v'.ownBlock=some W1.heap.size) :
  dK (w2.setCell ⟨b,3,none⟩ v') b { r with marks:=l' } pv v'/\Fr (fv b pv mv) W (fv b pv v') (w2.setCell ⟨b,3,none⟩ v'):=by
 have hbl:=ai h.blk;have hsz:=hb.size;have hbk:w2.heap[b]?=W.heap[b]?:=(hg.block b (by omega) (λ e=>h.ne2 e.symm)).trans (hb.block b hbl)
 have hpk:∀ k,pv.ownBlock=some k->w2.heap[k]?=W.heap[k]?:=λ k e=>by
  have hk:=(h.path.lt k e).2;refine(hg.block k (by omega) (λ e2=>?_)).trans (hb.block k hk);rcases h.ne3 with h1|h1
  ·rw [h1]at e;cases e
  exact h1 (e.trans e2)
 have hvb:v'.ownBlock≠some b:=λ e=>by
  rcases hat with h1|h1
  ·exact h.ne2 (h1.symm.trans e)
  rw [h1]at e;cases e;omega
 have hF:Fr (fv b pv mv) W (fv b pv mv) w2:=(Fr.of_below hb).grown hg (λ k e=>inl (inr (inr e)));refine⟨⟨?_,ap h.path (λ k e=>(ah (λ e2=>h.ne1 (by rw [e];exact pP some e2))).trans (hpk k e)),ap ho (λ k e=>ah (λ e2=>hvb (by rw [e];exact pP some e2))),h.ne1,hvb,?_,h.n1,hl,hso⟩,?_⟩
 ·rw [aB (hbk.trans h.blk)];rfl
 ·rcases hat with h1|h1
  ·rw [h1];exact h.ne3
  cases hpo:pv.ownBlock with
  | none=>exact inl rfl
  | some k =>
   right;rw [h1];intro e;cases e
   have:=(h.path.lt _ hpo).2;omega
 refine(hF.reown (O2:=fv b pv v') (λ k hk=>?_)).setCell (inl (inl rfl)) _;rcases hk with h1|h1|h1
 ·exact inl (inl h1)
 ·exact inl (inr (inl h1))
 rcases hat with h2|h2
 ·exact inl (inr (inr (h2.symm.trans h1)))
 rw [h2]at h1;cases h1;exact inr hsz
theorem zQ(W:World)(B:Nat)(n:Int)(hb:W.cell? ⟨B,0,none⟩=some (.int .i64 n))(b:Nat)(r:Rt)(pv mv:Value)(h:dK W b r pv mv) :
  Calls prog 272 (#[ay b 0]++#[ay B 0]) W (ic b pv mv W (fV n r)):=by
 have HR:=ae h;obtain⟨ma,mc,hmv⟩:=bi h.marks;have c3:W.cell? ⟨b,3,none⟩=some mv:=af h.blk;have z3:W.frozen? ⟨b,3,none⟩=false:=ak h.blk;have hbl:=ai h.blk;have hBl:B<W.heap.size:=dD hb;have n2:=h.n2;have BA:=ae (λ(W1:World) (hW:Below W.heap.size W W1)=>DT W1 mv r.marks n (ap h.marks (λ k e=>hW.block k (h.marks.lt k e).2)) h.srt (by omega));have hple:=tQ r.marks n;cases hc:r.marks.contains n with
 | true =>
  have EQ:=ae (show fV n r=(r,0)by rw [fV,aC hc]);rw [hc]at BA;clear h hc;subst hmv;go_enter func272,ntmps272;go_wp2_with fail;go_region_with (go_at_call 273;refine((ab BA) _ (aX _ _).drew).mono ?_;rintro e w1 ⟨rfl,hq⟩;have hbw:Below W.heap.size W w1:=(by obtain⟨q,rfl⟩:=hq;exact below_drewN (aX _ _).drew q);have y3:=(hbw.cell (p:=⟨b,3,none⟩) hbl).trans c3;have yb:=(hbw.cell (p:=⟨B,0,none⟩) hBl).trans hb;have AA:=ae hbw;clear hbw hq)
  all_goals
   go_wp2_with fail;go_ret;rw [ab EQ];exact⟨rfl,_,_,(ab HR).below (ab AA),Fr.of_below (ab AA)⟩
 | false =>
  by_cases hl:r.marks.length=8
  ·have EQ:=ae (show fV n r=(r,3)by rw [fV,au (by rw [hc];simp),aC hl]);rw [hc]at BA;have CA:=ae hl;clear h hc hl;subst hmv;go_enter func272,ntmps272;go_wp2_with fail;go_region_with (go_at_call 273;refine((ab BA) _ (aX _ _).drew).mono ?_;rintro e w1 ⟨rfl,hq⟩;have hbw:Below W.heap.size W w1:=(by obtain⟨q,rfl⟩:=hq;exact below_drewN (aX _ _).drew q);have y3:=(hbw.cell (p:=⟨b,3,none⟩) hbl).trans c3;have yb:=(hbw.cell (p:=⟨B,0,none⟩) hBl).trans hb;have AA:=ae hbw;clear hbw hq)
   all_goals
    have hl':((r.marks.length:Nat):Int)=8:=by have:=ab CA;omega
    go_wp2_with fail;go_ret;rw [ab EQ];exact⟨rfl,_,_,(ab HR).below (ab AA),Fr.of_below (ab AA)⟩
  obtain⟨L,hL⟩:∃ L,r.marks.take (ce r.marks n)++n::r.marks.drop (ce r.marks n)=L:=⟨_,rfl⟩
  have EQ:=ae (show fV n r=({ r with marks:=L },0)by rw [fV,au (by rw [hc];simp),au hl,hL]);rw [hc]at BA;have EA:=ae (show L.Pairwise (· < ·)by rw [<-hL];exact nX h.srt (x:=n) (by simpa using hc));have DA:=ae (show L.length<=8 by rw [<-hL,fg];omega);have hl':¬((r.marks.length:Nat):Int)=8:=by omega
  have HI:=ae (λ(W1:World) (hW:Below W.heap.size W W1) (vb:Nat) (hvb:W1.heap[vb]?=some (.cells #[.int .i64 n] 3 (0,0))) (hge:W.heap.size<=vb) =>
   Dz W1 mv r.marks (ce r.marks n) n vb (ap h.marks (λ k e=>hW.block k (h.marks.lt k e).2)) hple (by omega) hvb (λ e=>by have:=(h.marks.lt _ e).2;omega))
  rw [hL]at HI;clear h hc hL;subst hmv;go_enter func272,ntmps272;go_wp2_with fail;go_region_with (go_at_call 273;refine((ab BA) _ (aX _ _).drew).mono ?_;rintro e w1 ⟨rfl,hq⟩;have hbw:Below W.heap.size W w1:=(by obtain⟨q,rfl⟩:=hq;exact below_drewN (aX _ _).drew q);have y3:=(hbw.cell (p:=⟨b,3,none⟩) hbl).trans c3;have yb:=(hbw.cell (p:=⟨B,0,none⟩) hBl).trans hb;have yz:=(World.frozen?_of_block (a:=⟨b,3,none⟩) (hbw.block b hbl)).trans z3;have AA:=ae hbw;clear hbw hq)
  all_goals
   have hws:=(ab AA).size;have hbl1:b<w1.heap.size:=by omega
   have hBl1:B<w1.heap.size:=by omega
   go_wp2_with fail;go_region_with (go_at_call 274;refine((ab HI) _ (((ab AA).alloc hws _).drew) w1.heap.size (cN w1 _) hws).mono ?_;rintro e w2 ⟨v',rfl,ho,hg,hat⟩;obtain⟨fa,fc,hf⟩:=bi ho;have HX:=ae ((ab HR).insM ((ab AA).alloc hws (.cells #[.int .i64 n] 3)).drew (ab DA) (ab EA) ho hg hat);have hbb:w2.heap[b]?=W.heap[b]?:=(hg.block b (by simp;omega) (λ e=>(ab HR).ne2 e.symm)).trans (((ab AA).alloc hws (.cells #[.int .i64 n] 3)).drew.block b hbl);have x3:w2.cell? ⟨b,3,none⟩=some (.slice ma r.marks.length mc):=(World.cell?_of_block (a:=⟨b,3,none⟩) hbb).trans c3;have xz:w2.frozen? ⟨b,3,none⟩=false:=(World.frozen?_of_block (a:=⟨b,3,none⟩) hbb).trans z3;clear ho hg hat hbb;subst hf)
   all_goals
    go_wp2_with fail;go_ret;rw [ab EQ];exact⟨rfl,pv,_,(ab HX).1,(ab HX).2⟩
theorem xw(W:World)(B:Nat)(n:Int)(hb:W.cell? ⟨B,0,none⟩=some (.int .i64 n))(b:Nat)(r:Rt)(pv mv:Value)(h:dK W b r pv mv) :
  Calls prog 276 (#[ay b 0]++#[ay B 0]) W (ic b pv mv W (el n r)):=by
 have HR:=ae h;obtain⟨ma,mc,hmv⟩:=bi h.marks;have c3:W.cell? ⟨b,3,none⟩=some mv:=af h.blk;have z3:W.frozen? ⟨b,3,none⟩=false:=ak h.blk;have hbl:=ai h.blk;have hBl:B<W.heap.size:=dD hb;have n2:=h.n2;have BA:=ae (λ(W1:World) (hW:Below W.heap.size W W1)=>DT W1 mv r.marks n (ap h.marks (λ k e=>hW.block k (h.marks.lt k e).2)) h.srt (by omega));have hple:=tQ r.marks n;cases hc:r.marks.contains n with
 | false =>
  have EQ:=ae (show el n r=(r,0)by rw [el,au (by rw [hc];simp)]);rw [hc]at BA;clear h hc;subst hmv;go_enter func276,ntmps276;go_wp2_with fail;go_region_with (go_at_call 273;refine((ab BA) _ (aX _ _).drew).mono ?_;rintro e w1 ⟨rfl,hq⟩;have hbw:Below W.heap.size W w1:=(by obtain⟨q,rfl⟩:=hq;exact below_drewN (aX _ _).drew q);have y3:=(hbw.cell (p:=⟨b,3,none⟩) hbl).trans c3;have yb:=(hbw.cell (p:=⟨B,0,none⟩) hBl).trans hb;have AA:=ae hbw;clear hbw hq)
  all_goals
   go_wp2_with fail;go_ret;rw [ab EQ];exact⟨rfl,_,_,(ab HR).below (ab AA),Fr.of_below (ab AA)⟩
 | true =>
  have EQ:=ae (show el n r=({ r with marks:=r.marks.erase n },0)by rw [el,aC hc]);rw [hc]at BA;have hin:n∈r.marks:=by simpa using hc
  have DA:=ae (h.srt.erase n);have CA:=ae (List.length_erase_le (a:=n) (l:=r.marks));have HI:=ae (λ(W1:World) (hW:Below W.heap.size W W1)=>Kh W1 mv r.marks n (ap h.marks (λ k e=>hW.block k (h.marks.lt k e).2)) h.srt hin);clear h hc hin;subst hmv;go_enter func276,ntmps276;go_wp2_with fail;go_region_with (go_at_call 273;refine((ab BA) _ (aX _ _).drew).mono ?_;rintro e w1 ⟨rfl,hq⟩;have hbw:Below W.heap.size W w1:=(by obtain⟨q,rfl⟩:=hq;exact below_drewN (aX _ _).drew q);have y3:=(hbw.cell (p:=⟨b,3,none⟩) hbl).trans c3;have yb:=(hbw.cell (p:=⟨B,0,none⟩) hBl).trans hb;have yz:=(World.frozen?_of_block (a:=⟨b,3,none⟩) (hbw.block b hbl)).trans z3;have AA:=ae hbw;clear hbw hq)
  all_goals
   have hws:=(ab AA).size;go_wp2_with fail;go_wp2_with (go_at_call 277;refine((ab HI) _ (ab AA)).mono ?_;rintro e w2 ⟨v',rfl,ho,hg,hat⟩;obtain⟨fa,fc,hf⟩:=bi ho;have HX:=ae ((ab HR).insM (ab AA) (kr (ab CA) n2) (ab DA) ho hg hat);have hbb:w2.heap[b]?=W.heap[b]?:=(hg.block b (by omega) (λ e=>(ab HR).ne2 e.symm)).trans ((ab AA).block b hbl);have x3:w2.cell? ⟨b,3,none⟩=some (.slice ma r.marks.length mc):=(World.cell?_of_block (a:=⟨b,3,none⟩) hbb).trans c3;have xz:w2.frozen? ⟨b,3,none⟩=false:=(World.frozen?_of_block (a:=⟨b,3,none⟩) hbb).trans z3;clear ho hg hat hbb;subst hf)
   all_goals
    go_wp2_with fail;go_ret;rw [ab EQ];exact⟨rfl,pv,_,(ab HX).1,(ab HX).2⟩
theorem Tryz.entPut:Enters prog 272:=enters_of func272 (by kernel_rfl) rfl
theorem Tryz.entDrop:Enters prog 276:=enters_of func276 (by kernel_rfl) rfl
theorem xP(w:World)(n:Int) :
  Calls prog 223 #[.int .i64 n] w λ e w'=>e=.returned (.func (.func 272) #[] #[ay w.heap.size 0])/\w'=w.alloc (aF (.int .i64 n) 3):=by
 have hmf:∀(fn:Fn) (first cap:Array Value) (w:World),(Instr.makeFunc fn first cap).run prog w=.ok (.func fn first cap) w:=λ _ _ _ _=>rfl
 go_enter func223,ntmps223;go_wp2_with fail;go_ret;exact⟨rfl,rfl⟩
theorem xQ:kY 223 fV:=by
 intro w n A hA;refine(xP w n).mono ?_;rintro e w' ⟨rfl,rfl⟩;refine⟨_,rfl,rfl,az.new (λ k=>k=w.heap.size) (λ k hk=>⟨by subst hk;simp,hA k (by omega)⟩) (λ W hW hk=>?_)⟩;exact⟨_,_,rfl,Tryz.entPut,λ b r pv mv hr _=>zQ W _ n (lS (hk _ rfl) (cN w _)) b r pv mv hr⟩
theorem uU(w:World)(n:Int) :
  Calls prog 225 #[.int .i64 n] w λ e w'=>e=.returned (.func (.func 276) #[] #[ay w.heap.size 0])/\w'=w.alloc (aF (.int .i64 n) 3):=by
 have hmf:∀(fn:Fn) (first cap:Array Value) (w:World),(Instr.makeFunc fn first cap).run prog w=.ok (.func fn first cap) w:=λ _ _ _ _=>rfl
 go_enter func225,ntmps225;go_wp2_with fail;go_ret;exact⟨rfl,rfl⟩
theorem uV:kY 225 el:=by
 intro w n A hA;refine(uU w n).mono ?_;rintro e w' ⟨rfl,rfl⟩;refine⟨_,rfl,rfl,az.new (λ k=>k=w.heap.size) (λ k hk=>⟨by subst hk;simp,hA k (by omega)⟩) (λ W hW hk=>?_)⟩;exact⟨_,_,rfl,Tryz.entDrop,λ b r pv mv hr _=>xw W _ n (lS (hk _ rfl) (cN w _)) b r pv mv hr⟩
