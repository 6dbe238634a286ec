/- part -/
import Derived.Test.YtphhnjljlllnlaaGreatDoorHsH
namespace Go.Proofs.YtphhnjljlllnlaaGreatDoor
open Go.Proofs.Tryz
open Or
open Go Go.RowKit Go.Sort Go.Shelf
structure kH(x2 x3 x4 x5:Value)(w wr:World)(l:List (Int×Int)×List (Int×Int))(vg vn:Value):Prop where
 blk:wr.heap[w.heap.size]?=some (.cells #[vg,vn,x2,x3,x4,x5] 87 (0,0))
 og:cQ wr (w.heap.size+1) vg l.1
 on:cQ wr (w.heap.size+1) vn l.2
 ap:hZ vg vn
 be:Below w.heap.size w wr
theorem kH.next{x2 x3 x4 x5:Value}{w wr w':World}{l:List (Int×Int)×List (Int×Int)}{vg vn:Value}(h:kH x2 x3 x4 x5 w wr l vg vn)(hb:Below wr.heap.size wr w'):kH x2 x3 x4 x5 w w' l vg vn :=
 ⟨(hb.block _ (ah h.blk)).trans h.blk,ay h.og (λ k hk=>hb.block k (h.og.lt k hk).2),ay h.on (λ k hk=>hb.block k (h.on.lt k hk).2),h.ap,h.be.trans (hb.mono h.be.size)⟩
theorem kH.start(x2 x3 x4 x5:Value)(w:World):kH x2 x3 x4 x5 w (w.alloc (.cells #[.slice none 0 0,.slice none 0 0,x2,x3,x4,x5] 87)) ([],[]) (.slice none 0 0) (.slice none 0 0) :=
 ⟨cM w _,i7 _ _ _ _,i7 _ _ _ _,λ k hk=>by simp [Value.ownBlock]at hk,(aY _ _).alloc (aL _) _⟩
theorem kH.far{x2 x3 x4 x5:Value}{w W wn:World}{l:List (Int×Int)×List (Int×Int)}{vg vn v:Value}{o:Obj}(_h:kH x2 x3 x4 x5 w W l vg vn)(_hv:v=vg\/v=vn)(hgrow:(W.alloc o).grownBy wn v.ownBlock){k:Nat}(hk:k<W.heap.size)(hne:some k≠v.ownBlock):wn.heap[k]?=W.heap[k]?:=by
 rw [hgrow.block k (by simp;omega) hne,mC _ _ _ hk]
theorem kH.notU{x2 x3 x4 x5:Value}{w W:World}{l:List (Int×Int)×List (Int×Int)}{vg vn v:Value}(h:kH x2 x3 x4 x5 w W l vg vn)(hv:v=vg\/v=vn):some w.heap.size≠v.ownBlock:=by
 intro e;rcases hv with rfl|rfl
 ·have:=(h.og.lt _ e.symm).1;omega
 have:=(h.on.lt _ e.symm).1;omega
theorem kH.blkN{x2 x3 x4 x5:Value}{w W wn:World}{l:List (Int×Int)×List (Int×Int)}{vg vn v:Value}{o:Obj}(h:kH x2 x3 x4 x5 w W l vg vn)(hv:v=vg\/v=vn)(hgrow:(W.alloc o).grownBy wn v.ownBlock) :
  wn.heap[w.heap.size]?=some (.cells #[vg,vn,x2,x3,x4,x5] 87 (0,0)) :=
 (h.far hv hgrow (ah h.blk) (h.notU hv)).trans h.blk
theorem kH.pushG{x2 x3 x4 x5:Value}{w W wn:World}{l:List (Int×Int)×List (Int×Int)}{vg vn:Value}{o:Obj}{X:Int×Int}{gg cap:Nat}(h:kH x2 x3 x4 x5 w W l vg vn)
  (hown:wn.ownsRow (w.heap.size+1) 63 2 (.slice (some ⟨gg,0,none⟩) (l.1.length+1) cap) (l.1.length+1) (bu l.1++[.int .i64 X.1,.int .i64 X.2]))
  (hgrow:(W.alloc o).grownBy wn vg.ownBlock) (hat:vg.ownBlock=some gg\/gg=W.heap.size+1) :
  kH x2 x3 x4 x5 w (wn.setCell ⟨w.heap.size,0,none⟩ (.slice (some ⟨gg,0,none⟩) (l.1.length+1) cap)) (l.1++[X],l.2) (.slice (some ⟨gg,0,none⟩) (l.1.length+1) cap) vn:=by
 have hg:=(hown.lt gg rfl).1
 have hvn:∀ k,vn.ownBlock=some k->w.heap.size+1<=k/\k<W.heap.size/\some k≠vg.ownBlock:=λ k hk=>by
  have:=h.on.lt k hk;exact⟨this.1,this.2,λ e=>h.ap k e.symm hk⟩
 refine⟨aV (h.blkN (inl rfl) hgrow),cQ.push rfl (ay hown (λ k hk=>ai (by have:=(hown.lt k hk).1;simp only;omega))),?_,?_,?_⟩
 ·exact ay h.on (λ k hk=>(ai (by have:=(hvn k hk).1;simp only;omega)).trans (h.far (inl rfl) hgrow (hvn k hk).2.1 (hvn k hk).2.2))
 ·intro k hk hk2;have e:gg=k:=by simpa [Value.ownBlock]using hk
  subst e;rcases hat with h1|h1
  ·exact h.ap gg h1 hk2
  have:=(hvn gg hk2).2.1;omega
 have hs:=h.be.size;exact((h.be.alloc hs o).grown hgrow (by simp;omega) (λ k hk=>by have:=(h.og.lt k hk).1;omega)).setCell (aL _) _
theorem kH.pushN{x2 x3 x4 x5:Value}{w W wn:World}{l:List (Int×Int)×List (Int×Int)}{vg vn:Value}{o:Obj}{X:Int×Int}{gg cap:Nat}(h:kH x2 x3 x4 x5 w W l vg vn)
  (hown:wn.ownsRow (w.heap.size+1) 63 2 (.slice (some ⟨gg,0,none⟩) (l.2.length+1) cap) (l.2.length+1) (bu l.2++[.int .i64 X.1,.int .i64 X.2]))
  (hgrow:(W.alloc o).grownBy wn vn.ownBlock) (hat:vn.ownBlock=some gg\/gg=W.heap.size+1) :
  kH x2 x3 x4 x5 w (wn.setCell ⟨w.heap.size,1,none⟩ (.slice (some ⟨gg,0,none⟩) (l.2.length+1) cap)) (l.1,l.2++[X]) vg (.slice (some ⟨gg,0,none⟩) (l.2.length+1) cap):=by
 have hg:=(hown.lt gg rfl).1
 have hvn:∀ k,vg.ownBlock=some k->w.heap.size+1<=k/\k<W.heap.size/\some k≠vn.ownBlock:=λ k hk=>by
  have:=h.og.lt k hk;exact⟨this.1,this.2,λ e=>h.ap k hk e.symm⟩
 refine⟨aV (h.blkN (inr rfl) hgrow),?_,cQ.push rfl (ay hown (λ k hk=>ai (by have:=(hown.lt k hk).1;simp only;omega))),?_,?_⟩
 ·exact ay h.og (λ k hk=>(ai (by have:=(hvn k hk).1;simp only;omega)).trans (h.far (inr rfl) hgrow (hvn k hk).2.1 (hvn k hk).2.2))
 ·intro k hk hk2;have e:gg=k:=by simpa [Value.ownBlock]using hk2
  subst e;rcases hat with h1|h1
  ·exact h.ap gg hk h1
  have:=(hvn gg hk).2.1;omega
 have hs:=h.be.size;exact((h.be.alloc hs o).grown hgrow (by simp;omega) (λ k hk=>by have:=(h.on.lt k hk).1;omega)).setCell (aL _) _
theorem jZ{n0:Nat}{w0 w:World}{hb sb ip op pb cap base:Nat}{ch cs:Array Value}{st:List HP}{ps ps':List aW}{mi mo:List aJ}{v:Value}{T:List TV}(hN:n0=w0.heap.size)(hD:iS w0 35)(hg:gh mo)
  (hB:bJ n0 w0 w hb sb ip op pb cap ch st cs ps') (hM:Mid mi mo st ps) (hv:∀ p∈ps,p.view.length<=64) (hT:eC w base v T) (hTm:T.map (λ x=>(x.peer,x.m))=fh (cX (ps.map (·.rts))) 0 ps) (hl:ps'.length=ps.length)
  (ht:∀ i (hi:i<ps.length) (hi':i<ps'.length),tf (cX (ps.map (·.rts))) i ps[i] ps'[i]) :
  Calls prog 17 #[.pointer (some ⟨hb,0,none⟩),v] w λ e w'=>e=.returned (.bool true)/\∃ ch' st',bJ n0 w0 w' hb sb ip op pb cap ch' st' cs ps'/\Cj mi mo st' ps':=by
 have hr:∀ i (hi:i<ps.length),ps[i].rts.length<=16/\∀ y∈ps[i].rts,dh y.r=true:=λ i hi=>by
  obtain⟨l,e,_⟩:=ht i hi (by omega);have ok:=hB.sp.ok ps'[i] (ej (by omega));rw [e]at ok;exact⟨ok.few,λ y hy=>(ok.rows y hy).2⟩
 have hok:∀ x∈cX (ps.map (·.rts)),dh x.r=true:=λ x hx=>by
  obtain⟨j,hj,y,hy,rfl⟩:=nI hx;rw [List.getElem_map]at hy;rw [List.length_map]at hj;exact(hr j hj).2 y hy
 have hbl:(cX (ps.map (·.rts))).length<=48:=by
  have:=qM (ps:=ps.map (·.rts)) (n:=16) (λ l hl=>by
   obtain⟨p,hp,rfl⟩:=List.mem_map.1 hl;obtain⟨i,hi,rfl⟩:=List.getElem_of_mem hp;exact(hr i hi).1)
  rw [List.length_map,hM.n]at this;omega
 have hTl:T.length<=336:=by
  have h1:=jC List.length hTm;rw [List.length_map]at h1;have h2:=rk (n:=64) hbl (ps:=ps) (i:=0) hv;rw [hM.n]at h2;omega
 obtain⟨ok1,_⟩:=hM.okS hg hok
 have hvl:∀ p∈st,p.view.length+T.length<=1000:=λ p hp=>by
  obtain⟨i,hi,rfl⟩:=List.getElem_of_mem hp;have hi':i<ps.length:=by have:=hM.n;have:=hM.ns;omega
  have h1:=(hM.view i hi hi').length_eq;rw [List.length_map,List.length_map]at h1;have h2:=hv ps[i] (ej hi');omega
 refine(Ga hN hD hB.sp.bel hB.hs hT (by omega) (by rw [show T.map yy=_ from hTm];exact ok1) hvl).mono ?_;rintro e w' ⟨rfl,cs2,st2,hS,hF,htab,hu,hrt,hvw⟩;refine⟨rfl,cs2,st2,hB.heard hF hS htab,hM.heard hg hok hl ht ?_ hu hrt ?_⟩
 ·have:=jC List.length hu;simpa using this
 rw [hvw,show T.map yy=_ from hTm]
theorem bJ.put{n0 nb p:Nat}{w0 wr w7:World}{hb sb ip op pb cap:Nat}{chk cs:Array Value}{st:List HP}{ps:List aW}{l l2:List Rv}{v':Value}(hp:p<st.length)
  (h:bJ n0 w0 wr hb sb ip op pb cap chk (st.set p { st[p]with rts:=l }) cs ps) (hb7:Below wr.heap.size wr w7) (ht:bS w7 nb v' l2) (hnb:wr.heap.size<=nb) (hr:∀ y∈l2,bK w7 y/\dh y.r=true) (hl:l2.length<=200) :
  bJ n0 w0 (w7.setCell ⟨hb,6+p,none⟩ v') hb sb ip op pb cap (chk.setIfInBounds (6+p) v') (st.set p { st[p]with rts:=l2 }) cs ps/\(∀ k,dJ (chk.setIfInBounds (6+p) v') k->dJ chk k\/wr.heap.size<=k):=by
 have hlo:=h.hs.lo;have hlt:=ah h.hs.blk
 have htb:∀ k,dJ (chk.setIfInBounds (6+p) v') k->dJ chk k\/wr.heap.size<=k:=λ k hk=>by
  rcases hk.set with hk|hk
  ·exact inl hk
  have:=(ht.lt k hk).1;exact inr (by omega)
 have hS:=(h.hs.below hb7).setRts (i:=p) (by rw [List.length_set];exact hp) (aZ ht (by omega)) hr hl;rw [List.set_set,List.getElem_set_self]at hS;have hf:Fr (· = hb) wr (· = hb) (w7.setCell ⟨hb,6+p,none⟩ v'):=Fr.setCell (O:=(· = hb)) (O':=(· = hb)) (Fr.of_below hb7) (p:=⟨hb,6+p,none⟩) (inl rfl) v';exact⟨h.heard hf hS htb,htb⟩
theorem bJ.route{n0:Nat}{w0 w:World}{hb sb ip op pb cap:Nat}{ch cs:Array Value}{st:List HP}{ps:List aW}(h:bJ n0 w0 w hb sb ip op pb cap ch st cs ps){rb o:Nat}{x:Value}{c:Array Value}(hr:w.heap[rb]?=some (.cells c 65 (0,0)))(hn:n0<=rb)(h1:¬dJ ch rb)(h2:¬dA pb cs ps.length rb) :
  bJ n0 w0 (w.setCell ⟨rb,o,none⟩ x) hb sb ip op pb cap ch st cs ps:=by
 refine⟨h.hs.keep λ k ob ho hk=>(ai λ e=>?_).trans ho,h.sp.keep (h.sp.bel.setCell hn _) λ k ob ho hk=>(ai λ e=>?_).trans ho,h.ap⟩
 ·have e:k=rb:=e;rw [e]at hk ho;rw [hr]at ho;cases ho
  rcases hk with e2|hk|⟨cur,e2⟩
  ·have:=h.hs.blk;rw [<-e2,hr]at this;cases this
  ·exact h1 hk
  cases e2
 have e:k=rb:=e;rw [e]at hk ho;rw [hr]at ho;cases ho
 rcases hk with e2|hk|⟨cur,e2⟩
 ·have:=h.sp.spk;rw [<-e2,hr]at this;cases this
 ·exact h2 hk
 cases e2
theorem eC.keepT{w w':World}{base:Nat}{v:Value}{T:List TV}(h:eC w base v T){O O':Nat->Prop}(hf:Fr O w O' w')(ho:∀ k,O k->∃ c t,w.heap[k]?=some (.cells c t (0,0))/\(t=37\/t=65)):eC w' base v T:=by
 refine h.fr (λ k e=>hf.block k (h.row.lt k e).2 λ e2=>?_) λ x hx k e=>hf.block k ((h.bytes x hx).1.lt k e).2 λ e2=>?_
 ·obtain⟨c,t,hc,ht⟩:=ho k e2;obtain⟨cur,hc2⟩:=own_typed h.row e;rw [hc]at hc2;cases hc2
  rcases ht with ht|ht<;>cases ht
 obtain⟨c,t,hc,ht⟩:=ho k e2;obtain⟨cur,hc2⟩:=own_typed (h.bytes x hx).1 e;rw [hc]at hc2;cases hc2
 rcases ht with ht|ht<;>cases ht
structure sW(b ub:Nat)(W:World)(vg vn vp vm:Value)(u:fI):Prop where
 lo:b<=ub
 blk:W.heap[ub]?=some (.cells #[vg,vn,vp,vm,.int .i64 u.pref,.int .i64 u.med] 87 (0,0))
 og:cQ W (ub+1) vg u.gone
 on:cQ W (ub+1) vn u.nets
 op:W.ownsRow b 3 1 vp u.path.length (aB u.path)
 om:W.ownsRow b 3 1 vm u.marks.length (aB u.marks)
theorem sW.keep{b ub:Nat}{W W':World}{vg vn vp vm:Value}{u:fI}(h:sW b ub W vg vn vp vm u)(hk:∀ k,b<=k->k<W.heap.size->W'.heap[k]?=W.heap[k]?):sW b ub W' vg vn vp vm u:=by
 have hlo:=h.lo;exact⟨h.lo,(hk ub h.lo (ah h.blk)).trans h.blk,ay h.og (λ k e=>hk k (by have:=(h.og.lt k e).1;omega) (h.og.lt k e).2),ay h.on (λ k e=>hk k (by have:=(h.on.lt k e).1;omega) (h.on.lt k e).2),ay h.op (λ k e=>hk k (h.op.lt k e).1 (h.op.lt k e).2),ay h.om (λ k e=>hk k (h.om.lt k e).1 (h.om.lt k e).2)⟩
theorem bJ.spared{n0:Nat}{w0 w wE wF:World}{hb sb ip op pb cap:Nat}{ch:Array Value}{st:List HP}{cs cs':Array Value}{ps:List aW}(h:bJ n0 w0 w hb sb ip op pb cap ch st cs ps)(hf:Fr (dA pb cs ps.length) wE (dA pb cs' ps.length) wF):∀ k,w.heap.size<=k->k<wE.heap.size->wF.heap[k]?=wE.heap[k]?:=λ k h1 h2 =>
 hf.block k h2 λ e=>by
  obtain⟨_,c,T,hc,_⟩:=h.sp.own_typed e;have:=ah hc;omega
def KM(L:List (Int×Int)×List (Int×Int))(p m:List Int)(a b:Int):fI:=if L.2.length=0 then⟨L.1,[],[],[],0,0⟩else⟨L.1,L.2,p,m,a,b⟩
theorem Nq(gone nets r:List Int)(k:Nat)(hk:k<=6):eW (KM (gS gone nets k) (fE (r.drop 3) (aw (cF r 1) 6).toNat) (cU (r.drop 6) (aw (cF r 2) 5).toNat) (aw (cF r 3) 4) (aw (cF r 4) 5)):=by
 obtain⟨h1,h2,h3⟩:=Bd gone nets k;have p1:=aN (c:=cF r 1) (n:=6) (by omega);have p2:=aN (c:=cF r 2) (n:=5) (by omega);have p3:=aN (c:=cF r 3) (n:=4) (by omega);have p4:=aN (c:=cF r 4) (n:=5) (by omega);generalize gS gone nets k=s at h1 h2 h3;have hno:kI (s.1++s.2):=⟨by rw [List.length_append];omega,λ x hx=>(h3 x hx).1,h1⟩
 unfold KM;split
 ·rename_i hz;have hz2:s.2=[]:=List.length_eq_zero_iff.1 hz;rw [hz2]at hno;exact⟨hno,⟨by simp,by simp⟩,⟨by simp,iO _⟩,(show iE (0:Int)from⟨by decide,by decide⟩),(show iE (0:Int)from⟨by decide,by decide⟩),inr ⟨rfl,rfl,rfl,rfl⟩⟩
 rename_i hz;exact⟨hno,J0 _ (by omega),Gr _ (by omega),⟨p3.1,by simp only;omega⟩,⟨p4.1,by simp only;omega⟩,inl λ e=>hz (by rw [show s.2=[]from e];rfl)⟩
theorem sW.reads{b ub:Nat}{W:World}{vg vn vp vm:Value}{u:fI}(h:sW b ub W vg vn vp vm u)(hm:eW u) :
  cd W vg u.gone/\cd W vn u.nets/\aA W vp u.path/\aA W vm u.marks/\eN u.pref/\eN u.med:=by
 obtain⟨⟨h1,h2,_⟩,hp,hmk,h5,h4,_⟩:=hm;simp only [List.length_append]at h1;refine⟨h.og.at_ (λ x hx=>AJ (h2 x (by simp [hx]))) (by omega),h.on.at_ (λ x hx=>AJ (h2 x (by simp [hx]))) (by omega),aA.own h.op (xl hp) (by have:=hp.1;omega),aA.own h.om (us hmk) (by have:=hmk.1;omega),?_,?_⟩
 ·have:=h5;unfold iE at this;unfold eN;omega
 have:=h4;unfold iE at this;unfold eN;omega
theorem sW.keepR{b ub rb:Nat}{W W':World}{vg vn vp vm:Value}{u:fI}{c:Array Value}(h:sW b ub W vg vn vp vm u)(hrb:W.heap[rb]?=some (.cells c 65 (0,0)))(hk:∀ k,b<=k->k<W.heap.size->k≠rb->W'.heap[k]?=W.heap[k]?):sW b ub W' vg vn vp vm u:=by
 have hlo:=h.lo;refine⟨h.lo,(hk ub h.lo (ah h.blk) λ e=>?_).trans h.blk,ay h.og (λ k e=>hk k (by have:=(h.og.lt k e).1;omega) (h.og.lt k e).2 λ e2=>?_),ay h.on (λ k e=>hk k (by have:=(h.on.lt k e).1;omega) (h.on.lt k e).2 λ e2=>?_),ay h.op (λ k e=>hk k (h.op.lt k e).1 (h.op.lt k e).2 λ e2=>?_),ay h.om (λ k e=>hk k (h.om.lt k e).1 (h.om.lt k e).2 λ e2=>?_)⟩
 ·have:=h.blk;rw [e,hrb]at this;cases this
 ·obtain⟨cur,hc⟩:=own_typed h.og e;rw [e2,hrb]at hc;cases hc
 ·obtain⟨cur,hc⟩:=own_typed h.on e;rw [e2,hrb]at hc;cases hc
 ·obtain⟨cur,hc⟩:=own_typed h.op e;rw [e2,hrb]at hc;cases hc
 obtain⟨cur,hc⟩:=own_typed h.om e;rw [e2,hrb]at hc;cases hc
structure vG(n0:Nat)(w0 wF wr:World)(hb sb ip op pb cap rb:Nat)(ch chk:Array Value)(st':List HP)(cs:Array Value)(ps:List aW)(v2 v3:Value)(a b x0 x1:Int):Prop where
 both:bJ n0 w0 wr hb sb ip op pb cap chk st' cs ps
 fr:Fr (λ k=>k=hb\/k=rb) wF (λ k=>k=hb\/k=rb) wr
 tab:∀ k,dJ chk k->dJ ch k\/wF.heap.size<=k
 blk:wr.heap[rb]?=some (.cells #[.int .i64 x0,.int .i64 x1,v2,v3,.int .i64 a,.int .i64 b] 65 (0,0))
structure Fj(n0:Nat)(wF:World)(hb pb rb:Nat)(ch cs:Array Value)(n:Nat):Prop where
 lo:n0<=rb
 lt:rb<wF.heap.size
 tab:¬dJ ch rb
 own:¬dA pb cs n rb
 ht:∃ c,wF.heap[hb]?=some (.cells c 37 (0,0))
 rt:∃ c,wF.heap[rb]?=some (.cells c 65 (0,0))
section
variable {n0:Nat} {w0 wF wr:World} {hb sb ip op pb cap rb:Nat} {ch chk:Array Value} {st':List HP} {cs:Array Value} {ps:List aW} {v2 v3:Value} {a b x0 x1:Int}
theorem vG.net(h:vG n0 w0 wF wr hb sb ip op pb cap rb ch chk st' cs ps v2 v3 a b x0 x1)(hx:Fj n0 wF hb pb rb ch cs ps.length)(y:Int×Int) :
  vG n0 w0 wF ((wr.setCell ⟨rb,0,none⟩ (.int .i64 y.1)).setCell ⟨rb,1,none⟩ (.int .i64 y.2)) hb sb ip op pb cap rb ch chk st' cs ps v2 v3 a b y.1 y.2:=by
 have hnt:¬dJ chk rb:=λ e=>by
  rcases h.tab rb e with e|e
  ·exact hx.tab e
  have:=hx.lt;omega
 exact⟨(h.both.route h.blk hx.lo hnt hx.own).route (aV h.blk) hx.lo hnt hx.own,(h.fr.setCell (inl (inr rfl)) _).setCell (inl (inr rfl)) _,h.tab,by rw [aV (aV h.blk)];rfl⟩
theorem vG.ne(h:vG n0 w0 wF wr hb sb ip op pb cap rb ch chk st' cs ps v2 v3 a b x0 x1):rb≠hb:=λ e=>by
 have:=h.blk;rw [e,h.both.hs.blk]at this;cases this
theorem vG.ints(h:vG n0 w0 wF wr hb sb ip op pb cap rb ch chk st' cs ps v2 v3 a b x0 x1)(hx:Fj n0 wF hb pb rb ch cs ps.length){k:Nat}{cur:Array Value}(hk:wF.heap[k]?=some (.cells cur 3 (0,0))):wr.heap[k]?=wF.heap[k]? :=
 h.fr.block k (ah hk) λ e=>by
  rcases e with e|e
  ·obtain⟨c,hc⟩:=hx.ht;rw [<-e,hk]at hc;cases hc
  obtain⟨c,hc⟩:=hx.rt;rw [<-e,hk]at hc;cases hc
theorem vG.rv(h:vG n0 w0 wF wr hb sb ip op pb cap rb ch chk st' cs ps v2 v3 a b x0 x1)(hx:Fj n0 wF hb pb rb ch cs ps.length){y:Rv}(hy:bK wF y):bK wr y:=hy.fr λ _ _ ⟨_,hc⟩=>h.ints hx hc
theorem vG.ev(h:vG n0 w0 wF wr hb sb ip op pb cap rb ch chk st' cs ps v2 v3 a b x0 x1)(hx:Fj n0 wF hb pb rb ch cs ps.length){B ub:Nat}{vg vn vp vm:Value}{u:fI}(he:sW B ub wF vg vn vp vm u)(hB:hb<B):sW B ub wr vg vn vp vm u:=by
 obtain⟨c,hc⟩:=hx.rt;exact he.keepR hc λ k h1 h2 h3=>h.fr.block k h2 λ e=>by rcases e with e|e<;>omega
theorem vG.told(h:vG n0 w0 wF wr hb sb ip op pb cap rb ch chk st' cs ps v2 v3 a b x0 x1)(hx:Fj n0 wF hb pb rb ch cs ps.length){base:Nat}{v:Value}{T:List TV}(ht:eC wF base v T):eC wr base v T :=
 ht.keepT h.fr λ k hk=>by
  rcases hk with rfl|rfl
  ·obtain⟨c,hc⟩:=hx.ht;exact⟨c,_,hc,inl rfl⟩
  obtain⟨c,hc⟩:=hx.rt;exact⟨c,_,hc,inr rfl⟩
theorem vG.put{st:List HP}{p nb:Nat}{l l2:List Rv}{w7:World}{v':Value}(hp:p<st.length)(h:vG n0 w0 wF wr hb sb ip op pb cap rb ch chk (st.set p { st[p]with rts:=l }) cs ps v2 v3 a b x0 x1)(hb7:Below wr.heap.size wr w7)(ht:bS w7 nb v' l2)(hnb:wr.heap.size<=nb)(hr:∀ y∈l2,bK w7 y/\dh y.r=true)(hl:l2.length<=200) :
  vG n0 w0 wF (w7.setCell ⟨hb,6+p,none⟩ v') hb sb ip op pb cap rb ch (chk.setIfInBounds (6+p) v') (st.set p { st[p]with rts:=l2 }) cs ps v2 v3 a b x0 x1:=by
 obtain⟨h1,h2⟩:=h.both.put hp hb7 ht hnb hr hl;have hs:=h.fr.size;refine⟨h1,(h.fr.below hb7).setCell (inl (inl rfl)) _,λ k hk=>?_,(ai h.ne).trans ((hb7.block rb (ah h.blk)).trans h.blk)⟩;rcases h2 k hk with hk|hk
 ·exact h.tab k hk
 exact inr (by omega)
end
theorem Bb{l:List Rv}{X y:Rv}{gn:Bool}(hy:y∈oe l X gn):y∈l\/(gn=false/\y=X):=by
 unfold oe at hy;rcases List.mem_append.1 hy with hy|hy
 ·exact inl ((List.mem_filter.1 hy).1)
 cases gn with
 | true=>simp at hy
 | false=>simp at hy;exact inr ⟨rfl,hy⟩
theorem uL(l:List Rv)(X:Rv)(gn:Bool):(oe l X gn).length<=l.length+if gn then 0 else 1:=by
 unfold oe;rw [List.length_append];have:=List.length_filter_le (λ y:Rv=>!decide (y.net=X.net)) l;cases gn<;>simp<;>omega
