/- part -/
import Derived.Test.YtphhnjljlllnlaaGreatDoorHsG
import Derived.Test.YtphhnjljlllnlaaGreatDoorHuA
set_option maxRecDepth 100000
set_option maxHeartbeats 8000000
namespace Go.Proofs.YtphhnjljlllnlaaGreatDoor
open Go Go.RowKit Go.Sort Go.Shelf
structure bJ(n0:Nat)(w0 w:World)(hb sb ip op pb cap:Nat)(ch:Array Value)(st:List HP)(cs:Array Value)(ps:List aW):Prop where
 hs:gX n0 w hb sb ip op ch st
 sp:bG n0 w0 w sb pb cap cs ps
 ap:∀ k,dJ ch k->¬dA pb cs ps.length k
theorem bJ.below{n0:Nat}{w0 w w':World}{hb sb ip op pb cap:Nat}{ch:Array Value}{st:List HP}{cs:Array Value}{ps:List aW}(h:bJ n0 w0 w hb sb ip op pb cap ch st cs ps)(hb':Below w.heap.size w w'):bJ n0 w0 w' hb sb ip op pb cap ch st cs ps :=
 ⟨h.hs.below hb',h.sp.below hb',h.ap⟩
theorem bJ.hbNo{n0:Nat}{w0 w:World}{hb sb ip op pb cap:Nat}{ch:Array Value}{st:List HP}{cs:Array Value}{ps:List aW}(h:bJ n0 w0 w hb sb ip op pb cap ch st cs ps):¬dA pb cs ps.length hb/\hb≠sb:=by
 constructor
 ·intro e;obtain⟨_,c,T,hc,hT⟩:=h.sp.own_typed e;rw [h.hs.blk]at hc;cases hc
  rcases hT with hT|hT<;>cases hT
 intro e;have:=h.sp.spk;rw [<-e,h.hs.blk]at this;cases this
theorem bJ.spoke{n0:Nat}{w0 w w':World}{hb sb ip op pb cap:Nat}{ch:Array Value}{st:List HP}{cs cs':Array Value}{ps ps':List aW}(h:bJ n0 w0 w hb sb ip op pb cap ch st cs ps)(hl:ps'.length=ps.length)(hf:Fr (dA pb cs ps.length) w (dA pb cs' ps.length) w')(hs:bG n0 w0 w' sb pb cap cs' ps'):bJ n0 w0 w' hb sb ip op pb cap ch st cs' ps':=by
 refine⟨h.hs.keep λ k o ho hk=>(hf.block k (ah ho) λ e=>?_).trans ho,hs,λ k hk e=>?_⟩
 ·rcases hk with rfl|hk|⟨cur,rfl⟩
  ·exact h.hbNo.1 e
  ·exact h.ap k hk e
  obtain⟨_,c,T,hc,hT⟩:=h.sp.own_typed e;rw [ho]at hc;cases hc
  rcases hT with hT|hT<;>cases hT
 rw [hl]at e;rcases hf.own k e with e|e
 ·exact h.ap k hk e
 obtain⟨cur,hc⟩:=h.hs.typed hk;have:=ah hc;omega
theorem bJ.heard{n0:Nat}{w0 w w':World}{hb sb ip op pb cap:Nat}{ch ch':Array Value}{st st':List HP}{cs:Array Value}{ps:List aW}(h:bJ n0 w0 w hb sb ip op pb cap ch st cs ps)(hf:Fr (· = hb) w (· = hb) w')(hs:gX n0 w' hb sb ip op ch' st')(ht:∀ k,dJ ch' k->dJ ch k\/w.heap.size<=k):bJ n0 w0 w' hb sb ip op pb cap ch' st' cs ps:=by
 have hn:=h.hbNo;refine⟨hs,h.sp.keep ?_ λ k o ho hk=>(hf.block k (ah ho) λ e=>?_).trans ho,λ k hk e=>?_⟩
 ·have hb0:=h.sp.bel;have hlo:=h.hs.lo;exact⟨hf.os.trans hb0.os,hf.tape.trans hb0.tape,hf.output.trans hb0.output,gG hb0.size hf.size,λ k hk=>(hf.block k (by have:=h.sp.n0le;omega) (by omega)).trans (hb0.block k hk)⟩
 ·rcases hk with rfl|hk|⟨cur,rfl⟩
  ·exact hn.2 e.symm
  ·rw [e]at hk;exact hn.1 hk
  rw [e,h.hs.blk]at ho;cases ho
 rcases ht k hk with hk|hk
 ·exact h.ap k hk e
 obtain⟨_,c,T,hc,_⟩:=h.sp.own_typed e;have:=ah hc;omega
theorem uE(U:List Bool):∀(a b:List (Int×fI)) (V:List (List Rt)),okS U V a->okS U (a.foldl fg V) b->okS U V (a++b)
 | [],_,_,_,h=>h
 | _::a,b,_,h1,h2=>⟨h1.1,uE U a b _ h1.2 h2⟩
theorem OX(V:List (List Rt))(i:Nat)(x:List Rt)(h:i<V.length):(V.set i x).getD i []=x:=by
 rw [List.getD_eq_getElem?_getD,List.getElem?_set_self h];rfl
theorem OV(V:List (List Rt)){i j:Nat}(x:List Rt)(h:i≠j):(V.set i x).getD j []=V.getD j []:=by
 rw [List.getD_eq_getElem?_getD,List.getD_eq_getElem?_getD,List.getElem?_set_ne h]
theorem EW(U:List Bool)(i:Nat)(hi:i<3)(hU:U.getD i false=true):∀(ms:List fI) (V:List (List Rt)),i<V.length->(∀ m∈ms,m.gone.length+m.nets.length=1)->OE (V.getD i []) ms ->
  okS U V (ms.map λ m=>((i:Int),m))/\(ms.map λ m=>((i:Int),m)).foldl fg V=V.set i (ms.foldl jh (V.getD i []))
 | [],V,hV,_,_=>by
  refine⟨trivial,?_⟩;show V=V.set i (V.getD i []);rw [List.getD_eq_getElem?_getD,gW hV];exact(List.set_getElem_self hV).symm
 | m::ms,V,hV,h1,h2=>by
  have he:fg V ((i:Int),m)=V.set i (jh (V.getD i []) m):=by
   unfold fg;dsimp only;rw [Int.toNat_natCast]
  have ih:=EW U i hi hU ms (V.set i (jh (V.getD i []) m)) (by rw [List.length_set];exact hV) (λ x hx=>h1 x (List.mem_cons_of_mem _ hx)) (by rw [OX _ _ _ hV];exact h2.2);rw [OX _ _ _ hV,List.set_set]at ih;refine⟨⟨⟨i,rfl,hi,hU,h1 m (by simp),h2.1⟩,by rw [he];exact ih.1⟩,?_⟩;show(ms.map λ m=>((i:Int),m)).foldl fg (fg V ((i:Int),m))=V.set i (ms.foldl jh (jh (V.getD i []) m));rw [he];exact ih.2
theorem Li{f:Nat}{a b:List Rt}:∀ m∈pH f a b,m.gone.length+m.nets.length=1:=λ m hm=>by
 rcases lM f a b m hm with⟨x,_,rfl⟩|⟨y,_,rfl⟩<;>rfl
theorem vz(best:List Kp)(U:List Bool):∀(ps:List aW) (i:Nat) (V:List (List Rt)),i+ps.length<=3->V.length=3->(∀ k (h:k<ps.length),U.getD (i+k) false=ps[k].up) ->
  (∀ k (h:k<ps.length),gk (ps[k].view.map (·.r))/\gk (cA ps[k].mo ((i+k:Nat):Int) best)/\(V.getD (i+k) []).Perm (ps[k].view.map (·.r))) ->
  okS U V (fh best i ps)/\((fh best i ps).foldl fg V).length=3/\(∀ j,j<i->((fh best i ps).foldl fg V).getD j []=V.getD j [])/\∀ k (h:k<ps.length),(((fh best i ps).foldl fg V).getD (i+k) []).Perm (if ps[k].up then cA ps[k].mo ((i+k:Nat):Int) best else ps[k].view.map (·.r))
 | [],i,V,_,hV,_,_=>⟨trivial,hV,λ _ _=>rfl,λ k h=>by cases h⟩
 | p::ps,i,V,hi,hV,hU,hP=>by
  rw [List.length_cons]at hi;have hU0:U.getD i false=p.up:=hU 0 (by simp);obtain⟨r1,r2,r3⟩:gk (p.view.map (·.r))/\gk (cA p.mo (i:Int) best)/\(V.getD i []).Perm (p.view.map (·.r)):=hP 0 (by simp)
  have ONE:okS U V (fG best i p)/\∃ x:List Rt,(fG best i p).foldl fg V=V.set i x/\x.Perm (if p.up then cA p.mo (i:Int) best else p.view.map (·.r)):=by
   unfold fG;cases hup:p.up with
   | false =>
    refine⟨trivial,V.getD i [],?_,r3⟩;show V=V.set i (V.getD i []);rw [List.getD_eq_getElem?_getD,gW (by omega)];exact(List.set_getElem_self _).symm
   | true =>
    have hc:=iK (p.view.length+(cA p.mo (i:Int) best).length) (p.view.map λ x:Rv=>x.r) (cA p.mo (i:Int) best) [] (V.getD i []) (by rw [List.length_map];omega) r1 r2 r3;have h1:=EW U i (by omega) (hU0.trans hup) _ V (by omega) Li hc.1;exact⟨h1.1,_,h1.2,hc.2⟩
  obtain⟨ok1,x,hx,hxp⟩:=ONE;have hset:∀ k,((V.set i x).getD (i+1+k) [])=V.getD (i+1+k) []:=λ k=>OV V x (by omega)
  have ih:=vz best U ps (i+1) (V.set i x) (by omega) (by rw [List.length_set];exact hV)
   (λ k h=>by have:=hU (k+1) (by simpa using h);rw [show i+(k+1)=i+1+k by omega]at this;exact this)
   (λ k h=>by
    have:=hP (k+1) (by simpa using h);rw [show i+(k+1)=i+1+k by omega]at this;rw [hset k];exact this)
  have hfold:(fh best i (p::ps)).foldl fg V=(fh best (i+1) ps).foldl fg (V.set i x):=by
   show(fG best i p++fh best (i+1) ps).foldl fg V=_;rw [List.foldl_append,hx]
  refine⟨uE U _ _ V ok1 (by rw [hx];exact ih.1),by rw [hfold];exact ih.2.1,λ j hj=>?_,λ k h=>?_⟩
  ·rw [hfold,ih.2.2.1 j (by omega),OV V x (by omega)]
  rw [hfold];cases k with
  | zero =>
   show(((fh best (i+1) ps).foldl fg (V.set i x)).getD i []).Perm (if p.up then cA p.mo (i:Int) best else p.view.map (·.r));rw [ih.2.2.1 i (by omega),OX V i x (by omega)];exact hxp
  | succ k =>
   have:=ih.2.2.2 k (by simpa using h);rw [show i+1+k=i+(k+1)by omega]at this;exact this
abbrev sx(n:Int×Int):Rv->Bool:=λ y=>!decide (y.net=n)
theorem wP{l:List Rv}{n:Int×Int}(hs:eo l)(h:dj l n<l.length)(hn:l[dj l n].net=n):(l.take (dj l n)).filter (sx n)=l.take (dj l n)/\(l.drop (dj l n+1)).filter (sx n)=l.drop (dj l n+1):=by
 constructor
 ·refine List.filter_eq_self.2 λ y hy=>?_
  obtain⟨j,hj,rfl⟩:=List.getElem_of_mem hy;have hj2:j<dj l n:=by rw [List.length_take]at hj;omega
  rw [List.getElem_take];have h1:=io.1 ((j2 hs j (by omega)).2 hj2);simp only [sx,Bool.not_eq_true',decide_eq_false_iff_not];intro e;rw [e]at h1;exact ck.irr h1
 refine List.filter_eq_self.2 λ y hy=>?_
 obtain⟨j,hj,rfl⟩:=List.getElem_of_mem hy;rw [List.length_drop]at hj;rw [List.getElem_drop];have h1:=List.pairwise_iff_getElem.1 hs (dj l n) (dj l n+1+j) h (by omega) (by omega);simp only [sx,Bool.not_eq_true',decide_eq_false_iff_not];intro e;rw [e,hn]at h1;exact ck.irr h1
theorem MX{l:List Rv}{n:Int×Int}(hs:eo l)(h:¬sr l n=true):l.filter (sx n)=l:=by
 refine List.filter_eq_self.2 λ y hy=>?_
 obtain⟨j,hj,rfl⟩:=List.getElem_of_mem hy;simp only [sx,Bool.not_eq_true',decide_eq_false_iff_not];intro e
 have h1:¬j<dj l n:=λ hl=>by
  have:=io.1 ((j2 hs j hj).2 hl);rw [e]at this;exact ck.irr this
 have hl:dj l n<l.length:=by omega
 by_cases hjl:j=dj l n
 ·refine h (Fh ⟨hl,?_⟩);subst hjl;exact e
 have h2:=List.pairwise_iff_getElem.1 hs (dj l n) j hl hj (by omega);rw [e]at h2;have:=(j2 hs (dj l n) hl).1 (io.2 h2);omega
theorem pO{l:List Rv}{n:Int×Int}(hs:eo l):gq l n=l.filter (sx n):=by
 unfold gq;by_cases h:sr l n=true
 ·rw [aS h];obtain⟨hl,hn⟩:=of_decide_eq_true h;obtain⟨h1,h2⟩:=wP hs hl hn;have hsp:l=l.take (dj l n)++l[dj l n]::l.drop (dj l n+1):=by rw [List.getElem_cons_drop];exact(List.take_append_drop _ _).symm
  rw [List.eraseIdx_eq_take_drop_succ]
  conv=>rhs;rw [hsp]
  rw [List.filter_append,List.filter_cons_of_neg (by simp [sx,hn]),h1,h2]
 rw [aG h,MX hs h]
theorem GW{l:List Rv}{x:Rv}(hs:eo l):(oh l x).Perm (l.filter (sx x.net)++[x]):=by
 unfold oh;by_cases h:sr l x.net=true
 ·rw [aS h];obtain⟨hl,hn⟩:=of_decide_eq_true h;obtain⟨h1,h2⟩:=wP hs hl hn;have hsp:l=l.take (dj l x.net)++l[dj l x.net]::l.drop (dj l x.net+1):=by rw [List.getElem_cons_drop];exact(List.take_append_drop _ _).symm
  have hf:l.filter (sx x.net)=l.take (dj l x.net)++l.drop (dj l x.net+1):=by
   conv=>lhs;rw [hsp]
   rw [List.filter_append,List.filter_cons_of_neg (by simp [sx,hn]),h1,h2]
  rw [hf,List.set_eq_take_append_cons_drop,aS hl,List.append_assoc];exact(List.perm_append_comm (l₁:=[x]) (l₂:=l.drop (dj l x.net+1))).append_left _
 rw [aG h,MX hs h];refine List.Perm.trans ?_ (List.perm_append_comm (l₁:=[x]) (l₂:=l))
 conv=>rhs;rw [<-List.take_append_drop (dj l x.net) l]
 exact List.perm_middle
theorem tV(l:List Rv)(n:Int×Int):(l.filter (sx n)).map (·.r)=(l.map (·.r)).filter λ y:Rt=>!decide (y.net=n):=by
 rw [List.filter_map];rfl
def wO(l:List Rt)(n:Int×Int):List Rt:=GV l ⟨n.1,n.2,[],[],0,0⟩ true
def xI(mi:List aJ)(l:List Rt)(r:Rt):List Rt:=if(dl mi r).2=1 then GV l (dl mi r).1 false else GV l r true
theorem C5{H:List Rt}{l:List Rv}{n:Int×Int}(hs:eo l)(hp:H.Perm (l.map (·.r))):(wO H n).Perm ((gq l n).map (·.r)):=by
 rw [pO hs,tV];show(H.filter (λ y:Rt=>!decide (y.net=n))++[]).Perm _;rw [List.append_nil];exact hp.filter _
theorem ua:∀(ns:List (Int×Int)) {H:List Rt} {l:List Rv},eo l->H.Perm (l.map (·.r))->(ns.foldl wO H).Perm ((gc l ns).map (·.r))
 | [],_,_,_,hp=>hp
 | _::ns,_,_,hs,hp=>ua ns (lh hs) (C5 hs hp)
theorem Ea{mi:List aJ}{l l2:List Rv}{rs:List Rt}(h:jb mi l rs l2):∀{H:List Rt},eo l->H.Perm (l.map (·.r))->(rs.foldl (xI mi) H).Perm (l2.map (·.r)):=by
 induction h with
 | nil l=>intro H _ hp;exact hp
 | @cons l l1 l2 r rs h t ih =>
  intro H hs hp;rcases h with⟨h1,rfl⟩|⟨h1,y,hy,rfl⟩
  ·refine ih (lh hs) ?_;unfold xI;rw [aG h1,pO hs,tV];show(H.filter (λ y:Rt=>!decide (y.net=r.net))++[]).Perm _;rw [List.append_nil];exact hp.filter _
  refine ih (uP hs) ?_;unfold xI;rw [aS h1,<-hy];refine List.Perm.trans ?_ ((GW (x:=y) hs).map (λ z:Rv=>z.r)).symm;rw [List.map_append,tV];exact(hp.filter _).append_right _
theorem AI:∀{ps:List (List Rv)} {i j:Nat} (h:j<ps.length) {y:Rv},y∈ps[j]->y.kept (i+j:Nat)∈gl i ps
 | l::ps,i,0,_,y,hy=>List.mem_append.2 (Or.inl (List.mem_map.2 ⟨y,hy,rfl⟩))
 | l::ps,i,j+1,h,y,hy=>by
  have:=AI (ps:=ps) (i:=i+1) (j:=j) (by simpa using h) (y:=y) hy;rw [show i+1+j=i+(j+1)by omega]at this;exact List.mem_append.2 (Or.inr this)
theorem lK(ps:List (List Rv)):(cX ps).Pairwise λ a b=>ck a.net b.net:=CM (fo _).2
theorem Cw{ps:List (List Rv)}{j:Nat}(h:j<ps.length){y:Rv}(hy:y∈ps[j]):∃ z∈cX ps,z.net=y.net/\¬kY (y.kept (j:Nat)) z:=by
 have h1:=AI (i:=0) h hy;rw [Nat.zero_add]at h1;obtain⟨z,hz,e,hk⟩:=CL (fo (gl 0 ps)).2 _ ((fo (gl 0 ps)).1.mem_iff.2 h1);exact⟨z,hz,e,hk⟩
theorem J7{B:List Kp}(h:B.Pairwise λ a b=>ck a.net b.net){x y:Kp}(hx:x∈B)(hy:y∈B)(e:x.net=y.net):x=y:=by
 obtain⟨i,hi,rfl⟩:=List.getElem_of_mem hx;obtain⟨j,hj,rfl⟩:=List.getElem_of_mem hy;rcases Nat.lt_trichotomy i j with hl|hl|hl
 ·have:=List.pairwise_iff_getElem.1 h i j hi hj hl;rw [e]at this;exact absurd this ck.irr
 ·subst hl;rfl
 have:=List.pairwise_iff_getElem.1 h j i hj hi hl;rw [e]at this;exact absurd this ck.irr
theorem Le{r:Rt}{pq mq:Option Addr}{pc mc:Nat}{p:Int}{z:Kp}(hn:z.net=(r.addr,r.len))(hk:¬kY ⟨r,pq,pc,mq,mc,p⟩ z):Cy r p z.r z.peer=false:=by
 unfold kY at hk;unfold Kp.net at hn;simp only [Prod.mk.injEq]at hn;obtain⟨h1,h2⟩:=hn;dsimp only at hk;unfold Cy;split
 ·split
  ·split
   ·exact Cf (by omega)
   exact Cf (by omega)
  exact Cf (by omega)
 exact Cf (by omega)
theorem EK{L B:List Kp}(h:L.map ji=B.map ji):L.length=B.length/\∀ j (h1:j<L.length) (h2:j<B.length),L[j].r=B[j].r/\L[j].peer=B[j].peer:=by
 have hl:L.length=B.length:=by simpa using jC List.length h
 refine⟨hl,λ j h1 h2=>?_⟩;have e:(L.map ji)[j]?=(B.map ji)[j]?:=by rw [h]
 rw [List.getElem?_map,List.getElem?_map,gW h1,gW h2]at e;simp only [Option.map_some,Option.some.injEq,ji,Prod.mk.injEq]at e;exact e
theorem FJ{ps:List (List Rv)}{R:List (List Rt)}{L:List Kp}(hps:ps.length=3)(hp:∀ i (h:i<ps.length),(R.getD i []).Perm (ps[i].map (·.r)))(hL:L.map ji=(cX ps).map ji):sU R L:=by
 obtain⟨hl,hg⟩:=EK hL;have hnet:∀ j (h1:j<L.length) (h2:j<(cX ps).length),L[j].net=(cX ps)[j].net:=λ j h1 h2=>by unfold Kp.net;rw [(hg j h1 h2).1]
 refine⟨λ j h=>?_,λ p hp3 r hr=>?_,λ x hx=>?_⟩
 ·rw [hnet j (by omega) (by omega),hnet (j+1) h (by omega)];exact List.pairwise_iff_getElem.1 (lK ps) j (j+1) _ _ (by omega)
 ·have hr2:=(hp p (by omega)).mem_iff.1 hr;obtain⟨y,hy,rfl⟩:=List.mem_map.1 hr2;obtain⟨z,hz,ez,hk⟩:=Cw (by omega) hy
  constructor
  ·obtain⟨j,hj,rfl⟩:=List.getElem_of_mem hz;refine List.any_eq_true.2 ⟨L[j]'(by omega),ej _,Fh ?_⟩;rw [hnet j (by omega) hj,ez];rfl
  intro x hx hxn;obtain⟨j,hj,rfl⟩:=List.getElem_of_mem hx;have hz2:(cX ps)[j]'(by omega)=z:=J7 (lK ps) (ej _) hz (by rw [<-hnet j hj (by omega),hxn,ez];rfl);rw [(hg j hj (by omega)).1,(hg j hj (by omega)).2,hz2];exact Le (pq:=y.pq) (pc:=y.pc) (mq:=y.mq) (mc:=y.mc) ez hk
 obtain⟨j,hj,rfl⟩:=List.getElem_of_mem hx;obtain⟨i,hi,y,hy,e⟩:=nI (ej (by omega:j<(cX ps).length));refine⟨i,by omega,?_,(hp i hi).mem_iff.2 (List.mem_map.2 ⟨y,hy,?_⟩)⟩
 ·rw [(hg j hj (by omega)).2,e];rfl
 rw [(hg j hj (by omega)).1,e];rfl
theorem xb(ms:List aJ)(i:Int):∀{L B:List Kp},L.map ji=B.map ji->cA ms i L=cA ms i B
 | [],[],_=>rfl
 | x::L,y::B,h=>by
  simp only [List.map_cons,List.cons.injEq,ji,Prod.mk.injEq]at h;have ih:=xb ms i (L:=L) (B:=B) h.2;unfold cA at ih ⊢;rw [List.filterMap_cons,List.filterMap_cons,ih,h.1.1,h.1.2]
theorem xf{ms:List aJ}(hg:gh ms){i:Int}{B:List Kp}(hB:B.Pairwise λ a b=>ck a.net b.net)(hok:∀ x∈B,dh x.r=true):gk (cA ms i B):=by
 unfold gk cA;rw [List.pairwise_filterMap];refine List.Pairwise.imp_of_mem ?_ hB;intro a b ha hb hl x hx y hy
 have key:∀ z:Kp,z∈B->∀ t:Rt,(if z.peer=i then none else if(dl ms z.r).2=1 then some (dl ms z.r).1 else none)=some t->t.net=z.net:=λ z hz t ht=>by
  split at ht
  ·cases ht
  split at ht
  ·rename_i h1;cases ht
   exact(hg z.r (hok z hz) h1).2
  cases ht
 rw [key a ha x hx,key b hb y hy];exact hl
theorem Fu{ms:List aJ}{i:Int}{up:Bool}{V:List Rt}{L B:List Kp}(hL:L.map ji=B.map ji)(h:if up then V.Perm (cA ms i B)else V=[]):kM ms i up V L:=by
 unfold kM;cases up with
 | true =>
  have h:V.Perm (cA ms i B):=h;rw [aS rfl,xb ms i hL];exact⟨h.length_eq.symm,λ r hr=>h.mem_iff.2 hr⟩
 | false =>
  have h:V=[]:=h;rw [h];rfl
structure Mid(mi mo:List aJ)(st:List HP)(ps:List aW):Prop where
 n:ps.length=3
 ns:st.length=3
 pol:∀ p∈ps,p.mi=mi/\p.mo=mo
 up:∀ i (h:i<st.length) (h':i<ps.length),st[i].up=ps[i].up
 rts:∀ i (h:i<st.length) (h':i<ps.length),(st[i].rts.map (·.r)).Perm (ps[i].rts.map (·.r))
 view:∀ i (h:i<st.length) (h':i<ps.length),(st[i].view.map (·.r)).Perm (ps[i].view.map (·.r))
 rise:∀ p∈ps,gk (p.view.map (·.r))
 down:∀ p∈ps,p.up=false->p.view=[]/\p.rts=[]
structure Cj(mi mo:List aJ)(st:List HP)(ps:List aW):Prop extends Mid mi mo st ps where
 must:∀ i (h:i<ps.length),ps[i].up=true->ps[i].view.map (·.r)=cA mo (i:Nat) (cX (ps.map (·.rts)))
theorem Je{α:Type}(f:HP->α)(st:List HP)(d:α){i:Nat}(h:i<st.length):(st.map f).getD i d=f st[i]:=by
 rw [List.getD_eq_getElem?_getD,List.getElem?_map,gW h];rfl
theorem ES{α β:Type}{f:α->β}{a b:List α}(h:a.map f=b.map f){i:Nat}(h1:i<a.length)(h2:i<b.length):f a[i]=f b[i]:=by
 have e:(a.map f)[i]?=(b.map f)[i]?:=by rw [h]
 rw [List.getElem?_map,List.getElem?_map,gW h1,gW h2]at e;simpa using e
theorem Mid.okS{mi mo:List aJ}{st:List HP}{ps:List aW}(h:Mid mi mo st ps)(hg:gh mo)(hok:∀ x∈cX (ps.map (·.rts)),dh x.r=true) :
  okS (st.map (·.up)) (dI st) (fh (cX (ps.map (·.rts))) 0 ps)/\∀ i (h1:i<ps.length),(((fh (cX (ps.map (·.rts))) 0 ps).foldl fg (dI st)).getD i []).Perm (if ps[i].up then cA mo (i:Nat) (cX (ps.map (·.rts)))else ps[i].view.map (·.r)):=by
 have hn:=h.n;have hns:=h.ns
 have key:=vz (cX (ps.map (·.rts))) (st.map (·.up)) ps 0 (dI st) (by omega) (by unfold dI;rw [List.length_map];exact hns)
  (λ k hk=>by rw [Nat.zero_add,Je _ _ _ (by omega)];exact h.up k (by omega) hk)
  (λ k hk=>by
   have hm:=(h.pol ps[k] (ej hk)).2;rw [Nat.zero_add,hm];refine⟨h.rise _ (ej hk),xf hg (lK _) hok,?_⟩;rw [kD (by omega)];exact h.view k (by omega) hk)
 refine⟨key.1,λ i h1=>?_⟩;have:=key.2.2.2 i h1;rw [Nat.zero_add,(h.pol ps[i] (ej h1)).2]at this;exact this
theorem Mid.heard{mi mo:List aJ}{st st':List HP}{ps ps':List aW}(h:Mid mi mo st ps)(hg:gh mo)(hok:∀ x∈cX (ps.map (·.rts)),dh x.r=true)
  (hl:ps'.length=ps.length) (ht:∀ i (hi:i<ps.length) (hi':i<ps'.length),tf (cX (ps.map (·.rts))) i ps[i] ps'[i])
  (hs:st'.length=st.length) (hu:st'.map (·.up)=st.map (·.up)) (hr:st'.map (·.rts)=st.map (·.rts)) (hv:dI st'=(fh (cX (ps.map (·.rts))) 0 ps).foldl fg (dI st)):Cj mi mo st' ps':=by
 have hn:=h.n;have hns:=h.ns;have HP:=(h.okS hg hok).2
 have q:∀ i (hi:i<ps.length) (hi':i<ps'.length),ps'[i].up=ps[i].up/\ps'[i].rts=ps[i].rts/\ps'[i].mi=ps[i].mi/\ps'[i].mo=ps[i].mo/\(if ps[i].up then ps'[i].view.map (·.r)=cA mo (i:Nat) (cX (ps.map (·.rts)))else ps'[i].view=ps[i].view):=λ i hi hi'=>by
  obtain⟨l,e,hl⟩:=ht i hi hi';rw [(h.pol ps[i] (ej hi)).2]at hl;rw [e];exact⟨rfl,rfl,rfl,rfl,hl⟩
 have hbest:ps'.map (·.rts)=ps.map (·.rts):=by
  refine List.ext_getElem (by rw [List.length_map,List.length_map,hl]) λ i h1 h2=>?_
  rw [List.getElem_map,List.getElem_map];rw [List.length_map]at h1 h2;exact(q i h2 h1).2.1
 have pm:∀ p∈ps',∃ i,∃ hi:i<ps.length,∃ hi':i<ps'.length,ps'[i]=p:=λ p hp=>by
  obtain⟨i,hi,e⟩:=List.getElem_of_mem hp;exact⟨i,by omega,hi,e⟩
 refine⟨⟨by omega,by omega,λ p hp=>?_,λ i h1 h2=>?_,λ i h1 h2=>?_,λ i h1 h2=>?_,λ p hp=>?_,λ p hp hd=>?_⟩,λ i h1 hup=>?_⟩
 ·obtain⟨i,hi,hi',rfl⟩:=pm p hp;have:=q i hi hi';rw [this.2.2.1,this.2.2.2.1];exact h.pol _ (ej hi)
 ·rw [ES hu h1 (by omega),(q i (by omega) h2).1];exact h.up i (by omega) (by omega)
 ·rw [ES hr h1 (by omega),(q i (by omega) h2).2.1];exact h.rts i (by omega) (by omega)
 ·have hp:=HP i (by omega);rw [<-hv,kD h1]at hp;refine hp.trans ?_;have hq:=(q i (by omega) h2).2.2.2.2;split at hq
  ·rename_i e;rw [aS e,hq]
  rename_i e;rw [aG e,hq]
 ·obtain⟨i,hi,hi',rfl⟩:=pm p hp;have hq:=(q i hi hi').2.2.2.2;split at hq
  ·rw [hq];exact xf hg (lK _) hok
  rw [hq];exact h.rise _ (ej hi)
 ·obtain⟨i,hi,hi',rfl⟩:=pm p hp;have hq:=q i hi hi';rw [hq.1]at hd;have hd2:=h.down _ (ej hi) hd;have:=hq.2.2.2.2;rw [hd]at this;exact⟨this.trans hd2.1,hq.2.1.trans hd2.2⟩
 have hq:=q i (by omega) h1;rw [hq.1]at hup;have:=hq.2.2.2.2;rw [aS hup]at this;rw [hbest];exact this
theorem Mid.set{mi mo:List aJ}{st:List HP}{ps:List aW}(h:Mid mi mo st ps)(i:Nat){x:HP}{y:aW}(hy:y.mi=mi/\y.mo=mo)(hu:x.up=y.up)(hr:(x.rts.map (·.r)).Perm (y.rts.map (·.r)))(hv:(x.view.map (·.r)).Perm (y.view.map (·.r)))(hz:gk (y.view.map (·.r)))(hd:y.up=false->y.view=[]/\y.rts=[]):Mid mi mo (st.set i x) (ps.set i y):=by
 have hn:=h.n;have hns:=h.ns;refine⟨by rw [List.length_set];exact hn,by rw [List.length_set];exact hns,λ p hp=>?_,λ j h1 h2=>?_,λ j h1 h2=>?_,λ j h1 h2=>?_,λ p hp=>?_,λ p hp=>?_⟩
 ·rcases List.mem_or_eq_of_mem_set hp with hp|rfl
  ·exact h.pol p hp
  exact hy
 ·rw [List.length_set]at h1 h2;by_cases e:i=j
  ·subst e;rw [List.getElem_set_self,List.getElem_set_self];exact hu
  rw [List.getElem_set_ne e,List.getElem_set_ne e];exact h.up j h1 h2
 ·rw [List.length_set]at h1 h2;by_cases e:i=j
  ·subst e;rw [List.getElem_set_self,List.getElem_set_self];exact hr
  rw [List.getElem_set_ne e,List.getElem_set_ne e];exact h.rts j h1 h2
 ·rw [List.length_set]at h1 h2;by_cases e:i=j
  ·subst e;rw [List.getElem_set_self,List.getElem_set_self];exact hv
  rw [List.getElem_set_ne e,List.getElem_set_ne e];exact h.view j h1 h2
 ·rcases List.mem_or_eq_of_mem_set hp with hp|rfl
  ·exact h.rise p hp
  exact hz
 rcases List.mem_or_eq_of_mem_set hp with hp|rfl
 ·exact h.down p hp
 exact hd
theorem Mid.comes{mi mo:List aJ}{st:List HP}{ps:List aW}(h:Mid mi mo st ps){i:Nat}(hi:i<st.length)(hi':i<ps.length):Mid mi mo (st.set i { st[i]with up:=true }) (ps.set i { ps[i]with up:=true }) :=
 h.set i (h.pol ps[i] (ej hi')) rfl (h.rts i hi hi') (h.view i hi hi') (h.rise ps[i] (ej hi')) λ e=>by cases e
theorem Mid.goes{mi mo:List aJ}{st:List HP}{ps:List aW}(h:Mid mi mo st ps){i:Nat}(hi':i<ps.length):Mid mi mo (st.set i ⟨false,[],[]⟩) (ps.set i { ps[i]with up:=false,rts:=[],view:=[] }) :=
 h.set i (h.pol ps[i] (ej hi')) rfl (List.Perm.refl _) (List.Perm.refl _) List.Pairwise.nil λ _=>⟨rfl,rfl⟩
theorem Mid.takes{mi mo:List aJ}{st:List HP}{ps:List aW}(h:Mid mi mo st ps){i:Nat}(hi:i<st.length)(hi':i<ps.length)(hu:ps[i].up=true){l:List Rv}{l':List Rv}(hl:(l.map (·.r)).Perm (l'.map (·.r))):Mid mi mo (st.set i { st[i]with rts:=l }) (ps.set i { ps[i]with rts:=l' }) :=
 h.set i (h.pol ps[i] (ej hi')) (h.up i hi hi') hl (h.view i hi hi') (h.rise ps[i] (ej hi')) λ e=>by rw [show({ ps[i]with rts:=l' }:aW).up=ps[i].up from rfl,hu]at e;cases e
theorem Cj.chosen{mi mo:List aJ}{st:List HP}{ps:List aW}(h:Cj mi mo st ps){L:List Kp}(hL:L.map ji=(cX (ps.map (·.rts))).map ji):sU (Mv st) L:=by
 have hn:=h.n;have hns:=h.ns;refine FJ (by rw [List.length_map];exact hn) (λ i hi=>?_) hL;rw [List.length_map]at hi;rw [rg (by omega),List.getElem_map];exact h.rts i (by omega) hi
theorem Cj.agreed{mi mo:List aJ}{st:List HP}{ps:List aW}(h:Cj mi mo st ps){L:List Kp}(hL:L.map ji=(cX (ps.map (·.rts))).map ji){i:Nat}(hi:i<st.length):kM mo (i:Nat) st[i].up (st[i].view.map (·.r)) L:=by
 have hn:=h.n;have hns:=h.ns;have hi':i<ps.length:=by omega
 refine Fu hL ?_;have hv:=h.view i hi hi';rw [h.up i hi hi'];cases hu:ps[i].up with
 | true=>rw [h.must i hi' hu]at hv;exact hv
 | false =>
  have:=(h.down _ (ej hi') hu).1;rw [this]at hv;exact List.perm_nil.1 hv
theorem BL{sv:Value}{ms:List aJ}{K:Nat->Prop}{W:World}(h:iG sv ms K W):∃ a n c,sv=.slice a n c:=by
 obtain⟨_,vs,_,h2,_⟩:=h;rcases h2 with⟨_,h2⟩|⟨S,cap,h2,_⟩
 ·exact⟨_,_,_,h2⟩
 exact⟨_,_,_,h2⟩
theorem xw{w1:World}{A:Nat->Prop}{pp:Nat}{ms:List aJ}(hl:ax w1 A (Fo pp ms)) :
  ∃ x:mK,x.blk=pp/\wj w1 x/\sS w1.heap.size w1 pp ms/\qH w1.heap.size w1 x.p (.slice x.q x.n x.c) ms:=by
 have hl0:=hl;obtain⟨K,hK,hQ⟩:=hl;obtain⟨kp,p,sv,hpb,hst⟩:=hQ w1 (aL _) (λ _ _=>rfl);obtain⟨a,n,c,rfl⟩:=BL hst;refine⟨⟨pp,p,a,n,c⟩,rfl,hpb,λ V hV r pv mv hp hm hok=>?_,λ V hV r pv mv hp hm hok=>?_⟩
 ·obtain⟨⟨⟨a0,a1⟩,⟨b0,b1⟩,_⟩,⟨h3,_⟩,⟨h4,_⟩,_⟩:=nP hok;dsimp only at a0 a1 b0 b1;exact Ke hl0 V hV r pv mv hp hm ⟨by omega,by omega⟩ ⟨by omega,by omega⟩ h3 h4 hok
 have ho:=nP hok
 have hs:∀ W,w1.heap.size<=W.heap.size->(∀ k,K k->W.heap[k]?=w1.heap[k]?)->iG (.slice a n c) ms K W:=λ W hW hk=>by
  obtain⟨_,p2,sv2,hb2,hs2⟩:=hQ W hW hk;have e:=hb2.symm.trans ((hk pp kp).trans hpb);simp only [Option.some.injEq,Obj.cells.injEq,and_true]at e;have e2:sv2=.slice a n c:=by have:=jC (λ a=>a[1]?) e;simpa using this
  rw [<-e2];exact hs2
 exact Ba w1 K p (.slice a n c) ms (λ k hk=>(hK k hk).1) hs V hV.size (λ k hk=>hV.block k (hK k hk).1) r pv mv hp hm ho.2.1.1 ho.2.2.1.1 (qf ho.2.2.1.2).1
theorem sS.later{w1 w2:World}{pp:Nat}{ms:List aJ}(h:sS w1.heap.size w1 pp ms)(hb:Below w1.heap.size w1 w2):sS w2.heap.size w2 pp ms:=λ V hV=>h V (hb.trans (hV.mono hb.size))
theorem qH.later{w1 w2:World}{p:ByteArray}{sv:Value}{ms:List aJ}(h:qH w1.heap.size w1 p sv ms)(hb:Below w1.heap.size w1 w2):qH w2.heap.size w2 p sv ms:=λ V hV=>h V (hb.trans (hV.mono hb.size))
theorem wj.below{w1 w2:World}{x:mK}(h:wj w1 x)(hb:Below w1.heap.size w1 w2):wj w2 x:=(hb.block _ (ah h)).trans h
def KP:List HP:=[⟨false,[],[]⟩,⟨false,[],[]⟩,⟨false,[],[]⟩]
theorem nR{i:Nat}(h:i<KP.length):KP[i]=⟨false,[],[]⟩:=by
 have:=ej h;simp only [KP,List.mem_cons,List.not_mem_nil,or_false]at this;rcases this with e|e|e<;>exact e
theorem jR{α:Type}{y:α}{i:Nat}(h:i<[y,y,y].length):[y,y,y][i]=y:=by
 have:=ej h;simp only [List.mem_cons,List.not_mem_nil,or_false]at this;rcases this with e|e|e<;>exact e
theorem jS{α:Type}{y z:α}(h:z∈[y,y,y]):z=y:=by
 simp only [List.mem_cons,List.not_mem_nil,or_false]at h;rcases h with e|e|e<;>exact e
theorem LM(mi mo:List aJ)(x:mK×mK):Cj mi mo KP ([x,x,x].map (xq mi mo)):=by
 show Cj mi mo KP [xq mi mo x,xq mi mo x,xq mi mo x];refine⟨⟨rfl,rfl,λ p hp=>?_,λ i h h'=>?_,λ i h h'=>?_,λ i h h'=>?_,λ p hp=>?_,λ p hp _=>?_⟩,λ i h hu=>?_⟩
 ·rw [jS hp];exact⟨rfl,rfl⟩
 ·rw [nR h,jR h'];rfl
 ·rw [nR h,jR h'];exact List.Perm.refl _
 ·rw [nR h,jR h'];exact List.Perm.refl _
 ·rw [jS hp];exact List.Pairwise.nil
 ·rw [jS hp];exact⟨rfl,rfl⟩
 rw [jR h]at hu;cases hu
abbrev uf(sb ip op:Nat):Array Value:=#[.pointer (some ⟨sb,0,none⟩),.pointer (some ⟨ip,0,none⟩),.pointer (some ⟨op,0,none⟩),.bool false,.bool false,.bool false,.slice none 0 0,.slice none 0 0,.slice none 0 0,.slice none 0 0,.slice none 0 0,.slice none 0 0]
theorem C6{sb ip op q:Nat}{v:Value}(h6:6<=q)(h:(uf sb ip op)[q]?=some v):v=.slice none 0 0:=by
 have hq:q<12:=(Array.getElem?_eq_some_iff.1 h).1;rcases(show q=6\/q=7\/q=8\/q=9\/q=10\/q=11 by omega)with rfl|rfl|rfl|rfl|rfl|rfl<;>exact(kd h).symm
theorem Nw{n0:Nat}{w:World}{sb ip op:Nat}(hn:n0<=w.heap.size):gX n0 (w.alloc (.cells (uf sb ip op) 37)) w.heap.size sb ip op (uf sb ip op) KP:=by
 refine⟨cM w _,rfl,hn,rfl,rfl,rfl,λ i h=>?_,λ i h=>⟨.slice none 0 0,?_,?_⟩,λ i h=>⟨.slice none 0 0,?_,?_⟩,λ p hp y hy=>?_,λ p hp=>?_⟩
 ·rw [nR h];rcases(show i=0\/i=1\/i=2 by simp only [KP,List.length_cons,List.length_nil]at h;omega)with rfl|rfl|rfl<;>rfl
 ·rcases(show i=0\/i=1\/i=2 by simp only [KP,List.length_cons,List.length_nil]at h;omega)with rfl|rfl|rfl<;>rfl
 ·rw [nR h];exact i7 _ _ _ _
 ·rcases(show i=0\/i=1\/i=2 by simp only [KP,List.length_cons,List.length_nil]at h;omega)with rfl|rfl|rfl<;>rfl
 ·rw [nR h];exact i7 _ _ _ _
 ·rw [jS hp]at hy;rcases hy with hy|hy<;>cases hy
 rw [jS hp];exact⟨dG _,dG _⟩
structure Eo(w w':World)(hb:Nat)(w0:World)(sb ip op pb cap:Nat)(ch cs:Array Value)(st:List HP)(ps:List aW)(mi mo:List aJ):Prop where
 bel:Below w.heap.size w w0
 both:bJ w0.heap.size w0 w' hb sb ip op pb cap ch st cs ps
 inv:Cj mi mo st ps
 bi:sS w0.heap.size w0 ip mi
 bo:sS w0.heap.size w0 op mo
 gi:gh mi
 go:gh mo
theorem C7{w w2 w4 W w6:World}{sb:Nat}{v:Value}{PI PO:mK}{mi mo:List aJ}(h4:Below w.heap.size w w4)(h24:Below w2.heap.size w2 w4)(hW:Below w4.heap.size w4 W)(bi:sS w2.heap.size w2 PI.blk mi)(bo:sS w4.heap.size w4 PO.blk mo)(ri:qH w2.heap.size w2 PI.p (.slice PI.q PI.n PI.c) mi)(ro:qH w4.heap.size w4 PO.p (.slice PO.q PO.n PO.c) mo)(gi:gh mi)(go:gh mo)
  (hA:rm W W.heap.size w6 sb v 3 (mH [(PI,PO),(PI,PO),(PI,PO)])):∃ w0 sb' ip op pb cap ch cs st ps mi mo,Eo w (w6.alloc (.cells (uf sb PI.blk PO.blk) 37)) w6.heap.size w0 sb' ip op pb cap ch cs st ps mi mo:=by
 obtain⟨pb,cap,cs,hS,_⟩:=bG.made (n0:=w4.heap.size) (w0:=w4) (l:=[(PI,PO),(PI,PO),(PI,PO)]) hA (by simp) (by simp) hW (aL _) gi go (λ x hx=>by rw [jS hx];exact⟨ri.later h24,ro⟩);have hs6:w4.heap.size<=w6.heap.size:=hS.bel.size;refine⟨w4,sb,PI.blk,PO.blk,pb,cap,uf sb PI.blk PO.blk,cs,KP,[(PI,PO),(PI,PO),(PI,PO)].map (xq mi mo),mi,mo,h4,⟨Nw hs6,hS.below ((aY _ _).alloc (aL _) _),λ k hk=>?_⟩,LM mi mo (PI,PO),bi.later h24,bo,gi,go⟩;obtain⟨q,v,⟨h6,_⟩,hv,e⟩:=hk;rw [C6 h6 hv]at e;cases e
theorem wU(w:World)(ht:bR w)(hpt:jU w)(la lb:List Int)(x y:Value)(hx:aA w x la)(hy:aA w y lb) :
  Calls Tryz.prog 5 #[x,y] w λ e w'=>∃ hb,e=.returned (.tuple #[.pointer (some ⟨hb,0,none⟩),.bool true])/\∃ w0 sb ip op pb cap ch cs st ps mi mo,Eo w w' hb w0 sb ip op pb cap ch cs st ps mi mo:=by
 obtain⟨X,hX⟩:∃ X,pL la 1 0=X:=⟨_,rfl⟩
 obtain⟨Y,hY⟩:∃ Y,pL lb 1 0=Y:=⟨_,rfl⟩
 have wX:=jd la 1 0;have wY:=jd lb 1 0;have JA:=af (pM la x 1 0 (by omega) (by decide) w hx hpt);have KA:=af (λ(W:World) (hW:Below w.heap.size w W)=>pM lb y 1 0 (by omega) (by decide) W (hy.below hW) (hpt.below hW));rw [hX]at wX JA;rw [hY]at wY KA;have lX:=Ct.bs_lt wX.1 (by omega);have lY:=Ct.bs_lt wY.1 (by omega);have ki:=LH (.one X) ⟨wX.1,by omega⟩ (by show X.bs.length<=300;omega);rw [LI]at ki;have ko:=JU (.one Y) ⟨wY.1,by omega⟩ (by show Y.bs.length<=300;omega);rw [JV]at ko;have gi:=LF (Tc.one X).M;have go:=JT (Tc.one Y).M;generalize Jg (Tc.one X).M=mi at ki gi;generalize A3 (Tc.one Y).M=mo at ko go;have KI:=af (λ(W:World) (hW:Below w.heap.size w W)=>mT ki W (ht.below hW));have KO:=af (λ(W:World) (hW:Below w.heap.size w W)=>mT ko W (ht.below hW));have HK:=af (λ(W:World) (hW:Below w.heap.size w W)=>Gl W (ht.below hW));have sX:(br X.bs).size<=200:=by rw [bM];omega
 have sY:(br Y.bs).size<=200:=by rw [bM];omega
 have GG:=af (And.intro gi go);obtain⟨xa,xn,xc,hxv⟩:=bk (bf hx);obtain⟨ya,yn,yc,hyv⟩:=bk (bf hy);clear ki ko gi go ht hpt hx hy hX hY wX wY lX lY;generalize br X.bs=s at *;generalize br Y.bs=t at *;subst hxv hyv;have c0:(9223372036854775807<48+s.size)=False:=eq_false (by omega);have c1:(9223372036854775807<48+s.size+73)=False:=eq_false (by omega);have c2:(9223372036854775807<48+t.size)=False:=eq_false (by omega);have c3:(9223372036854775807<48+t.size+71)=False:=eq_false (by omega);go_enter Tryz.func5,Tryz.ntmps5
 go_upto_region 2 with(first
  | (go_at_call 11;refine(ae JA).mono ?_;rintro e w1 ⟨rfl,hb1⟩;have EA:=af hb1;clear hb1 JA)
  | (go_at_call 10;refine(ae KI _ (ae EA)).mono ?_;rintro e w2 ⟨pi,rfl,hb2,hl2⟩;have FA:=af ((ae EA).trans (hb2.mono (ae EA).size));have LA:=af hl2;clear hb2 hl2 KI))
 go_upto_region 3 with(first
  | (go_at_call 11;refine(ae KA _ (ae FA)).mono ?_;rintro e w3 ⟨rfl,hb3⟩;have GA:=af ((ae FA).trans (hb3.mono (ae FA).size));have BA:=af hb3;clear hb3 KA)
  | (go_at_call 10;refine(ae KO _ (ae GA)).mono ?_;rintro e w4 ⟨po,rfl,hb4,hl4⟩;have IA:=af ((ae GA).trans (hb4.mono (ae GA).size));have CA:=af ((ae BA).trans (hb4.mono (ae BA).size));have MA:=af hl4;clear hb4 hl4 KO))
 go_upto_region 6 with(go_at_call 12;refine(ae HK _ (ae IA)).mono ?_;rintro e w5 ⟨rfl,hb5⟩;have DA:=af hb5;clear hb5 HK)
 obtain⟨PI,e1,hPI,bi,ri⟩:=xw (ae LA);obtain⟨PO,e2,hPO,bo,ro⟩:=xw (ae MA);subst e1 e2;obtain⟨k0,k1,_⟩:=fp w5 (.cells #[.pointer (some ⟨PI.blk,0,none⟩),.pointer (some ⟨PI.blk,0,none⟩),.pointer (some ⟨PI.blk,0,none⟩)] 32) (.cells #[.pointer (some ⟨PO.blk,0,none⟩),.pointer (some ⟨PO.blk,0,none⟩),.pointer (some ⟨PO.blk,0,none⟩)] 32);have hbW:Below w5.heap.size w5 ((w5.alloc (.cells #[.pointer (some ⟨PI.blk,0,none⟩),.pointer (some ⟨PI.blk,0,none⟩),.pointer (some ⟨PI.blk,0,none⟩)] 32)).alloc (.cells #[.pointer (some ⟨PO.blk,0,none⟩),.pointer (some ⟨PO.blk,0,none⟩),.pointer (some ⟨PO.blk,0,none⟩)] 32)):=((bF.refl w5).alloc _ |>.alloc _).below;obtain⟨W,hWd⟩:∃ W,(w5.alloc (.cells #[.pointer (some ⟨PI.blk,0,none⟩),.pointer (some ⟨PI.blk,0,none⟩),.pointer (some ⟨PI.blk,0,none⟩)] 32)).alloc (.cells #[.pointer (some ⟨PO.blk,0,none⟩),.pointer (some ⟨PO.blk,0,none⟩),.pointer (some ⟨PO.blk,0,none⟩)] 32)=W:=⟨_,rfl⟩
 rw [hWd]at k0 k1 hbW;have h4W:Below w4.heap.size w4 W:=(ae DA).trans (hbW.mono (ae DA).size)
 have OA:=af (L5 W [(PI,PO),(PI,PO),(PI,PO)] w5.heap.size (w5.heap.size+1) 3 3 (by simp) (by simp) (by simp) (by simp) (ah k0) (ah k1)
  (λ k hk=>by
   rw [jR hk];refine⟨?_,(hPI.below (ae CA)).below h4W⟩;rw [ag k0];rcases(show k=0\/k=1\/k=2 by simp only [List.length_cons,List.length_nil]at hk;omega)with rfl|rfl|rfl<;>rfl)
  (λ k hk=>by
   rw [jR hk];refine⟨?_,hPO.below h4W⟩;rw [ag k1];rcases(show k=0\/k=1\/k=2 by simp only [List.length_cons,List.length_nil]at hk;omega)with rfl|rfl|rfl<;>rfl))
 have AA:=af (λ(w6:World) (sb:Nat) (v:Value) (hA:rm W W.heap.size w6 sb v 3 (mH [(PI,PO),(PI,PO),(PI,PO)]))=>C7 (ae IA) (ae CA) h4W bi bo ri ro (ae GG).1 (ae GG).2 hA);have NA:=af hWd;clear hPI hPO bi bo ri ro k0 k1 hbW h4W hWd LA MA GG EA FA GA IA BA CA DA;go_upto_region 7 with(go_at_call 13;rw [ae NA];refine(ae OA).mono ?_;rintro e w6 ⟨sb,v,rfl,hA⟩;have HA:=af hA;clear hA OA)
 have HM:=af (ae AA w6 sb v (ae HA));clear AA HA NA;go_wp2_with fail;refine gH (v:=.tuple #[.pointer (some ⟨w6.heap.size,0,none⟩),.bool true]) (by simp [results,Tryz.results5,go_sem]) rfl ?_;exact⟨_,rfl,ae HM⟩
