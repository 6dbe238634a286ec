/- part -/
import Derived.Test.YtphhnjljlllnlaaGreatDoorMsgG
set_option maxRecDepth 100000
set_option maxHeartbeats 8000000
namespace Go.Proofs.YtphhnjljlllnlaaGreatDoor
open Go.Proofs.Tryz
open Or
open Go Go.RowKit Go.Sort Go.Shelf
attribute [local go_sem] Oper.semAt_some
theorem zL:∀{ps:List (List Rv)} {i:Nat} {x:Kp},x∈gl i ps->∃ j,∃ h:j<ps.length,∃ y∈ps[j],x=y.kept (i+j:Nat)
 | l::ps,i,x,hx=>by
  rcases List.mem_append.1 (show x∈l.map (·.kept i)++gl (i+1) ps from hx)with hx|hx
  ·obtain⟨y,hy,rfl⟩:=List.mem_map.1 hx;exact⟨0,by simp,y,hy,rfl⟩
  obtain⟨j,hj,y,hy,rfl⟩:=zL hx;exact⟨j+1,by simpa using hj,y,by simpa using hy,by rw [show i+1+j=i+(j+1)by omega]⟩
theorem zK:∀{ps:List (List Rv)} {i n:Nat},(∀ l∈ps,l.length<=n)->(gl i ps).length<=ps.length*n
 | [],_,_,_=>dG _
 | l::ps,i,n,h=>by
  have h1:=h l (by simp);have h2:=zK (ps:=ps) (i:=i+1) (n:=n) λ x hx=>h x (by simp [hx])
  show(l.map _++gl (i+1) ps).length<=(ps.length+1)*n;rw [List.length_append,List.length_map,Nat.add_mul];omega
theorem nI{ps:List (List Rv)}{x:Kp}(h:x∈cX ps):∃ j,∃ h:j<ps.length,∃ y∈ps[j],x=y.kept (j:Nat):=by
 have h1:=(wH _).subset h;have h2:=(fo _).1.mem_iff.1 h1;obtain⟨j,hj,y,hy,e⟩:=zL h2;exact⟨j,hj,y,hy,by rw [Nat.zero_add]at e;exact e⟩
theorem qM{ps:List (List Rv)}{n:Nat}(h:∀ l∈ps,l.length<=n):(cX ps).length<=ps.length*n:=by
 have h1:=FM (o7 (gl 0 ps));rw [(fo _).1.length_eq]at h1;exact gG h1 (zK h)
theorem xd(ms:List aJ)(i:Int)(best:List Kp):(cA ms i best).length<=best.length:=List.length_filterMap_le _ _
theorem xe{ms:List aJ}{i:Int}{best:List Kp}{r:Rt}(h:r∈cA ms i best):∃ k∈best,k.peer≠i/\(dl ms k.r).2=1/\r=(dl ms k.r).1:=by
 obtain⟨k,hk,e⟩:=List.mem_filterMap.1 h;split at e
 ·cases e
 rename_i h1;split at e
 ·rename_i h2;cases e;exact⟨k,hk,h1,h2,rfl⟩
 cases e
theorem bG.peers{n0:Nat}{w0 w:World}{sb pb cap:Nat}{cs:Array Value}{ps:List aW}(h:bG n0 w0 w sb pb cap cs ps):xX w pb n0 (ps.map (·.rts)):=λ i hi=>by
 rw [List.length_map]at hi;have a:=h.at_ i hi;have o:=h.ok _ (ej hi);obtain⟨q1,m1,c1,e1⟩:=o.sin;obtain⟨q2,m2,c2,e2⟩:=o.sout;obtain⟨v,ev,tv⟩:=a.c5;obtain⟨u,eu,tu⟩:=a.c6;obtain⟨q3,c3,rfl⟩:=al tu;have f:=λ o:Nat=>ag h.blk (o:=o)
 refine⟨_,_,q1,q2,q3,m1,m2,_,c1,c2,c3,v,_,(f _).trans a.c0,(f _).trans (by rw [a.c1,e1]),(f _).trans a.c2,(f _).trans (by rw [a.c3,e2]),(f _).trans a.c4,(f _).trans ev,(f _).trans eu,?_,?_⟩
 ·rw [List.getElem_map];exact tv
 rw [List.getElem_map];have:=o.few;omega
theorem bG.best{n0:Nat}{w0 w:World}{sb pb cap:Nat}{cs:Array Value}{ps:List aW}(h:bG n0 w0 w sb pb cap cs ps):(∀ x∈cX (ps.map (·.rts)),bK w x.rv/\dh x.r=true)/\(cX (ps.map (·.rts))).length<=64:=by
 constructor
 ·intro x hx;obtain⟨j,hj,y,hy,rfl⟩:=nI hx;rw [List.length_map]at hj;rw [List.getElem_map]at hy;exact(h.ok _ (ej hj)).rows y hy
 have:=qM (ps:=ps.map (·.rts)) (n:=16) (λ l hl=>by
  obtain⟨p,hp,rfl⟩:=List.mem_map.1 hl;exact(h.ok p hp).few)
 rw [List.length_map]at this;have:=h.few;omega
structure kl(n0:Nat)(w0 w:World)(sb pb cap:Nat)(cs:Array Value)(ps:List aW)(best:List Kp)(bv:Value)(Lb k:Nat)(Ds:List Nat)(W:World)(csk:Array Value)(psk:List aW)(vL:Value)(T:List TV):Prop where
 spk:bG n0 w0 W sb pb cap csk psk
 len:psk.length=ps.length
 done:∀ i (h:i<ps.length) (h':i<psk.length),i<k->tf best i ps[i] psk[i]
 rest:∀ i (h:i<ps.length) (h':i<psk.length),k<=i->psk[i]=ps[i]
 box:W.heap[Lb]?=some (.cells #[vL] 51 (0,0))
 told:eC W w.heap.size vL T
 what:T.map (λ x=>(x.peer,x.m))=fh best 0 (ps.take k)
 kept:dg W w.heap.size bv best
 rows:∀ x∈best,bK W x.rv
 fr:Fr (dA pb cs ps.length) w (dA pb csk ps.length) W
 marks:∀ D∈Ds,W.heap[D]?=some (.deferred (some []))/\w.heap.size<=D
 nodup:Ds.Nodup
 lb:w.heap.size<=Lb
theorem kl.start{n0:Nat}{w0 w w1:World}{sb pb cap:Nat}{cs:Array Value}{ps:List aW}{best:List Kp}{bv:Value}(h:bG n0 w0 w sb pb cap cs ps)(hb:Below w.heap.size w w1)(hk:dg w1 w.heap.size bv best)(hr:∀ x∈best,bK w x.rv):kl n0 w0 w sb pb cap cs ps best bv w1.heap.size 0 [] (w1.alloc (.cells #[.slice none 0 0] 51)) cs ps (.slice none 0 0) []:=by
 have hb2:Below w1.heap.size w1 (w1.alloc (.cells #[.slice none 0 0] 51)):=(aY _ _).alloc (aL _) _;have hb3:=hb.trans (hb2.mono hb.size);exact⟨h.below hb3,rfl,λ i _ _ hi=>absurd hi (Nat.not_lt_zero _),λ i _ _ _=>rfl,cM w1 _,⟨i7 _ _ _ _,λ x hx=>(by cases hx)⟩,rfl,hk.below hb2,λ x hx=>(hr x hx).below hb3,Fr.of_below hb3,λ D hD=>(by cases hD),List.nodup_nil,hb.size⟩
theorem kl.later{n0:Nat}{w0 w W X:World}{sb pb cap:Nat}{cs:Array Value}{ps:List aW}{best:List Kp}{bv:Value}{Lb k:Nat}{Ds:List Nat}{csk:Array Value}{psk:List aW}{vL:Value}{T:List TV}(h:kl n0 w0 w sb pb cap cs ps best bv Lb k Ds W csk psk vL T)(hb:Below W.heap.size W X):kl n0 w0 w sb pb cap cs ps best bv Lb k Ds X csk psk vL T :=
 ⟨h.spk.below hb,h.len,h.done,h.rest,(hb.block _ (ah h.box)).trans h.box,h.told.below hb,h.what,h.kept.below hb,λ x hx=>(h.rows x hx).below hb,h.fr.below hb,λ D hD=>⟨(hb.block _ (ah (h.marks D hD).1)).trans (h.marks D hD).1,(h.marks D hD).2⟩,h.nodup,h.lb⟩
theorem kl.skip{n0:Nat}{w0 w W X:World}{sb pb cap:Nat}{cs:Array Value}{ps:List aW}{best:List Kp}{bv:Value}{Lb k:Nat}{Ds:List Nat}{csk:Array Value}{psk:List aW}{vL:Value}{T:List TV}(h:kl n0 w0 w sb pb cap cs ps best bv Lb k Ds W csk psk vL T)(hk:k<ps.length)(hup:ps[k].up=false)(hb:Below W.heap.size W X):kl n0 w0 w sb pb cap cs ps best bv Lb (k+1) Ds X csk psk vL T:=by
 have l:=h.later hb;refine⟨l.spk,l.len,λ i hi hi' hlt=>?_,λ i hi hi' hle=>l.rest i hi hi' (by omega),l.box,l.told,?_,l.kept,l.rows,l.fr,l.marks,l.nodup,l.lb⟩
 ·by_cases e:i<k
  ·exact l.done i hi hi' e
  have:i=k:=by omega
  subst this;rw [l.rest i hi hi' (aL _)];exact⟨ps[i].view,rfl,by rw [hup];exact rfl⟩
 rw [l.what,vy hk,show fG best k ps[k]=[]by unfold fG;rw [hup];rfl,List.append_nil]
theorem kl.next{n0:Nat}{w0 w V X:World}{sb pb cap:Nat}{cs:Array Value}{ps:List aW}{best:List Kp}{bv:Value}{Lb k:Nat}{Ds:List Nat}{csk:Array Value}{psk:List aW}{vL vL':Value}{T T':List TV}{Bv Bm D:Nat}{v':Value}{l':List Rv}{xs:List MV}(h:kl n0 w0 w sb pb cap cs ps best bv Lb k Ds V csk psk vL T)(hn0:n0<=w.heap.size)(hk:k<ps.length)(hup:ps[k].up=true)
  (hBv:∃ c,V.heap[Bv]?=some (.cells c 105 (0,0))) (hBm:∃ c,V.heap[Bm]?=some (.cells c 105 (0,0))) (hBvw:w.heap.size<=Bv) (hBmw:w.heap.size<=Bm) (ht:bS V n0 v' l') (hrow:∀ y∈l',bK V y) (hfresh:∀ k0,v'.ownBlock=some k0->¬dA pb csk ps.length k0/\w.heap.size<=k0) (hmr:l'.map (·.r)=cA ps[k].mo k best) (hok:∀ x∈best,dh x.r=true) (hbl:best.length<=64)
  (hI:zG V Lb Bv Bm w.heap.size vL (fh best 0 (ps.take k)) k xs vL' T' X) (hS:xs.map (·.m)=pH (ps[k].view.length+l'.length) (ps[k].view.map (·.r)) (l'.map (·.r))) (hD:V.heap.size<=D) (hDX:X.heap[D]?=some (.deferred (some []))) :
  kl n0 w0 w sb pb cap cs ps best bv Lb (k+1) (D::Ds) (X.setCell ⟨pb,k*7+6,none⟩ v') (csk.setIfInBounds (k*7+6) v') (psk.set k { ps[k]with view:=l' }) vL' T':=by
 obtain⟨cv,hBv⟩:=hBv;obtain⟨cm,hBm⟩:=hBm;have hkl:k<psk.length:=by rw [h.len];exact hk
 have hpk:=h.rest k hk hkl (aL _);have hLw:∀ k0,vL.ownBlock=some k0->w.heap.size<=k0:=λ k0 e=>(h.told.row.lt k0 e).1
 have hty:∀(k0:Nat) (o:Obj),V.heap[k0]?=some o->(∀ c T z,o=.cells c T z->T≠51/\T≠93/\T≠105)->X.heap[k0]?=some o:=λ k0 o ho hno=>(hI.fr.block k0 (ah ho) λ e=>by
  rcases e with e|e|e|e
  ·rw [e,h.box]at ho;cases ho;exact(hno _ _ _ rfl).1 rfl
  ·obtain⟨cur,hc⟩:=own_typed h.told.row e;rw [hc]at ho;cases ho;exact(hno _ _ _ rfl).2.1 rfl
  ·rw [e,hBv]at ho;cases ho;exact(hno _ _ _ rfl).2.2 rfl
  ·rw [e,hBm]at ho;cases ho;exact(hno _ _ _ rfl).2.2 rfl).trans ho
 have hlow:∀ k0,k0<w.heap.size->X.heap[k0]?=V.heap[k0]?:=λ k0 hk0=>hI.fr.block k0 (by have:=h.fr.size;omega) λ e=>by
  rcases e with e|e|e|e
  ·have:=h.lb;omega
  ·have:=hLw k0 e;omega
  ·omega
  omega
 have hspk:bG n0 w0 X sb pb cap csk psk:=h.spk.keep ⟨hI.fr.os.trans h.spk.bel.os,hI.fr.tape.trans h.spk.bel.tape,hI.fr.output.trans h.spk.bel.output,gG h.spk.bel.size hI.fr.size,λ k0 hk0=>(hlow k0 (by omega)).trans (h.spk.bel.block k0 hk0)⟩ λ k0 o ho hw=>hty k0 o ho λ c T z e=>by
  subst e;rcases hw with e|e|⟨cur,e⟩
  ·have:=h.spk.spk;rw [<-e,ho]at this;cases this;exact⟨by decide,by decide,by decide⟩
  ·obtain⟨_,c2,T2,h2,h3⟩:=h.spk.own_typed e;rw [ho]at h2;cases h2;rcases h3 with h3|h3<;>subst h3<;>exact⟨by decide,by decide,by decide⟩
  cases e;exact⟨by decide,by decide,by decide⟩
 have hrX:∀ y:Rv,bK V y->bK X y:=λ y hy=>hy.fr λ k0 _ ⟨cur,hc⟩=>(hty k0 _ hc λ c T z e=>by cases e;exact⟨by decide,by decide,by decide⟩).trans hc.symm
 have htX:bS X n0 v' l':=ht.fr λ k0 e=>by
  obtain⟨cur,hc⟩:=ht.typed e;exact(hty k0 _ hc λ c T z e=>by cases e;exact⟨by decide,by decide,by decide⟩).trans hc.symm
 have hrok:∀ y∈l',dh y.r=true:=λ y hy=>by
  have hm:y.r∈cA ps[k].mo k best:=by rw [<-hmr];exact List.mem_map_of_mem hy
  obtain⟨x,hx,_,h1,h2⟩:=xe hm;rw [h2];exact((h.spk.ok psk[k] (ej hkl)).gout x.r (hok x hx) (by rw [hpk];exact h1) |> λ e=>by rw [hpk]at e;exact e.1)
 have hll:l'.length<=64:=by
  have h1:=xd ps[k].mo k best;rw [<-hmr,List.length_map]at h1;omega
 have hset:=hspk.setView hkl htX (λ k0 e=>by rw [h.len];exact(hfresh k0 e).1) hll λ y hy=>⟨hrX y (hrow y hy),hrok y hy⟩
 rw [hpk]at hset
 have hpbw:∀(k0:Nat) (c:Array Value) (T:TypeId),X.heap[k0]?=some (.cells c T (0,0))->T≠107->(X.setCell ⟨pb,k*7+6,none⟩ v').heap[k0]?=X.heap[k0]?:=λ k0 c T hc hT=>ai λ e=>by
  rw [show k0=pb from e,hspk.blk]at hc;cases hc;exact hT rfl
 refine⟨hset,by rw [List.length_set,h.len],λ i hi hi' hlt=>?_,λ i hi hi' hle=>?_,?_,hI.told.fr (λ k0 e=>?_) (λ x hx k0 e=>?_),?_,?_,λ x hx=>?_,?_,λ D' hD'=>?_,?_,h.lb⟩
 ·rw [List.length_set]at hi';by_cases e:i<k
  ·rw [List.getElem_set_ne (by omega)];exact h.done i hi hi' e
  have:i=k:=by omega
  subst this;rw [List.getElem_set_self];exact⟨l',rfl,by rw [hup];exact hmr⟩
 ·rw [List.length_set]at hi';rw [List.getElem_set_ne (by omega)];exact h.rest i hi hi' (by omega)
 ·rw [hpbw _ _ _ hI.box (by decide)];exact hI.box
 ·obtain⟨cur,hc⟩:=own_typed hI.told.row e;exact hpbw _ _ _ hc (by decide)
 ·obtain⟨cur,hc⟩:=own_typed (hI.told.bytes x hx).1 e;exact hpbw _ _ _ hc (by decide)
 ·rw [hI.what,vy hk]
  congr 1
  unfold fG;rw [hup,aS rfl,<-hmr,List.length_map,<-hS,List.map_map]
  rfl
 ·refine(h.kept.fr (λ k0 e=>?_):dg X _ _ _).fr λ k0 e=>?_
  ·obtain⟨cur,hc⟩:=own_typed h.kept e;exact(hty k0 _ hc λ c T z e=>by cases e;exact⟨by decide,by decide,by decide⟩).trans hc.symm
  obtain⟨cur,hc⟩:=own_typed h.kept e;have hc2:=hty k0 _ hc λ c T z e=>by cases e;exact⟨by decide,by decide,by decide⟩
  exact hpbw _ _ _ hc2 (by decide)
 ·exact(hrX _ (h.rows x hx)).fr λ k0 _ ⟨cur,hc⟩=>hpbw _ _ _ hc (by decide)
 ·refine⟨hI.fr.os.trans h.fr.os,hI.fr.tape.trans h.fr.tape,hI.fr.output.trans h.fr.output,by simp only [World.setCell,Array.size_modify];exact gG h.fr.size hI.fr.size,λ k0 hk0 hno=>?_,λ k0 hk0=>?_⟩
  ·rw [ai (λ e=>hno (inl e)),hlow k0 hk0];exact h.fr.block k0 hk0 hno
  rcases hk0 with e|⟨q,u,hq,hu,e⟩
  ·exact h.fr.own k0 (inl e)
  by_cases hqq:q=k*7+6
  ·have hq6:(csk.setIfInBounds (k*7+6) v')[q]?=some v':=by
    obtain⟨v6,e6,_⟩:=(h.spk.at_ k hkl).c6;rw [hqq];exact fF e6
   rw [hq6]at hu;cases hu
   exact inr (hfresh k0 e).2
  rw [eM (Ne.symm hqq)]at hu;exact h.fr.own k0 (inr ⟨q,u,hq,hu,e⟩)
 ·rcases List.mem_cons.1 hD' with rfl|hD'
  ·refine⟨?_,?_⟩
   ·rw [ai (λ e=>by rw [show D'=pb from e,hspk.blk]at hDX;cases hDX)];exact hDX
   have:=h.fr.size;omega
  have hm:=h.marks D' hD';have hX':=hty D' _ hm.1 λ c T z e=>by cases e
  exact⟨by rw [ai (λ e=>by rw [show D'=pb from e,hspk.blk]at hX';cases hX')];exact hX',hm.2⟩
 refine List.nodup_cons.2 ⟨λ hm=>?_,h.nodup⟩;have:=ah (h.marks D hm).1;omega
def Es(sb pb cap n Lb:Nat)(bv:Value)(k:Nat)(Ds:List Nat)(a:Act):Prop:=∃ x5 x6 x7 x8 x9 x10 x19 x20 x21 x22 x23 x24 x25 x26 x27 x28 x29 x30 x31 x32 x33 x34 x35 x36 x37 x38 x39 x40 x41 x42 x43 x44 x45 x46 x47 x48 x49 x50 x51 x52 x53 x54 x55 x56 x57 x58 x59:Value,a={ tmps:=#[au sb 0,undef,.slice none 0 0,au Lb 0,bv,x5,x6,x7,x8,x9,x10,au sb 0,bv,au sb 0,au sb 0,au sb 0,.slice (some ⟨pb,0,none⟩) n cap,.int .i64 (n:Int),.int .i64 (k:Int),x19,x20,x21,x22,x23,x24,x25,x26,x27,x28,x29,x30,x31,x32,x33,x34,x35,x36,x37,x38,x39,x40,x41,x42,x43,x44,x45,x46,x47,x48,x49,x50,x51,x52,x53,x54,x55,x56,x57,x58,x59],defers:=Ds.map M1 }
theorem Es.at18{sb pb cap n Lb:Nat}{bv:Value}{k:Nat}{Ds:List Nat}{a:Act}(h:Es sb pb cap n Lb bv k Ds a):(intOf (a.tmps.getD 18 undef)).toNat=k:=by
 obtain⟨x5,x6,x7,x8,x9,x10,x19,x20,x21,x22,x23,x24,x25,x26,x27,x28,x29,x30,x31,x32,x33,x34,x35,x36,x37,x38,x39,x40,x41,x42,x43,x44,x45,x46,x47,x48,x49,x50,x51,x52,x53,x54,x55,x56,x57,x58,x59,rfl⟩:=h
 rfl
def Et(n0:Nat)(w0 w:World)(sb pb cap:Nat)(cs:Array Value)(ps:List aW)(best:List Kp)(bv:Value)(Lb:Nat)(a:Act)(W:World):Prop :=
 ∃ k Ds csk psk vL T,k<=ps.length/\Es sb pb cap ps.length Lb bv k Ds a/\kl n0 w0 w sb pb cap cs ps best bv Lb k Ds W csk psk vL T
theorem lm{n0:Nat}{w0 w:World}{sb pb cap:Nat}{cs:Array Value}{ps:List aW}(hN:n0=w0.heap.size)(hE:fU w0 48)(h:bG n0 w0 w sb pb cap cs ps) :
  Calls prog 50 #[.pointer (some ⟨sb,0,none⟩)] w λ e w'=>∃ v T cs' ps',e=.returned v/\eC w' w.heap.size v T/\bG n0 w0 w' sb pb cap cs' ps'/\Fr (dA pb cs ps.length) w (dA pb cs' ps.length) w'/\T.map (λ x=>(x.peer,x.m))=fh (cX (ps.map (·.rts))) 0 ps/\ps'.length=ps.length/\∀ i (hi:i<ps.length) (hi':i<ps'.length),tf (cX (ps.map (·.rts))) i ps[i] ps'[i]:=by
 obtain⟨i0,hi0,hz0,hz1,hz2⟩:=info_parts Tryz.infoTold;have hsp:w.cell? ⟨sb,0,none⟩=some (.slice (some ⟨pb,0,none⟩) ps.length cap):=ag h.spk;have HA:=af (zQ w sb pb n0 cap (ps.map (·.rts)) (by rw [List.length_map];exact hsp) h.peers (ah h.blk) (by rw [List.length_map];have:=h.few;omega));obtain⟨hbr,hbl⟩:=h.best;have EA:=af hbr;have H:=af h;have HE:=af hE;generalize cX (ps.map (·.rts))=best at *;clear h hE hbr;refine(callsIn_wide (n:=6)).1 ?_;refine callsIn_of_wp_marks func50 rfl trivial ?_ rfl;simp only [ntmps50,List.size_toArray,List.length_cons,List.length_nil,Nat.reduceAdd,Nat.reduceSub,Array.replicate_succ,Array.replicate_zero,List.push_toArray,List.append_toArray,List.nil_append,List.cons_append]
 gi_wp2_with (refine⟨trivial,?_⟩;gi_at_call 38;refine((callsIn_wide).2 (ae HA)).mono ?_;rintro e w1 ⟨bv,rfl,hkv,hb1⟩;obtain⟨bq,bc,rfl⟩:=al hkv;have XA:=af hkv;have QA:=af hb1;have hsp1:=(hb1.cell (p:=⟨sb,0,none⟩) (ah (ae H).spk)).trans hsp;have lsb:sb<w1.heap.size:=(gY (ah (ae H).spk) hb1.size);clear hkv hb1)
 refine wpIn_loop (Et n0 w0 w sb pb cap cs ps best (.slice bq best.length bc) w1.heap.size) (λ a _=>ps.length-(intOf (a.tmps.getD 18 undef)).toNat) ⟨0,[],cs,ps,.slice none 0 0,[],dG _,⟨_,_,_,_,_,_,_,_,_,_,_,_,_,_,_,_,_,_,_,_,_,_,_,_,_,_,_,_,_,_,_,_,_,_,_,_,_,_,_,_,_,_,_,_,_,_,_,rfl⟩,kl.start (ae H) (ae QA) (ae XA) λ x hx=>(ae EA x hx).1⟩ ?_;intro a W hinv;obtain⟨K,hK⟩:∃ K:Act->World->Prop,K=λ a' w'=>Et n0 w0 w sb pb cap cs ps best (.slice bq best.length bc) w1.heap.size a' w'/\ps.length-(intOf (a'.tmps.getD 18 undef)).toNat<ps.length-(intOf (a.tmps.getD 18 undef)).toNat:=⟨_,rfl⟩
 rw [<-hK];obtain⟨k,Ds,csk,psk,vL,T,hk,hA,hL⟩:=hinv
 have HK:=af (show ∀ a' W',k<ps.length->(∃ Ds csk psk vL T,Es sb pb cap ps.length w1.heap.size (.slice bq best.length bc) (k+1) Ds a'/\kl n0 w0 w sb pb cap cs ps best (.slice bq best.length bc) w1.heap.size (k+1) Ds W' csk psk vL T)->K a' W' from λ a' W' hlt ⟨Ds,csk,psk,vL,T,h1,h2⟩=>by
  rw [hK];exact⟨⟨k+1,Ds,csk,psk,vL,T,hlt,h1,h2⟩,by rw [h1.at18,hA.at18];omega⟩)
 clear hK;obtain⟨x5,x6,x7,x8,x9,x10,x19,x20,x21,x22,x23,x24,x25,x26,x27,x28,x29,x30,x31,x32,x33,x34,x35,x36,x37,x38,x39,x40,x41,x42,x43,x44,x45,x46,x47,x48,x49,x50,x51,x52,x53,x54,x55,x56,x57,x58,x59,rfl⟩:=hA;have hn:psk.length=ps.length:=hL.len;have s0:W.cell? ⟨sb,0,none⟩=some (.slice (some ⟨pb,0,none⟩) ps.length cap):=by rw [<-hn];exact ag hL.spk.spk
 have hfew:ps.length<=4:=by rw [<-hn];exact hL.spk.few
 by_cases hlt:k<ps.length
 ·have hltk:k<psk.length:=by rw [hn];exact hlt
  have hpk:=hL.rest k hlt hltk (aL _);have hat:=hL.spk.at_ k hltk;rw [hpk]at hat;have b4:W.cell? ⟨pb,k*7+4,none⟩=some (.bool ps[k].up):=(ag hL.spk.blk).trans hat.c4;refine wpIn_wide.2 ?_;go_upto_region 5 with fail
  have hnb:=cM W (.cells #[.int .i64 (k:Int)] 3);have hb1:Below W.heap.size W (W.alloc (.cells #[.int .i64 (k:Int)] 3)):=(aY _ _).alloc (aL _) _;generalize W.alloc (.cells #[.int .i64 (k:Int)] 3)=X at hnb hb1 ⊢;have lsW:sb<W.heap.size:=ah hL.spk.spk;have lpW:pb<W.heap.size:=ah hL.spk.blk;have s1:X.cell? ⟨sb,0,none⟩=some (.slice (some ⟨pb,0,none⟩) ps.length cap):=(hb1.cell (p:=⟨sb,0,none⟩) lsW).trans s0;have i1:X.cell? ⟨W.heap.size,0,none⟩=some (.int .i64 (k:Int)):=ag hnb;have b41:=(hb1.cell (p:=⟨pb,k*7+4,none⟩) lpW).trans b4;have HL:=af hL;have VA:=af hat;have GA:=af hpk;have IA:=af hb1;have TA:=af hnb;clear hL hat hpk hb1 hnb s0 b4;go_quiet ((fail))
  cases hup:ps[k].up with
  | false =>
   rw [hup]at b41;have YA:=af ((ae HL).skip hlt hup ((ae IA).trans (below_drewN (aY _ _) nq)));go_wp2
   exact ae HK _ _ hlt ⟨Ds,csk,psk,vL,T,⟨_,_,_,_,_,_,_,_,_,_,_,_,_,_,_,_,_,_,_,_,_,_,_,_,_,_,_,_,_,_,_,_,_,_,_,_,_,_,_,_,_,_,_,_,_,_,_,rfl⟩,ae YA⟩
  | true =>
   rw [hup]at b41;have hLX:=(ae HL).later ((ae IA).trans (below_drewN (aY _ _) nq));have FA:=af hLX;have i2:(X.drewN nq).cell? ⟨W.heap.size,0,none⟩=some (.int .i64 (k:Int)):=i1;have b42:(X.drewN nq).cell? ⟨pb,k*7+4,none⟩=some (.bool true):=b41;have s2:(X.drewN nq).cell? ⟨sb,0,none⟩=some (.slice (some ⟨pb,0,none⟩) ps.length cap):=s1;have lW:W.heap.size<(X.drewN nq).heap.size:=(ah (ae TA):W.heap.size<X.heap.size)
   generalize X.drewN nq=Y at FA i2 b42 s2 lW ⊢;have hLY:=ae FA;have hpo:=(hLY.spk.ok psk[k] (ej hltk)).pout;rw [ae GA]at hpo;obtain⟨vv,ev,tv⟩:=(ae VA).c6;have hatY:=hLY.spk.at_ k hltk;rw [ae GA]at hatY;obtain⟨vv,ev,tv⟩:=hatY.c6;obtain⟨vq,vc,rfl⟩:=al tv;have NA:=af (yD hpo Y hLY.spk.bel hLY.spk.n0le pb (k*7) csk 107 hLY.spk.blk hatY.c2 hatY.c3 (k:Int) best w.heap.size (.slice bq best.length bc) hLY.kept (by omega) hLY.rows λ x hx=>(ae EA x hx).2);have v6:Y.cell? ⟨pb,k*7+6,none⟩=some (.slice vq ps[k].view.length vc):=(ag hLY.spk.blk).trans ev;have lpY:pb<Y.heap.size:=ah hLY.spk.blk;have lsY:sb<Y.heap.size:=ah hLY.spk.spk;have MA:=af tv;clear hLY hpo hatY ev tv hLX s1 i1 b41 IA TA;go_upto_region 8 with(go_at_call 71;refine(ae NA).mono ?_;rintro e w2 ⟨mv,l,rfl,htv,hmr,hrv,hb2⟩;obtain⟨mq,mc,rfl⟩:=al htv;have HT:=af htv;have LA:=af hmr;have UA:=af hrv;have DA:=af hb2;have v62:=(hb2.cell (p:=⟨pb,k*7+6,none⟩) lpY).trans v6;have i3:=(hb2.cell (p:=⟨W.heap.size,0,none⟩) lW).trans i2;clear htv hmr hrv hb2)
   refine(wpIn_wide (n:=6)).1 ?_;have WA:=af (λ W0=>yh (.slice vq ps[k].view.length vc) (.slice mq l.length mc) W0 ⟨_,_,_,rfl⟩ ⟨_,_,_,rfl⟩)
   gi_wp2_with (refine⟨trivial,?_⟩;gi_at_call 72;refine((callsIn_wide).2 (ae WA _)).mono ?_;rintro e w3 ⟨rfl,rfl⟩)
   obtain⟨hBv,hBm,hBV⟩:=B8 w2 (aE (.slice vq ps[k].view.length vc) 105) (aE (.slice mq l.length mc) 105);generalize (w2.alloc (aE (.slice vq ps[k].view.length vc) 105)).alloc (aE (.slice mq l.length mc) 105)=V at hBv hBm hBV ⊢;have hYV:Below Y.heap.size Y V:=(ae DA).trans (hBV.mono (ae DA).size);have hLV:=(ae FA).later hYV;have htV:=(ae HT).below hBV;have hvV:=((ae MA).below (ae DA)).below hBV
   have hok2:∀ y∈l,dh y.r=true:=λ y hy=>by
    have hm:y.r∈cA ps[k].mo k best:=by rw [<-ae LA];exact List.mem_map_of_mem hy
    obtain⟨x,hx,_,h1,h2⟩:=xe hm;rw [h2];have hg:=(hLV.spk.ok psk[k] (ej hltk)).gout;rw [ae GA]at hg;exact(hg x.r (ae EA x hx).2 h1).1
   have hvr:=(hLV.spk.ok psk[k] (ej hltk)).vrows;have hvs:=(hLV.spk.ok psk[k] (ej hltk)).seen;rw [ae GA]at hvr hvs
   have hls:l.length<=64:=by
    have h1:=xd ps[k].mo k best;rw [<-ae LA,List.length_map]at h1;omega
   have hch:pf V w2.heap.size (w2.heap.size+1) ps[k].view l:=⟨⟨_,hBv,hvV.readT⟩,⟨_,hBm,htV.readT⟩,hvr,λ y hy=>⟨(ae UA y hy).below hBV,hok2 y hy⟩⟩
   have hszs:w1.heap.size<W.heap.size/\W.heap.size<Y.heap.size/\Y.heap.size<=w2.heap.size/\w2.heap.size+1<V.heap.size/\w.heap.size<=w1.heap.size:=⟨ah (ae HL).box,lW,(ae DA).size,ah hBm,(ae QA).size⟩
   obtain⟨z1,z2,z3,z4,z5⟩:=hszs;have i5:V.cell? ⟨W.heap.size,0,none⟩=some (.int .i64 (k:Int)):=(hYV.cell (p:=⟨W.heap.size,0,none⟩) lW).trans i2;have CB:=af hLV;refine(wpIn_wide (n:=6)).1 ?_;refine wpIn_block ?_;refine GY (α:=MV) (n:=6) (gf:=103) (lb:=#[au w2.heap.size 0,au (w2.heap.size+1) 0]) rfl (enters_of func103 (by kernel_rfl) rfl) (by decide) (zW 5 (by decide) V _ _ ps[k].view l (by omega) hch (by omega)) (λ _=>rfl) ?hO (rx V w1.heap.size w2.heap.size (w2.heap.size+1) w.heap.size vL (fh best 0 (ps.take k)) k) ?hI ?hIp ?h0 ?hround ?hdone
   case hO=>intro k0 hk0;rcases hk0 with e|e<;>omega
   case hI=>exact λ pre X Y h hf=>h.iter (by omega) (by omega) hf
   case hIp=>exact λ pre X l o o' h hl ho hc=>h.putObj hl ho hc
   case h0=>exact⟨vL,T,dw _ _,hLV.box,hLV.told,by rw [hLV.what];simp,λ k0 e=>(by have:=((ae HL).told.row.lt k0 e).2;omega),λ x hx k0 e=>(by have:=(((ae HL).told.bytes x hx).1.lt k0 e).2;omega)⟩
   case hround =>
    rintro L pre x Z hL1 hL2 ⟨vL',T',hJ⟩ hPx hlen;obtain⟨xm,vg,vn,vp,vm⟩:=x;have DB:=af hPx;have g1:cd Z vg xm.gone:=hPx.gone;have g2:cd Z vn xm.nets:=hPx.nets;have g3:aA Z vp xm.path:=hPx.path;have g4:aA Z vm xm.marks:=hPx.marks;have AA:Hid (eW xm):=af hPx.ok;obtain⟨pg,cg,rfl,-⟩:=id g1;obtain⟨pn,cn,rfl,-⟩:=id g2;obtain⟨pp,cp,rfl,-⟩:=id g3;obtain⟨pm,cm,rfl,-⟩:=id g4;have G1:=af g1;have G2:=af g2;have G3:=af g3;have G4:=af g4;have SA:=af hJ;clear hPx hJ g1 g2 g3 g4;dsimp only [MV.val]
    gi_wp2
    refine⟨(KeepsOthers.alloc _ _).from _,λ o o' ho ho' hZL=>?_⟩;have hZLZ:Z.heap[L]?=some o:=(mC _ _ _ hL2).symm.trans hZL;have hJ:=ae SA;obtain⟨la,lc,rfl⟩:=al hJ.told.row;have hX2u:((Z.alloc (.cells #[.slice pg xm.gone.length cg,.slice pn xm.nets.length cn,.slice pp xm.path.length cp,.slice pm xm.marks.length cm,.int .i64 xm.pref,.int .i64 xm.med] 87)).putObj L o').heap[Z.heap.size]?=some (.cells #[.slice pg xm.gone.length cg,.slice pn xm.nets.length cn,.slice pp xm.path.length cp,.slice pm xm.marks.length cm,.int .i64 xm.pref,.int .i64 xm.med] 87 (0,0)):=(World.putObj_heap_other (by omega)).trans (cM Z _);have hkc:=GX (U:=.cells #[.slice pg xm.gone.length cg,.slice pn xm.nets.length cn,.slice pp xm.path.length cp,.slice pm xm.marks.length cm,.int .i64 xm.pref,.int .i64 xm.med] 87) (o':=o') hZLZ ho;have hszX:((Z.alloc (.cells #[.slice pg xm.gone.length cg,.slice pn xm.nets.length cn,.slice pp xm.path.length cp,.slice pm xm.marks.length cm,.int .i64 xm.pref,.int .i64 xm.med] 87)).putObj L o').heap.size=Z.heap.size+1:=by simp
    obtain⟨X2,hX2⟩:∃ X2,X2=(Z.alloc (.cells #[.slice pg xm.gone.length cg,.slice pn xm.nets.length cn,.slice pp xm.path.length cp,.slice pm xm.marks.length cm,.int .i64 xm.pref,.int .i64 xm.med] 87)).putObj L o':=⟨_,rfl⟩
    rw [<-hX2]at hX2u hkc hszX ⊢;have hlb:=hLV.lb;have hn0w:=(ae H).n0le;have hzV:=hJ.fr.size
    have hlow:∀ k0,k0<w.heap.size->X2.heap[k0]?=V.heap[k0]?:=λ k0 hk0=>by
     rw [hX2,World.putObj_heap_other (by omega),mC _ _ _ (by omega)];refine hJ.fr.block k0 (by omega) λ e=>?_
     rcases e with e|e|e|e
     ·omega
     ·have:=(hLV.told.row.lt k0 e).1;omega
     ·omega
     omega
    have hbX:Below w0.heap.size w0 X2:=by
     have hb0:=hLV.spk.bel;rw [hN]at hb0 hn0w;refine⟨?_,?_,?_,?_,λ k0 hk0=>(hlow k0 (by omega)).trans (hb0.block k0 hk0)⟩
     ·rw [hX2];exact hJ.fr.os.trans hb0.os
     ·rw [hX2];exact hJ.fr.tape.trans hb0.tape
     ·rw [hX2];exact hJ.fr.output.trans hb0.output
     rw [hszX];have:=hb0.size;omega
    have hm5:=(ae AA).2.2.2.1;have hm6:=(ae AA).2.2.2.2.1;have PA:=af ((ae HE) X2 _ _ _ _ xm hbX ((ae G1).of (by omega) hkc) ((ae G2).of (by omega) hkc) ((ae G3).of (by omega) hkc) ((ae G4).of (by omega) hkc) (by unfold eN;omega) (by unfold eN;omega))
    have hZi:Z.cell? ⟨W.heap.size,0,none⟩=some (.int .i64 (k:Int)):=(World.cell?_of_block (w:=V) (a:=⟨W.heap.size,0,none⟩) (hJ.fr.block _ (by show W.heap.size<_;omega) λ e=>by
     rcases e with e|e|e|e
     ·simp only at e;omega
     ·have:=((ae HL).told.row.lt _ e).2;simp only at this;omega
     ·simp only at e;omega
     ·simp only at e;omega)).trans i5
    have c3:=hkc _ _ (ag hJ.box:Z.cell? ⟨w1.heap.size,0,none⟩=some (.slice la T'.length lc));have c5:=hkc _ _ hZi;have u0:X2.cell? ⟨Z.heap.size,0,none⟩=some (.slice pg xm.gone.length cg):=ag hX2u;have u1:X2.cell? ⟨Z.heap.size,1,none⟩=some (.slice pn xm.nets.length cn):=ag hX2u;have u2:X2.cell? ⟨Z.heap.size,2,none⟩=some (.slice pp xm.path.length cp):=ag hX2u;have u3:X2.cell? ⟨Z.heap.size,3,none⟩=some (.slice pm xm.marks.length cm):=ag hX2u;have u4:X2.cell? ⟨Z.heap.size,4,none⟩=some (.int .i64 xm.pref):=ag hX2u;have u5:X2.cell? ⟨Z.heap.size,5,none⟩=some (.int .i64 xm.med):=ag hX2u
    have hTl:T'.length<=2000:=by
     have h1:=jC List.length hJ.what;rw [List.length_map,List.length_append,List.length_map]at h1
     have h2:=rk (n:=64) (m:=64) hbl (ps:=ps.take k) (i:=0) (λ p hp=>by
      have hp2:=List.mem_of_mem_take hp;exact((ae H).ok p hp2).seen)
     rw [List.length_take]at h2;have h3:min k ps.length*(64+64)<=4*(64+64):=Nat.mul_le_mul_right _ (by omega);omega
    have lZ:W.heap.size<X2.heap.size:=by omega
    have lL:w1.heap.size<X2.heap.size:=by omega
    have hbox2:X2.heap[w1.heap.size]?=some (.cells #[.slice la T'.length lc] 51 (0,0)):=by
     rw [hX2,World.putObj_heap_other (λ e=>by rw [<-e,hJ.box]at hZLZ;cases hZLZ;cases ho),mC _ _ _ (ah hJ.box)];exact hJ.box
    have AB:=af hX2;have JA:=af hbox2
    have CA:Hid (X2.ownsRow w.heap.size 93 2 (.slice la T'.length lc) T'.length (y9 T')):=af (ay hJ.told.row λ k0 e=>by
     obtain⟨cur,hc⟩:=own_typed hJ.told.row e;rw [hX2,World.putObj_heap_other (λ e2=>by rw [<-e2,hc]at hZLZ;cases hZLZ;cases ho),mC _ _ _ (ah hc)])
    have BB:Hid (∃ o:Obj,Z.heap[L]?=some o/\o.isCells=false):=af ⟨o,hZLZ,ho⟩;clear hX2 hbX hkc hX2u hbox2 hlow hZL hZLZ hJ hZi hm5 hm6 hLV htV hvV hok2 hvr hvs hch hYV hBv hBm hBV i5 i3 v62 ho ho'
    gi_wp2_with (first
     | (refine⟨trivial,?_⟩;gi_at_call 48;refine(CallsIn.inRound L ((callsIn_wide).2 (ae PA))).mono ?_;rintro e X3 ⟨hb3,bw,bl,ke,rfl,hob,hor⟩;obtain⟨qb,cb,rfl⟩:=aI hob;have hble:bl=jv xm/\ke=0:=(hor.elim (λ h=>⟨h.2.1,h.2.2⟩) λ h=>absurd (ae AA) h.1);obtain⟨rfl,rfl⟩:=hble;have RA:=af hb3;have ZA:=af hob;have d3:=(hb3.cell (p:=⟨w1.heap.size,0,none⟩) lL).trans c3;have d5:=(hb3.cell (p:=⟨W.heap.size,0,none⟩) lZ).trans c5;have hrow3:=ay (ae CA) (λ k0 e=>hb3.block k0 ((ae CA).lt k0 e).2);have BA:=af hrow3;have hszb:=hb3.size;clear hb3 hob hor hrow3 PA)
     | (gi_at_builtin;refine wpListIn_append_own_at _ rfl _ _ 51 rfl w.heap.size 93 i0 _ 2 32 underlying51 hi0 hz0 hz1 hz2 rfl (by decide) (.slice la T'.length lc) T'.length (y9 T') rfl ((ae BA).alloc _) ⟨X3.heap.size,0,none⟩ 1 1 [.int .i64 (k:Int),.slice qb (jv xm).length cb] rfl rfl (World.news_of_block (cs:=#[.int .i64 (k:Int),.slice qb (jv xm).length cb]) (t:=93) (fr:=(0,0)) (cM _ _)) (by simp [Value.oneCell']) (by simp [maxLen];omega) (by omega) (by simp;omega) ?_;intro v' w9 hown hgrow hnil hat;obtain⟨fa,fb,hfv⟩:=al hown;have hbx3:=((ae RA).block _ lL).trans (ae JA);have hbx9:w9.heap[w1.heap.size]?=some (.cells #[.slice la T'.length lc] 51 (0,0)):=((hgrow.block _ (by simp;omega) (λ e=>by obtain⟨cur,hc⟩:=own_typed (ae BA) e.symm;rw [hbx3]at hc;cases hc)).trans ((mC _ _ _ (ah hbx3)).trans hbx3));have d0:w9.cell? ⟨w1.heap.size,0,none⟩=some (.slice la T'.length lc):=ag hbx9;have dz:w9.frozen? ⟨w1.heap.size,0,none⟩=false:=aj hbx9;have KA:=af (zG.snoc (x:=⟨xm,.slice pg xm.gone.length cg,.slice pn xm.nets.length cn,.slice pp xm.path.length cp,.slice pm xm.marks.length cm⟩) (ae SA) (ae AB) (by omega) hL2 (ae BB) (ae RA) (ae ZA) (ae AA) (by omega) (by omega) (by omega) hown hgrow hat);clear hown hgrow hat hnil hbx3 hbx9;subst hfv))
    exact ae KA
   case hdone =>
    rintro D L xs Z hD hDL hS ⟨vL',T',hJ⟩ hDZ hLZ;have hn0w:=(ae H).n0le
    have hZpb:Z.heap[pb]?=some (.cells csk 107 (0,0)):=(hJ.fr.block pb (ah hLV.spk.blk) λ e=>by
     rcases e with e|e|e|e
     ·have h1:=hLV.box;rw [<-e,hLV.spk.blk]at h1;cases h1
     ·obtain⟨cur,hc⟩:=own_typed hLV.told.row e;rw [hLV.spk.blk]at hc;cases hc
     ·rw [<-e,hLV.spk.blk]at hBv;cases hBv
     ·rw [<-e,hLV.spk.blk]at hBm;cases hBm).trans hLV.spk.blk
    have OA:=af (hLV.next hn0w hlt hup ⟨_,hBv⟩ ⟨_,hBm⟩ (by omega) (by omega) (aZ htV (by omega):bS V n0 _ _) (λ y hy=>(ae UA y hy).below hBV) (λ k0 e=>by
     have h1:=(World.ownsRow.lt (ae HT) k0 e).1;refine⟨λ h2=>?_,by omega⟩;rw [<-hn]at h2;obtain⟨_,c2,T2,h3,_⟩:=(ae FA).spk.own_typed h2;have:=ah h3;omega) (ae LA) (λ x hx=>(ae EA x hx).2) hbl hJ hS hD hDZ)
    obtain⟨v6',e6,-⟩:=(hLV.spk.at_ k hltk).c6;have o6:Z.cell? ⟨pb,k*7+6,none⟩=some v6':=(ag hZpb).trans e6;have f6:Z.frozen? ⟨pb,k*7+6,none⟩=false:=aj hZpb;clear hJ hS hDZ hLZ hZpb e6 hch hvV htV hYV hLV hBv hBm hBV hvr hok2 v62 i3 i5;go_wp2
    exact ae HK _ _ hlt ⟨D::Ds,_,_,vL',T',⟨_,_,_,_,_,_,_,_,_,_,_,_,_,_,_,_,_,_,_,_,_,_,_,_,_,_,_,_,_,_,_,_,_,_,_,_,_,_,_,_,_,_,_,_,_,_,_,rfl⟩,ae OA⟩
 have hke:k=ps.length:=by omega
 subst hke;have hbx:W.cell? ⟨w1.heap.size,0,none⟩=some vL:=ag hL.box;obtain⟨lq,lc,rfl⟩:=al hL.told.row;have HL:=af hL;clear hL
 gi_wp2
 refine ul (λ X=>eC X w.heap.size (.slice lq T.length lc) T/\bG n0 w0 X sb pb cap csk psk/\Fr (dA pb cs ps.length) w (dA pb csk ps.length) X) Ds W (ae HL).nodup (λ D hD=>((ae HL).marks D hD).1) (λ X D hD hX hG=>?_) ⟨(ae HL).told,(ae HL).spk,(ae HL).fr⟩ λ X hG=>?_
 ·have hDw:=((ae HL).marks D hD).2;exact⟨hG.1.putObj hX rfl,hG.2.1.putObj hX rfl (by have h1:=(ae H).n0le;omega),hG.2.2.putObj hDw⟩
 refine⟨.slice lq T.length lc,by simp [results,results50,go_sem],_,T,csk,psk,rfl,hG.1,hG.2.1,hG.2.2,?_,hn,λ i hi hi'=>(ae HL).done i hi hi' hi⟩;rw [(ae HL).what,List.take_length]
