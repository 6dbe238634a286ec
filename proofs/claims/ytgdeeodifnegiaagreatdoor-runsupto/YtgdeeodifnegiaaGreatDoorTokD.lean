/- part -/
import Derived.Test.YtgdeeodifnegiaaGreatDoorTokA
import Derived.Test.YtgdeeodifnegiaaGreatDoorRdrF
import Derived.RangeFuncNested
import Derived.RangeFuncBound
import Derived.RangeFuncCalls
import Derived.RangeFuncLeaves
import Derived.Shelf.RegionOpen
import Derived.OwnWalkIn
import Derived.TacticsInMore
import Derived.LoopNIn
import Derived.LoopIn
set_option maxRecDepth 100000
set_option maxHeartbeats 2000000
namespace Go.Proofs.YtgdeeodifnegiaaGreatDoor
open Go.Proofs.Tryz
open Or
open Go.RowKit
open Go.RowKit Go.Shelf
def kK(t:ByteArray):aw:=⟨if jR t=0/\t.size<=8 then 4 else jR t,0,t,0,0,0⟩
def eh(t:ByteArray):aw:=if eS t 4294967295=true then⟨2,0,t,fR t 4294967295,0,0⟩else if(kf t).isSome=true then⟨3,0,t,0,(kg t).1,(kg t).2⟩else⟨0,0,t,0,0,0⟩
def eB(s:ByteArray):aw :=
 if dF (bt s 0)=true then kK (s.extract 0 (aG dF s 0))
 else if ff (bt s 0)=true then eh (s.extract 0 (aG bX s 0))
 else⟨nM (bt s 0),0,s.extract 0 1,0,0,0⟩
def me(w:World)(t:aw)(e:Ending)(w':World):Prop:=e=.returned (eG t)/\Below w.heap.size w w'
theorem jA{w w1:World}{b o:Nat}{v:Value}(h:Below w.heap.size w w1)(hb:w.heap.size<=b):Below w.heap.size w (w1.setCell ⟨b,o,none⟩ v):=h.setCell (p:=⟨b,o,none⟩) hb _
theorem fM{w w1:World}{b:Nat}{v0 v1 v2 v3 v4 v5:Value}(h:Below w.heap.size w w1)(hb:w.heap.size<=b) :
  Below w.heap.size w ((((((w1.setCell ⟨b,0,none⟩ v0).setCell ⟨b,1,none⟩ v1).setCell ⟨b,2,none⟩ v2).setCell ⟨b,3,none⟩ v3).setCell ⟨b,4,none⟩ v4).setCell ⟨b,5,none⟩ v5) :=
 jA (jA (jA (jA (jA (jA h hb) hb) hb) hb) hb) hb
theorem zx(t:ByteArray)(hs:t.size<=1000)(w:World)(ht:bB w):Calls prog 205 #[.string t] w (me w (kK t)):=by
 have HW:=ae (yi t (w.alloc (aR jz)) (ht.below ((aX _ _).alloc (aD _) _)));have EQ:=ae (show kK t=⟨if jR t=0/\t.size<=8 then 4 else jR t,0,t,0,0,0⟩from rfl);clear ht;by_cases h0:jR t=0
 ·by_cases h8:t.size<=8
  ·rw [aC ⟨h0,h8⟩]at EQ;rw [h0]at HW;go_enter func205,ntmps205;go_wp2_with (go_at_call 255;refine(ab HW).mono ?_;rintro e w1 ⟨rfl,hb1⟩;obtain⟨hk,hb⟩:=es hb1;obtain⟨s0,s1,s2,s3,s4,s5,hz⟩:=ov hk;have HB:=ae hb;clear hb hb1 hk)
   refine eO (v:=eG ⟨4,0,t,0,0,0⟩) (by simp [results,results205,go_sem,s0,s1,s2,s3,s4,s5]) rfl ⟨by rw [ab EQ],fM (ab HB) (aD _)⟩
  rw [au (λ h=>h8 h.2),h0]at EQ;rw [h0]at HW;go_enter func205,ntmps205;go_wp2_with (go_at_call 255;refine(ab HW).mono ?_;rintro e w1 ⟨rfl,hb1⟩;obtain⟨hk,hb⟩:=es hb1;obtain⟨s0,s1,s2,s3,s4,s5,hz⟩:=ov hk;have HB:=ae hb;clear hb hb1 hk)
  refine eO (v:=eG ⟨0,0,t,0,0,0⟩) (by simp [results,results205,go_sem,s0,s1,s2,s3,s4,s5]) rfl ⟨by rw [ab EQ],fM (ab HB) (aD _)⟩
 rw [au (λ h=>h0 h.1)]at EQ;have hb0:(jR t==0)=false:=by simpa using h0
 generalize jR t=K at *;go_enter func205,ntmps205;go_wp2_with (go_at_call 255;refine(ab HW).mono ?_;rintro e w1 ⟨rfl,hb1⟩;obtain⟨hk,hb⟩:=es hb1;obtain⟨s0,s1,s2,s3,s4,s5,hz⟩:=ov hk;have HB:=ae hb;clear hb hb1 hk)
 refine eO (v:=eG ⟨K,0,t,0,0,0⟩) (by simp [results,results205,go_sem,s0,s1,s2,s3,s4,s5]) rfl ⟨by rw [ab EQ],fM (ab HB) (aD _)⟩
theorem Bp(t:ByteArray)(hs:t.size<=1000)(w:World)(hn:eS t 4294967295=true):Calls prog 208 #[.string t] w (me w (eh t)):=by
 have HW:=ae (bV t 4294967295 hs (by decide) (by decide) (w.alloc (aR jz)));rw [hn]at HW;have EQ:=ae (show eh t=⟨2,0,t,fR t 4294967295,0,0⟩by rw [eh,aC hn]);generalize fR t 4294967295=V at *;clear hn;go_enter func208,ntmps208;go_wp2_with (go_at_call 256;refine(ab HW).mono ?_;rintro e w1 ⟨rfl,rfl⟩)
 refine eO (v:=eG ⟨2,0,t,V,0,0⟩) (by simp [results,results208,go_sem]) rfl ⟨by rw [ab EQ],?_⟩;exact(aX _ _).alloc (aD _) _
theorem zh(t:ByteArray)(hs:t.size<=1000)(w:World)(ht:bB w)(hn:eS t 4294967295=false):Calls prog 208 #[.string t] w (me w (eh t)):=by
 have HW:=ae (bV t 4294967295 hs (by decide) (by decide) (w.alloc (aR jz)));rw [hn]at HW;have HP:=ae (gM t hs (w.alloc (aR jz)) (ht.mx.below ((aX _ _).alloc (aD _) _)));unfold wQ at HP;generalize fR t 4294967295=V at *;cases hp:(kf t).isSome with
 | true =>
  have EQ:=ae (show eh t=⟨3,0,t,0,(kg t).1,(kg t).2⟩by rw [eh,au (by rw [hn];decide),aC hp]);rw [hp]at HP;generalize kg t=PV at *;obtain⟨pa,pl⟩:=PV;clear hn ht hp;go_enter func208,ntmps208
  go_wp2_with (first
   | (go_at_call 256;refine(ab HW).mono ?_;rintro e w1 ⟨rfl,rfl⟩)
   | (go_at_call 257;refine(ab HP).mono ?_;rintro e w1 ⟨rfl,hb1⟩;obtain⟨hk,hb⟩:=es hb1;obtain⟨s0,s1,s2,s3,s4,s5,hz⟩:=ov hk;have hl1:w.heap.size<w1.heap.size:=ai hk;have HB:=ae hb;clear hb hb1 hk))
  refine eO (v:=eG ⟨3,0,t,0,pa,pl⟩) (by simp [results,results208,go_sem,s0,s1,s2,s3,s4,s5,hl1]) rfl ⟨by rw [ab EQ],?_⟩
  first
   | with_reducible exact fM ((ab HB).alloc (ab HB).size _) (aD _)
   | ((with_reducible refine Below.alloc (fM (ab HB) (aD _)) ?_ _);(simp [World.setCell];omega))
 | false =>
  have EQ:=ae (show eh t=⟨0,0,t,0,0,0⟩by rw [eh,au (by rw [hn];decide),au (by rw [hp];decide)]);rw [hp]at HP;generalize kg t=PV at *;obtain⟨pa,pl⟩:=PV;clear hn ht hp;go_enter func208,ntmps208
  go_wp2_with (first
   | (go_at_call 256;refine(ab HW).mono ?_;rintro e w1 ⟨rfl,rfl⟩)
   | (go_at_call 257;refine(ab HP).mono ?_;rintro e w1 ⟨rfl,hb1⟩;obtain⟨hk,hb⟩:=es hb1;obtain⟨s0,s1,s2,s3,s4,s5,hz⟩:=ov hk;have hl1:w.heap.size<w1.heap.size:=ai hk;have HB:=ae hb;clear hb hb1 hk))
  refine eO (v:=eG ⟨0,0,t,0,0,0⟩) (by simp [results,results208,go_sem,s0,s1,s2,s3,s4,s5,hl1]) rfl ⟨by rw [ab EQ],?_⟩
  first
   | with_reducible exact fM ((ab HB).alloc (ab HB).size _) (aD _)
   | ((with_reducible refine Below.alloc (fM (ab HB) (aD _)) ?_ _);(simp [World.setCell];omega))
theorem Bo(t:ByteArray)(hs:t.size<=1000)(w:World)(ht:bB w):Calls prog 208 #[.string t] w (me w (eh t)):=by
 cases hn:eS t 4294967295 with
 | true=>exact Bp t hs w hn
 | false=>exact zh t hs w ht hn
theorem DS{p:Int->Bool}{s:ByteArray}(h:0<s.size)(hp:p (bt s 0)=true):1<=aG p s 0/\aG p s 0<=s.size:=by
 have h1:=jB (p:=p) (s:=s) (i:=0+1) (by omega);rw [eT h hp];omega
theorem EF(s:ByteArray)(hs:s.size<=1000)(hp:0<s.size)(w:World)(ht:bB w)(hl:dF (bt s 0)=true):Calls prog 166 #[.string s] w (me w (eB s)):=by
 have EQ:=ae (show eB s=kK (s.extract 0 (aG dF s 0))by rw [eB,aC hl]);have HR:=ae (Mx s hs (w.alloc (aR jz)));have HL:=ae (zx (s.extract 0 (aG dF s 0)) (by simp;omega) (w.alloc (aR jz)) (ht.below ((aX _ _).alloc (aD _) _)));have HI:=ae (ij (bt s 0) (w.alloc (aR jz)));rw [hl,cA hp]at HI;clear ht hl;generalize s.extract 0 (aG dF s 0)=T at *;generalize kK T=R at *;go_enter func166,ntmps166
 go_wp2_with (first
  | (go_at_call 204;refine(ab HI).mono ?_;rintro e w1 ⟨rfl,rfl⟩)
  | (go_at_call 206;refine(ab HR).mono ?_;rintro e w1 ⟨rfl,rfl⟩)
  | (go_at_call 205;refine(ab HL).mono ?_;rintro e w1 ⟨rfl,hb1⟩;obtain⟨hk,hb⟩:=es hb1;obtain⟨s0,s1,s2,s3,s4,s5,hz⟩:=ov hk;have HB:=ae hb;clear hb hb1 hk))
 refine eO (v:=eG R) (by simp [results,results166,go_sem,s0,s1,s2,s3,s4,s5]) rfl ⟨by rw [ab EQ],fM (ab HB) (aD _)⟩
theorem EG(s:ByteArray)(hs:s.size<=1000)(hp:0<s.size)(w:World)(ht:bB w)(hd:ff (bt s 0)=true):Calls prog 166 #[.string s] w (me w (eB s)):=by
 have hl:dF (bt s 0)=false:=by
  have:=(jJ _).1 hd;unfold dF;rw [gn (by omega)];rfl
 have EQ:=ae (show eB s=eh (s.extract 0 (aG bX s 0))by rw [eB,au (by rw [hl];decide),aC hd]);have HR:=ae (My s hs (w.alloc (aR jz)));have HL:=ae (Bo (s.extract 0 (aG bX s 0)) (by simp;omega) (w.alloc (aR jz)) (ht.below ((aX _ _).alloc (aD _) _)));have HI:=ae (ij (bt s 0) (w.alloc (aR jz)));have HJ:=ae (aS (bt s 0) (w.alloc (aR jz)));rw [hl,cA hp]at HI;rw [hd,cA hp]at HJ;clear hd hl ht;generalize s.extract 0 (aG bX s 0)=T at *;generalize eh T=R at *;go_enter func166,ntmps166
 go_wp2_with (first
  | (go_at_call 204;refine(ab HI).mono ?_;rintro e w1 ⟨rfl,rfl⟩)
  | (go_at_call 207;refine(ab HJ).mono ?_;rintro e w1 ⟨rfl,rfl⟩)
  | (go_at_call 206;refine(ab HR).mono ?_;rintro e w1 ⟨rfl,rfl⟩)
  | (go_at_call 208;refine(ab HL).mono ?_;rintro e w1 ⟨rfl,hb1⟩;obtain⟨hk,hb⟩:=es hb1;obtain⟨s0,s1,s2,s3,s4,s5,hz⟩:=ov hk;have HB:=ae hb;clear hb hb1 hk))
 refine eO (v:=eG R) (by simp [results,results166,go_sem,s0,s1,s2,s3,s4,s5]) rfl ⟨by rw [ab EQ],fM (ab HB) (aD _)⟩
theorem Bw(s:ByteArray)(hs:s.size<=1000)(hp:0<s.size)(w:World)(ht:bB w)(hl:dF (bt s 0)=false)(hd:ff (bt s 0)=false):Calls prog 166 #[.string s] w (me w (eB s)):=by
 have EQ:=ae (show eB s=⟨nM (bt s 0),0,s.extract 0 1,0,0,0⟩by rw [eB,au (by rw [hl];decide),au (by rw [hd];decide)]);have HL:=ae (x7 (bt s 0) ((w.alloc (aR jz)).drew) (ht.below (((aX _ _).alloc (aD _) _).drew)));have HI:=ae (ij (bt s 0) (w.alloc (aR jz)));have HJ:=ae (aS (bt s 0) (w.alloc (aR jz)));rw [hl,cA hp]at HI;rw [hd,cA hp]at HJ;rw [cA hp]at HL EQ;clear hd hl ht;generalize hK:nM (s[0].toNat:Int)=K at *;go_enter func166,ntmps166
 go_wp2_with (first
  | (go_at_call 204;refine(ab HI).mono ?_;rintro e w1 ⟨rfl,rfl⟩)
  | (go_at_call 207;refine(ab HJ).mono ?_;rintro e w1 ⟨rfl,rfl⟩))
 go_region_with (go_at_call 210;refine(ab HL).mono ?_;rintro e w1 ⟨rfl,hb1⟩;obtain⟨hk,hb⟩:=es (((aX _ _).drew).trans (hb1.mono (aD _)));obtain⟨s0,s1,s2,s3,s4,s5,hz⟩:=ov hk;have HB:=ae hb;clear hb hb1 hk)
 all_goals
  go_wp2_with fail;refine eO (v:=eG ⟨K,0,s.extract 0 1,0,0,0⟩) (by simp [results,results166,go_sem,s0,s1,s2,s3,s4,s5]) rfl ⟨by rw [ab EQ],fM (ab HB) (aD _)⟩
theorem EE(s:ByteArray)(hs:s.size<=1000)(hp:0<s.size)(w:World)(ht:bB w):Calls prog 166 #[.string s] w (me w (eB s)):=by
 cases hl:dF (bt s 0)with
 | true=>exact EF s hs hp w ht hl
 | false =>
  cases hd:ff (bt s 0)with
  | true=>exact EG s hs hp w ht hd
  | false=>exact Bw s hs hp w ht hl hd
attribute [local go_sem] Oper.semAt_some
def hC(s:ByteArray)(k:Nat):aw:={ eB (s.extract k s.size)with at_:=(k:Int) }
def nV(s:ByteArray):aw:=⟨1,(s.size:Int),⟨#[]⟩,0,0,0⟩
def dh(s:ByteArray):Nat->Nat->List aw
 | 0,_=>[]
 | f+1,k =>
  if k<s.size then
   (if cP (bt s k)=true then dh s f (k+1)
    else if(hC s k).kind=0 then [hC s k]
    else hC s k::dh s f (k+(hC s k).text.size))
  else [nV s]
def cO(s:ByteArray):List aw:=dh s (s.size+1) 0
theorem Ba{s:ByteArray}{k:Nat}(h:k<s.size):bt (s.extract k s.size) 0=bt s k:=by
 have h1:0<(s.extract k s.size).size:=by simp;omega
 rw [cA h1,cA h];have:(s.extract k s.size)[0]=s[k]:=by simp [ByteArray.getElem_extract]
 rw [this]
theorem qV{s:ByteArray}(h:0<s.size):1<=(eB s).text.size/\(eB s).text.size<=s.size:=by
 unfold eB;cases hl:dF (bt s 0)with
 | true =>
  rw [aC rfl];have:=DS h hl;show 1<=(s.extract 0 (aG dF s 0)).size/\(s.extract 0 (aG dF s 0)).size<=s.size;simp;omega
 | false =>
  rw [au (by decide)];cases hd:ff (bt s 0)with
  | true =>
   rw [aC rfl];have hn:bX (bt s 0)=true:=by unfold bX;rw [hd];rfl
   have:=DS h hn
   have e:(eh (s.extract 0 (aG bX s 0))).text=s.extract 0 (aG bX s 0):=by
    unfold eh;split
    ·rfl
    split<;>rfl
   rw [e];simp;omega
  | false =>
   rw [au (by decide)];show 1<=(s.extract 0 1).size/\(s.extract 0 1).size<=s.size;simp;omega
theorem mY{s:ByteArray}{k:Nat}(h:k<s.size):1<=(hC s k).text.size/\k+(hC s k).text.size<=s.size:=by
 have h1:0<(s.extract k s.size).size:=by simp;omega
 have h2:=qV h1;have h3:(s.extract k s.size).size=s.size-k:=by simp
 show 1<=(eB (s.extract k s.size)).text.size/\k+(eB (s.extract k s.size)).text.size<=s.size;omega
theorem tq{A B:World}(h:Below A.heap.size A B):A.grownBy B none:=⟨h.os,h.tape,h.output,h.size,λ k hk _=>h.block k hk⟩
def ir(pb:Nat)(A:World):Option Nat:=match A.cell? ⟨pb,0,none⟩with|some v=>v.ownBlock|none=>none
structure vq(pb:Nat)(A B:World):Prop where
 size:A.heap.size<=B.heap.size
 keep:∀(k:Nat) (c:Array Value) (T:TypeId) (z:Nat×Nat),A.heap[k]?=some (.cells c T z)->k≠pb->ir pb A≠some k->B.heap[k]?=some (.cells c T z)
 row:ir pb B=ir pb A\/∃ g,ir pb B=some g/\A.heap.size<=g/\g<B.heap.size
theorem gX{pb:Nat}{A B:World}(hp:pb<A.heap.size)(h:Below A.heap.size A B):ir pb B=ir pb A:=by
 unfold ir;rw [h.cell (p:=⟨pb,0,none⟩) hp]
structure yr(pb Bs n0:Nat)(s:ByteArray)(wr:World):Prop where
 lp:pb<wr.heap.size
 str:wr.heap[Bs]?=some (.cells #[.string s] 9 (0,0))
 row:∀ k,ir pb wr=some k->n0<=k/\k<wr.heap.size
 tabs:bB wr
theorem yr.below{pb Bs n0:Nat}{s:ByteArray}{A B:World}(h:yr pb Bs n0 s A)(hb:Below A.heap.size A B):yr pb Bs n0 s B :=
 ⟨eV h.lp hb.size,(hb.block Bs (ai h.str)).trans h.str,λ k e=>by rw [gX h.lp hb]at e;exact⟨(h.row k e).1,eV (h.row k e).2 hb.size⟩,h.tabs.below hb⟩
theorem yr.kept{pb Bs n0:Nat}{s:ByteArray}{A B:World}(h:yr pb Bs n0 s A)(hk:vq pb A B)(hne:Bs≠pb)(hBs:Bs<n0)(hT:bB B)(hn:n0<=A.heap.size):yr pb Bs n0 s B:=by
 refine⟨eV h.lp hk.size,hk.keep Bs _ _ _ h.str hne (λ e=>by have:=(h.row _ e).1;omega),λ k e=>?_,hT⟩;rcases hk.row with h1|⟨g,h1,h2,h3⟩
 ·rw [h1]at e;exact⟨(h.row k e).1,eV (h.row k e).2 hk.size⟩
 rw [h1]at e;cases e;exact⟨by omega,h3⟩
theorem nQ{s:ByteArray}{f k:Nat}(hk:k<s.size)(hb:cP (bt s k)=false)(h0:(hC s k).kind≠0):dh s (f+1) k=hC s k::dh s f (k+(hC s k).text.size):=by
 rw [dh,aC hk,au (by rw [hb];decide),au h0]
theorem pT{s:ByteArray}{f k:Nat}(hk:k<s.size)(hb:cP (bt s k)=false)(h0:(hC s k).kind=0):dh s (f+1) k=[hC s k]:=by
 rw [dh,aC hk,au (by rw [hb];decide),aC h0]
theorem JY(n:Nat)(hn:1<=n)(l Bs pb n0:Nat)(s:ByteArray)(hs:s.size<=600)
  (J Jx:List aw->World->Prop) (W:World) (hJ:AbidesFrom W.heap.size J) (h0:J [] W) (hI:yr pb Bs n0 s W) (hne:Bs≠pb) (hBs:Bs<n0) (hn0:n0<=W.heap.size)
  (hKT:∀{A B:World},vq pb A B->(∀ k,ir pb A=some k->n0<=k)->bB A->bB B)
  (hY:∀ pre x W1,J pre W1->pre.length<1000->YieldAt Fence.wide (n-1) prog l #[eG x] W1 λ e W'=>(e=.returned (.bool true)/\J (pre++[x]) W'/\vq pb W1 W')\/(e=.returned (.bool false)/\Jx (pre++[x]) W')) :
  CallsIn Fence.wide n prog 164 #[.func (.yield l) #[] #[],ay Bs 0] W λ e W'=>(∃ v,e=.returned v)/\((∃ ys,ys=cO s/\J ys W')\/(∃ pre,True/\Jx pre W')):=by
 refine callsIn_of_wp func164 rfl trivial ?_ rfl;simp only [ntmps164,List.size_toArray,List.length_cons,List.length_nil,Nat.reduceAdd,Nat.reduceSub,Array.replicate_succ,Array.replicate_zero,List.push_toArray,List.append_toArray,List.nil_append,List.cons_append];have HJ:=ae hJ;have HY:=ae hY;have LA:=ae (λ A B=>@hKT A B);clear hJ hY hKT
 gi_wp2
 gi_loopw [3] (λ i wr=>∃(k f:Nat) (pre:List aw),i=.int .i64 (k:Int)/\k<=s.size/\s.size+1<=f+k/\pre++dh s f k=cO s/\pre.length<=k/\J pre wr/\yr pb Bs n0 s wr/\W.heap.size<=wr.heap.size) (λ i _=>s.size-(intOf i).toNat)
 case atStart=>exact⟨0,s.size+1,[],rfl,iL _,by omega,rfl,aD _,h0,hI,aD _⟩
 case round =>
  obtain⟨k,f,pre,rfl,hk,hf,hall,hpl,hJs,hit,hwz⟩:=hrel;have c0:wr.cell? ⟨Bs,0,none⟩=some (.string s):=af hit.str;have CA:=ae hit;have AA:=ae hall;have IA:=ae hJs;clear hit hall hJs;obtain⟨g,rfl⟩:∃ g,f=g+1:=⟨f-1,by omega⟩
  by_cases hlt:k<s.size
  ·cases hbl:cP (bt s k)with
   | true =>
    have HA:=ae (show dh s (g+1) k=dh s g (k+1)by rw [dh,aC hlt,aC hbl]);have hbl':=hbl;rw [cA hlt]at hbl';have HB:=ae ((callsIn_wide (n:=n-1)).2 (qY (s[k].toNat:Int) wr));rw [hbl']at HB;clear hbl hbl'
    gi_wp2_with (refine⟨trivial,?_⟩;gi_at_call 165;refine(ab HB).mono ?_;rintro e w' ⟨rfl,rfl⟩)
    go_roundw
    case rel=>exact⟨k+1,g,pre,by simp,by omega,by omega,by rw [<-ab HA];exact ab AA,by omega,ab IA,ab CA,hwz⟩
    case measure=>simp [intOf];omega
   | false =>
    have hbl':=hbl;rw [cA hlt]at hbl';have HB:=ae ((callsIn_wide (n:=n-1)).2 (qY (s[k].toNat:Int) wr));rw [hbl']at HB;have KA:=ae ((callsIn_wide (n:=n-1)).2 (EE (s.extract k s.size) (by simp;omega) (by simp;omega) wr (ab CA).tabs));have JA:=ae hbl;have htx:=mY hlt;have MA:=ae htx;have hts:(hC s k).text.size<=600:=by omega
    clear hbl hbl' htx;have EA:=ae (show hC s k={ eB (s.extract k s.size)with at_:=(k:Int) }from rfl);generalize hF:eB (s.extract k s.size)=FT at *
    gi_wp2_with (first
     | (refine⟨trivial,?_⟩;gi_at_call 165;refine(ab HB).mono ?_;rintro e w' ⟨rfl,rfl⟩)
     | (refine⟨trivial,?_⟩;gi_at_call 166;refine(ab KA).mono ?_;rintro e w2 ⟨rfl,hb2⟩;have BA:=ae hb2;have hJ1:=(ab HJ) pre _ (w2.alloc (aR (hC s k))) none (ab IA) (tq (hb2.alloc hb2.size _)) (λ r e=>by cases e);obtain⟨fn,tmps,assign,body,hy,hR⟩:=(ab HY) pre (hC s k) _ hJ1 (by omega);rw [ab EA]at hy hR;have DA:=ae hR;clear hb2 hJ1 hR))
    refine(ab DA).mono ?_;rintro e W3 (⟨rfl,hJ3,hk3⟩|⟨rfl,hJx3⟩)
    ·have hIT1:=((ab CA).below (ab BA)).below ((aX _ _).alloc (aD _) (aR { FT with at_:=(k:Int) }))
     have hrow1:ir pb (w2.alloc (aR { FT with at_:=(k:Int) }))≠some w2.heap.size:=λ e=>by
      rw [gX (eV (ab CA).lp (ab BA).size) ((aX _ _).alloc (aD _) _),gX (ab CA).lp (ab BA)]at e;have h1:=((ab CA).row _ e).2;have h2:=(ab BA).size;omega
     have hb3:=hk3.keep w2.heap.size _ _ _ (fp w2 _ _) (by have h1:=(ab CA).lp;have h2:=(ab BA).size;omega) hrow1;obtain⟨v0,v1,v2,v3,v4,v5,hv⟩:=ov (t:={ FT with at_:=(k:Int) }) hb3;have hIT3:=hIT1.kept hk3 hne hBs ((ab LA) _ _ hk3 (λ k e=>(hIT1.row k e).1) hIT1.tabs) (by have h1:=(ab BA).size;simp;omega);have GA:=ae hIT3;have FA:=ae hJ3;have hz3:W.heap.size<=W3.heap.size:=by have h1:=hk3.size;have h2:=(ab BA).size;simp at h1;omega
     clear hIT1 hIT3 hJ3 hk3 hb3 hrow1 hy DA;by_cases hk0:FT.kind=0
     ·have hkb:(FT.kind==0)=true:=by simpa using hk0
      have HA:=ae (show cO s=pre++[{ FT with at_:=(k:Int) }]by rw [<-ab EA,<-ab AA,pT hlt (ab JA) (by rw [ab EA];exact hk0)])
      gi_wp2
      refine eO (results_none rfl _ _ _) rfl ?_;exact⟨⟨_,rfl⟩,.inl ⟨_,(ab HA).symm,ab FA⟩⟩
     have hkb:(FT.kind==0)=false:=by simpa using hk0
     have HA:=ae (show(pre++[{ FT with at_:=(k:Int) }])++dh s g (k+FT.text.size)=cO s by
      rw [<-ab AA,nQ hlt (ab JA) (by rw [ab EA];exact hk0),ab EA];simp)
     have htx:1<=FT.text.size/\k+FT.text.size<=s.size:=by have:=ab MA;rw [ab EA]at this;exact this
     obtain⟨htx1,htx2⟩:=htx
     gi_wp2
     go_roundw
     case rel=>exact⟨k+FT.text.size,g,_,by simp,htx2,by omega,ab HA,by rw [List.length_append,List.length_singleton];omega,ab FA,ab GA,hz3⟩
     case measure=>simp [intOf];omega
    clear hy DA
    gi_wp2
    refine eO (results_none rfl _ _ _) rfl ?_;exact⟨⟨_,rfl⟩,.inr ⟨_,trivial,hJx3⟩⟩
  have hke:k=s.size:=by omega
  have HA:=ae (show cO s=pre++[nV s]by rw [<-ab AA,dh,au hlt]);obtain⟨fn,tmps,assign,body,hy,hR⟩:=(ab HY) pre (nV s) wr (ab IA) (by omega);have hy':(Instr.yield l #[.agg #[.int .i64 1,.int .i64 (s.size:Int),.string ⟨#[]⟩,.int .i64 0,.int .i64 0,.int .i64 0]]).run prog wr=.ok (.round l fn tmps assign body) wr:=hy;have DA:=ae hR;clear hy hR
  gi_wp2
  refine(ab DA).mono ?_;rintro e W3 (⟨rfl,hJ3,hk3⟩|⟨rfl,hJx3⟩)
  ·have FA:=ae hJ3;clear hy' DA hk3 hJ3
   gi_wp2
   go_end0
   exact⟨⟨_,rfl⟩,.inl ⟨_,(ab HA).symm,ab FA⟩⟩
  clear hy' DA
  gi_wp2
  go_end0
  exact⟨⟨_,rfl⟩,.inr ⟨_,trivial,hJx3⟩⟩
