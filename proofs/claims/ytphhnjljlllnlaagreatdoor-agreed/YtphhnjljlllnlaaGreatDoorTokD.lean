/- part -/
import Derived.Test.YtphhnjljlllnlaaGreatDoorTokA
import Derived.Test.YtphhnjljlllnlaaGreatDoorRdrD
import Derived.RangeFuncNested
import Derived.RangeFuncBound
import Derived.RangeFuncCalls
import Derived.RangeFuncLeaves
import Derived.Shelf.RegionOpen
import Derived.OwnWalkIn
import Derived.TacticsInMore
import Derived.LoopNIn
import Derived.LoopIn
set_option maxRecDepth 100000
set_option maxHeartbeats 2000000
namespace Go.Proofs.YtphhnjljlllnlaaGreatDoor
open Go.Proofs.Tryz
open Or
open Go.RowKit
open Go.RowKit Go.Shelf
def j1(t:ByteArray):ak:=⟨if kF t=0/\t.size<=8 then 4 else kF t,0,t,0,0,0⟩
def dC(t:ByteArray):ak:=if gR t 4294967295=true then⟨2,0,t,jy t 4294967295,0,0⟩else if(mG t).isSome=true then⟨3,0,t,0,(lf t).1,(lf t).2⟩else⟨0,0,t,0,0,0⟩
def de(s:ByteArray):ak :=
 if fk (bt s 0)=true then j1 (s.extract 0 (cD fk s 0))
 else if je (bt s 0)=true then dC (s.extract 0 (cD et s 0))
 else⟨ew (bt s 0),0,s.extract 0 1,0,0,0⟩
def mM(w:World)(t:ak)(e:Ending)(w':World):Prop:=e=.returned (kh t)/\Below w.heap.size w w'
theorem jO{w w1:World}{b o:Nat}{v:Value}(h:Below w.heap.size w w1)(hb:w.heap.size<=b):Below w.heap.size w (w1.setCell ⟨b,o,none⟩ v):=h.setCell (p:=⟨b,o,none⟩) hb _
theorem fx{w w1:World}{b:Nat}{v0 v1 v2 v3 v4 v5:Value}(h:Below w.heap.size w w1)(hb:w.heap.size<=b) :
  Below w.heap.size w ((((((w1.setCell ⟨b,0,none⟩ v0).setCell ⟨b,1,none⟩ v1).setCell ⟨b,2,none⟩ v2).setCell ⟨b,3,none⟩ v3).setCell ⟨b,4,none⟩ v4).setCell ⟨b,5,none⟩ v5) :=
 jO (jO (jO (jO (jO (jO h hb) hb) hb) hb) hb) hb
theorem Av(t:ByteArray)(hs:t.size<=1000)(w:World)(ht:bR w):Calls prog 131 #[.string t] w (mM w (j1 t)):=by
 have HW:=af (zp t (w.alloc (aQ fZ)) (ht.below ((aY _ _).alloc (aL _) _)));have EQ:=af (show j1 t=⟨if kF t=0/\t.size<=8 then 4 else kF t,0,t,0,0,0⟩from rfl);clear ht;by_cases h0:kF t=0
 ·by_cases h8:t.size<=8
  ·rw [aS ⟨h0,h8⟩]at EQ;rw [h0]at HW;go_enter func131,ntmps131;go_wp2_with (go_at_call 176;refine(ae HW).mono ?_;rintro e w1 ⟨rfl,hb1⟩;obtain⟨hk,hb⟩:=dQ hb1;obtain⟨s0,s1,s2,s3,s4,s5,hz⟩:=qy hk;have HB:=af hb;clear hb hb1 hk)
   refine gH (v:=kh ⟨4,0,t,0,0,0⟩) (by simp [results,results131,go_sem,s0,s1,s2,s3,s4,s5]) rfl ⟨by rw [ae EQ],fx (ae HB) (aL _)⟩
  rw [aG (λ h=>h8 h.2),h0]at EQ;rw [h0]at HW;go_enter func131,ntmps131;go_wp2_with (go_at_call 176;refine(ae HW).mono ?_;rintro e w1 ⟨rfl,hb1⟩;obtain⟨hk,hb⟩:=dQ hb1;obtain⟨s0,s1,s2,s3,s4,s5,hz⟩:=qy hk;have HB:=af hb;clear hb hb1 hk)
  refine gH (v:=kh ⟨0,0,t,0,0,0⟩) (by simp [results,results131,go_sem,s0,s1,s2,s3,s4,s5]) rfl ⟨by rw [ae EQ],fx (ae HB) (aL _)⟩
 rw [aG (λ h=>h0 h.1)]at EQ;have hb0:(kF t==0)=false:=by simpa using h0
 generalize kF t=K at *;go_enter func131,ntmps131;go_wp2_with (go_at_call 176;refine(ae HW).mono ?_;rintro e w1 ⟨rfl,hb1⟩;obtain⟨hk,hb⟩:=dQ hb1;obtain⟨s0,s1,s2,s3,s4,s5,hz⟩:=qy hk;have HB:=af hb;clear hb hb1 hk)
 refine gH (v:=kh ⟨K,0,t,0,0,0⟩) (by simp [results,results131,go_sem,s0,s1,s2,s3,s4,s5]) rfl ⟨by rw [ae EQ],fx (ae HB) (aL _)⟩
theorem CU(t:ByteArray)(hs:t.size<=1000)(w:World)(hn:gR t 4294967295=true):Calls prog 134 #[.string t] w (mM w (dC t)):=by
 have HW:=af (l8 t 4294967295 hs (by decide) (by decide) (w.alloc (aQ fZ)));rw [hn]at HW;have EQ:=af (show dC t=⟨2,0,t,jy t 4294967295,0,0⟩by rw [dC,aS hn]);generalize jy t 4294967295=V at *;clear hn;go_enter func134,ntmps134;go_wp2_with (go_at_call 177;refine(ae HW).mono ?_;rintro e w1 ⟨rfl,rfl⟩)
 refine gH (v:=kh ⟨2,0,t,V,0,0⟩) (by simp [results,results134,go_sem]) rfl ⟨by rw [ae EQ],?_⟩;exact(aY _ _).alloc (aL _) _
theorem Ag(t:ByteArray)(hs:t.size<=1000)(w:World)(ht:bR w)(hn:gR t 4294967295=false):Calls prog 134 #[.string t] w (mM w (dC t)):=by
 have HW:=af (l8 t 4294967295 hs (by decide) (by decide) (w.alloc (aQ fZ)));rw [hn]at HW;have HP:=af (DK t hs (w.alloc (aQ fZ)) (ht.mx.below ((aY _ _).alloc (aL _) _)));unfold xY at HP;generalize jy t 4294967295=V at *;cases hp:(mG t).isSome with
 | true =>
  have EQ:=af (show dC t=⟨3,0,t,0,(lf t).1,(lf t).2⟩by rw [dC,aG (by rw [hn];decide),aS hp]);rw [hp]at HP;generalize lf t=PV at *;obtain⟨pa,pl⟩:=PV;clear hn ht hp;go_enter func134,ntmps134
  go_wp2_with (first
   | (go_at_call 177;refine(ae HW).mono ?_;rintro e w1 ⟨rfl,rfl⟩)
   | (go_at_call 178;refine(ae HP).mono ?_;rintro e w1 ⟨rfl,hb1⟩;obtain⟨hk,hb⟩:=dQ hb1;obtain⟨s0,s1,s2,s3,s4,s5,hz⟩:=qy hk;have hl1:w.heap.size<w1.heap.size:=ah hk;have HB:=af hb;clear hb hb1 hk))
  refine gH (v:=kh ⟨3,0,t,0,pa,pl⟩) (by simp [results,results134,go_sem,s0,s1,s2,s3,s4,s5,hl1]) rfl ⟨by rw [ae EQ],?_⟩
  first
   | with_reducible exact fx ((ae HB).alloc (ae HB).size _) (aL _)
   | ((with_reducible refine Below.alloc (fx (ae HB) (aL _)) ?_ _);(simp [World.setCell];omega))
 | false =>
  have EQ:=af (show dC t=⟨0,0,t,0,0,0⟩by rw [dC,aG (by rw [hn];decide),aG (by rw [hp];decide)]);rw [hp]at HP;generalize lf t=PV at *;obtain⟨pa,pl⟩:=PV;clear hn ht hp;go_enter func134,ntmps134
  go_wp2_with (first
   | (go_at_call 177;refine(ae HW).mono ?_;rintro e w1 ⟨rfl,rfl⟩)
   | (go_at_call 178;refine(ae HP).mono ?_;rintro e w1 ⟨rfl,hb1⟩;obtain⟨hk,hb⟩:=dQ hb1;obtain⟨s0,s1,s2,s3,s4,s5,hz⟩:=qy hk;have hl1:w.heap.size<w1.heap.size:=ah hk;have HB:=af hb;clear hb hb1 hk))
  refine gH (v:=kh ⟨0,0,t,0,0,0⟩) (by simp [results,results134,go_sem,s0,s1,s2,s3,s4,s5,hl1]) rfl ⟨by rw [ae EQ],?_⟩
  first
   | with_reducible exact fx ((ae HB).alloc (ae HB).size _) (aL _)
   | ((with_reducible refine Below.alloc (fx (ae HB) (aL _)) ?_ _);(simp [World.setCell];omega))
theorem CT(t:ByteArray)(hs:t.size<=1000)(w:World)(ht:bR w):Calls prog 134 #[.string t] w (mM w (dC t)):=by
 cases hn:gR t 4294967295 with
 | true=>exact CU t hs w hn
 | false=>exact Ag t hs w ht hn
theorem Fb{p:Int->Bool}{s:ByteArray}(h:0<s.size)(hp:p (bt s 0)=true):1<=cD p s 0/\cD p s 0<=s.size:=by
 have h1:=He (p:=p) (s:=s) (i:=0+1) (by omega);rw [kC h hp];omega
theorem F7(s:ByteArray)(hs:s.size<=1000)(hp:0<s.size)(w:World)(ht:bR w)(hl:fk (bt s 0)=true):Calls prog 86 #[.string s] w (mM w (de s)):=by
 have EQ:=af (show de s=j1 (s.extract 0 (cD fk s 0))by rw [de,aS hl]);have HR:=af (NO s hs (w.alloc (aQ fZ)));have HL:=af (Av (s.extract 0 (cD fk s 0)) (by simp;omega) (w.alloc (aQ fZ)) (ht.below ((aY _ _).alloc (aL _) _)));have HI:=af (im (bt s 0) (w.alloc (aQ fZ)));rw [hl,gm hp]at HI;clear ht hl;generalize s.extract 0 (cD fk s 0)=T at *;generalize j1 T=R at *;go_enter func86,ntmps86
 go_wp2_with (first
  | (go_at_call 130;refine(ae HI).mono ?_;rintro e w1 ⟨rfl,rfl⟩)
  | (go_at_call 132;refine(ae HR).mono ?_;rintro e w1 ⟨rfl,rfl⟩)
  | (go_at_call 131;refine(ae HL).mono ?_;rintro e w1 ⟨rfl,hb1⟩;obtain⟨hk,hb⟩:=dQ hb1;obtain⟨s0,s1,s2,s3,s4,s5,hz⟩:=qy hk;have HB:=af hb;clear hb hb1 hk))
 refine gH (v:=kh R) (by simp [results,results86,go_sem,s0,s1,s2,s3,s4,s5]) rfl ⟨by rw [ae EQ],fx (ae HB) (aL _)⟩
theorem F8(s:ByteArray)(hs:s.size<=1000)(hp:0<s.size)(w:World)(ht:bR w)(hd:je (bt s 0)=true):Calls prog 86 #[.string s] w (mM w (de s)):=by
 have hl:fk (bt s 0)=false:=by
  have:=(fK _).1 hd;unfold fk;rw [Cf (by omega)];rfl
 have EQ:=af (show de s=dC (s.extract 0 (cD et s 0))by rw [de,aG (by rw [hl];decide),aS hd]);have HR:=af (NP s hs (w.alloc (aQ fZ)));have HL:=af (CT (s.extract 0 (cD et s 0)) (by simp;omega) (w.alloc (aQ fZ)) (ht.below ((aY _ _).alloc (aL _) _)));have HI:=af (im (bt s 0) (w.alloc (aQ fZ)));have HJ:=af (gQ (bt s 0) (w.alloc (aQ fZ)));rw [hl,gm hp]at HI;rw [hd,gm hp]at HJ;clear hd hl ht;generalize s.extract 0 (cD et s 0)=T at *;generalize dC T=R at *;go_enter func86,ntmps86
 go_wp2_with (first
  | (go_at_call 130;refine(ae HI).mono ?_;rintro e w1 ⟨rfl,rfl⟩)
  | (go_at_call 133;refine(ae HJ).mono ?_;rintro e w1 ⟨rfl,rfl⟩)
  | (go_at_call 132;refine(ae HR).mono ?_;rintro e w1 ⟨rfl,rfl⟩)
  | (go_at_call 134;refine(ae HL).mono ?_;rintro e w1 ⟨rfl,hb1⟩;obtain⟨hk,hb⟩:=dQ hb1;obtain⟨s0,s1,s2,s3,s4,s5,hz⟩:=qy hk;have HB:=af hb;clear hb hb1 hk))
 refine gH (v:=kh R) (by simp [results,results86,go_sem,s0,s1,s2,s3,s4,s5]) rfl ⟨by rw [ae EQ],fx (ae HB) (aL _)⟩
theorem CZ(s:ByteArray)(hs:s.size<=1000)(hp:0<s.size)(w:World)(ht:bR w)(hl:fk (bt s 0)=false)(hd:je (bt s 0)=false):Calls prog 86 #[.string s] w (mM w (de s)):=by
 have EQ:=af (show de s=⟨ew (bt s 0),0,s.extract 0 1,0,0,0⟩by rw [de,aG (by rw [hl];decide),aG (by rw [hd];decide)]);have HL:=af (zd (bt s 0) ((w.alloc (aQ fZ)).drew) (ht.below (((aY _ _).alloc (aL _) _).drew)));have HI:=af (im (bt s 0) (w.alloc (aQ fZ)));have HJ:=af (gQ (bt s 0) (w.alloc (aQ fZ)));rw [hl,gm hp]at HI;rw [hd,gm hp]at HJ;rw [gm hp]at HL EQ;clear hd hl ht;generalize hK:ew (s[0].toNat:Int)=K at *;go_enter func86,ntmps86
 go_wp2_with (first
  | (go_at_call 130;refine(ae HI).mono ?_;rintro e w1 ⟨rfl,rfl⟩)
  | (go_at_call 133;refine(ae HJ).mono ?_;rintro e w1 ⟨rfl,rfl⟩))
 go_region_with (go_at_call 136;refine(ae HL).mono ?_;rintro e w1 ⟨rfl,hb1⟩;obtain⟨hk,hb⟩:=dQ (((aY _ _).drew).trans (hb1.mono (aL _)));obtain⟨s0,s1,s2,s3,s4,s5,hz⟩:=qy hk;have HB:=af hb;clear hb hb1 hk)
 all_goals
  go_wp2_with fail;refine gH (v:=kh ⟨K,0,s.extract 0 1,0,0,0⟩) (by simp [results,results86,go_sem,s0,s1,s2,s3,s4,s5]) rfl ⟨by rw [ae EQ],fx (ae HB) (aL _)⟩
theorem F6(s:ByteArray)(hs:s.size<=1000)(hp:0<s.size)(w:World)(ht:bR w):Calls prog 86 #[.string s] w (mM w (de s)):=by
 cases hl:fk (bt s 0)with
 | true=>exact F7 s hs hp w ht hl
 | false =>
  cases hd:je (bt s 0)with
  | true=>exact F8 s hs hp w ht hd
  | false=>exact CZ s hs hp w ht hl hd
attribute [local go_sem] Oper.semAt_some
def kK(s:ByteArray)(k:Nat):ak:={ de (s.extract k s.size)with at_:=(k:Int) }
def tS(s:ByteArray):ak:=⟨1,(s.size:Int),⟨#[]⟩,0,0,0⟩
def dP(s:ByteArray):Nat->Nat->List ak
 | 0,_=>[]
 | f+1,k =>
  if k<s.size then
   (if gb (bt s k)=true then dP s f (k+1)
    else if(kK s k).kind=0 then [kK s k]
    else kK s k::dP s f (k+(kK s k).text.size))
  else [tS s]
def fJ(s:ByteArray):List ak:=dP s (s.size+1) 0
theorem tH{s:ByteArray}{k:Nat}(h:k<s.size):bt (s.extract k s.size) 0=bt s k:=by
 have h1:0<(s.extract k s.size).size:=by simp;omega
 rw [gm h1,gm h];have:(s.extract k s.size)[0]=s[k]:=by simp [ByteArray.getElem_extract]
 rw [this]
theorem An{s:ByteArray}(h:0<s.size):1<=(de s).text.size/\(de s).text.size<=s.size:=by
 unfold de;cases hl:fk (bt s 0)with
 | true =>
  rw [aS rfl];have:=Fb h hl;show 1<=(s.extract 0 (cD fk s 0)).size/\(s.extract 0 (cD fk s 0)).size<=s.size;simp;omega
 | false =>
  rw [aG (by decide)];cases hd:je (bt s 0)with
  | true =>
   rw [aS rfl];have hn:et (bt s 0)=true:=by unfold et;rw [hd];rfl
   have:=Fb h hn
   have e:(dC (s.extract 0 (cD et s 0))).text=s.extract 0 (cD et s 0):=by
    unfold dC;split
    ·rfl
    split<;>rfl
   rw [e];simp;omega
  | false =>
   rw [aG (by decide)];show 1<=(s.extract 0 1).size/\(s.extract 0 1).size<=s.size;simp;omega
theorem xN{s:ByteArray}{k:Nat}(h:k<s.size):1<=(kK s k).text.size/\k+(kK s k).text.size<=s.size:=by
 have h1:0<(s.extract k s.size).size:=by simp;omega
 have h2:=An h1;have h3:(s.extract k s.size).size=s.size-k:=by simp
 show 1<=(de (s.extract k s.size)).text.size/\k+(de (s.extract k s.size)).text.size<=s.size;omega
theorem ud{A B:World}(h:Below A.heap.size A B):A.grownBy B none:=⟨h.os,h.tape,h.output,h.size,λ k hk _=>h.block k hk⟩
def iF(pb:Nat)(A:World):Option Nat:=match A.cell? ⟨pb,0,none⟩with|some v=>v.ownBlock|none=>none
structure zB(pb:Nat)(A B:World):Prop where
 size:A.heap.size<=B.heap.size
 keep:∀(k:Nat) (c:Array Value) (T:TypeId) (z:Nat×Nat),A.heap[k]?=some (.cells c T z)->k≠pb->iF pb A≠some k->B.heap[k]?=some (.cells c T z)
 row:iF pb B=iF pb A\/∃ g,iF pb B=some g/\A.heap.size<=g/\g<B.heap.size
theorem jq{pb:Nat}{A B:World}(hp:pb<A.heap.size)(h:Below A.heap.size A B):iF pb B=iF pb A:=by
 unfold iF;rw [h.cell (p:=⟨pb,0,none⟩) hp]
structure zy(pb Bs n0:Nat)(s:ByteArray)(wr:World):Prop where
 lp:pb<wr.heap.size
 str:wr.heap[Bs]?=some (.cells #[.string s] 9 (0,0))
 row:∀ k,iF pb wr=some k->n0<=k/\k<wr.heap.size
 tabs:bR wr
theorem zy.below{pb Bs n0:Nat}{s:ByteArray}{A B:World}(h:zy pb Bs n0 s A)(hb:Below A.heap.size A B):zy pb Bs n0 s B :=
 ⟨gY h.lp hb.size,(hb.block Bs (ah h.str)).trans h.str,λ k e=>by rw [jq h.lp hb]at e;exact⟨(h.row k e).1,gY (h.row k e).2 hb.size⟩,h.tabs.below hb⟩
theorem zy.kept{pb Bs n0:Nat}{s:ByteArray}{A B:World}(h:zy pb Bs n0 s A)(hk:zB pb A B)(hne:Bs≠pb)(hBs:Bs<n0)(hT:bR B)(hn:n0<=A.heap.size):zy pb Bs n0 s B:=by
 refine⟨gY h.lp hk.size,hk.keep Bs _ _ _ h.str hne (λ e=>by have:=(h.row _ e).1;omega),λ k e=>?_,hT⟩;rcases hk.row with h1|⟨g,h1,h2,h3⟩
 ·rw [h1]at e;exact⟨(h.row k e).1,gY (h.row k e).2 hk.size⟩
 rw [h1]at e;cases e;exact⟨by omega,h3⟩
theorem oV{s:ByteArray}{f k:Nat}(hk:k<s.size)(hb:gb (bt s k)=false)(h0:(kK s k).kind≠0):dP s (f+1) k=kK s k::dP s f (k+(kK s k).text.size):=by
 rw [dP,aS hk,aG (by rw [hb];decide),aG h0]
theorem wk{s:ByteArray}{f k:Nat}(hk:k<s.size)(hb:gb (bt s k)=false)(h0:(kK s k).kind=0):dP s (f+1) k=[kK s k]:=by
 rw [dP,aS hk,aG (by rw [hb];decide),aS h0]
theorem K7(n:Nat)(hn:1<=n)(l Bs pb n0:Nat)(s:ByteArray)(hs:s.size<=600)
  (J Jx:List ak->World->Prop) (W:World) (hJ:AbidesFrom W.heap.size J) (h0:J [] W) (hI:zy pb Bs n0 s W) (hne:Bs≠pb) (hBs:Bs<n0) (hn0:n0<=W.heap.size)
  (hKT:∀{A B:World},zB pb A B->(∀ k,iF pb A=some k->n0<=k)->bR A->bR B)
  (hY:∀ pre x W1,J pre W1->pre.length<1000->YieldAt Fence.wide (n-1) prog l #[kh x] W1 λ e W'=>(e=.returned (.bool true)/\J (pre++[x]) W'/\zB pb W1 W')\/(e=.returned (.bool false)/\Jx (pre++[x]) W')) :
  CallsIn Fence.wide n prog 84 #[.func (.yield l) #[] #[],au Bs 0] W λ e W'=>(∃ v,e=.returned v)/\((∃ ys,ys=fJ s/\J ys W')\/(∃ pre,True/\Jx pre W')):=by
 refine callsIn_of_wp func84 rfl trivial ?_ rfl;simp only [ntmps84,List.size_toArray,List.length_cons,List.length_nil,Nat.reduceAdd,Nat.reduceSub,Array.replicate_succ,Array.replicate_zero,List.push_toArray,List.append_toArray,List.nil_append,List.cons_append];have HJ:=af hJ;have HY:=af hY;have LA:=af (λ A B=>@hKT A B);clear hJ hY hKT
 gi_wp2
 gi_loopw [3] (λ i wr=>∃(k f:Nat) (pre:List ak),i=.int .i64 (k:Int)/\k<=s.size/\s.size+1<=f+k/\pre++dP s f k=fJ s/\pre.length<=k/\J pre wr/\zy pb Bs n0 s wr/\W.heap.size<=wr.heap.size) (λ i _=>s.size-(intOf i).toNat)
 case atStart=>exact⟨0,s.size+1,[],rfl,dG _,by omega,rfl,aL _,h0,hI,aL _⟩
 case round =>
  obtain⟨k,f,pre,rfl,hk,hf,hall,hpl,hJs,hit,hwz⟩:=hrel;have c0:wr.cell? ⟨Bs,0,none⟩=some (.string s):=ag hit.str;have CA:=af hit;have AA:=af hall;have IA:=af hJs;clear hit hall hJs;obtain⟨g,rfl⟩:∃ g,f=g+1:=⟨f-1,by omega⟩
  by_cases hlt:k<s.size
  ·cases hbl:gb (bt s k)with
   | true =>
    have HA:=af (show dP s (g+1) k=dP s g (k+1)by rw [dP,aS hlt,aS hbl]);have hbl':=hbl;rw [gm hlt]at hbl';have HB:=af ((callsIn_wide (n:=n-1)).2 (rJ (s[k].toNat:Int) wr));rw [hbl']at HB;clear hbl hbl'
    gi_wp2_with (refine⟨trivial,?_⟩;gi_at_call 85;refine(ae HB).mono ?_;rintro e w' ⟨rfl,rfl⟩)
    go_roundw
    case rel=>exact⟨k+1,g,pre,by simp,by omega,by omega,by rw [<-ae HA];exact ae AA,by omega,ae IA,ae CA,hwz⟩
    case measure=>simp [intOf];omega
   | false =>
    have hbl':=hbl;rw [gm hlt]at hbl';have HB:=af ((callsIn_wide (n:=n-1)).2 (rJ (s[k].toNat:Int) wr));rw [hbl']at HB;have KA:=af ((callsIn_wide (n:=n-1)).2 (F6 (s.extract k s.size) (by simp;omega) (by simp;omega) wr (ae CA).tabs));have JA:=af hbl;have htx:=xN hlt;have MA:=af htx;have hts:(kK s k).text.size<=600:=by omega
    clear hbl hbl' htx;have EA:=af (show kK s k={ de (s.extract k s.size)with at_:=(k:Int) }from rfl);generalize hF:de (s.extract k s.size)=FT at *
    gi_wp2_with (first
     | (refine⟨trivial,?_⟩;gi_at_call 85;refine(ae HB).mono ?_;rintro e w' ⟨rfl,rfl⟩)
     | (refine⟨trivial,?_⟩;gi_at_call 86;refine(ae KA).mono ?_;rintro e w2 ⟨rfl,hb2⟩;have BA:=af hb2;have hJ1:=(ae HJ) pre _ (w2.alloc (aQ (kK s k))) none (ae IA) (ud (hb2.alloc hb2.size _)) (λ r e=>by cases e);obtain⟨fn,tmps,assign,body,hy,hR⟩:=(ae HY) pre (kK s k) _ hJ1 (by omega);rw [ae EA]at hy hR;have DA:=af hR;clear hb2 hJ1 hR))
    refine(ae DA).mono ?_;rintro e W3 (⟨rfl,hJ3,hk3⟩|⟨rfl,hJx3⟩)
    ·have hIT1:=((ae CA).below (ae BA)).below ((aY _ _).alloc (aL _) (aQ { FT with at_:=(k:Int) }))
     have hrow1:iF pb (w2.alloc (aQ { FT with at_:=(k:Int) }))≠some w2.heap.size:=λ e=>by
      rw [jq (gY (ae CA).lp (ae BA).size) ((aY _ _).alloc (aL _) _),jq (ae CA).lp (ae BA)]at e;have h1:=((ae CA).row _ e).2;have h2:=(ae BA).size;omega
     have hb3:=hk3.keep w2.heap.size _ _ _ (fL w2 _ _) (by have h1:=(ae CA).lp;have h2:=(ae BA).size;omega) hrow1;obtain⟨v0,v1,v2,v3,v4,v5,hv⟩:=qy (t:={ FT with at_:=(k:Int) }) hb3;have hIT3:=hIT1.kept hk3 hne hBs ((ae LA) _ _ hk3 (λ k e=>(hIT1.row k e).1) hIT1.tabs) (by have h1:=(ae BA).size;simp;omega);have GA:=af hIT3;have FA:=af hJ3;have hz3:W.heap.size<=W3.heap.size:=by have h1:=hk3.size;have h2:=(ae BA).size;simp at h1;omega
     clear hIT1 hIT3 hJ3 hk3 hb3 hrow1 hy DA;by_cases hk0:FT.kind=0
     ·have hkb:(FT.kind==0)=true:=by simpa using hk0
      have HA:=af (show fJ s=pre++[{ FT with at_:=(k:Int) }]by rw [<-ae EA,<-ae AA,wk hlt (ae JA) (by rw [ae EA];exact hk0)])
      gi_wp2
      refine gH (results_none rfl _ _ _) rfl ?_;exact⟨⟨_,rfl⟩,.inl ⟨_,(ae HA).symm,ae FA⟩⟩
     have hkb:(FT.kind==0)=false:=by simpa using hk0
     have HA:=af (show(pre++[{ FT with at_:=(k:Int) }])++dP s g (k+FT.text.size)=fJ s by
      rw [<-ae AA,oV hlt (ae JA) (by rw [ae EA];exact hk0),ae EA];simp)
     have htx:1<=FT.text.size/\k+FT.text.size<=s.size:=by have:=ae MA;rw [ae EA]at this;exact this
     obtain⟨htx1,htx2⟩:=htx
     gi_wp2
     go_roundw
     case rel=>exact⟨k+FT.text.size,g,_,by simp,htx2,by omega,ae HA,by rw [List.length_append,List.length_singleton];omega,ae FA,ae GA,hz3⟩
     case measure=>simp [intOf];omega
    clear hy DA
    gi_wp2
    refine gH (results_none rfl _ _ _) rfl ?_;exact⟨⟨_,rfl⟩,.inr ⟨_,trivial,hJx3⟩⟩
  have hke:k=s.size:=by omega
  have HA:=af (show fJ s=pre++[tS s]by rw [<-ae AA,dP,aG hlt]);obtain⟨fn,tmps,assign,body,hy,hR⟩:=(ae HY) pre (tS s) wr (ae IA) (by omega);have hy':(Instr.yield l #[.agg #[.int .i64 1,.int .i64 (s.size:Int),.string ⟨#[]⟩,.int .i64 0,.int .i64 0,.int .i64 0]]).run prog wr=.ok (.round l fn tmps assign body) wr:=hy;have DA:=af hR;clear hy hR
  gi_wp2
  refine(ae DA).mono ?_;rintro e W3 (⟨rfl,hJ3,hk3⟩|⟨rfl,hJx3⟩)
  ·have FA:=af hJ3;clear hy' DA hk3 hJ3
   gi_wp2
   go_end0
   exact⟨⟨_,rfl⟩,.inl ⟨_,(ae HA).symm,ae FA⟩⟩
  clear hy' DA
  gi_wp2
  go_end0
  exact⟨⟨_,rfl⟩,.inr ⟨_,trivial,hJx3⟩⟩
