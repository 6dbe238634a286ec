/- part -/
import Derived.Shelf.Strconv.Itoa3
import Derived.Shelf.LaysM
import Derived.Test.YtphhnjljlllnlaaGreatDoorNotA
import Derived.Lib.AppendIntMem
set_option maxRecDepth 100000
set_option maxHeartbeats 2000000
namespace Go.Proofs.YtphhnjljlllnlaaGreatDoor
open Go.Proofs.Tryz
open Or
open Go.Shelf
open Go.RowKit
end Go.Proofs.YtphhnjljlllnlaaGreatDoor
namespace Go.Proofs
open Go.Shelf
def Tryz.shItoa_ren:Go.Shelf.Ren:=⟨fun|171=>27|243=>44|246=>65|283=>93|284=>94|285=>95|286=>96|129=>128|317=>155|318=>156|319=>157|320=>158|337=>200|338=>201|n=>n,fun|3=>3|9=>9|2=>2|4=>4|171=>178|0=>0|53=>179|37=>56|5=>5|173=>182|212=>239|51=>215|20=>20|213=>240|46=>109|232=>316|233=>317|n=>n,fun|17=>0|18=>4|19=>5|n=>n⟩
theorem Tryz.shItoa:Go.Proofs.LaysM.n171 prog Tryz.shItoa_ren:={
 mixed:=by kernel_rfl
 f129:=func128.trans (congrArg some (by kernel_rfl))
 f171:=func27.trans (congrArg some (by kernel_rfl))
 f243:=func44.trans (congrArg some (by kernel_rfl))
 f246:=func65.trans (congrArg some (by kernel_rfl))
 f283:=func93.trans (congrArg some (by kernel_rfl))
 f284:=func94.trans (congrArg some (by kernel_rfl))
 f285:=func95.trans (congrArg some (by kernel_rfl))
 f286:=func96.trans (congrArg some (by kernel_rfl))
 f317:=func155.trans (congrArg some (by kernel_rfl))
 f318:=func156.trans (congrArg some (by kernel_rfl))
 f319:=func157.trans (congrArg some (by kernel_rfl))
 f320:=func158.trans (congrArg some (by kernel_rfl))
 f337:=func200.trans (congrArg some (by kernel_rfl))
 f338:=func201.trans (congrArg some (by kernel_rfl))
 t0:=underlying0
 a0:=Tryz.isAgg0
 z0:=Tryz.sizeOf0
 v0:=Tryz.zeroValue0
 t2:=underlying2
 a2:=Tryz.isAgg2
 z2:=Tryz.sizeOf2
 v2:=Tryz.zeroValue2
 t3:=underlying3
 a3:=Tryz.isAgg3
 z3:=Tryz.sizeOf3
 v3:=Tryz.zeroValue3
 t4:=underlying4
 a4:=Tryz.isAgg4
 z4:=Tryz.sizeOf4
 v4:=Tryz.zeroValue4
 t5:=underlying5
 a5:=Tryz.isAgg5
 z5:=Tryz.sizeOf5
 v5:=Tryz.zeroValue5
 t9:=underlying9
 a9:=Tryz.isAgg9
 z9:=Tryz.sizeOf9
 v9:=Tryz.zeroValue9
 t20:=underlying20
 a20:=Tryz.isAgg20
 z20:=Tryz.sizeOf20
 v20:=Tryz.zeroValue20
 t37:=underlying56
 a37:=Tryz.isAgg56
 z37:=Tryz.sizeOf56
 v37:=Tryz.zeroValue56
 t46:=underlying109
 a46:=Tryz.isAgg109
 z46:=Tryz.sizeOf109
 v46:=Tryz.zeroValue109
 t51:=underlying215
 a51:=Tryz.isAgg215
 z51:=Tryz.sizeOf215
 v51:=Tryz.zeroValue215
 t53:=underlying179
 a53:=Tryz.isAgg179
 z53:=Tryz.sizeOf179
 v53:=Tryz.zeroValue179
 t171:=underlying178
 a171:=Tryz.isAgg178
 z171:=Tryz.sizeOf178
 v171:=Tryz.zeroValue178
 t173:=underlying182
 a173:=Tryz.isAgg182
 z173:=Tryz.sizeOf182
 v173:=Tryz.zeroValue182
 t212:=underlying239
 a212:=Tryz.isAgg239
 z212:=Tryz.sizeOf239
 v212:=Tryz.zeroValue239
 t213:=underlying240
 a213:=Tryz.isAgg240
 z213:=Tryz.sizeOf240
 t232:=underlying316
 a232:=Tryz.isAgg316
 z232:=Tryz.sizeOf316
 v232:=Tryz.zeroValue316
 t233:=underlying317
 a233:=Tryz.isAgg317
 z233:=Tryz.sizeOf317
 v233:=Tryz.zeroValue317
 g17:=by kernel_rfl
 g18:=by kernel_rfl
 g19:=by kernel_rfl
 i0:=by kernel_rfl
 i2:=by kernel_rfl
 i3:=by kernel_rfl
 i4:=by kernel_rfl
 i5:=by kernel_rfl
 i9:=by kernel_rfl
 i20:=by kernel_rfl
 i37:=by kernel_rfl
 i46:=by kernel_rfl
 i51:=by kernel_rfl
 i53:=by kernel_rfl
 i171:=by kernel_rfl
 i173:=by kernel_rfl
 i212:=by kernel_rfl
 i232:=by kernel_rfl
 i233:=by kernel_rfl
 m17:=by kernel_rfl
 m18:=by kernel_rfl
 m19:=by kernel_rfl }
end Go.Proofs
namespace Go.Proofs.YtphhnjljlllnlaaGreatDoor
open Go.Proofs.Tryz
open Or
open Go.Shelf
open Go.RowKit
theorem mT{s:ByteArray}{ms:List aJ}(hr:oT s ms)(w:World)(ht:bR w) :
  Calls prog 10 #[.string s] w λ e w'=>∃ pp,e=.returned (au pp 0)/\Below w.heap.size w w'/\ax w' (λ k=>w.heap.size<=k) (Fo pp ms):=by
 have HC:=af (CN hr w ht);clear hr ht;go_enter func10,ntmps10;go_wp2_with (go_at_call 25;refine(ae HC).mono ?_;rintro e w1 ⟨pp,rfl,hb,hl⟩;have HX:=af (And.intro hb hl);clear hb hl)
 go_ret;exact⟨pp,rfl,(ae HX).1,(ae HX).2⟩
theorem Ke{w1:World}{A:Nat->Prop}{pp:Nat}{ms:List aJ}(hl:ax w1 A (Fo pp ms))(W:World)(hW:Below w1.heap.size w1 W)(r:Rt)(pv mv:Value)(hp:aA W pv r.path)(hm:aA W mv r.marks)(i1:eN r.addr)(i2:eN r.len)(n1:r.path.length<=12)(n2:r.marks.length<=8)(hok:dh r=true) :
  Calls prog 24 #[au pp 0,sO r pv mv] W λ e w'=>∃ pv' mv',e=.returned (.tuple #[sO (dl ms r).1 pv' mv',.int .i64 (dl ms r).2,.int .i64 0])/\mE w' W.heap.size (dl ms r).1 pv' mv'/\Below W.heap.size W w':=by
 obtain⟨K,hK,hQ⟩:=hl;exact II w1 K pp ms (λ k hk=>(hK k hk).1) hQ W hW.size (λ k hk=>hW.block k (hK k hk).1) r pv mv hp hm i1 i2 n1 n2 hok
theorem Jk{W:World}{b:Nat}{x:Int}(h:W.cell? ⟨b,0,none⟩=some (.int .i64 x))(hx:eN x):aA W (.slice (some ⟨b,0,none⟩) 1 1) [x]:=by
 refine⟨some ⟨b,0,none⟩,1,rfl,by simp,by simp,λ y hy=>?_,inr ⟨b,0,rfl,cS h,λ j hj=>?_⟩⟩
 ·rcases List.mem_singleton.mp hy with rfl;exact hx
 obtain rfl:j=0:=by simpa using hj
 exact h
theorem Gf(W:World):aA W (.slice none 0 0) []:=aA.nil W 0 (l:=[]) (by simp)
theorem DH{W:World}{a:Option Addr}{n c:Nat}{l:List Int}(h:W.ownsRow 0 3 1 (.slice a n c) l.length (aB l))(hl:l≠[]):∃ g,a=some ⟨g,0,none⟩/\n=l.length/\g<W.heap.size/\∀ j x,l[j]?=some x->W.cell? ⟨g,j,none⟩=some (.int .i64 x):=by
 rcases h.2 with⟨_,h0⟩|⟨g,cap,cur,hv,_,hg,hnc,_,hcs,htk⟩
 ·exact absurd (List.length_eq_zero_iff.mp h0) hl
 injection hv with h1 h2 h3
 refine⟨g,h1,h2,ah hg,λ j x hx=>?_⟩;rw [ag hg];have hj:j<l.length:=(List.getElem?_eq_some_iff.mp hx).1;have:(cur.toList.take (l.length*1))[j]?=some (.int .i64 x):=by rw [htk];simp [aB,hx]
 rw [List.getElem?_take,aS (by omega)]at this;simpa using this
def kr(p:Int):Rt:=⟨167772160,8,[3],[],p,0⟩
def Od:Rt:=⟨167772160,8,[7,3],[],100,0⟩
abbrev kW(w1:World):World:=(w1.alloc (.cells #[.int .i64 3] 3)).alloc (dS (kr 100) (.slice (some ⟨w1.heap.size,0,none⟩) 1 1) (.slice none 0 0))
theorem Jt(p:Int){w1:World}{A:Nat->Prop}{pp:Nat}(hl:ax w1 A (Fo pp kx))(W:World)(hW:Below w1.heap.size w1 W)(hc:W.cell? ⟨w1.heap.size,0,none⟩=some (.int .i64 3))(hok:dh (kr p)=true){r':Rt}{v:Int}(hr:dl kx (kr p)=(r',v)) :
  Calls prog 24 #[au pp 0,sO (kr p) (.slice (some ⟨w1.heap.size,0,none⟩) 1 1) (.slice none 0 0)] W λ e w'=>∃ pv' mv',e=.returned (.tuple #[sO r' pv' mv',.int .i64 v,.int .i64 0])/\mE w' W.heap.size r' pv' mv'/\Below W.heap.size W w':=by
 have h:=Ke hl W hW (kr p) (.slice (some ⟨w1.heap.size,0,none⟩) 1 1) (.slice none 0 0) (Jk hc (by unfold eN;omega)) (Gf _) (by unfold eN kr;simp) (by unfold eN kr;simp) (by simp [kr]) (by simp [kr]) hok;rw [hr]at h;exact h
theorem LY:dl kx (kr 100)=(Od,1):=rfl
theorem LZ:dl kx (kr 99)=(Bp,2):=rfl
abbrev kX(w1 w2:World)(blk:Obj):World:=(w2.setCell ⟨w1.heap.size+1,4,none⟩ (.int .i64 99)).alloc blk
theorem NE{w1 w2:World}{f1 f3:Option Addr}{f2 f4:Nat}(hb2:Below (kW w1).heap.size (kW w1) w2)(hv2:mE w2 (kW w1).heap.size Od (.slice f1 2 f2) (.slice f3 0 f4))(blk:Obj) :
  Below w1.heap.size w1 (kX w1 w2 blk)/\(kX w1 w2 blk).cell? ⟨w1.heap.size,0,none⟩=some (.int .i64 3)/\(kX w1 w2 blk).heap[w2.heap.size]?=some blk/\(kX w1 w2 blk).heap.size=w2.heap.size+1 /\
  ∃ g,f1=some ⟨g,0,none⟩/\g<w2.heap.size/\(kX w1 w2 blk).cell? ⟨g,0,none⟩=some (.int .i64 7)/\(kX w1 w2 blk).cell? ⟨g,1,none⟩=some (.int .i64 3):=by
 obtain⟨n1,n2,sz⟩:=fp w1 (.cells #[.int .i64 3] 3) (dS (kr 100) (.slice (some ⟨w1.heap.size,0,none⟩) 1 1) (.slice none 0 0));have hkw:(kW w1).heap.size=w1.heap.size+2:=sz;have hs2:=hb2.size;have hB1:Below w1.heap.size w1 (kW w1):=((aY _ _).alloc (aL _) _).alloc (by simp) _;have hss:(w2.setCell ⟨w1.heap.size+1,4,none⟩ (.int .i64 99)).heap.size=w2.heap.size:=by simp [World.setCell]
 have hkeep:∀ k,k<w2.heap.size->k≠w1.heap.size+1->(kX w1 w2 blk).heap[k]?=w2.heap[k]?:=λ k hk hne=>by
  rw [mC _ _ _ (by rw [hss];exact hk),ai hne]
 obtain⟨g,hg,_,hgl,hgc⟩:=DH (l:=Od.path) hv2.1 (by simp [Od]);have hgn:(kW w1).heap.size<=g:=hv2.2.2.1 g (by rw [hg];rfl);refine⟨((hB1.trans (hb2.mono (by omega))).setCell (p:=⟨w1.heap.size+1,4,none⟩) (by simp) _).alloc (by rw [hss];omega) _,?_,?_,by rw [World.size_alloc,hss],g,hg,hgl,?_,?_⟩
 ·have h1:(kX w1 w2 blk).heap[w1.heap.size]?=some (.cells #[.int .i64 3] 3 (0,0)):=(hkeep _ (by omega) (by omega)).trans ((hb2.block _ (by omega)).trans n1);exact ag h1
 ·have:=cM (w2.setCell ⟨w1.heap.size+1,4,none⟩ (.int .i64 99)) blk;rw [hss]at this;exact this
 ·exact(World.cell?_of_block (a:=⟨g,0,none⟩) (hkeep g hgl (by omega))).trans (hgc 0 7 rfl)
 exact(World.cell?_of_block (a:=⟨g,1,none⟩) (hkeep g hgl (by omega))).trans (hgc 1 3 rfl)
theorem Gl(w:World)(ht:bR w):Calls prog 12 #[] w λ e w'=>e=.returned (.bool true)/\Below w.heap.size w w':=by
 have HC:=af (mT Dc w ht);rw [rK]at HC;clear ht;go_enter func12,ntmps12
 go_wp2_with (first
  | (go_at_call 10;refine(ae HC).mono ?_;rintro e w1 ⟨pp,rfl,hb,hl⟩;have HB:=af hb;have HL:=af hl;clear hb hl HC;have HN:=af (fp w1 (.cells #[.int .i64 3] 3) (dS (kr 100) (.slice (some ⟨w1.heap.size,0,none⟩) 1 1) (.slice none 0 0)));have AA:=af (((aY w1.heap.size w1).alloc (aL _) (.cells #[.int .i64 3] 3)).alloc (by simp) (dS (kr 100) (.slice (some ⟨w1.heap.size,0,none⟩) 1 1) (.slice none 0 0)));have HR:=af (Jt 100 (ae HL) (kW w1) (ae AA) (ag (ae HN).1) (by decide +kernel) LY))
  | (go_at_call 24;refine(ae HR).mono ?_;clear HR;rintro e w2 ⟨pv2,mv2,rfl,hv2,hb2⟩;obtain⟨f1,f2,hf1⟩:=al hv2.1;obtain⟨f3,f4,hf3⟩:=al hv2.2.1;change pv2=.slice f1 2 f2 at hf1;change mv2=.slice f3 0 f4 at hf3;obtain⟨g0,g1,g2,g3,g4,g5,gz⟩:=rf ((hb2.block (w1.heap.size+1) (by simp)).trans (ae HN).2.1);change w2.cell? _=some (.int .i64 167772160)at g0;change w2.cell? _=some (.int .i64 8)at g1;change w2.cell? _=some (.int .i64 100)at g4;change w2.cell? _=some (.int .i64 0)at g5;have lx:w1.heap.size+1<w2.heap.size:=(by have:=hb2.size;simp at this;omega);unfold sO Od;dsimp only;subst hf1 hf3;have HM:=af (NE hb2 hv2 (.cells #[.int .i64 167772160,.int .i64 8,.slice f1 2 f2,.slice f3 0 f4,.int .i64 100,.int .i64 0] 65));have DA:=af hb2;clear hv2 hb2;have CA:=af (Jt 99 (ae HL) _ (ae HM).1 (ae HM).2.1 (by decide +kernel) LZ);have hal:=(tD ((aY w2.heap.size w2).alloc (aL _) (.cells #[.int .i64 167772160,.int .i64 8,.slice f1 2 f2,.slice f3 0 f4,.int .i64 100,.int .i64 0] 65))).1;have hal2:=(tD ((aY w2.heap.size w2).alloc (aL _) (.cells #[.int .i64 167772160,.int .i64 8,.slice f1 2 f2,.slice f3 0 f4,.int .i64 100,.int .i64 0] 65))).2;have s0':=(hal _ 0 lx).trans g0;have s1':=(hal _ 1 lx).trans g1;have s2':=(hal _ 2 lx).trans g2;have s3':=(hal _ 3 lx).trans g3;have s4':=(hal _ 4 lx).trans g4;have s5':=(hal _ 5 lx).trans g5;have sz':=(hal2 _ 4 lx).trans (gz 4);clear hal hal2)
  | (go_at_call 24;refine(ae CA).mono ?_;rintro e w3 ⟨pv3,mv3,rfl,hv3,hb3⟩;obtain⟨f5,f6,hf5⟩:=al hv3.1;obtain⟨f7,f8,hf7⟩:=al hv3.2.1;change pv3=.slice f5 0 f6 at hf5;change mv3=.slice f7 0 f8 at hf7;obtain⟨_,_,m3,m4,g,hg,hgl,m5,m6⟩:=ae HM;have a2:w3.cell? ⟨w2.heap.size,2,none⟩=some (.slice f1 2 f2):=ag ((hb3.block _ (by rw [m4];omega)).trans m3);have p0:=(hb3.cell (p:=⟨g,0,none⟩) (by show g<_;rw [m4];omega)).trans m5;have p1:=(hb3.cell (p:=⟨g,1,none⟩) (by show g<_;rw [m4];omega)).trans m6;have l3:w2.heap.size<w3.heap.size:=(by have:=hb3.size;rw [m4]at this;omega);have lg:g<w3.heap.size:=(by omega);have BA:=af hb3;clear m3 m4 m5 m6 hv3 hb3 hgl s0' s1' s2' s3' s4' s5' sz' g0 g1 g2 g3 g4 g5 gz;unfold sO Bp;dsimp only;subst hf5 hf7 hg;have hal:=(tD ((aY w3.heap.size w3).alloc (aL _) (.cells #[.int .i64 0,.int .i64 0,.slice f5 0 f6,.slice f7 0 f8,.int .i64 0,.int .i64 0] 65))).1;have t2:=(hal _ 2 l3).trans a2;have t3:=(hal _ 0 lg).trans p0;have t4:=(hal _ 1 lg).trans p1;clear hal))
 go_ret;have hB:=(ae HB).trans ((ae HM).1.mono (ae HB).size);have h1:=(ae HB).size;exact⟨rfl,((hB.trans ((ae BA).mono hB.size)).alloc (by omega) _)⟩
def jU(w:World):Prop:=Lib.TabIs prog w (Rows.chosenRow.named.getD 0 Rows.chosenRow.func) .u64 Lib.pow10Tab
theorem jU.below{w w':World}(h:jU w)(hb:Below w.heap.size w w'):jU w':=Lib.tabBelow_of_tabIs h w' hb
theorem uj(u:Nat)(hu:u<=4294967295)(w:World)(h:jU w):Calls prog 27 #[.int .i64 (u:Int)] w λ e w'=>e=.returned (.string (br (Lib.decDigits u)))/\Below w.heap.size w w':=by
 refine(Any.strconv_Itoa Tryz.shItoa (u:Int) (by omega) (by omega) w h).mono ?_;rintro e w' ⟨rfl,k,os,rfl⟩;refine⟨?_,Lib.below_grow _ _ (aL _) k os⟩;rw [Lib.itoa,aG (by omega),Int.toNat_natCast]
theorem bD(c n:Int)(w:World)(h1 : -9223372036854775808<=c)(h2:c<=9223372036854775807)(h3:0<n)(h4:n<=4294967296) :
  Calls prog 14 #[.int .i64 c,.int .i64 n] w λ e w'=>e=.returned (.int .i64 (aw c n))/\w'=w:=by
 have hz:(n==0)=false:=beq_eq_false_iff_ne.2 (by omega);by_cases hc:c<0
 ·have HP:=af (show aw c n = -((c+1).tmod n)by unfold aw;rw [aS hc,<-Int.neg_tmod,Int.tmod_eq_emod_of_nonneg (by omega)]);go_enter func14,ntmps14;go_wp2
  all_goals (go_ret;exact⟨jA (ae HP).symm,rfl⟩)
 have HP:=af (show aw c n=c % n by unfold aw;rw [aG hc]);go_enter func14,ntmps14;go_wp2
 all_goals (go_ret;exact⟨jA (ae HP).symm,rfl⟩)
theorem jr(a b:Int×Int)(w:World) :
  Calls prog 21 #[.agg #[.int .i64 a.1,.int .i64 a.2],.agg #[.int .i64 b.1,.int .i64 b.2]] w λ e w'=>e=.returned (.bool (decide (a=b)))/\Below w.heap.size w w':=by
 obtain⟨a1,a2⟩:=a;obtain⟨b1,b2⟩:=b;simp only;by_cases h1:a1=b1
 ·have HP:=af (show decide ((a1,a2)=(b1,b2))=(a2==b2)by rw [Bool.eq_iff_iff];simp [h1]);have h1b:(a1==b1)=true:=beq_iff_eq.2 h1;have H1:=af h1;clear h1;go_enter func21,ntmps21;go_wp2
  go_ret;exact⟨aO (ae HP).symm,by exact((aY _ _).alloc (aL _) _).alloc (by simp) _⟩
 have HP:=af (show decide ((a1,a2)=(b1,b2))=false by simp [h1]);have h1b:(a1==b1)=false:=beq_eq_false_iff_ne.2 h1;have H1:=af h1;clear h1;go_enter func21,ntmps21;go_wp2
 go_ret;exact⟨aO (ae HP).symm,by exact((aY _ _).alloc (aL _) _).alloc (by simp) _⟩
theorem qi(a b:List Int)(x y:Value)(w:World)(ha:aA w x a)(hb:aA w y b) :
  Calls prog 40 #[x,y] w λ e w'=>e=.returned (.bool (decide (a=b)))/\Below w.heap.size w w':=by
 obtain⟨p,c,rfl,hcap,hl,hin,hr⟩:=ha;obtain⟨q,d,rfl,hcap',hl',hin',hr'⟩:=hb;by_cases hlen:a.length=b.length
 ·have hne:((a.length:Int) != (b.length:Int))=false:=by simp [hlen]
  have HL:=af hlen;have hle:a.length<=b.length:=by omega
  have hge:b.length<=a.length:=by omega
  clear hlen hin hin';have HR:=af hr;have AA:=af hr';clear hr hr';go_enter func40,ntmps40;go_wp2
  go_loopw [5] (λ i wr=>∃ k:Nat,k<=a.length/\a.take k=b.take k/\i=.int .i64 k/\Below w.heap.size w wr) (λ i _=>a.length-(intOf i).toNat)
  case atStart=>exact⟨0,dG _,rfl,rfl,aY _ _⟩
  case round =>
   obtain⟨k,hk,ht,rfl,hbl⟩:=hrel;have HT:=af ht;have HB:=af hbl;clear ht hbl;by_cases hlt:k<a.length
   ·have hlt':k<b.length:=by omega
    rcases ae HR with h|⟨ba,oa,rfl,hba,hca⟩
    ·rw [h.1]at hlt;simp at hlt
    rcases ae AA with h|⟨bb,ob,rfl,hbb,hcb⟩
    ·rw [h.1]at hlt';simp at hlt'
    have c1:=((ae HB).cell (p:=⟨ba,oa+k,none⟩) hba).trans (hca k hlt);have c2:=((ae HB).cell (p:=⟨bb,ob+k,none⟩) hbb).trans (hcb k hlt');clear hca hcb;cases he:(a[k] != b[k])with
    | true =>
     have HN:=af (show decide (a=b)=false from by
      have h1:a[k]≠b[k]:=by simpa using he
      simp only [decide_eq_false_iff_not];intro h;subst h;exact h1 rfl)
     go_wp2_with fail;go_quiet ((fail))
     go_wp2
     go_ret;exact⟨aO (ae HN).symm,by exact below_drewN (ae HB) _⟩
    | false =>
     have BA:=af (qr (ae HT) hlt hlt' (by simpa using he));go_wp2_with fail;go_quiet ((fail))
     go_wp2
     go_roundw
     case rel=>exact⟨k+1,by omega,ae BA,by go_num,below_drewN (ae HB) _⟩
     case measure=>simp [intOf];omega
   go_wp2
   go_ret;have hh:=BT (ae HT) (by omega) (by omega);exact⟨aO (by simp [hh]),ae HB⟩
 have hne:((a.length:Int) != (b.length:Int))=true:=by rw [bne_iff_ne];omega
 have HN:=af (show decide (a=b)=false from by simp;intro h;exact hlen (by rw [h]));clear hlen hin hin' hr hr';go_enter func40,ntmps40;go_wp2
 go_ret;exact⟨aO (ae HN).symm,aY _ _⟩
theorem mP(l:List Int)(i:Nat)(v:Value)(w:World)(_hi:i<=1000)(h:aA w v l) :
  Calls prog 26 #[v,.int .i64 i] w λ e w'=>e=.returned (.int .i64 (cF l i))/\w'=w:=by
 obtain⟨p,c,rfl,hcap,hl,hin,hr⟩:=h;by_cases hlt:i<l.length
 ·have HP:=af (show cF l i=l[i]by unfold cF;rw [gW hlt];rfl);rcases hr with⟨rfl,_⟩|⟨b,o,rfl,hb,hc⟩
  ·simp at hlt
  have hck:=hc i hlt;clear hc hin;go_enter func26,ntmps26;go_wp2
  all_goals (go_ret;exact⟨jA (ae HP).symm,rfl⟩)
 have HP:=af (show cF l i=0 by unfold cF;rw [List.getElem?_eq_none (by omega)];rfl);clear hr hin;go_enter func26,ntmps26;go_wp2
 all_goals (go_ret;exact⟨jA (ae HP).symm,rfl⟩)
