/- part -/
import Derived.Test.YtgdeeodifnegiaaGreatDoorLxB
import Derived.Test.YtgdeeodifnegiaaGreatDoorCards
import Derived.Test.YtgdeeodifnegiaaGreatDoorTie
import Derived.Carry
set_option maxRecDepth 100000
set_option maxHeartbeats 6400000
namespace Go.Proofs.YtgdeeodifnegiaaGreatDoor
open Go.Proofs.Tryz
open Or
open Go.ChangeShapes Go.WideShapes Go.ChangeAt Go.RowKit Go.Deep
open Go.ChangeShapes Go.WideShapes Go.ChangeAt Go.RowKit
theorem yt.below{W V:World}{cs:List Value}{k:Int}(h:yt W cs k)(hb:Below W.heap.size W V):yt V cs k:=by
 obtain⟨a,S,R,pv,mv,h1,h2,h3⟩:=h;exact⟨a,S,R,pv,mv,h1,h2.below hb,h3⟩
theorem FK{W V:World}{v:Value}{S:List (List Value)}(h:jq W v S (yt W))(hb:Below W.heap.size W V):jq V v S (yt V):=by
 obtain⟨p,c,rfl,h1,h2,h3,h4⟩:=h;refine⟨p,c,rfl,h1,h2,λ cs hcs=>?_,h4.imp id ?_⟩
 ·obtain⟨k,hk⟩:=h3 cs hcs;exact⟨k,hk.below hb⟩
 rintro⟨b,f,rfl,hl,hc⟩;exact⟨b,f,rfl,eV hl hb.size,λ j hj i v hv=>(hb.cell (p:=⟨b,f+j*18+i,none⟩) hl).trans (hc j hj i v hv)⟩
def M9(g:Nat):List Value:=[.int .i64 3,.int .i64 0,.int .i64 0,.string ⟨#[]⟩,.int .i64 0,.int .i64 0,.slice (some ⟨g,0,none⟩) 1 1,.slice none 0 0,.int .i64 100,.int .i64 0,.slice none 0 0,.slice none 0 0,.slice none 0 0,.slice none 0 0,.int .i64 0,.int .i64 0,.slice none 0 0,.slice none 0 0]
theorem tA(W:World):a8 W (.slice none 0 0) []:=⟨none,0,rfl,by simp,by simp,λ x hx=>by simp at hx,inl ⟨rfl,λ _=>rfl⟩⟩
theorem Lm(W:World):yt W uu 1 :=
 ⟨0,uv,⟨0,0,[],[],0,0⟩,_,_,Gd,⟨rfl,rfl,rfl,rfl,rfl,rfl,rfl,tA W,tA W,⟨by decide,by decide⟩,⟨by decide,by decide⟩,⟨by decide,by decide⟩,⟨by decide,by decide⟩,by simp,by simp⟩,rfl,by decide,by decide⟩
theorem Na{W:World}{g:Nat}(hg:W.heap[g]?=some (.cells #[.int .i64 3] 3 (0,0))):yt W (M9 g) 3:=by
 have hi:a8 W (.slice (some ⟨g,0,none⟩) 1 1) [3]:=⟨_,1,rfl,by simp,by simp,λ x hx=>by simp at hx;subst hx;exact⟨by decide,by decide⟩,inr ⟨g,0,rfl,ai hg,λ j hj=>by
  have:j=0:=by simp at hj;omega
  subst this;exact af hg⟩⟩
 exact⟨0,⟨#[]⟩,⟨0,0,[3],[],100,0⟩,_,_,⟨rfl,rfl,rfl⟩,⟨rfl,rfl,rfl,rfl,rfl,rfl,rfl,hi,tA W,⟨by decide,by decide⟩,⟨by decide,by decide⟩,⟨by decide,by decide⟩,⟨by decide,by decide⟩,by simp,by simp⟩,rfl,by decide,by decide⟩
theorem CQ{w:World}{g t:Nat}{fr:Nat×Nat}{a b:List Value}(ha:a.length=18)(h:w.heap[g]?=some (.cells (a++b).toArray t fr)):∀ j,(hj:j<[a,b].length)->w.rangeAt g (j*18) [a,b][j]:=λ j hj i v hv=>by
 have hc:w.cell? ⟨g,j*18+i,none⟩=(a++b)[j*18+i]?:=by rw [af h];simp
 rw [hc];rcases(show j=0\/j=1 by simp at hj;omega)with rfl|rfl
 ·have hv':a[i]?=some v:=hv;rw [List.getElem?_append_left (by have:=(List.getElem?_eq_some_iff.1 hv').1;omega),Nat.zero_mul,Nat.zero_add];exact hv'
 have hv':b[i]?=some v:=hv;rw [List.getElem?_append_right (by omega),show 1*18+i-a.length=i by omega];exact hv'
abbrev NF:Array Value:=#[.int .i64 1,.int .i64 0,.int .i64 0,.string uv,.int .i64 0,.int .i64 0,.slice none 0 0,.slice none 0 0,.int .i64 0,.int .i64 0,.slice none 0 0,.slice none 0 0,.slice none 0 0,.slice none 0 0,.int .i64 0,.int .i64 0,.slice none 0 0,.slice none 0 0]
abbrev xG(g:Nat):Array Value:=#[.int .i64 1,.int .i64 0,.int .i64 0,.string uv,.int .i64 0,.int .i64 0,.slice none 0 0,.slice none 0 0,.int .i64 0,.int .i64 0,.slice none 0 0,.slice none 0 0,.slice none 0 0,.slice none 0 0,.int .i64 0,.int .i64 0,.slice none 0 0,.slice none 0 0,.int .i64 3,.int .i64 0,.int .i64 0,.string ⟨#[]⟩,.int .i64 0,.int .i64 0,.slice (some ⟨g,0,none⟩) 1 1,.slice none 0 0,.int .i64 100,.int .i64 0,.slice none 0 0,.slice none 0 0,.slice none 0 0,.slice none 0 0,.int .i64 0,.int .i64 0,.slice none 0 0,.slice none 0 0]
theorem tS{W V:World}{vs:Value}{S:List (List Value)}{ga kb g:Nat}(ht:bB W)(hS:jq W vs S (yt W))(hl:S.length<=1048576)(hb:Below W.heap.size W V)(h1:V.heap[ga]?=some (.cells (xG g) 33 (0,0)))(h2:V.heap[kb]?=some (.cells #[.int .i64 1,.int .i64 3] 3 (0,0)))(h3:V.heap[g]?=some (.cells #[.int .i64 3] 3 (0,0))) :
  Calls prog 6 #[.slice (some ⟨ga,0,none⟩) 2 2,vs,.slice (some ⟨kb,0,none⟩) 2 2] V λ e W'=>e=.returned (.bool true)/\Below W.heap.size W W':=by
 refine(Mt V (yt V) _ 1 3 8000000 (Fl V (ht.below hb)) [uu,M9 g] S vs ga kb rfl (ai h1) (CQ rfl h1) ?_ (FK hS hb) (by omega) h2).mono ?_
 ·intro cs hcs;rcases List.mem_cons.1 hcs with rfl|hcs
  ·exact⟨1,Lm V,inl rfl⟩
  rw [List.mem_singleton.1 hcs];exact⟨3,Na h3,inr rfl⟩
 rintro e w ⟨rfl,h⟩;exact⟨rfl,hb.trans (h.mono hb.size)⟩
theorem KV{W w:World}{vs:Value}{S:List (List Value)}(g:Nat)(ht:bB W)(hS:jq W vs S (yt W))(hl:S.length<=1048576)(hb:Below W.heap.size W w)(h3:w.heap[g]?=some (.cells #[.int .i64 3] 3 (0,0))) :
  Calls prog 6 #[.slice (some ⟨w.heap.size,0,none⟩) 2 2,vs,.slice (some ⟨w.heap.size+1,0,none⟩) 2 2] ((w.alloc (.cells (xG g) 33)).alloc (.cells #[.int .i64 1,.int .i64 3] 3)) λ e W'=>e=.returned (.bool true)/\Below W.heap.size W W':=by
 have h:=qd w (.cells (xG g) 33) (.cells #[.int .i64 1,.int .i64 3] 3);have b:=nS w (.cells (xG g) 33) (.cells #[.int .i64 1,.int .i64 3] 3);exact tS ht hS hl (hb.trans (b.mono hb.size)) h.1 h.2 ((b.block g (ai h3)).trans h3)
theorem KW{W w:World}{vs:Value}{S:List (List Value)}(g:Nat)(ht:bB W)(hS:jq W vs S (yt W))(hl:S.length<=1048576)(hb:Below W.heap.size W w)(h3:w.heap[g]?=some (.cells #[.int .i64 3] 3 (0,0))) :
  Calls prog 6 #[.slice (some ⟨w.heap.size+1,0,none⟩) 2 2,vs,.slice (some ⟨w.heap.size,0,none⟩) 2 2] ((w.alloc (.cells #[.int .i64 1,.int .i64 3] 3)).alloc (.cells (xG g) 33)) λ e W'=>e=.returned (.bool true)/\Below W.heap.size W W':=by
 have h:=qd w (.cells #[.int .i64 1,.int .i64 3] 3) (.cells (xG g) 33);have b:=nS w (.cells #[.int .i64 1,.int .i64 3] 3) (.cells (xG g) 33);exact tS ht hS hl (hb.trans (b.mono hb.size)) h.2 h.1 ((b.block g (ai h3)).trans h3)
theorem KX{W w:World}{vs:Value}{S:List (List Value)}(g k:Nat)(ht:bB W)(hS:jq W vs S (yt W))(hl:S.length<=1048576)(hb:Below W.heap.size W w)(h3:w.heap[g]?=some (.cells #[.int .i64 3] 3 (0,0)))(hk:w.heap[k]?=some (.cells #[.int .i64 1,.int .i64 3] 3 (0,0))) :
  Calls prog 6 #[.slice (some ⟨w.heap.size,0,none⟩) 2 2,vs,.slice (some ⟨k,0,none⟩) 2 2] (w.alloc (.cells (xG g) 33)) λ e W'=>e=.returned (.bool true)/\Below W.heap.size W W':=by
 have b:=(aX w.heap.size w).alloc (aD _) (.cells (xG g) 33);exact tS ht hS hl (hb.trans (b.mono hb.size)) (cN _ _) ((b.block k (ai hk)).trans hk) ((b.block g (ai h3)).trans h3)
theorem Jg(S:List (List Value))(vs:Value)(W:World)(ht:bB W)(hS:jq W vs S (yt W))(hl:S.length<=1048576) :
  Calls prog 5 #[vs] W λ e W'=>e=.returned (.bool true)/\Below W.heap.size W W':=by
 have HT:=ae ht;have HS:=ae hS;obtain⟨ps,cs,rfl,-⟩:=hS;clear ht;go_enter func5,ntmps5;go_upto_region 2 with fail
 have q3:((W.alloc (.cells #[.int .i64 3] 3)).alloc (bZ ⟨0,0,[3],[],100,0⟩ (.slice (some ⟨W.heap.size,0,none⟩) 1 1) (.slice none 0 0))).heap[W.heap.size]?=some (.cells #[.int .i64 3] 3 (0,0))/\((W.alloc (.cells #[.int .i64 3] 3)).alloc (bZ ⟨0,0,[3],[],100,0⟩ (.slice (some ⟨W.heap.size,0,none⟩) 1 1) (.slice none 0 0))).heap[W.heap.size+1]?=some (bZ ⟨0,0,[3],[],100,0⟩ (.slice (some ⟨W.heap.size,0,none⟩) 1 1) (.slice none 0 0)):=qd W _ _;have hb1:Below W.heap.size W ((W.alloc (.cells #[.int .i64 3] 3)).alloc (bZ ⟨0,0,[3],[],100,0⟩ (.slice (some ⟨W.heap.size,0,none⟩) 1 1) (.slice none 0 0))):=nS W _ _;obtain⟨W1,hW1⟩:∃ W1,(W.alloc (.cells #[.int .i64 3] 3)).alloc (.cells #[.int .i64 0,.int .i64 0,.slice (some ⟨W.heap.size,0,none⟩) 1 1,.slice none 0 0,.int .i64 100,.int .i64 0] 28)=W1:=⟨_,rfl⟩
 rw [hW1];have q3':W1.heap[W.heap.size]?=some (.cells #[.int .i64 3] 3 (0,0)):=by rw [<-hW1];exact q3.1
 have q4:W1.heap[W.heap.size+1]?=some (bZ ⟨0,0,[3],[],100,0⟩ (.slice (some ⟨W.heap.size,0,none⟩) 1 1) (.slice none 0 0)):=by rw [<-hW1];exact q3.2
 have hb1':Below W.heap.size W W1:=by rw [<-hW1];exact hb1
 have AA:=ae hb1';have Q3:=ae q3';have Q4:=ae q4
 have TK:=ae (show ∀ V,Below W1.heap.size W1 V->Calls prog 7 #[] V λ e w'=>e=.returned (.agg NF)/\(Below W.heap.size W w'/\w'.heap[W.heap.size]?=some (.cells #[.int .i64 3] 3 (0,0))/\∀ k o,V.heap[k]?=some o->w'.heap[k]?=some o)/\w'.cell? ⟨W.heap.size+1,0,none⟩=some (.int .i64 0)/\w'.cell? ⟨W.heap.size+1,1,none⟩=some (.int .i64 0)/\w'.cell? ⟨W.heap.size+1,2,none⟩=some (.slice (some ⟨W.heap.size,0,none⟩) 1 1)/\w'.cell? ⟨W.heap.size+1,3,none⟩=some (.slice none 0 0)/\w'.cell? ⟨W.heap.size+1,4,none⟩=some (.int .i64 100)/\w'.cell? ⟨W.heap.size+1,5,none⟩=some (.int .i64 0)/\W.heap.size+1<w'.heap.size from λ V hV=>(Jz V).mono λ e w' ⟨he,hb⟩=>by
   have h:=(hb.block (W.heap.size+1) (eV (ai (ab Q4)) hV.size)).trans ((hV.block _ (ai (ab Q4))).trans (ab Q4));obtain⟨r0,r1,r2,r3,r4,r5,_⟩:=mH h;have hVW:=(ab AA).trans (hV.mono (ab AA).size);exact⟨he,⟨hVW.trans (hb.mono hVW.size),(hb.block _ (ai ((hV.block _ (ai (ab Q3))).trans (ab Q3)))).trans ((hV.block _ (ai (ab Q3))).trans (ab Q3)),λ k o hk=>(hb.block k (ai hk)).trans hk⟩,r0,r1,r2,r3,r4,r5,ai h⟩)
 obtain⟨r0,r1,r2,r3,r4,r5,rz⟩:=mH q4;have l4:W.heap.size+1<W1.heap.size:=ai q4;clear q3 hb1 hb1' q3' q4 hW1 rz
 go_region_with (first
  | (go_at_call 7;refine(ab TK _ (by first|exact(aX _ _).drew|exact((aX _ _).alloc (aD _) _).drew)).mono ?_;rintro e w1 ⟨rfl,hb,g0,g1,g2,g3,g4,g5,gl⟩)
  | (go_at_call 6;with_reducible refine(KV W.heap.size (ab HT) (ab HS) hl hb.1 hb.2.1).mono ?_;rintro e w2 ⟨rfl,hb2⟩)
  | (go_at_call 6;with_reducible refine(KW W.heap.size (ab HT) (ab HS) hl hb.1 hb.2.1).mono ?_;rintro e w2 ⟨rfl,hb2⟩)
  | (go_at_call 6;have hk:=hb.2.2 W1.heap.size _ (cN W1 _);with_reducible refine(KX W.heap.size W1.heap.size (ab HT) (ab HS) hl hb.1 hb.2.1 hk).mono ?_;rintro e w2 ⟨rfl,hb2⟩))
 all_goals
  go_wp2_with fail;go_ret;exact⟨rfl,hb2⟩
namespace rns
theorem vE:prog.cellsOf 26=1:=by kernel_rfl
theorem GY:prog.cellsOf 25=2:=by kernel_rfl
theorem Bb:prog.cellsOf 28=6:=by kernel_rfl
theorem GX{H:Type}(d:DataW H):1<=Rows.uptoBulk d:=by
 cases d with
 | lit l=>cases l<;>simp [Rows.uptoBulk]
 | nil=>simp [Rows.uptoBulk]
 | ptr d=>simp [Rows.uptoBulk]
 | slice a b=>simp [Rows.uptoBulk]
 | agg a=>simp [Rows.uptoBulk]
 | iface t d=>simp [Rows.uptoBulk]
 | map a=>simp [Rows.uptoBulk]
 | held h=>simp [Rows.uptoBulk]
theorem yM{H:Type}{d:DataW H}{l:List (DataW H)}(h:d∈l):Rows.uptoBulk d<=Rows.uptoBulkAll l:=by
 induction l with
 | nil=>cases h
 | cons x r ih =>
  rw [Rows.uptoBulkAll];rcases List.mem_cons.1 h with e|e
  ·subst e;omega
  have:=ih e;omega
theorem yL{H:Type}(l:List (DataW H)):l.length<=Rows.uptoBulkAll l:=by
 induction l with
 | nil=>simp
 | cons x r ih=>rw [Rows.uptoBulkAll,List.length_cons];have:=GX x;omega
theorem Hu{n:Int}(h:(Lit.int .i64 n).wf=true):jw n:=by
 have h1:IntKind.i64.min = -9223372036854775808:=rfl;have h2:IntKind.i64.max=9223372036854775807:=rfl;simp only [Lit.wf,Bool.and_eq_true,decide_eq_true_eq]at h;unfold jw;omega
theorem Il{H:Type}(k:IntKind)(l:List Int):(lits (H:=H) k l).length=l.length:=by simp [lits]
theorem MY{H:Type}{enc:TypeId×Value->H}{W:World}{fuel:Nat}{cs:List Value}{x:DataW H×List MemPlace}
  (h:DataW.trod enc prog W 0 (λ _=>true) true fuel 26 cs=some x) (hb:Rows.uptoBulk x.1<=1048576):∃ v l,cs=[v]/\a8 W v l/\l.length<=1048576:=by
 rcases open_ints underlying26 underlying3 cps.jH h with⟨rfl,rfl⟩|⟨a,len,cap,zs,rfl,_,hl,hm,hzl,rfl,hcell,hwz⟩
 ·exact⟨_,[],rfl,⟨none,0,rfl,by simp,by simp,λ x hx=>by simp at hx,inl ⟨rfl,λ _=>rfl⟩⟩,by simp⟩
 simp only [if_true]at hzl;have hlt:(zs.take len).length=len:=by rw [List.length_take];omega
 have hbl:len<=1048576:=by
  have h1:=yL (lits (H:=H) .i64 (zs.take len));rw [Il,hlt]at h1;simp only [Rows.uptoBulk]at hb;omega
 refine⟨_,zs.take len,rfl,⟨some a,cap,by rw [hlt],by omega,by omega,λ x hx=>Hu (hwz x (List.mem_of_mem_take hx)),?_⟩,by omega⟩;by_cases hl0:len=0
 ·subst hl0;exact inl ⟨by simp,λ h=>by cases h⟩
 obtain⟨b,off,spot⟩:=a;have hspot:spot=none:=by simpa [Addr.add]using World.cell?_spot (hcell 0 (by omega))
 subst hspot;have hc:∀ j,j<zs.length->W.cell? ⟨b,off+j,none⟩=some (.int .i64 (zs.getD j 0)):=λ j hj=>by rw [<-WideShapes.add_plain];exact hcell j hj
 refine inr ⟨b,off,rfl,cps.dD (hc 0 (by omega)),λ j hj=>?_⟩;rw [hc j (by omega)];simp [List.getD,show j<zs.length by omega]
theorem field{H:Type}{enc:TypeId×Value->H}{W:World}{fuel:Nat}{t:TypeId}{fs:Array Field}{cs:List Value}{x:DataW H×List MemPlace}(ht:prog.underlying t=some (.struct fs))
  (h:DataW.trod enc prog W 0 (λ _=>true) true fuel t cs=some x) (hb:Rows.uptoBulk x.1<=1048576) :
  cs.length=prog.cellsOf t/\∃ n,∀(i o k:Nat) (ty:TypeId),(fs[i]?).map (λ f=>(f.offset,f.type))=some (o,ty)->prog.cellsOf ty=k->∃ y,DataW.trod enc prog W 0 (λ _=>true) true n ty ((cs.drop o).take k)=some y/\Rows.uptoBulk y.1<=1048576:=by
 obtain⟨xs,n,_,rfl,hl,hlen,hf⟩:=DataW.trod_struct ht h;refine⟨hl,n,λ i o k ty hi0 hk=>?_⟩;obtain⟨f,hi,hoty⟩:=Option.map_eq_some_iff.1 hi0;obtain⟨rfl,rfl⟩:=Prod.mk.inj hoty;subst hk;have hlt:i<xs.length:=by rw [hlen];exact(Array.getElem?_eq_some_iff.1 hi).1
 refine⟨xs[i],by rw [hf i f hi,iK hlt],?_⟩;have hm:Rows.uptoBulk xs[i].1<=Rows.uptoBulkAll (xs.map (λ x=>x.1)):=yM (List.mem_map.2 ⟨xs[i],nN hlt,rfl⟩);simp only [Rows.uptoBulk]at hb;omega
theorem EM{H:Type}{enc:TypeId×Value->H}{W:World}{fuel:Nat}{cs:List Value}{x:DataW H×List MemPlace}
  (h:DataW.trod enc prog W 0 (λ _=>true) true fuel 3 cs=some x):∃ n,cs=[.int .i64 n]/\jw n:=by
 obtain⟨n,e,_,w⟩:=DataW.trod_int underlying3 h;exact⟨n,e,Hu w⟩
theorem op{H:Type}{enc:TypeId×Value->H}{W:World}{fuel:Nat}{cs:List Value}{x:DataW H×List MemPlace}
  (h:DataW.trod enc prog W 0 (λ _=>true) true fuel 33 cs=some x) (hb:Rows.uptoBulk x.1<=1048576):∃ k,yt W cs k:=by
 obtain⟨hl,n,F⟩:=field underlying33 h hb;rw [cps.Do]at hl
 match cs,hl with
 | [c0,c1,c2,c3,c4,c5,c6,c7,c8,c9,c10,c11,c12,c13,c14,c15,c16,c17],_ =>
  obtain⟨y0,h0,_⟩:=F 0 0 1 3 rfl cps.jH;obtain⟨y1,h1,_⟩:=F 1 1 1 3 rfl cps.jH;obtain⟨y3,h3,_⟩:=F 3 3 1 9 rfl cps.yN;obtain⟨y4,h4,b4⟩:=F 4 4 6 28 rfl Bb;clear F h hb;simp only [List.drop,List.take]at h0 h1 h3 h4;obtain⟨kind,e0,_⟩:=EM h0;obtain⟨oa,e1,i1⟩:=EM h1;obtain⟨os,e3,_⟩:=DataW.trod_string underlying9 h3;obtain⟨_,n4,F4⟩:=field underlying28 h4 b4;obtain⟨z0,g0,d0⟩:=F4 0 0 2 25 rfl GY;obtain⟨z1,g1,d1⟩:=F4 1 2 1 26 rfl vE;obtain⟨z2,g2,d2⟩:=F4 2 3 1 26 rfl vE;obtain⟨z3,g3,_⟩:=F4 3 4 1 3 rfl cps.jH;obtain⟨z4,g4,_⟩:=F4 4 5 1 3 rfl cps.jH;clear F4 h4;simp only [List.drop,List.take]at g0 g1 g2 g3 g4;obtain⟨_,n6,F6⟩:=field underlying25 g0 d0;obtain⟨q0,r0,_⟩:=F6 0 0 1 3 rfl cps.jH;obtain⟨q1,r1,_⟩:=F6 1 1 1 3 rfl cps.jH;clear F6 g0;simp only [List.drop,List.take]at r0 r1;obtain⟨na,e4,i4⟩:=EM r0;obtain⟨nl,e5,i5⟩:=EM r1;obtain⟨v6,l6,e6,n6',s6⟩:=MY g1 d1;obtain⟨v7,l7,e7,n7,s7⟩:=MY g2 d2;obtain⟨rpref,e8,i8⟩:=EM g3;obtain⟨rmed,e9,i9⟩:=EM g4;simp only [List.cons.injEq,and_true]at e0 e1 e3 e4 e5 e6 e7 e8 e9;subst e0 e1 e3 e4 e5 e6 e7 e8 e9;exact⟨kind,oa,os,⟨na,nl,l6,l7,rpref,rmed⟩,c6,c7,⟨rfl,rfl,rfl⟩,⟨rfl,rfl,rfl,rfl,rfl,rfl,rfl,n6',n7,i4,i5,i8,i9,by show l6.length<=16777216;omega,by show l7.length<=16777216;omega⟩,rfl,i1.1,i1.2⟩
theorem ME{H:Type}{enc:TypeId×Value->H}{W:World}{base:Nat}{v:Value}{d:DataW H}{p:List MemPlace}(hv:Value.okWide prog W .any base 22 v)
  (h:DataW.Trod enc prog W 0 (λ _=>true) true 22 v d p) (hb:Rows.uptoBulk d<=1048576):∃ S,jq W v S (yt W)/\S.length<=1048576:=by
 obtain⟨a0,len,cap,rfl⟩:=okWide_slice underlying22 hv;obtain⟨fuel,hf⟩:=h;rcases open_slice underlying22 hf with⟨hcs,hx⟩|⟨a,len',cap',m,n,D,Pl,hcs,_,hl,hm,hmm,hx,hel⟩
 ·simp [Value.cells]at hcs;obtain⟨rfl,rfl,rfl⟩:=hcs;exact⟨[],⟨none,0,rfl,by simp,by simp,λ o ho=>by simp at ho,inl rfl⟩,by simp⟩
 simp [Value.cells]at hcs;obtain⟨rfl,rfl,rfl⟩:=hcs;simp only [if_true]at hmm;subst hmm;simp only [Prod.mk.injEq]at hx;obtain⟨rfl,_⟩:=hx;simp only [Rows.uptoBulk]at hb
 have hbl:len<=1048576:=by
  have h1:=yL ((List.range len).map D);rw [List.length_map,List.length_range]at h1;omega
 rw [cps.Do]at hel
 obtain⟨S,hSl,hS⟩:=cps.Kt (p:=λ i o=>(∃ k,yt W o k)/\∀ j,j<18->W.cell? ((a.add (i*18)).add j)=o[j]?) len (λ i hi=>by
  obtain⟨cs',h1,h2⟩:=hel i (by omega);have hm:Rows.uptoBulk (D i)<=Rows.uptoBulkAll ((List.range len).map D):=yM (List.mem_map.2 ⟨i,List.mem_range.2 hi,rfl⟩);obtain⟨_,_,hcell⟩:=World.cells?_some h1;exact⟨cs',op h2 (by show Rows.uptoBulk (D i)<=1048576;omega),λ j hj=>hcell j hj⟩)
 refine⟨S,⟨some a,m,by rw [hSl],by omega,by omega,λ o ho=>?_,?_⟩,by omega⟩
 ·obtain⟨j,hj,rfl⟩:=List.getElem_of_mem ho;exact(hS j hj).1
 by_cases hl0:len=0
 ·exact inl (List.eq_nil_of_length_eq_zero (by omega))
 obtain⟨b,off,spot⟩:=a;obtain⟨⟨k0,a0,s0,R0,p0,m0,o0,_⟩,c0⟩:=hS 0 (by omega);have c00:=(c0 0 (by omega)).trans o0.kind;have hspot:spot=none:=by simpa [Addr.add]using World.cell?_spot c00
 subst hspot;simp only [WideShapes.add_plain]at hS c00;refine inr ⟨b,off,rfl,cps.dD c00,λ j hj i v hv=>?_⟩;obtain⟨⟨k1,a1,s1,R1,p1,m1,o1,_⟩,c1⟩:=hS j hj;rw [c1 i (by have:=(List.getElem?_eq_some_iff.1 hv).1;rw [o1.len]at this;exact this)];exact hv
end rns
open cps (own DF tabs xC)
namespace rns
theorem He(H:Type)(enc:TypeId×Value->H)(W:World)(base:Nat)(args:Array Value)(ds gs:List (DataW H))(before:List MemPlace)
  (hval0:∀(j:Nat) t v,Tryz.f5.params[j]?=some t->args[j]?=some v->Value.okWide prog W .any base t v)
  (hW:DataW.Whole enc prog Tryz.f5.params.toList Rows.runsSpec.vars false W args.toList ds gs before)
  (hs:Rows.uptoSmall H (ds++gs)=true) (hL:laidMetH prog Rows.runsUptoRow.laid W) (hsh:W.ShapedOpen prog) :
  Calls prog 5 args W λ e W'=>∃ v,e=.returned v/\Rows.runsSpec.post enc prog Tryz.f5 false true false false W args v W':=by
 have hW':=hW;obtain⟨p,q,hA0,hV,rfl,_,_⟩:=hW;have hA:DataW.TrodAll enc prog W 0 (λ _=>true) true Tryz.f5.params.toList args.toList ds p:=hA0;have hval:=hval0;rw [params5]at hA hval;obtain⟨v0,d0,rfl,rfl,h0⟩:=trodAll_one hA;obtain⟨rfl,rfl⟩:=trodVars_none hV;clear hA0 hval0
 have hb:Rows.uptoBulk d0<=1048576:=by
  have h1:=of_decide_eq_true hs;rw [List.append_nil,Rows.uptoBulkAll,Rows.uptoBulkAll]at h1;omega
 obtain⟨S,hS,hl⟩:=ME (hval 0 _ v0 rfl rfl) h0 hb;refine(Jg S v0 W (tabs hL hsh) hS hl).mono λ e W' ⟨he,hbl⟩=>?_
 subst he;have lt:=hW'.lt;have t0:=Below.trod DF (by kernel_rfl) (of_decide_eq_true (by kernel_rfl)) h0 hbl (λ x hx=>lt x (by simp [hx]));exact⟨_,rfl,_,_,_,[],_,[],hW',trodAll_cons_mk (shut_bool underlying4 _) trodAll_mk0,trodAll_mk1 t0,rfl,hbl.frame _,λ h=>by cases h⟩
theorem Ib(os:Os):laidMet prog Rows.runsUptoRow.laid ((xC (World.holding prog os ⟨#[],#[],[]⟩)).forCall (λ _ _=>0) ⟨#[],#[.slice none 0 0],[]⟩).memory :=
 laidMet_of_run3 8 (by kernel_rfl) (by kernel_rfl) (by kernel_rfl)
theorem reads(os:Os){H:Type}(enc:TypeId×Value->H):∃ places,DataW.whole enc prog ((xC (World.holding prog os ⟨#[],#[],[]⟩)).forCall (λ _ _=>0) ⟨#[],#[.slice none 0 0],[]⟩).memory Tryz.f5.params.toList Rows.runsSpec.vars false #[Value.slice none 0 0].toList 8=some ([.nil],[],places) :=
 ⟨[],by kernel_rfl⟩
theorem Mj(os:Os)(started:os.Started)(H:Type)(enc:TypeId×Value->H)(F:Stop.Interp) :
  ReturnsInHanded {} Tryz.checked os 5 .any ((Rows.OpenSpec.upto Rows.runsSpec).preRow enc prog Tryz.f5 Rows.runsUptoRow.domain false Rows.runsUptoRow.laid) (((Rows.OpenSpec.upto Rows.runsSpec).at F).post enc prog Tryz.f5 false true false false):=by
 obtain⟨places,hx⟩:=reads os enc
 refine returnsInHanded_of_row (C:=Tryz.checked) (s:=Rows.OpenSpec.upto Rows.runsSpec) own started (by kernel_rfl) func5
  (witness_row_at (enc:=enc) (C:=Tryz.checked) false (xC (World.holding prog os ⟨#[],#[],[]⟩)) #[.slice none 0 0] rfl (by kernel_rfl) (by kernel_rfl) (by kernel_rfl)
   (OpenSpec.preRow_of_cond 8 hx (by kernel_rfl) (λ k hk=>by cases hk;kernel_rfl) (by kernel_rfl) (Ib os))) ?_
 intro W base args ds gs before hval hW _ hcond _ hL hsh _;exact He H enc W base args ds gs before hval hW (hcond _ rfl) hL hsh
end rns
