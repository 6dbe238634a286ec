/- part -/
import Derived.Test.YtphhnjljlllnlaaGreatDoorSpL
set_option maxRecDepth 100000
set_option maxHeartbeats 8000000
namespace Go.Proofs.YtphhnjljlllnlaaGreatDoor
open Go.Proofs.Tryz
open Or
open Go.RowKit Go.Sort
def gc(l:List Rv)(ns:List (Int×Int)):List Rv:=ns.foldl gq l
theorem Aj(l:List Rv)(ns:List (Int×Int))(n:Int×Int):gc l (ns++[n])=gq (gc l ns) n:=by unfold gc;rw [List.foldl_append];rfl
theorem j8:∀(ns:List (Int×Int)) {l:List Rv},eo l->eo (gc l ns)
 | [],_,h=>h
 | n::ns,_,h=>j8 ns (lh (n:=n) h)
theorem qQ:∀(ns:List (Int×Int)) (l:List Rv),(gc l ns).length<=l.length
 | [],_=>aL _
 | n::ns,l=>gG (qQ ns (gq l n)) (Ai l n)
theorem qR:∀(ns:List (Int×Int)) {l:List Rv} {y:Rv},y∈gc l ns->y∈l
 | [],_,_,h=>h
 | _::ns,_,_,h=>tQ (qR ns h)
theorem bB.keep{w w':World}{base b o:Nat}{cs:Array Value}{T:TypeId}{v v':Value}{l l':List Rv}(h:bB w base b o cs T v w' v' l')(hb:w.heap[b]?=some (.cells cs T (0,0)))(ht:bS w base v l){k:Nat}{c:Array Value}{Ty:TypeId}(hk:w.heap[k]?=some (.cells c Ty (0,0)))(h1:Ty≠T)(h2:Ty≠65):w'.heap[k]?=some (.cells c Ty (0,0)) :=
 (h.fr.block k (ah hk) λ hO=>by
  rcases hO with e|e
  ·subst e;rw [hb]at hk;cases hk;exact h1 rfl
  ·obtain⟨_,⟨h3,_⟩|⟨g,c',cur',h3,_,h4,_⟩⟩:=ht
   ·rw [h3]at e;cases e
   ·rw [h3]at e;have:g=k:=by simpa [Value.ownBlock]using e
    subst this;rw [h4]at hk;cases hk;exact h2 rfl).trans hk
theorem fF{cs:Array Value}{o:Nat}{v v1:Value}(h:cs[o]?=some v):(cs.setIfInBounds o v1)[o]?=some v1:=by
 have:=(Array.getElem?_eq_some_iff.1 h).1;simp [this]
theorem eM{cs:Array Value}{o i:Nat}{v1:Value}(h:o≠i):(cs.setIfInBounds o v1)[i]?=cs[i]?:=Array.getElem?_setIfInBounds_ne h
theorem ux:∀(l:List (Int×Int)) (k:Nat) (h:k<l.length),(bu l)[k*2]?=some (.int .i64 l[k].1)/\(bu l)[k*2+1]?=some (.int .i64 l[k].2)
 | x::l,0,_=>⟨rfl,rfl⟩
 | x::l,k+1,h=>by
  have:=ux l k (by simpa using h);rw [show(k+1)*2=k*2+1+1 by omega];exact this
theorem pZ{w:World}{q:Option Addr}{c:Nat}{l:List (Int×Int)}(h:cQ w 0 (.slice q l.length c) l)(hl:0<l.length):∃ g cur,q=some ⟨g,0,none⟩/\w.heap[g]?=some (.cells cur 63 (0,0))/\∀ k (hk:k<l.length),cur[k*2]?=some (.int .i64 l[k].1)/\cur[k*2+1]?=some (.int .i64 l[k].2):=by
 obtain⟨_,⟨_,h2⟩|⟨g,cap,cur,h2,_,h3,_,_,_,h4⟩⟩:=h
 ·omega
 cases h2
 refine⟨g,cur,rfl,h3,λ k hk=>?_⟩;have hn:=ux l k hk;rw [<-h4,List.getElem?_take,List.getElem?_take,aS (by omega),aS (by omega)]at hn;simpa using hn
theorem bB.belowN{W w0 w':World}{n0 base b o:Nat}{cs:Array Value}{T:TypeId}{v v':Value}{l l':List Rv}(h:bB W base b o cs T v w' v' l')(ht:bS W base v l)(hw:Below n0 w0 W)(hb:n0<=b)(hbase:n0<=base)(hn:n0<=W.heap.size):Below n0 w0 w' :=
 ⟨h.fr.os.trans hw.os,h.fr.tape.trans hw.tape,h.fr.output.trans hw.output,gG hw.size h.fr.size,λ k hk=>(h.fr.block k (by omega) λ hO=>by
  rcases hO with e|e
  ·omega
  ·have:=(World.ownsRow.lt ht k e).1;omega).trans (hw.block k hk)⟩
theorem D9{ms:List aJ}{V w':World}{base b o n:Nat}{cs:Array Value}{T:TypeId}{v v':Value}{l0 l l':List Rv}{rs:List Rt}{x:Rv}(hts:bB V base b o cs T v w' v' l')(htk:Er ms l x w' l')(hb:V.heap[b]?=some (.cells cs T (0,0)))(hT:T≠3)(ht:bS V base v l)
  (h1:jb ms l0 rs l) (h2:eo l) (h3:l.length<=n):jb ms l0 (rs++[x.r]) l'/\eo l'/\l'.length<=n+1/\((∀ y∈l,bK V y)->∀ y∈l',bK w' y):=by
 rcases htk with⟨hv,rfl⟩|⟨hv,y,hy,hya,rfl⟩
 ·exact⟨h1.snoc (inl ⟨hv,rfl⟩),lh h2,by have:=Ai l x.net;omega,λ h z hz=>hts.rv hb hT ht (h z (tQ hz))⟩
 refine⟨h1.snoc (inr ⟨hv,y,hy,rfl⟩),uP h2,by have:=Mp l y;omega,λ h z hz=>?_⟩;rcases E7 hz with e|e
 ·rw [e];exact hya
 exact hts.rv hb hT ht (h z e)
theorem yQ{n0:Nat}{w0:World}{p:ByteArray}{sv:Value}{ms:List aJ}(hP:qH n0 w0 p sv ms)(w:World)(hw:Below n0 w0 w)(l:List Rv)(v:Value)(base b o:Nat)(cs:Array Value)(T:TypeId)(u:fI)(g1 g2 q1 q2:Option Addr)(c1 c2 k1 k2:Nat)
  (hb:w.heap[b]?=some (.cells cs T (0,0))) (hv0:cs[o]?=some (.string p)) (hv1:cs[o+1]?=some sv) (hv:cs[o+5]?=some v) (hl:l.length+u.nets.length<=1000) (hgl:u.gone.length<=1000) (hn0:n0<=base) (hn1:n0<=b) (hbase:base<=w.heap.size) (ht:bS w base v l) (hs:eo l) (hne:v.ownBlock≠some b)
  (hT1:T≠3) (hT2:T≠63) (hT3:T≠87) (hgone:cQ w 0 (.slice g1 u.gone.length c1) u.gone) (hnets:cQ w 0 (.slice g2 u.nets.length c2) u.nets)
  (hx:bK w ⟨⟨0,0,u.path,u.marks,u.pref,u.med⟩,q1,k1,q2,k2⟩) (hok:∀ n∈u.nets,dh ⟨n.1,n.2,u.path,u.marks,u.pref,u.med⟩=true) :
  Calls prog 52 #[.pointer (some ⟨b,o,none⟩),.agg #[.slice g1 u.gone.length c1,.slice g2 u.nets.length c2,.slice q1 u.path.length k1,.slice q2 u.marks.length k2,.int .i64 u.pref,.int .i64 u.med]] w λ e w'=>∃ v' l',e=.returned (.int .i64 (if 16<l'.length then 10 else 0))/\bB w base b (o+5) cs T v w' v' l'/\jb ms (gc l u.gone) (u.nets.map λ n=>⟨n.1,n.2,u.path,u.marks,u.pref,u.med⟩) l'/\((∀ y∈l,bK w y)->∀ y∈l',bK w' y):=by
 obtain⟨gone,nets,path,marks,pref,med⟩:=u;dsimp only at *;have hgW:bF w (w.alloc (.cells #[.slice g1 gone.length c1,.slice g2 nets.length c2,.slice q1 path.length k1,.slice q2 marks.length k2,.int .i64 pref,.int .i64 med] 87)):=(bF.refl w).alloc _;have hu:=cM w (.cells #[.slice g1 gone.length c1,.slice g2 nets.length c2,.slice q1 path.length k1,.slice q2 marks.length k2,.int .i64 pref,.int .i64 med] 87);generalize hW:w.alloc (.cells #[.slice g1 gone.length c1,.slice g2 nets.length c2,.slice q1 path.length k1,.slice q2 marks.length k2,.int .i64 pref,.int .i64 med] 87)=W at hgW hu;have hbW:=(hgW.below.block b (ah hb)).trans hb;have htW:=ht.grown hgW;have FA:=af (bB.refl hbW hv htW hne);have u0:W.cell? ⟨w.heap.size,0,none⟩=some (.slice g1 gone.length c1):=ag hu;have HW:=af hW;have HU:=af hu;have DA:=af hbW;have CA:=af htW;have PA:=af (ay hgone λ k e=>hgW.below.block k (World.ownsRow.lt hgone k e).2:cQ W 0 (.slice g1 gone.length c1) gone);have QA:=af (ay hnets λ k e=>hgW.below.block k (World.ownsRow.lt hnets k e).2:cQ W 0 (.slice g2 nets.length c2) nets);have HX:=af (hx.below hgW.below);have HG:=af hgW;have HS:=af hs;have HP:=af hP;have UA:=af hw;have RA:=af hok;have HV:=af hv;have SA:=af hv0;have TA:=af hv1;clear hW hgW hu hbW htW hgone hnets hx hs hP hw hok hb ht hne hv hv0 hv1;go_enter func52,ntmps52;go_upto_region 1 with fail
 rw [ae HW];go_wp2
 go_loopw [12] (λ i wr=>∃(k:Nat) (v1:Value),k<=gone.length/\i=.int .i64 k/\bB W base b (o+5) cs T v wr v1 (gc l (gone.take k))) (λ i _=>gone.length-(intOf i).toNat)
 case atStart=>exact⟨0,v,dG _,rfl,ae FA⟩
 case round =>
  obtain⟨k,v1,hk,rfl,hts⟩:=hrel;by_cases hlt:k<gone.length
  ·obtain⟨g,cur,rfl,hgb,hcell⟩:=pZ (ae PA) (by omega);have hgr:=hts.keep (ae DA) (ae CA) hgb (Ne.symm hT2) (by decide);have x0:=(ag hgr).trans (hcell k hlt).1;have x1:=(ag hgr).trans (hcell k hlt).2;have LA:=af hts;clear hts hgb hcell hgr;go_upto_region 4 with fail
   have hbe:Below wr.heap.size wr (wr.alloc (.cells #[.int .i64 gone[k].1,.int .i64 gone[k].2] 63)).drew:=((aY _ _).alloc (aL _) _).drew;have hts1:=(ae LA).then_below hbe;have IA:=af (Ah (gc l (gone.take k)) v1 gone[k] _ base b (o+5) (cs.setIfInBounds (o+5) v1) T hts1.blk (fF (ae HV)) (by have:=qQ (gone.take k) l;omega) hts1.tab (j8 _ (ae HS)) hts1.apart);have BA:=af hts1;have JA:=af (show gc l (gone.take (k+1))=gq (gc l (gone.take k)) gone[k]from by rw [List.take_succ_eq_append_getElem hlt,Aj]);clear hbe hts1 x0 x1;go_region_with (go_at_call 77;refine(ae IA).mono ?_;rintro e w2 ⟨rfl,v2,hts2⟩;have AA:=af hts2;clear hts2)
   all_goals
    go_wp2
    go_roundw
    case rel=>exact⟨k+1,v2,by omega,by go_num,by rw [ae JA];exact(ae BA).trans (ae AA)⟩
    case measure=>simp [intOf];omega
  have hke:k=gone.length:=by omega
  subst hke;rw [List.take_length]at hts;have hur:=hts.keep (ae DA) (ae CA) (ae HU) (Ne.symm hT3) (by decide);have y1:wr.cell? ⟨w.heap.size,1,none⟩=some (.slice g2 nets.length c2):=ag hur;have LA:=af hts;have OA:=af (λ(hal:∀ y∈l,bK W y) (y:Rv) (hy:y∈gc l gone)=>hts.rv (ae DA) hT1 (ae CA) (hal y (qR gone hy)));clear hts hur u0 hk hlt;go_wp2
  go_loopw [25] (λ i w2=>∃(k:Nat) (v2:Value) (l2:List Rv),k<=nets.length/\i=.int .i64 k/\bB W base b (o+5) cs T v w2 v2 l2/\jb ms (gc l gone) ((nets.take k).map λ n=>⟨n.1,n.2,path,marks,pref,med⟩) l2/\eo l2/\l2.length<=l.length+k/\((∀ y∈l,bK W y)->∀ y∈l2,bK w2 y)) (λ i _=>nets.length-(intOf i).toNat)
  case atStart=>exact⟨0,_,_,dG _,rfl,ae LA,.nil _,j8 _ (ae HS),qQ gone l,ae OA⟩
  case round =>
   rename World=>w2
   obtain⟨k,v2,l2,hk,rfl,hts,htk,hri,hle,hal⟩:=hrel;by_cases hlt:k<nets.length
   ·obtain⟨g,cur,rfl,hgb,hcell⟩:=pZ (ae QA) (by omega);have hgr:=hts.keep (ae DA) (ae CA) hgb (Ne.symm hT2) (by decide);have hur:=hts.keep (ae DA) (ae CA) (ae HU) (Ne.symm hT3) (by decide);have x0:=(ag hgr).trans (hcell k hlt).1;have x1:=(ag hgr).trans (hcell k hlt).2;have lu:w.heap.size<w2.heap.size:=ah hur;have z2:w2.cell? ⟨w.heap.size,2,none⟩=some (.slice q1 path.length k1):=ag hur;have z3:w2.cell? ⟨w.heap.size,3,none⟩=some (.slice q2 marks.length k2):=ag hur;have z4:w2.cell? ⟨w.heap.size,4,none⟩=some (.int .i64 pref):=ag hur;have z5:w2.cell? ⟨w.heap.size,5,none⟩=some (.int .i64 med):=ag hur;have hbe:Below w2.heap.size w2 (w2.alloc (.cells #[.int .i64 nets[k].1,.int .i64 nets[k].2] 63)):=(aY _ _).alloc (aL _) _;have hts1:=hts.then_below hbe;have hsW:=(ae HG).below.size;have hwW:Below n0 w0 W:=(ae UA).trans ((ae HG).below.mono (by omega));have hwV:=hts1.belowN (ae CA) hwW hn1 hn0 (by omega);have hrv:=hts1.rv (ae DA) hT1 (ae CA) (ae HX);have GA:=af (v8 (ae HP) _ hwV l2 ⟨⟨nets[k].1,nets[k].2,path,marks,pref,med⟩,q1,k1,q2,k2⟩ v2 base b o (cs.setIfInBounds (o+5) v2) T hts1.blk ((eM (by omega)).trans (ae SA)) ((eM (by omega)).trans (ae TA)) (fF (ae HV)) (by omega) (by have:=hts1.fr.size;omega) hts1.tab hri hts1.apart (by have:=hts1.fr.size;omega) hT1 ⟨hrv.path,hrv.marks⟩ (ae RA _ (ej hlt)));have MA:=af (λ(w3:World) (v3:Value) (l3:List Rv) (a:bB _ base b (o+5) (cs.setIfInBounds (o+5) v2) T v2 w3 v3 l3) (c:Er ms l2 ⟨⟨nets[k].1,nets[k].2,path,marks,pref,med⟩,q1,k1,q2,k2⟩ w3 l3)=>D9 (n:=l.length+k) a c hts1.blk hT1 hts1.tab htk hri hle);have BA:=af hts1;have HA:=af (λ(h:∀ y∈l,bK W y) (y:Rv) (hy:y∈l2)=>(hal h y hy).below hbe);have JA:=af (show(nets.take (k+1)).map (λ n=>(⟨n.1,n.2,path,marks,pref,med⟩:Rt))=(nets.take k).map (λ n=>⟨n.1,n.2,path,marks,pref,med⟩)++[⟨nets[k].1,nets[k].2,path,marks,pref,med⟩]from by rw [List.take_succ_eq_append_getElem hlt,List.map_append];rfl)
    dsimp only [bQ]at GA;clear hts htk hri hle hal hgb hcell hgr hur hbe hts1 hwW hwV hrv;go_wp2_with (go_at_call 78;refine(ae GA).mono ?_;rintro e w3 ⟨rfl,v3,l3,hts3,htk3⟩;have EA:=af hts3;have KA:=af htk3;clear hts3 htk3)
    go_roundw
    case rel =>
     obtain⟨n1,n2,n3,n4⟩:=ae MA _ _ _ (ae EA) (ae KA);exact⟨k+1,v3,l3,by omega,by go_num,(ae BA).trans (ae EA),by rw [ae JA];exact n1,n2,by omega,λ h=>n4 (ae HA h)⟩
    case measure=>simp [intOf];omega
   have hke:k=nets.length:=by omega
   subst hke;rw [List.take_length]at htk;obtain⟨qq,cc,rfl⟩:=al hts.tab;have c5:=(ag hts.blk).trans (fF (ae HV));have AA:=af hts;have NA:=af htk;have HA:=af hal;have hl2:l2.length<=1000:=by omega
   clear hts htk hal hri hle;by_cases hbig:16<l2.length
   ·go_wp2
    go_ret;exact⟨_,l2,by rw [aS hbig];rfl,bB.behind (ae HG).below (ae AA),ae NA,λ h=>ae HA λ y hy=>(h y hy).below (ae HG).below⟩
   go_wp2
   go_ret;exact⟨_,l2,by rw [aG hbig];rfl,bB.behind (ae HG).below (ae AA),ae NA,λ h=>ae HA λ y hy=>(h y hy).below (ae HG).below⟩
def Rt.net(r:Rt):Int×Int:=(r.addr,r.len)
def yt(a b:Rt):Bool:=decide (a.addr=b.addr/\a.len=b.len/\a.path=b.path/\a.marks=b.marks/\a.pref=b.pref/\a.med=b.med)
theorem kt{a b:Rt}:yt a b=true↔a=b:=by
 obtain⟨a0,a1,a2,a3,a4,a5⟩:=a;obtain⟨b0,b1,b2,b3,b4,b5⟩:=b;unfold yt;rw [decide_eq_true_iff];simp only [Rt.mk.injEq]
def sR(r:Rt):fI:=⟨[r.net],[],[],[],0,0⟩
def ov(r:Rt):fI:=⟨[],[r.net],r.path,r.marks,r.pref,r.med⟩
def pH:Nat->List Rt->List Rt->List fI
 | 0,_,_=>[]
 | _+1,[],[]=>[]
 | f+1,x::a,[]=>sR x::pH f a []
 | f+1,[],y::b=>ov y::pH f [] b
 | f+1,x::a,y::b=>if gv x.net y.net<0 then sR x::pH f a (y::b)else if 0<gv x.net y.net then ov y::pH f (x::a) b else if yt x y then pH f a b else ov y::pH f a b
theorem nJ:∀(f:Nat) (a b:List Rt),(pH f a b).length<=a.length+b.length
 | 0,_,_=>dG _
 | _+1,[],[]=>dG _
 | f+1,x::a,[]=>by have:=nJ f a [];simp only [pH,List.length_cons,List.length_nil]at *;omega
 | f+1,[],y::b=>by have:=nJ f [] b;simp only [pH,List.length_cons,List.length_nil]at *;omega
 | f+1,x::a,y::b=>by
  have h1:=nJ f a (y::b);have h2:=nJ f (x::a) b;have h3:=nJ f a b;unfold pH;simp only [List.length_cons]at *;split
  ·simp only [List.length_cons];omega
  split
  ·simp only [List.length_cons];omega
  split
  ·omega
  simp only [List.length_cons];omega
theorem lM:∀(f:Nat) (a b:List Rt),∀ m∈pH f a b,(∃ x∈a,m=sR x)\/∃ y∈b,m=ov y
 | 0,_,_=>λ m hm=>by simp [pH]at hm
 | _+1,[],[]=>λ m hm=>by simp [pH]at hm
 | f+1,x::a,[]=>λ m hm=>by
  rcases List.mem_cons.1 hm with rfl|hm
  ·exact inl ⟨x,by simp,rfl⟩
  exact(lM f a [] m hm).imp (λ⟨z,h,e⟩=>⟨z,List.mem_cons_of_mem _ h,e⟩) id
 | f+1,[],y::b=>λ m hm=>by
  rcases List.mem_cons.1 hm with rfl|hm
  ·exact inr ⟨y,by simp,rfl⟩
  exact(lM f [] b m hm).imp id (λ⟨z,h,e⟩=>⟨z,List.mem_cons_of_mem _ h,e⟩)
 | f+1,x::a,y::b=>λ m hm=>by
  unfold pH at hm;split at hm
  ·rcases List.mem_cons.1 hm with rfl|hm
   ·exact inl ⟨x,by simp,rfl⟩
   exact(lM f a _ m hm).imp (λ⟨z,h,e⟩=>⟨z,List.mem_cons_of_mem _ h,e⟩) id
  split at hm
  ·rcases List.mem_cons.1 hm with rfl|hm
   ·exact inr ⟨y,by simp,rfl⟩
   exact(lM f _ b m hm).imp id (λ⟨z,h,e⟩=>⟨z,List.mem_cons_of_mem _ h,e⟩)
  split at hm
  ·exact(lM f a b m hm).imp (λ⟨z,h,e⟩=>⟨z,List.mem_cons_of_mem _ h,e⟩) (λ⟨z,h,e⟩=>⟨z,List.mem_cons_of_mem _ h,e⟩)
  rcases List.mem_cons.1 hm with rfl|hm
  ·exact inr ⟨y,by simp,rfl⟩
  exact(lM f a b m hm).imp (λ⟨z,h,e⟩=>⟨z,List.mem_cons_of_mem _ h,e⟩) (λ⟨z,h,e⟩=>⟨z,List.mem_cons_of_mem _ h,e⟩)
theorem NV{r:Rt}(h:dX r.net):eW (sR r) :=
 ⟨⟨by simp [sR],by simpa [sR]using h,by simp [sR]⟩,⟨by simp [sR],by simp [sR]⟩,⟨by simp [sR],iO _⟩,(show iE (0:Int)from⟨by decide,by decide⟩),(show iE (0:Int)from⟨by decide,by decide⟩),inr ⟨rfl,rfl,rfl,rfl⟩⟩
theorem Nj{r:Rt}(h:dh r=true):eW (ov r):=by
 have h:=(of_decide_eq_true h:mn (r.addr,r.len) r.path r.marks r.pref r.med)
 exact⟨⟨by simp [ov],by simpa [ov,Rt.net]using h.1,by simp [ov]⟩,h.2.1,h.2.2.1,h.2.2.2.1,h.2.2.2.2,inl (by simp [ov])⟩
theorem Br{r:Rt}(h:dh r=true):dX r.net:=(of_decide_eq_true h:mn (r.addr,r.len) r.path r.marks r.pref r.med).1
def GV(l:List Rt)(r:Rt)(gone:Bool):List Rt:=l.filter (λ x=>!decide (x.net=r.net))++if gone then []else [r]
def gd(m:fI):Bool:=decide (m.gone.length=1)
def uT(m:fI):Rt:=⟨((m.gone++m.nets).headD (0,0)).1,((m.gone++m.nets).headD (0,0)).2,m.path,m.marks,m.pref,m.med⟩
def jw(l:List Rt)(r:Rt)(g:Bool):Bool:=l.any λ x=>decide (x.net=r.net)&&(yt x r||g)
def jh(l:List Rt)(m:fI):List Rt:=GV l (uT m) (gd m)
def OE:List Rt->List fI->Prop
 | _,[]=>True
 | l,m::ms=>jw l (uT m) (gd m)=gd m/\OE (jh l m) ms
def gk(l:List Rt):Prop:=l.Pairwise λ a b=>ck a.net b.net
theorem rG{d a:List Rt}{x:Rt}(h:gk (d++x::a)):(d++x::a).filter (λ y=>!decide (y.net=x.net))=d++a:=by
 obtain⟨h1,h2,h3⟩:=List.pairwise_append.1 h;obtain⟨h4,h5⟩:=List.pairwise_cons.1 h2;rw [List.filter_append,List.filter_cons_of_neg (by simp),List.filter_eq_self.2,List.filter_eq_self.2]
 ·intro y hy;have:=h4 y hy;simp only [Bool.not_eq_true',decide_eq_false_iff_not];intro e;rw [e]at this;exact ck.irr this
 intro y hy;have:=h3 y hy x (by simp);simp only [Bool.not_eq_true',decide_eq_false_iff_not];intro e;rw [e]at this;exact ck.irr this
theorem jg(r:Rt):uT (ov r)=r:=rfl
theorem Al{l:List Rt}{n:Int×Int}(h:∀ y∈l,y.net≠n):l.filter (λ y=>!decide (y.net=n))=l :=
 List.filter_eq_self.2 λ y hy=>by simpa using h y hy
theorem E8{d a:List Rt}{n:Int×Int}(h1:∀ y∈d,ck y.net n)(h2:∀ y∈a,ck n y.net):∀ y∈d++a,y.net≠n:=λ y hy e=>by
 rcases List.mem_append.1 hy with hy|hy
 ·have:=h1 y hy;rw [e]at this;exact ck.irr this
 have:=h2 y hy;rw [e]at this;exact ck.irr this
theorem JK{a b:Int×Int}(h:0<gv a b):ck b a:=xh (λ e=>by have:=io.2 e;omega) (λ e=>by have:=kZ.2 e;omega)
theorem ue{V d a:List Rt}{x:Rt}(h:gk (d++x::a))(hp:V.Perm (d++x::a)):jw V (uT (sR x)) (gd (sR x))=gd (sR x)/\(jh V (sR x)).Perm (d++a):=by
 constructor
 ·show V.any _=true;rw [List.any_eq_true];exact⟨x,hp.mem_iff.2 (by simp),(show(decide (x.net=x.net)&&(yt x (uT (sR x))||true))=true by simp)⟩
 show(V.filter (λ y:Rt=>!decide (y.net=x.net))++[]).Perm _;rw [List.append_nil];have:=hp.filter (λ y:Rt=>!decide (y.net=x.net))
 rwa [rG h]at this
theorem wS{V d a:List Rt}{y:Rt}(hne:∀ z∈d++a,z.net≠y.net)(hp:V.Perm (d++a)):jw V (uT (ov y)) (gd (ov y))=gd (ov y)/\(jh V (ov y)).Perm ((d++[y])++a):=by
 constructor
 ·show V.any _=false;rw [List.any_eq_false];intro z hz;have:=hne z (hp.mem_iff.1 hz);simp [jg,this]
 show(V.filter (λ z:Rt=>!decide (z.net=y.net))++[y]).Perm _;have h1:=hp.filter (λ z:Rt=>!decide (z.net=y.net));rw [Al hne]at h1;refine(h1.append_right [y]).trans ?_;rw [List.append_assoc,List.append_assoc];exact(List.perm_append_comm (l₁:=a) (l₂:=[y])).append_left d
theorem Ar{V d a:List Rt}{x y:Rt}(h:gk (d++x::a))(hn:x.net=y.net)(hne:x≠y)(hp:V.Perm (d++x::a)):jw V (uT (ov y)) (gd (ov y))=gd (ov y)/\(jh V (ov y)).Perm ((d++[y])++a):=by
 have hf:=rG h;rw [hn]at hf
 constructor
 ·show V.any _=false;rw [List.any_eq_false];intro z hz hk;have hk:(decide (z.net=y.net)&&(yt z y||false))=true:=hk;rw [Bool.and_eq_true,Bool.or_false]at hk;have hzy:z=y:=kt.1 hk.2;have hz2:=hp.mem_iff.1 hz;have hz3:z∈(d++x::a):=hz2;rcases List.mem_append.1 hz3 with hz4|hz4
  ·have:=(List.pairwise_append.1 h).2.2 z hz4 x (by simp);rw [hzy,hn]at this;exact ck.irr this
  rcases List.mem_cons.1 hz4 with hz5|hz5
  ·exact hne (hz5.symm.trans hzy)
  have:=(List.pairwise_cons.1 (List.pairwise_append.1 h).2.1).1 z hz5;rw [hzy,hn]at this;exact ck.irr this
 show(V.filter (λ z:Rt=>!decide (z.net=y.net))++[y]).Perm _;have h1:=hp.filter (λ z:Rt=>!decide (z.net=y.net));rw [hf]at h1;refine(h1.append_right [y]).trans ?_;rw [List.append_assoc,List.append_assoc];exact(List.perm_append_comm (l₁:=a) (l₂:=[y])).append_left d
theorem nw{d a:List Rt}{x:Rt}(h:gk (d++x::a)):gk ((d++[x])++a):=by rw [List.append_assoc];exact h
theorem uN{d a:List Rt}{x:Rt}(h:gk (d++x::a)):gk (d++a):=List.Pairwise.sublist (List.Sublist.append_left (List.sublist_cons_self _ _) _) h
theorem ml{d a:List Rt}{x:Rt}(h:gk (d++x::a)):(∀ y∈d,ck y.net x.net)/\∀ y∈a,ck x.net y.net :=
 ⟨λ y hy=>(List.pairwise_append.1 h).2.2 y hy x (by simp),(List.pairwise_cons.1 (List.pairwise_append.1 h).2.1).1⟩
theorem uO{d a:List Rt}{y:Rt}(h:gk (d++a))(h1:∀ z∈d,ck z.net y.net)(h2:∀ z∈a,ck y.net z.net):gk ((d++[y])++a):=by
 rw [List.append_assoc];obtain⟨a1,a2,a3⟩:=List.pairwise_append.1 h;refine List.pairwise_append.2 ⟨a1,List.pairwise_cons.2 ⟨h2,a2⟩,λ u hu v hv=>?_⟩;rcases List.mem_cons.1 hv with rfl|hv
 ·exact h1 u hu
 exact a3 u hu v hv
theorem iK:∀(f:Nat) (a b d V:List Rt),a.length+b.length<=f->gk (d++a)->gk (d++b)->V.Perm (d++a)->OE V (pH f a b)/\((pH f a b).foldl jh V).Perm (d++b)
 | 0,a,b,d,V,hf,_,_,hp=>by
  have h1:a=[]:=List.length_eq_zero_iff.1 (by omega);have h2:b=[]:=List.length_eq_zero_iff.1 (by omega);subst h1 h2;exact⟨trivial,hp⟩
 | _+1,[],[],d,V,_,_,_,hp=>⟨trivial,hp⟩
 | f+1,x::a,[],d,V,hf,ha,hb,hp=>by
  have h:=ue ha hp;have ih:=iK f a [] d (jh V (sR x)) (by simp only [List.length_cons,List.length_nil]at *;omega) (uN ha) hb h.2;exact⟨⟨h.1,ih.1⟩,ih.2⟩
 | f+1,[],y::b,d,V,hf,ha,hb,hp=>by
  have h:=wS (y:=y) (E8 (ml hb).1 (λ z hz=>by cases hz)) hp;have ih:=iK f [] b (d++[y]) (jh V (ov y)) (by simp only [List.length_cons,List.length_nil]at *;omega) (uO ha (ml hb).1 (λ z hz=>by cases hz)) (nw hb) h.2;rw [List.append_assoc]at ih;exact⟨⟨h.1,ih.1⟩,ih.2⟩
 | f+1,x::a,y::b,d,V,hf,ha,hb,hp=>by
  simp only [List.length_cons]at hf;unfold pH;split
  ·have h:=ue ha hp;have ih:=iK f a (y::b) d (jh V (sR x)) (by simp only [List.length_cons];omega) (uN ha) hb h.2;exact⟨⟨h.1,ih.1⟩,ih.2⟩
  rename_i hlt;split
  ·rename_i hgt;have hyx:=JK hgt
   have h2:∀ z∈x::a,ck y.net z.net:=λ z hz=>by
    rcases List.mem_cons.1 hz with rfl|hz
    ·exact hyx
    exact hyx.trans ((ml ha).2 z hz)
   have h:=wS (E8 (ml hb).1 h2) hp;have ih:=iK f (x::a) b (d++[y]) (jh V (ov y)) (by simp only [List.length_cons];omega) (uO ha (ml hb).1 h2) (nw hb) h.2;rw [List.append_assoc]at ih;exact⟨⟨h.1,ih.1⟩,ih.2⟩
  rename_i hgt;have hn:x.net=y.net:=kZ.1 (by omega);split
  ·rename_i he;have e:=kt.1 he;subst e;have ih:=iK f a b (d++[x]) V (by omega) (nw ha) (nw hb) (by rw [List.append_assoc];exact hp);rw [List.append_assoc]at ih;exact ih
  rename_i he;have h:=Ar ha hn (λ e=>he (kt.2 e)) hp;have h3:gk ((d++[y])++a):=uO (uN ha) (λ z hz=>by rw [<-hn];exact(ml ha).1 z hz) (λ z hz=>by rw [<-hn];exact(ml ha).2 z hz);have ih:=iK f a b (d++[y]) (jh V (ov y)) (by omega) h3 (nw hb) h.2;rw [List.append_assoc]at ih;exact⟨⟨h.1,ih.1⟩,ih.2⟩
structure aW where
 p1:ByteArray
 s1:Value
 mi:List aJ
 p2:ByteArray
 s2:Value
 mo:List aJ
 up:Bool
 rts:List Rv
 view:List Rv
def gh(ms:List aJ):Prop:=∀ r,dh r=true->(dl ms r).2=1->dh (dl ms r).1=true/\(dl ms r).1.net=r.net
structure Nf(n0:Nat)(w:World)(cs:Array Value)(i:Nat)(p:aW):Prop where
 c0:cs[i*7]?=some (.string p.p1)
 c1:cs[i*7+1]?=some p.s1
 c2:cs[i*7+2]?=some (.string p.p2)
 c3:cs[i*7+3]?=some p.s2
 c4:cs[i*7+4]?=some (.bool p.up)
 c5:∃ v,cs[i*7+5]?=some v/\bS w n0 v p.rts
 c6:∃ v,cs[i*7+6]?=some v/\bS w n0 v p.view
structure Ck(n0:Nat)(w0 w:World)(p:aW):Prop where
 pin:qH n0 w0 p.p1 p.s1 p.mi
 pout:qH n0 w0 p.p2 p.s2 p.mo
 gin:gh p.mi
 gout:gh p.mo
 sin:∃ q n c,p.s1=.slice q n c
 sout:∃ q n c,p.s2=.slice q n c
 rise:eo p.rts
 few:p.rts.length<=16
 seen:p.view.length<=64
 rows:∀ y∈p.rts,bK w y/\dh y.r=true
 vrows:∀ y∈p.view,bK w y/\dh y.r=true
def oU(n q:Nat):Prop:=q<n*7/\(q % 7=5\/q % 7=6)
def dA(pb:Nat)(cs:Array Value)(n:Nat)(k:Nat):Prop:=k=pb\/∃ q v,oU n q/\cs[q]?=some v/\v.ownBlock=some k
structure bG(n0:Nat)(w0 w:World)(sb pb cap:Nat)(cs:Array Value)(ps:List aW):Prop where
 bel:Below n0 w0 w
 n0w:n0<=w0.heap.size
 lo:n0<=pb
 spk:w.heap[sb]?=some (.cells #[.slice (some ⟨pb,0,none⟩) ps.length cap] 61 (0,0))
 blk:w.heap[pb]?=some (.cells cs 107 (0,0))
 room:ps.length*7<=cs.size
 few:ps.length<=4
 at_:∀ i (h:i<ps.length),Nf n0 w cs i ps[i]
 ok:∀ p∈ps,Ck n0 w0 w p
 apart:∀ q q' v v',oU ps.length q->oU ps.length q'->q≠q'->cs[q]?=some v->cs[q']?=some v'->hZ v v'
theorem bS.typed{w:World}{base:Nat}{v:Value}{l:List Rv}(h:bS w base v l){k:Nat}(e:v.ownBlock=some k):∃ cur,w.heap[k]?=some (.cells cur 65 (0,0)):=by
 obtain⟨_,⟨h2,_⟩|⟨g,c,cur,h2,_,h3,_⟩⟩:=h
 ·rw [h2]at e;cases e
 rw [h2]at e;have:g=k:=by simpa [Value.ownBlock]using e
 subst this;exact⟨cur,h3⟩
theorem bG.tab{n0:Nat}{w0 w:World}{sb pb cap:Nat}{cs:Array Value}{ps:List aW}(h:bG n0 w0 w sb pb cap cs ps){q:Nat}{v:Value}(hq:oU ps.length q)(hv:cs[q]?=some v):∃ l,bS w n0 v l:=by
 obtain⟨h1,h2⟩:=hq;have hi:q / 7<ps.length:=by omega
 have hp:=h.at_ (q / 7) hi;rcases h2 with h2|h2
 ·obtain⟨v',e,ht⟩:=hp.c5;rw [show q / 7*7+5=q by omega,hv]at e;cases e
  exact⟨_,ht⟩
 obtain⟨v',e,ht⟩:=hp.c6;rw [show q / 7*7+6=q by omega,hv]at e;cases e
 exact⟨_,ht⟩
theorem bG.own_typed{n0:Nat}{w0 w:World}{sb pb cap:Nat}{cs:Array Value}{ps:List aW}(h:bG n0 w0 w sb pb cap cs ps){k:Nat}(hk:dA pb cs ps.length k):n0<=k/\∃ c T,w.heap[k]?=some (.cells c T (0,0))/\(T=107\/T=65):=by
 rcases hk with rfl|⟨q,v,hq,hv,hb⟩
 ·exact⟨h.lo,cs,_,h.blk,inl rfl⟩
 obtain⟨l,ht⟩:=h.tab hq hv;obtain⟨cur,hc⟩:=ht.typed hb;exact⟨(World.ownsRow.lt ht k hb).1,cur,_,hc,inr rfl⟩
theorem bG.n0le{n0:Nat}{w0 w:World}{sb pb cap:Nat}{cs:Array Value}{ps:List aW}(h:bG n0 w0 w sb pb cap cs ps):n0<=w.heap.size:=gG h.n0w h.bel.size
theorem bG.keep{n0:Nat}{w0 w w':World}{sb pb cap:Nat}{cs:Array Value}{ps:List aW}(h:bG n0 w0 w sb pb cap cs ps)(hb:Below n0 w0 w')(hk:∀ k o,w.heap[k]?=some o->(k=sb\/dA pb cs ps.length k\/∃ cur,o=.cells cur 3 (0,0))->w'.heap[k]?=some o):bG n0 w0 w' sb pb cap cs ps:=by
 have ht:∀ q v l,oU ps.length q->cs[q]?=some v->bS w n0 v l->bS w' n0 v l:=λ q v l hq hv ht=>ht.fr λ k e=>by
  obtain⟨cur,hc⟩:=ht.typed e;rw [hc];exact hk k _ hc (inr (inl (inr ⟨q,v,hq,hv,e⟩)))
 have hr:∀ y:Rv,bK w y->bK w' y:=λ y hy=>hy.fr λ k _ ⟨cur,hc⟩=>by rw [hc];exact hk k _ hc (inr (inr ⟨cur,rfl⟩))
 refine⟨hb,h.n0w,h.lo,hk _ _ h.spk (inl rfl),hk _ _ h.blk (inr (inl (inl rfl))),h.room,h.few,λ i hi=>?_,λ p hp=>?_,h.apart⟩
 ·have a:=h.at_ i hi;obtain⟨v5,e5,t5⟩:=a.c5;obtain⟨v6,e6,t6⟩:=a.c6;exact⟨a.c0,a.c1,a.c2,a.c3,a.c4,⟨v5,e5,ht _ _ _ ⟨by omega,by omega⟩ e5 t5⟩,⟨v6,e6,ht _ _ _ ⟨by omega,by omega⟩ e6 t6⟩⟩
 have o:=h.ok p hp;exact⟨o.pin,o.pout,o.gin,o.gout,o.sin,o.sout,o.rise,o.few,o.seen,λ y hy=>⟨hr y (o.rows y hy).1,(o.rows y hy).2⟩,λ y hy=>⟨hr y (o.vrows y hy).1,(o.vrows y hy).2⟩⟩
theorem bG.below{n0:Nat}{w0 w w':World}{sb pb cap:Nat}{cs:Array Value}{ps:List aW}(h:bG n0 w0 w sb pb cap cs ps)(hb:Below w.heap.size w w'):bG n0 w0 w' sb pb cap cs ps :=
 h.keep (h.bel.trans (hb.mono h.n0le)) λ k _ ho _=>(hb.block k (ah ho)).trans ho
theorem bG.setUp{n0:Nat}{w0 w:World}{sb pb cap:Nat}{cs:Array Value}{ps:List aW}(h:bG n0 w0 w sb pb cap cs ps){i:Nat}(hi:i<ps.length)(b:Bool) :
  bG n0 w0 (w.setCell ⟨pb,i*7+4,none⟩ (.bool b)) sb pb cap (cs.setIfInBounds (i*7+4) (.bool b)) (ps.set i { ps[i]with up:=b })/\Fr (dA pb cs ps.length) w (dA pb (cs.setIfInBounds (i*7+4) (.bool b)) ps.length) (w.setCell ⟨pb,i*7+4,none⟩ (.bool b)):=by
 have hsp:sb≠pb:=λ e=>by have:=h.spk;rw [e,h.blk]at this;cases this
 have ho:∀ k,k≠pb->(w.setCell ⟨pb,i*7+4,none⟩ (.bool b)).heap[k]?=w.heap[k]?:=λ k hk=>ai hk
 have hne:∀ q,oU ps.length q->q≠i*7+4:=λ q hq=>by obtain⟨_,h2⟩:=hq;omega
 have hg:∀ q,q≠i*7+4->(cs.setIfInBounds (i*7+4) (.bool b))[q]?=cs[q]?:=λ q hq=>eM (Ne.symm hq)
 have hT:∀ v l,bS w n0 v l->bS (w.setCell ⟨pb,i*7+4,none⟩ (.bool b)) n0 v l:=λ v l ht=>ht.fr λ k e=>ho k λ e2=>by
  obtain⟨cur,hc⟩:=ht.typed e;rw [e2,h.blk]at hc;cases hc
 have hR:∀ y:Rv,bK w y->bK (w.setCell ⟨pb,i*7+4,none⟩ (.bool b)) y:=λ y hy=>hy.fr λ k _ ⟨cur,hc⟩=>ho k λ e2=>by rw [e2,h.blk]at hc;cases hc
 refine⟨⟨h.bel.trans ((aY _ _).setCell (p:=⟨pb,i*7+4,none⟩) h.lo _),h.n0w,h.lo,?_,dm h.blk,?_,?_,λ j hj=>?_,λ p hp=>?_,λ q q' v v' hq hq' hqq hv hv'=>?_⟩,?_⟩
 ·rw [ho _ hsp,List.length_set];exact h.spk
 ·rw [List.length_set,Array.size_setIfInBounds];exact h.room
 ·rw [List.length_set];exact h.few
 ·rw [List.length_set]at hj;have a:=h.at_ j hj;obtain⟨v5,e5,t5⟩:=a.c5;obtain⟨v6,e6,t6⟩:=a.c6;by_cases hij:i=j
  ·subst hij;rw [List.getElem_set_self];exact⟨(hg _ (by omega)).trans a.c0,(hg _ (by omega)).trans a.c1,(hg _ (by omega)).trans a.c2,(hg _ (by omega)).trans a.c3,fF a.c4,⟨v5,(hg _ (by omega)).trans e5,hT _ _ t5⟩,⟨v6,(hg _ (by omega)).trans e6,hT _ _ t6⟩⟩
  rw [List.getElem_set_ne hij];exact⟨(hg _ (by omega)).trans a.c0,(hg _ (by omega)).trans a.c1,(hg _ (by omega)).trans a.c2,(hg _ (by omega)).trans a.c3,(hg _ (by omega)).trans a.c4,⟨v5,(hg _ (by omega)).trans e5,hT _ _ t5⟩,⟨v6,(hg _ (by omega)).trans e6,hT _ _ t6⟩⟩
 ·have key:∀ p∈ps,Ck n0 w0 (w.setCell ⟨pb,i*7+4,none⟩ (.bool b)) p:=λ p hp=>by
   have o:=h.ok p hp;exact⟨o.pin,o.pout,o.gin,o.gout,o.sin,o.sout,o.rise,o.few,o.seen,λ y hy=>⟨hR y (o.rows y hy).1,(o.rows y hy).2⟩,λ y hy=>⟨hR y (o.vrows y hy).1,(o.vrows y hy).2⟩⟩
  rcases List.mem_or_eq_of_mem_set hp with hp|rfl
  ·exact key p hp
  have o:=key _ (ej hi);exact⟨o.pin,o.pout,o.gin,o.gout,o.sin,o.sout,o.rise,o.few,o.seen,o.rows,o.vrows⟩
 ·rw [List.length_set]at hq hq';rw [hg _ (hne q hq)]at hv;rw [hg _ (hne q' hq')]at hv';exact h.apart q q' v v' hq hq' hqq hv hv'
 refine⟨rfl,rfl,rfl,by simp [World.setCell],λ k hk hno=>ho k λ e=>hno (inl e),λ k hk=>inl ?_⟩;rcases hk with e|⟨q,v,hq,hv,e⟩
 ·exact inl e
 rw [hg _ (hne q hq)]at hv;exact inr ⟨q,v,hq,hv,e⟩
