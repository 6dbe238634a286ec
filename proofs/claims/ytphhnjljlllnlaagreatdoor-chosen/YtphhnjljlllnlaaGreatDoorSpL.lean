/- part -/
import Derived.Test.YtphhnjljlllnlaaGreatDoorSpH
set_option maxRecDepth 100000
set_option maxHeartbeats 8000000
namespace Go.Proofs.YtphhnjljlllnlaaGreatDoor
open Go.Proofs.Tryz
open Or
open Go.RowKit Go.Sort
open Go.RowKit
def qH(n0:Nat)(w0:World)(p:ByteArray)(sv:Value)(ms:List aJ):Prop:=∀ V,Below n0 w0 V->∀(r:Rt) (pv mv:Value),aA V pv r.path->aA V mv r.marks->dh r=true ->
 Calls prog 42 #[.agg #[.string p,sv],sO r pv mv] V λ e w'=>∃ pv' mv',e=.returned (.tuple #[sO (dl ms r).1 pv' mv',.int .i64 (dl ms r).2])/\mE w' V.heap.size (dl ms r).1 pv' mv'/\Below V.heap.size V w'
structure bK(w:World)(x:Rv):Prop where
 path:w.ownsRow 0 3 1 (.slice x.pq x.r.path.length x.pc) x.r.path.length (aB x.r.path)
 marks:w.ownsRow 0 3 1 (.slice x.mq x.r.marks.length x.mc) x.r.marks.length (aB x.r.marks)
theorem bK.fr{w w':World}{x:Rv}(h:bK w x)(hk:∀ k,k<w.heap.size->(∃ cur,w.heap[k]?=some (.cells cur 3 (0,0)))->w'.heap[k]?=w.heap[k]?):bK w' x:=by
 have key:∀{v:Value} {n:Nat} {xs:List Value},w.ownsRow 0 3 1 v n xs->w'.ownsRow 0 3 1 v n xs:=λ{v n xs} h=>by
  refine ay h λ k e=>hk k (h.lt k e).2 ?_
  obtain⟨_,⟨h2,_⟩|⟨g,c,cur,h2,_,h3,_⟩⟩:=h
  ·rw [h2]at e;cases e
  rw [h2]at e;have:g=k:=by simpa [Value.ownBlock]using e
  subst this;exact⟨cur,h3⟩
 exact⟨key h.path,key h.marks⟩
theorem bK.below{w w':World}{x:Rv}(h:bK w x)(hb:Below w.heap.size w w'):bK w' x:=h.fr λ k hk _=>hb.block k hk
theorem Bq{r:Rt}(h:dh r=true):(∀ y∈r.path,eN y)/\(∀ y∈r.marks,eN y)/\r.path.length<=12/\r.marks.length<=8:=by
 have h:=(of_decide_eq_true h:mn (r.addr,r.len) r.path r.marks r.pref r.med)
 obtain⟨_,⟨hp,hp2⟩,⟨hm,hm2⟩,_⟩:=h;exact⟨λ y hy=>by have:=hp2 y hy;unfold eN;omega,λ y hy=>by have:=nO hm2 y hy;unfold eN;omega,by omega,by omega⟩
theorem bK.ints{w:World}{x:Rv}(h:bK w x)(hok:dh x.r=true):aA w (.slice x.pq x.r.path.length x.pc) x.r.path/\aA w (.slice x.mq x.r.marks.length x.mc) x.r.marks :=
 have ha:=Bq hok
 ⟨aA.own h.path ha.1 (by have:=ha.2.2.1;omega),aA.own h.marks ha.2.1 (by have:=ha.2.2.2;omega)⟩
theorem ME{W w':World}{Z:Obj}{R:Rt}{q1 q2:Option Addr}{k1 k2:Nat}{c0 c1 c2 c3 c4 c5:Value}(hb:Below (W.alloc Z).drew.heap.size (W.alloc Z).drew w')(hk:w'.heap[W.heap.size]?=some (.cells #[c0,c1,c2,c3,c4,c5] 65 (0,0)))(hv:mE w' (W.alloc Z).drew.heap.size R (.slice q1 R.path.length k1) (.slice q2 R.marks.length k2)) :
  Below W.heap.size W ((((((w'.setCell ⟨W.heap.size,0,none⟩ (.int .i64 R.addr)).setCell ⟨W.heap.size,1,none⟩ (.int .i64 R.len)).setCell ⟨W.heap.size,2,none⟩ (.slice q1 R.path.length k1)).setCell ⟨W.heap.size,3,none⟩ (.slice q2 R.marks.length k2)).setCell ⟨W.heap.size,4,none⟩ (.int .i64 R.pref)).setCell ⟨W.heap.size,5,none⟩ (.int .i64 R.med)) /\
  ((((((w'.setCell ⟨W.heap.size,0,none⟩ (.int .i64 R.addr)).setCell ⟨W.heap.size,1,none⟩ (.int .i64 R.len)).setCell ⟨W.heap.size,2,none⟩ (.slice q1 R.path.length k1)).setCell ⟨W.heap.size,3,none⟩ (.slice q2 R.marks.length k2)).setCell ⟨W.heap.size,4,none⟩ (.int .i64 R.pref)).setCell ⟨W.heap.size,5,none⟩ (.int .i64 R.med)).heap[W.heap.size]?=some (.cells #[.int .i64 R.addr,.int .i64 R.len,.slice q1 R.path.length k1,.slice q2 R.marks.length k2,.int .i64 R.pref,.int .i64 R.med] 65 (0,0)) /\
  bK ((((((w'.setCell ⟨W.heap.size,0,none⟩ (.int .i64 R.addr)).setCell ⟨W.heap.size,1,none⟩ (.int .i64 R.len)).setCell ⟨W.heap.size,2,none⟩ (.slice q1 R.path.length k1)).setCell ⟨W.heap.size,3,none⟩ (.slice q2 R.marks.length k2)).setCell ⟨W.heap.size,4,none⟩ (.int .i64 R.pref)).setCell ⟨W.heap.size,5,none⟩ (.int .i64 R.med)) ⟨R,q1,k1,q2,k2⟩:=by
 have hsz:(W.alloc Z).drew.heap.size=W.heap.size+1:=by show(W.alloc Z).heap.size=_;rw [World.size_alloc]
 have h0:Below W.heap.size W (W.alloc Z).drew:=((aY _ _).alloc (aL _) _).drew;refine⟨fm (h0.trans (hb.mono (by omega))) (aL _),gT hk,⟨ay hv.1 λ k e=>bg ?_,ay hv.2.1 λ k e=>bg ?_⟩⟩
 ·have:=hv.2.2.1 k e;omega
 have:=hv.2.2.2.1 k e;omega
theorem MF{W w':World}{R:Rt}{q1 q2:Option Addr}{k1 k2:Nat}(hb:Below W.drew.heap.size W.drew w')(hv:mE w' W.drew.heap.size R (.slice q1 R.path.length k1) (.slice q2 R.marks.length k2)) :
  Below W.heap.size W (w'.alloc (.cells #[.int .i64 R.addr,.int .i64 R.len,.slice q1 R.path.length k1,.slice q2 R.marks.length k2,.int .i64 R.pref,.int .i64 R.med] 65)) /\
  (w'.alloc (.cells #[.int .i64 R.addr,.int .i64 R.len,.slice q1 R.path.length k1,.slice q2 R.marks.length k2,.int .i64 R.pref,.int .i64 R.med] 65)).heap[w'.heap.size]?=some (.cells #[.int .i64 R.addr,.int .i64 R.len,.slice q1 R.path.length k1,.slice q2 R.marks.length k2,.int .i64 R.pref,.int .i64 R.med] 65 (0,0)) /\
  bK (w'.alloc (.cells #[.int .i64 R.addr,.int .i64 R.len,.slice q1 R.path.length k1,.slice q2 R.marks.length k2,.int .i64 R.pref,.int .i64 R.med] 65)) ⟨R,q1,k1,q2,k2⟩:=by
 have h1:Below W.heap.size W w':=⟨hb.os,hb.tape,hb.output,hb.size,hb.block⟩
 exact⟨h1.alloc hb.size _,cM w' _,⟨World.ownsRow.alloc hv.1 _,World.ownsRow.alloc hv.2.1 _⟩⟩
theorem bB.behind{w W w':World}{base b o:Nat}{cs:Array Value}{T:TypeId}{v v':Value}{l':List Rv}(h0:Below w.heap.size w W)(h:bB W base b o cs T v w' v' l'):bB w base b o cs T v w' v' l' :=
 ⟨⟨h.fr.os.trans h0.os,h.fr.tape.trans h0.tape,h.fr.output.trans h0.output,gG h0.size h.fr.size,λ k hk hno=>(h.fr.block k (gY hk h0.size) hno).trans (h0.block k hk),λ k hk=>(h.fr.own k hk).imp id λ e=>gG h0.size e⟩,h.blk,h.tab,h.apart⟩
theorem bS.below{w w':World}{base:Nat}{v:Value}{l:List Rv}(h:bS w base v l)(hb:Below w.heap.size w w'):bS w' base v l:=h.fr λ k e=>hb.block k (World.ownsRow.lt h k e).2
theorem bB.rv{w w':World}{base b o:Nat}{cs:Array Value}{T:TypeId}{v v':Value}{l l':List Rv}{x:Rv}(h:bB w base b o cs T v w' v' l')(hb:w.heap[b]?=some (.cells cs T (0,0)))(hT:T≠3)(ht:bS w base v l)(hx:bK w x):bK w' x :=
 hx.fr λ k hk ⟨cur,hc⟩=>h.fr.block k hk λ hO=>by
  rcases hO with e|e
  ·subst e;rw [hb]at hc;cases hc;exact hT rfl
  obtain⟨_,⟨h2,_⟩|⟨g,c,cur',h2,_,h3,_⟩⟩:=ht
  ·rw [h2]at e;cases e
  rw [h2]at e;have:g=k:=by simpa [Value.ownBlock]using e
  subst this;rw [h3]at hc;cases hc
def Er(ms:List aJ)(l:List Rv)(x:Rv)(w':World)(l':List Rv):Prop :=
 ((dl ms x.r).2≠1/\l'=gq l x.net)\/((dl ms x.r).2=1/\∃ y:Rv,y.r=(dl ms x.r).1/\bK w' y/\l'=oh l y)
theorem v8{n0:Nat}{w0:World}{p:ByteArray}{sv:Value}{ms:List aJ}(hP:qH n0 w0 p sv ms)(w:World)(hw:Below n0 w0 w)(l:List Rv)(x:Rv)(v:Value)(base b o:Nat)(cs:Array Value)(T:TypeId)
  (hb:w.heap[b]?=some (.cells cs T (0,0))) (hv0:cs[o]?=some (.string p)) (hv1:cs[o+1]?=some sv) (hv:cs[o+5]?=some v) (hl:l.length<=1000) (hbase:base<=w.heap.size) (ht:bS w base v l) (hs:eo l) (hne:v.ownBlock≠some b)
  (hn:n0<=w.heap.size) (hTy:T≠3) (hx:bK w x) (hok:dh x.r=true) :
  Calls prog 78 #[.pointer (some ⟨b,o,none⟩),.agg (bQ x).toArray] w λ e w'=>e=.returned (.tuple #[])/\∃ v' l',bB w base b (o+5) cs T v w' v' l'/\Er ms l x w' l':=by
 have hg:bF w (w.alloc (.cells (bQ x).toArray 65)):=(bF.refl w).alloc _;have hn1:=cM w (.cells (bQ x).toArray 65);have hb1:(w.alloc (.cells (bQ x).toArray 65)).heap[b]?=some (.cells cs T (0,0)):=(hg.below.block b (ah hb)).trans hb;generalize hW:w.alloc (.cells (bQ x).toArray 65)=W at hg hn1 hb1;have lb:b<W.heap.size:=ah hb1;have lx:w.heap.size<W.heap.size:=ah hn1;have hwW:Below n0 w0 W:=hw.trans (hg.below.mono hn);have AA:=af (λ(V:World) (hV:Below W.heap.size W V)=>hP V (hwW.trans (hV.mono (by omega))) x.r _ _ ((hx.below hg.below).below hV |>.ints hok).1 ((hx.below hg.below).below hV |>.ints hok).2);have b0:W.cell? ⟨b,o,none⟩=some (.string p):=(ag hb1).trans hv0;have b1:W.cell? ⟨b,o+1,none⟩=some sv:=(ag hb1).trans hv1;have HW:=af hW;have HG:=af hg;have HB:=af hb1;have HV:=af hv;have HN:=af hne;have HT:=af ht;have HS:=af hs;have HX:=af hn1;have EA:=af hok;clear hW hg hb1 hv hne ht hs hx hwW hP hw hv0 hv1 hb hok;obtain⟨rr,hrr⟩:∃ rr,dl ms x.r=rr:=⟨_,rfl⟩
 obtain⟨R,vd⟩:=rr;unfold Er;rw [hrr]at AA ⊢;clear hrr;have HX2:=ae HX;obtain⟨y,hy⟩:∃ y,y=x:=⟨_,rfl⟩
 have HY:=af hy;obtain⟨⟨a0,a1,ap,am,a4,a5⟩,aq,ac,aq2,ac2⟩:=x;dsimp only [bQ,Rv.net]at HX2 HW AA ⊢;generalize ap.length=n1 at HX2 HW AA ⊢;generalize am.length=n3 at HX2 HW AA ⊢;clear hy HX hn1;have z0:W.cell? ⟨w.heap.size,0,none⟩=some (.int .i64 a0):=ag HX2;have z1:W.cell? ⟨w.heap.size,1,none⟩=some (.int .i64 a1):=ag HX2;have z2:W.cell? ⟨w.heap.size,2,none⟩=some (.slice aq n1 ac):=ag HX2;have z3:W.cell? ⟨w.heap.size,3,none⟩=some (.slice aq2 n3 ac2):=ag HX2;have z4:W.cell? ⟨w.heap.size,4,none⟩=some (.int .i64 a4):=ag HX2;have z5:W.cell? ⟨w.heap.size,5,none⟩=some (.int .i64 a5):=ag HX2;have JA:=af HX2;clear HX2;go_enter func78,ntmps78;go_upto_region 1 with fail
 rw [ae HW];go_cut [4,5] (λ v4 v5 wx=>∃(B:Nat) (q1:Option Addr) (k1:Nat) (q2:Option Addr) (k2:Nat),v4=.pointer (some ⟨B,0,none⟩)/\v5=.int .i64 vd/\Below W.heap.size W wx/\wx.heap[B]?=some (.cells #[.int .i64 R.addr,.int .i64 R.len,.slice q1 R.path.length k1,.slice q2 R.marks.length k2,.int .i64 R.pref,.int .i64 R.med] 65 (0,0))/\bK wx ⟨R,q1,k1,q2,k2⟩)
 case first =>
  go_region_with (first
   | (go_at_call 42;refine(ae AA (W.alloc (.cells #[.int .i64 0,.int .i64 0,.slice none 0 0,.slice none 0 0,.int .i64 0,.int .i64 0] 65)).drew ((aY _ _).alloc (aL _) _).drew (ae EA)).mono ?_;rintro e w' ⟨pv',mv',rfl,hv,hb⟩;obtain⟨q1,k1,rfl⟩:=al hv.1;obtain⟨q2,k2,rfl⟩:=al hv.2.1;have hk:w'.heap[W.heap.size]?=some (.cells #[.int .i64 0,.int .i64 0,.slice none 0 0,.slice none 0 0,.int .i64 0,.int .i64 0] 65 (0,0)):=(hb.block _ (by simp)).trans (cM W _);have HK:=af hk;have y0:=ag hk (o:=0);have y1:=ag hk (o:=1);have y2:=ag hk (o:=2);have y3:=ag hk (o:=3);have y4:=ag hk (o:=4);have y5:=ag hk (o:=5);have fz:∀ j,w'.frozen? ⟨W.heap.size,j,none⟩=false:=(λ j=>by simp [World.frozen?,hk]);have DA:=af hv;have CA:=af hb;clear hv hb hk)
   | (go_at_call 42;refine(ae AA W.drew (aY _ _).drew (ae EA)).mono ?_;rintro e w' ⟨pv',mv',rfl,hv,hb⟩;obtain⟨q1,k1,rfl⟩:=al hv.1;obtain⟨q2,k2,rfl⟩:=al hv.2.1;have DA:=af hv;have CA:=af hb;clear hv hb))
  all_goals
   go_wp2_with fail
   go_meet
   case rel =>
    first
     | (have h:=ME (ae CA) (ae HK) (ae DA);exact⟨W.heap.size,q1,k1,q2,k2,rfl,rfl,h.1,h.2.1,h.2.2⟩)
     | (have h:=MF (ae CA) (ae DA);exact⟨w'.heap.size,q1,k1,q2,k2,rfl,rfl,h.1,h.2.1,h.2.2⟩)
 case rest =>
  obtain⟨B,q1,k1,q2,k2,rfl,rfl,hbx,hB,hrv⟩:=hcut;have h0:Below w.heap.size w wc:=(ae HG).below.trans (hbx.mono (by omega));have hbc:=(hbx.block b lb).trans (ae HB);have lbc:b<wc.heap.size:=ah hbc;have hTc:=(ae HT).below h0;have H0:=af h0;have HA:=af hrv;by_cases hvd:vd=1
  ·subst hvd;have t0:wc.cell? ⟨B,0,none⟩=some (.int .i64 R.addr):=ag hB;have t1:wc.cell? ⟨B,1,none⟩=some (.int .i64 R.len):=ag hB;have t2:wc.cell? ⟨B,2,none⟩=some (.slice q1 R.path.length k1):=ag hB;have t3:wc.cell? ⟨B,3,none⟩=some (.slice q2 R.marks.length k2):=ag hB;have t4:wc.cell? ⟨B,4,none⟩=some (.int .i64 R.pref):=ag hB;have t5:wc.cell? ⟨B,5,none⟩=some (.int .i64 R.med):=ag hB;have FA:=af (Mo l ⟨R,q1,k1,q2,k2⟩ v wc.drew base b (o+5) cs T hbc (ae HV) (by omega) (gG hbase h0.size) (show bS wc.drew base v l from hTc.below (aY _ _).drew) (ae HS) (ae HN));have GA:=af hbc;dsimp only [bQ]at FA;clear hbx hB hrv h0 hbc hTc z0 z1 z2 z3 z4 z5 b0 b1 AA;go_upto_region 3 with fail
   go_region_with (go_at_call 118;refine(ae FA).mono ?_;rintro e w2 ⟨rfl,v2,hts⟩;have BA:=af hts;clear hts)
   all_goals
    go_wp2
    go_end0
    exact⟨rfl,v2,_,bB.behind ((ae H0).drew) (ae BA),⟨R,q1,k1,q2,k2⟩,rfl,(ae BA).rv (ae GA) hTy ((ae HT).below ((ae H0).drew)) ((ae HA).below (aY _ _).drew),rfl⟩
  have KA:=af (Ah l v (a0,a1) wc.drew base b (o+5) cs T hbc (ae HV) (by omega) (show bS wc.drew base v l from hTc.below (aY _ _).drew) (ae HS) (ae HN));have hxc:=(hbx.block w.heap.size lx).trans (ae JA);have t0:wc.cell? ⟨w.heap.size,0,none⟩=some (.int .i64 a0):=ag hxc;have t1:wc.cell? ⟨w.heap.size,1,none⟩=some (.int .i64 a1):=ag hxc;have hvb:(vd==1)=false:=by simpa using hvd
  have IA:=af hvd;clear hbx hB hrv h0 hbc hTc hxc z0 z1 z2 z3 z4 z5 b0 b1 AA hvd;go_upto_region 4 with fail
  go_region_with (go_at_call 77;refine(ae KA).mono ?_;rintro e w2 ⟨rfl,v2,hts⟩;have BA:=af hts;clear hts)
  all_goals
   go_wp2
   go_end0
   exact⟨rfl,v2,_,bB.behind ((ae H0).drew) (ae BA),inl ⟨ae IA,rfl⟩⟩
def bu(l:List (Int×Int)):List Value:=l.flatMap λ x=>[.int .i64 x.1,.int .i64 x.2]
theorem oG(l:List (Int×Int))(x:Int×Int):bu (l++[x])=bu l++[.int .i64 x.1,.int .i64 x.2]:=by simp [bu]
theorem lV(l:List (Int×Int)):(bu l).length=l.length*2:=by
 induction l with
 | nil=>rfl
 | cons x l ih=>simp only [bu,List.flatMap_cons,List.length_append]at *;simp at *;omega
theorem jL:∀(l:List (Int×Int)) (j:Nat) (h:j<l.length),(bu l)[2*j]?=some (.int .i64 l[j].1)/\(bu l)[2*j+1]?=some (.int .i64 l[j].2):=by
 intro l
 induction l with
 | nil=>intro j h;simp at h
 | cons x l ih =>
  intro j h;cases j with
  | zero=>exact⟨rfl,rfl⟩
  | succ j =>
   have:=ih j (by simpa using h);have e:bu (x::l)=.int .i64 x.1::.int .i64 x.2::bu l:=rfl;rw [e,show 2*(j+1)=2*j+1+1 by omega];simpa using this
def cd(w:World)(v:Value)(l:List (Int×Int)):Prop :=
 ∃ p c,v=.slice p l.length c/\l.length<=c/\(l.length:Int)<=8796093022208/\(∀ x∈l,eN x.1/\eN x.2)/\((l=[]/\(p=none->c=0))\/∃ b o,p=some ⟨b,o,none⟩/\b<w.heap.size/\∀ j,(h:j<l.length)->w.cell? ⟨b,o+j*2,none⟩=some (.int .i64 l[j].1)/\w.cell? ⟨b,o+j*2+1,none⟩=some (.int .i64 l[j].2))
def aX(w:World)(v:Value)(l:List Int):Prop :=
 ∃ p c,v=.slice p l.length c/\l.length<=c/\(l.length:Int)<=140737488355328/\aK l/\((l=[]/\(p=none->c=0))\/∃ b o,p=some ⟨b,o,none⟩/\b<w.heap.size/\∀ j,(h:j<l.length)->w.cell? ⟨b,o+j,none⟩=some (.int .u8 l[j]))
theorem cd.below{w w':World}{v:Value}{l:List (Int×Int)}(h:cd w v l)(hb:Below w.heap.size w w'):cd w' v l:=by
 obtain⟨p,c,hv,hcap,hl,hin,hr⟩:=h;refine⟨p,c,hv,hcap,hl,hin,?_⟩;rcases hr with h|⟨b,o,hp,hlt,hc⟩
 ·exact inl h
 refine inr ⟨b,o,hp,gY hlt hb.size,λ j hj=>?_⟩;rw [hb.cell (p:=⟨b,o+j*2,none⟩) hlt,hb.cell (p:=⟨b,o+j*2+1,none⟩) hlt];exact hc j hj
theorem aX.below{w w':World}{v:Value}{l:List Int}(h:aX w v l)(hb:Below w.heap.size w w'):aX w' v l:=by
 obtain⟨p,c,hv,hcap,hl,hin,hr⟩:=h;refine⟨p,c,hv,hcap,hl,hin,?_⟩;rcases hr with h|⟨b,o,hp,hlt,hc⟩
 ·exact inl h
 refine inr ⟨b,o,hp,gY hlt hb.size,λ j hj=>?_⟩;rw [hb.cell (p:=⟨b,o+j,none⟩) hlt];exact hc j hj
def ia(w:World)(base:Nat)(v:Value)(l:List Int):Prop:=w.ownsRow base 3 1 v l.length (l.map (Value.int .i64))
def cQ(w:World)(base:Nat)(v:Value)(l:List (Int×Int)):Prop:=w.ownsRow base 63 2 v l.length (bu l)
def dK(w:World)(base:Nat)(v:Value)(l:List Int):Prop:=w.ownsRow base 5 1 v l.length (l.map (Value.int .u8))
theorem mO(g j:Nat):(⟨g,0,none⟩:Addr).add j=⟨g,j,none⟩:=by
 rcases Ic j with rfl|hj
 ·simp [Addr.add]
 simp [Addr.add,Nat.ne_of_gt hj]
theorem cQ.at_{w:World}{base:Nat}{v:Value}{l:List (Int×Int)}(h:cQ w base v l)(hin:∀ x∈l,eN x.1/\eN x.2)(hl:(l.length:Int)<=8796093022208):cd w v l:=by
 have hk:=h;obtain⟨h1,h2⟩:=h;rcases h2 with⟨rfl,h0⟩|⟨g,cap,cur,rfl,hb,hg,hn,hm,hs,ht⟩
 ·refine⟨none,0,by rw [h0],by omega,hl,hin,inl ⟨List.length_eq_zero_iff.1 h0,λ _=>rfl⟩⟩
 refine⟨some ⟨g,0,none⟩,cap,rfl,hn,hl,hin,inr ⟨g,0,rfl,ah hg,λ j hj=>?_⟩⟩;obtain⟨e1,e2⟩:=jL l j hj;have h3:=hk.cells (g:=g) rfl _ _ e1;have h4:=hk.cells (g:=g) rfl _ _ e2;rw [mO]at h3 h4;rw [Nat.zero_add,Nat.mul_comm j 2];exact⟨h3,h4⟩
theorem dK.at_{w:World}{base:Nat}{v:Value}{l:List Int}(h:dK w base v l)(hin:aK l)(hl:(l.length:Int)<=140737488355328):aX w v l:=by
 have hk:=h;obtain⟨h1,h2⟩:=h;rcases h2 with⟨rfl,h0⟩|⟨g,cap,cur,rfl,hb,hg,hn,hm,hs,ht⟩
 ·refine⟨none,0,by rw [h0],by omega,hl,hin,inl ⟨List.length_eq_zero_iff.1 h0,λ _=>rfl⟩⟩
 refine⟨some ⟨g,0,none⟩,cap,rfl,hn,hl,hin,inr ⟨g,0,rfl,ah hg,λ j hj=>?_⟩⟩;have h3:=hk.cells (g:=g) rfl j (.int .u8 l[j]) (by simp [hj]);rw [mO]at h3;rw [Nat.zero_add];exact h3
def hZ(a b:Value):Prop:=∀ k,a.ownBlock=some k->b.ownBlock≠some k
def fU(w0:World)(f:FuncId):Prop :=
 ∀(w:World) (vg vn vp vm:Value) (u:fI),Below w0.heap.size w0 w->cd w vg u.gone->cd w vn u.nets->aA w vp u.path->aA w vm u.marks->eN u.pref->eN u.med ->
  Calls prog f #[.agg #[vg,vn,vp,vm,.int .i64 u.pref,.int .i64 u.med]] w λ e w'=>Below w.heap.size w w' /\
   ∃(v:Value) (l:List Int) (k:Int),e=.returned (.tuple #[v,.int .i64 k])/\dK w' w.heap.size v l/\((eW u/\l=jv u/\k=0)\/(¬eW u/\l=[]/\k=5))
def iS(w0:World)(f:FuncId):Prop :=
 ∀(w:World) (v:Value) (b:List Int),Below w0.heap.size w0 w->aX w v b ->
  Calls prog f #[v] w λ e w'=>Below w.heap.size w w' /\
   ∃ vg vn vp vm,e=.returned (.tuple #[.agg #[vg,vn,vp,vm,.int .i64 (cl b).pref,.int .i64 (cl b).med],.int .i64 (lP b)]) /\
    cQ w' w.heap.size vg (cl b).gone/\cQ w' w.heap.size vn (cl b).nets/\ia w' w.heap.size vp (cl b).path/\ia w' w.heap.size vm (cl b).marks /\
    hZ vg vn/\hZ vg vp/\hZ vg vm/\hZ vn vp/\hZ vn vm/\hZ vp vm
theorem set_set{cs:Array Value}{o:Nat}{v v':Value}:(cs.setIfInBounds o v).setIfInBounds o v'=cs.setIfInBounds o v':=by
 apply Array.toList_inj.1;simp [Array.toList_setIfInBounds]
theorem bB.trans{w w1 w2:World}{base b o:Nat}{cs:Array Value}{T:TypeId}{v v1 v2:Value}{l1 l2:List Rv}(h:bB w base b o cs T v w1 v1 l1)(g:bB w1 base b o (cs.setIfInBounds o v1) T v1 w2 v2 l2):bB w base b o cs T v w2 v2 l2 :=
 ⟨h.fr.trans g.fr,by rw [g.blk,set_set],g.tab,g.apart⟩
theorem bB.then_below{w w1 w2:World}{base b o:Nat}{cs:Array Value}{T:TypeId}{v v1:Value}{l1:List Rv}(h:bB w base b o cs T v w1 v1 l1)(g:Below w1.heap.size w1 w2):bB w base b o cs T v w2 v1 l1 :=
 ⟨h.fr.below g,(g.block b (ah h.blk)).trans h.blk,h.tab.below g,h.apart⟩
theorem bB.refl{w:World}{base b o:Nat}{cs:Array Value}{T:TypeId}{v:Value}{l:List Rv}(hb:w.heap[b]?=some (.cells cs T (0,0)))(hv:cs[o]?=some v)(ht:bS w base v l)(hne:v.ownBlock≠some b):bB w base b o cs T v w v l :=
 ⟨dw _ _,by rw [uX hv];exact hb,ht,hne⟩
theorem lh{l:List Rv}{n:Int×Int}(h:eo l):eo (gq l n):=by
 unfold gq;split
 ·exact List.Pairwise.sublist (List.eraseIdx_sublist _ _) h
 exact h
theorem JD{l:List Rv}{n:Int×Int}(h:eo l):∀ y∈l.take (dj l n),ck y.net n:=λ y hy=>by
 obtain⟨k,hk,rfl⟩:=List.getElem_of_mem hy;rw [List.length_take]at hk;rw [List.getElem_take];exact io.1 ((j2 h k (by omega)).2 (by omega))
theorem xh{a b:Int×Int}(h:¬ck a b)(hne:a≠b):ck b a:=by
 obtain⟨a1,a2⟩:=a;obtain⟨b1,b2⟩:=b;unfold ck at *;simp only [ne_eq,Prod.mk.injEq]at *;omega
theorem Jz{l:List Rv}{n:Int×Int}(h:eo l)(hn:sr l n=false):∀ y∈l.drop (dj l n),ck n y.net:=λ y hy=>by
 obtain⟨k,hk,rfl⟩:=List.getElem_of_mem hy;rw [List.length_drop]at hk;rw [List.getElem_drop]
 have h0:¬ck (l[dj l n]'(by omega)).net n:=λ h1=>by
  have:=(j2 h (dj l n) (by omega)).1 (io.2 h1);omega
 have h1:(l[dj l n]'(by omega)).net≠n:=λ e=>of_decide_eq_false hn ⟨by omega,e⟩
 have h2:=xh h0 h1;rcases Ic k with rfl|hk0
 ·exact h2
 exact h2.trans (List.pairwise_iff_getElem.1 h (dj l n) (dj l n+k) (by omega) (by omega) (by omega))
theorem uP{l:List Rv}{x:Rv}(h:eo l):eo (oh l x):=by
 unfold oh;cases hh:sr l x.net with
 | true =>
  rw [aS rfl];obtain⟨hlt,he⟩:=of_decide_eq_true hh;refine List.pairwise_iff_getElem.2 λ i j hi hj hij=>?_
  rw [List.length_set]at hi hj;have hp:=List.pairwise_iff_getElem.1 h i j hi hj hij;rw [List.getElem_set,List.getElem_set];split
  ·rename_i e;subst e;rw [aG (by omega)];have hp2:=hp;rw [he]at hp2;exact hp2
  split
  ·rename_i e;subst e;have hp2:=hp;rw [he]at hp2;exact hp2
  exact hp
 | false =>
  rw [aG (by decide)];refine List.pairwise_append.2 ⟨List.Pairwise.sublist (List.take_sublist _ _) h,List.pairwise_cons.2 ⟨Jz h hh,List.Pairwise.sublist (List.drop_sublist _ _) h⟩,λ a ha b hb=>?_⟩;rcases List.mem_cons.1 hb with rfl|hb
  ·exact JD h a ha
  exact(JD h a ha).trans (Jz h hh b hb)
theorem Ai(l:List Rv)(n:Int×Int):(gq l n).length<=l.length:=by
 unfold gq;split
 ·exact(List.eraseIdx_sublist _ _).length_le
 exact aL _
theorem Mp(l:List Rv)(x:Rv):(oh l x).length<=l.length+1:=by
 unfold oh;split
 ·rw [List.length_set];omega
 simp only [List.length_append,List.length_cons,List.length_take,List.length_drop];omega
theorem tQ{l:List Rv}{n:Int×Int}{y:Rv}(h:y∈gq l n):y∈l:=by
 unfold gq at h;split at h
 ·exact List.mem_of_mem_eraseIdx h
 exact h
theorem E7{l:List Rv}{x y:Rv}(h:y∈oh l x):y=x\/y∈l:=by
 unfold oh at h;split at h
 ·exact(List.mem_or_eq_of_mem_set h).symm
 rcases List.mem_append.1 h with h|h
 ·exact inr (List.mem_of_mem_take h)
 rcases List.mem_cons.1 h with h|h
 ·exact inl h
 exact inr (List.mem_of_mem_drop h)
inductive jb(ms:List aJ):List Rv->List Rt->List Rv->Prop
 | nil (l:List Rv):jb ms l [] l
 | cons {l l1 l2:List Rv} {r:Rt} {rs:List Rt} (h:((dl ms r).2≠1/\l1=gq l (r.addr,r.len))\/((dl ms r).2=1/\∃ y:Rv,y.r=(dl ms r).1/\l1=oh l y)) (t:jb ms l1 rs l2):jb ms l (r::rs) l2
theorem jb.snoc{ms:List aJ}:∀{l l1 l2:List Rv} {rs:List Rt} {r:Rt},jb ms l rs l1->((dl ms r).2≠1/\l2=gq l1 (r.addr,r.len))\/((dl ms r).2=1/\∃ y:Rv,y.r=(dl ms r).1/\l2=oh l1 y)->jb ms l (rs++[r]) l2
 | _,_,_,_,_,.nil _,h=>.cons h (.nil _)
 | _,_,_,_,_,.cons a t,h=>.cons a (t.snoc h)
