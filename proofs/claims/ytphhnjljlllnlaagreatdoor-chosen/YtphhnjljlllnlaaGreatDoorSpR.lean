/- part -/
import Derived.Test.YtphhnjljlllnlaaGreatDoorSpN
set_option maxRecDepth 100000
set_option maxHeartbeats 4000000
namespace Go.Proofs.YtphhnjljlllnlaaGreatDoor
open Go.Proofs.Tryz
open Or
open Go.RowKit Go.Sort
open Go Go.RowKit
theorem rh(w:World)(sb pb n c i:Nat)(up u0:Bool)(hs:w.cell? ⟨sb,0,none⟩=some (.slice (some ⟨pb,0,none⟩) n c))(hi:i<n)(hu:w.cell? ⟨pb,i*7+4,none⟩=some (.bool u0)) :
  Calls prog 49 #[.pointer (some ⟨sb,0,none⟩),.int .i64 i,.bool up] w λ e w'=>e=.returned (if u0=up then .tuple #[.pointer (some ⟨pb,i*7,none⟩),.int .i64 0]else .tuple #[.pointer none,.int .i64 12])/\w'=w:=by
 have e0:¬((i:Int)<0):=by omega
 have e1:¬((n:Int)<=(i:Int)):=by omega
 by_cases h:u0=up
 ·subst h;rw [aS rfl];go_enter func49,ntmps49;go_wp2
  all_goals (refine gH (v:=.tuple #[.pointer (some ⟨pb,i*7,none⟩),.int .i64 0]) (by simp [results,results49,go_sem]) rfl ⟨rfl,rfl⟩)
 rw [aG h];cases u0
 all_goals
  cases up
  all_goals first
   | exact absurd rfl h
   | (clear h;go_enter func49,ntmps49;go_wp2;refine gH (v:=.tuple #[.pointer none,.int .i64 12]) (by simp [results,results49,go_sem]) rfl ⟨rfl,rfl⟩)
theorem MZ(w:World)(a b c:Obj):(((w.alloc a).alloc b).alloc c).heap[w.heap.size+1]?=some b/\(((w.alloc a).alloc b).alloc c).heap[w.heap.size+1+1]?=some c/\Below w.heap.size w (((w.alloc a).alloc b).alloc c):=by
 have h:=fp w a b;have hs:((w.alloc a).alloc b).heap.size=w.heap.size+1+1:=by rw [World.size_alloc,World.size_alloc]
 refine⟨(mC _ _ _ (by rw [hs];omega)).trans h.2.1,?_,((bF.refl w).alloc a |>.alloc b |>.alloc c).below⟩;have:=cM ((w.alloc a).alloc b) c
 rwa [hs]at this
theorem vA(x:Rv)(w:World):Calls prog 105 #[.agg (bQ x).toArray] w λ e w'=>∃ g,e=.returned (.agg #[.slice (some ⟨g,0,none⟩) 1 1,.slice none 0 0,.slice none 0 0,.slice none 0 0,.int .i64 0,.int .i64 0])/\w.heap.size<=g/\w'.heap[g]?=some (.cells #[.int .i64 x.r.addr,.int .i64 x.r.len] 63 (0,0))/\Below w.heap.size w w':=by
 obtain⟨⟨a0,a1,ap,am,a4,a5⟩,aq,ac,aq2,ac2⟩:=x;dsimp only [bQ];generalize ap.length=n1;generalize am.length=n3;go_enter func105,ntmps105;go_wp2
 obtain⟨h1,h2,h3⟩:=MZ w (.cells #[.int .i64 a0,.int .i64 a1,.slice aq n1 ac,.slice aq2 n3 ac2,.int .i64 a4,.int .i64 a5] 65) (.cells #[.slice (some ⟨w.heap.size+1+1,0,none⟩) 1 1,.slice none 0 0,.slice none 0 0,.slice none 0 0,.int .i64 0,.int .i64 0] 87) (.cells #[.int .i64 a0,.int .i64 a1] 63);generalize (((w.alloc (.cells #[.int .i64 a0,.int .i64 a1,.slice aq n1 ac,.slice aq2 n3 ac2,.int .i64 a4,.int .i64 a5] 65)).alloc (.cells #[.slice (some ⟨w.heap.size+1+1,0,none⟩) 1 1,.slice none 0 0,.slice none 0 0,.slice none 0 0,.int .i64 0,.int .i64 0] 87)).alloc (.cells #[.int .i64 a0,.int .i64 a1] 63))=V at h1 h2 h3 ⊢;have c0:V.cell? ⟨w.heap.size+1,0,none⟩=some (.slice (some ⟨w.heap.size+1+1,0,none⟩) 1 1):=ag h1;have c1:V.cell? ⟨w.heap.size+1,1,none⟩=some (.slice none 0 0):=ag h1;have c2:V.cell? ⟨w.heap.size+1,2,none⟩=some (.slice none 0 0):=ag h1;have c3:V.cell? ⟨w.heap.size+1,3,none⟩=some (.slice none 0 0):=ag h1;have c4:V.cell? ⟨w.heap.size+1,4,none⟩=some (.int .i64 0):=ag h1;have c5:V.cell? ⟨w.heap.size+1,5,none⟩=some (.int .i64 0):=ag h1;refine gH (v:=.agg #[.slice (some ⟨w.heap.size+1+1,0,none⟩) 1 1,.slice none 0 0,.slice none 0 0,.slice none 0 0,.int .i64 0,.int .i64 0]) (by simp [results,results105,go_sem,c0,c1,c2,c3,c4,c5]) rfl ?_;exact⟨w.heap.size+1+1,rfl,by omega,h2,h3⟩
theorem kR(x:Rv)(w:World):Calls prog 106 #[.agg (bQ x).toArray] w λ e w'=>∃ g,e=.returned (.agg #[.slice none 0 0,.slice (some ⟨g,0,none⟩) 1 1,.slice x.pq x.r.path.length x.pc,.slice x.mq x.r.marks.length x.mc,.int .i64 x.r.pref,.int .i64 x.r.med])/\w.heap.size<=g/\w'.heap[g]?=some (.cells #[.int .i64 x.r.addr,.int .i64 x.r.len] 63 (0,0))/\Below w.heap.size w w':=by
 obtain⟨⟨a0,a1,ap,am,a4,a5⟩,aq,ac,aq2,ac2⟩:=x;dsimp only [bQ];generalize ap.length=n1;generalize am.length=n3;go_enter func106,ntmps106;go_wp2
 obtain⟨h1,h2,h3⟩:=MZ w (.cells #[.int .i64 a0,.int .i64 a1,.slice aq n1 ac,.slice aq2 n3 ac2,.int .i64 a4,.int .i64 a5] 65) (.cells #[.slice none 0 0,.slice (some ⟨w.heap.size+1+1,0,none⟩) 1 1,.slice aq n1 ac,.slice aq2 n3 ac2,.int .i64 a4,.int .i64 a5] 87) (.cells #[.int .i64 a0,.int .i64 a1] 63);generalize (((w.alloc (.cells #[.int .i64 a0,.int .i64 a1,.slice aq n1 ac,.slice aq2 n3 ac2,.int .i64 a4,.int .i64 a5] 65)).alloc (.cells #[.slice none 0 0,.slice (some ⟨w.heap.size+1+1,0,none⟩) 1 1,.slice aq n1 ac,.slice aq2 n3 ac2,.int .i64 a4,.int .i64 a5] 87)).alloc (.cells #[.int .i64 a0,.int .i64 a1] 63))=V at h1 h2 h3 ⊢;have c0:V.cell? ⟨w.heap.size+1,0,none⟩=some (.slice none 0 0):=ag h1;have c1:V.cell? ⟨w.heap.size+1,1,none⟩=some (.slice (some ⟨w.heap.size+1+1,0,none⟩) 1 1):=ag h1;have c2:V.cell? ⟨w.heap.size+1,2,none⟩=some (.slice aq n1 ac):=ag h1;have c3:V.cell? ⟨w.heap.size+1,3,none⟩=some (.slice aq2 n3 ac2):=ag h1;have c4:V.cell? ⟨w.heap.size+1,4,none⟩=some (.int .i64 a4):=ag h1;have c5:V.cell? ⟨w.heap.size+1,5,none⟩=some (.int .i64 a5):=ag h1;refine gH (v:=.agg #[.slice none 0 0,.slice (some ⟨w.heap.size+1+1,0,none⟩) 1 1,.slice aq n1 ac,.slice aq2 n3 ac2,.int .i64 a4,.int .i64 a5]) (by simp [results,results106,go_sem,c0,c1,c2,c3,c4,c5]) rfl ?_;exact⟨w.heap.size+1+1,rfl,by omega,h2,h3⟩
def Ij(w:World)(v:Value)(l:List Rv):Prop:=∃ q c,v=.slice q l.length c/\(l=[]\/∃ g o,q=some ⟨g,o,none⟩/\g<w.heap.size/\l.length<=c/\∀ k (hk:k<l.length) i,i<6->w.cell? ⟨g,o+(k*6+i),none⟩=(bQ l[k])[i]?)
def iL:List Rv->List Rv->Int
 | [],_=>1
 | _::_,[] => -1
 | x::_,y::_=>gv x.net y.net
theorem qO(a b:List Rv)(v u:Value)(w:World)(ha:Ij w v a)(hb:Ij w u b)(h1:a.length<=1000)(h2:b.length<=1000) :
  eO 104 #[v,u] (.int .i64 (iL a b)) w:=by
 obtain⟨q,c,rfl,ha⟩:=ha;obtain⟨q',c',rfl,hb⟩:=hb
 match a,b with
 | [],_ =>
  clear ha hb h1 h2;go_enter func104,ntmps104;go_wp2
  go_ret;exact⟨rfl,bF.refl w⟩
 | x::a,[] =>
  have hp:¬(((x::a).length:Int)=0):=by simp only [List.length_cons];omega
  clear ha hb h1 h2;show eO _ _ (.int .i64 (-1)) w;generalize (x::a).length=n at *;go_enter func104,ntmps104;go_wp2
  go_ret;exact⟨rfl,bF.refl w⟩
 | x::a,y::b =>
  obtain⟨g,o,rfl,hg,hc,hr⟩:=ha.resolve_left (by simp);obtain⟨g',o',rfl,hg',hc',hr'⟩:=hb.resolve_left (by simp);have x0:w.cell? ⟨g,o,none⟩=some (.int .i64 x.r.addr):=hr 0 (by simp) 0 (by decide);have x1:w.cell? ⟨g,o+1,none⟩=some (.int .i64 x.r.len):=hr 0 (by simp) 1 (by decide);have y0:w.cell? ⟨g',o',none⟩=some (.int .i64 y.r.addr):=hr' 0 (by simp) 0 (by decide);have y1:w.cell? ⟨g',o'+1,none⟩=some (.int .i64 y.r.len):=hr' 0 (by simp) 1 (by decide);have t0:=λ n os=>cell_grown (w:=w) (a:=⟨g,o,none⟩) hg x0 n os
  have t1:=λ n os=>cell_grown (w:=w) (a:=⟨g,o+1,none⟩) hg x1 n os
  have s0:=λ n os=>cell_grown (w:=w) (a:=⟨g',o',none⟩) hg' y0 n os
  have s1:=λ n os=>cell_grown (w:=w) (a:=⟨g',o'+1,none⟩) hg' y1 n os
  have H:=af (λ W=>uw x.net y.net W);dsimp only [Rv.net,iL]at *;generalize gv (x.r.addr,x.r.len) (y.r.addr,y.r.len)=z at *;have hp:¬(((x::a).length:Int)=0):=by simp only [List.length_cons];omega
  have hp':¬(((y::b).length:Int)=0):=by simp only [List.length_cons];omega
  have hq:0<(x::a).length:=by simp
  have hq':0<(y::b).length:=by simp
  clear ha hb hr hr' x0 x1 y0 y1;generalize (x::a).length=n at *;generalize (y::b).length=n' at *;have hmx:prog.follows .mixedOrders=true:=by kernel_rfl
  go_enter func104,ntmps104;go_upto_region 1 with fail
  go_quiet_grown ((go_at_call 82;with_reducible exact Calls.grown_of (ae H _)))
  dsimp only;have HG:=af (show bF w (grow (w.drewN nq) osq)from⟨nq,osq,rfl⟩);generalize grow (w.drewN nq) osq=wq at HG ⊢;clear t0 t1 s0 s1;go_wp2
  go_ret;exact⟨rfl,ae HG⟩
theorem tT(a b:List Int)(x y:Value)(w:World)(ha:aA w x a)(hb:aA w y b) :
  Calls prog 160 #[x,y] w λ e w'=>e=.returned (.bool (decide (a=b)))/\∃ n,w'=w.drewN n:=by
 obtain⟨p,c,rfl,hcap,hl,hin,hr⟩:=ha;obtain⟨q,d,rfl,hcap',hl',hin',hr'⟩:=hb;by_cases hlen:a.length=b.length
 ·have hne:((a.length:Int) != (b.length:Int))=false:=by simp [hlen]
  have HL:=af hlen;have hle:a.length<=b.length:=by omega
  have hge:b.length<=a.length:=by omega
  clear hlen hin hin';have HR:=af hr;have AA:=af hr';clear hr hr';go_enter func160,ntmps160;go_wp2
  go_loopw [13] (λ i wr=>∃ k n:Nat,k<=a.length/\a.take k=b.take k/\i=.int .i64 k/\wr=w.drewN n) (λ i _=>a.length-(intOf i).toNat)
  case atStart=>exact⟨0,0,dG _,rfl,rfl,rfl⟩
  case round =>
   obtain⟨k,n,hk,ht,rfl,rfl⟩:=hrel;have HT:=af ht;clear ht;by_cases hlt:k<a.length
   ·have hlt':k<b.length:=by omega
    rcases ae HR with h|⟨ba,oa,rfl,hba,hca⟩
    ·rw [h.1]at hlt;simp at hlt
    rcases ae AA with h|⟨bb,ob,rfl,hbb,hcb⟩
    ·rw [h.1]at hlt';simp at hlt'
    have c1:=hca k hlt;have c2:=hcb k hlt';clear hca hcb;cases he:(a[k] != b[k])with
    | true =>
     have HN:=af (show decide (a=b)=false from by
      have h1:a[k]≠b[k]:=by simpa using he
      simp only [decide_eq_false_iff_not];intro h;subst h;exact h1 rfl)
     go_wp2_with fail;go_quiet ((fail))
     go_wp2
     go_ret;exact⟨aO (ae HN).symm,_,by rw [World.drewN_drewN]⟩
    | false =>
     have BA:=af (qr (ae HT) hlt hlt' (by simpa using he));go_wp2_with fail;go_quiet ((fail))
     go_wp2
     go_roundw
     case rel=>exact⟨k+1,n+nq,by omega,ae BA,by go_num,rfl⟩
     case measure=>simp [intOf];omega
   have HE:=af (show decide (a=b)=true from by
    have h:=ae HT;rw [List.take_of_length_le (by omega),List.take_of_length_le (by omega)]at h;exact Fh h)
   go_wp2
   go_ret;exact⟨aO (ae HE).symm,n,rfl⟩
 have hne:((a.length:Int) != (b.length:Int))=true:=by rw [bne_iff_ne];omega
 have HN:=af (show decide (a=b)=false from by simp;intro h;exact hlen (by rw [h]));clear hlen hin hin' hr hr';go_enter func160,ntmps160;go_wp2
 go_ret;exact⟨aO (ae HN).symm,0,rfl⟩
theorem CX{a b:Rt}(h:a≠b):yt a b=false:=by
 cases he:yt a b with
 | false=>rfl
 | true=>exact absurd (kt.1 he) h
theorem I4(a:Rt):yt a a=true:=kt.2 rfl
theorem DP(x y:Rv)(w:World)(hx:bK w x)(hy:bK w y)(ox:dh x.r=true)(oy:dh y.r=true):eO 107 #[.agg (bQ x).toArray,.agg (bQ y).toArray] (.bool (yt x.r y.r)) w:=by
 obtain⟨⟨a0,a1,ap,am,a4,a5⟩,aq,ac,aq2,ac2⟩:=x;obtain⟨⟨b0,b1,bp,bm,b4,b5⟩,bq,bc,bq2,bc2⟩:=y;have hg:∀ A B:Obj,bF w ((w.alloc A).alloc B):=λ A B=>((bF.refl w).alloc A).alloc B
 have E1:=af (λ(A B:Obj) (n:Nat)=>tT ap bp _ _ (((w.alloc A).alloc B).drewN n) (((hx.below (hg A B).below).below (below_drewN (aY _ _) n)).ints ox).1 (((hy.below (hg A B).below).below (below_drewN (aY _ _) n)).ints oy).1);have E2:=af (λ(A B:Obj) (n:Nat)=>tT am bm _ _ (((w.alloc A).alloc B).drewN n) (((hx.below (hg A B).below).below (below_drewN (aY _ _) n)).ints ox).2 (((hy.below (hg A B).below).below (below_drewN (aY _ _) n)).ints oy).2);have HG:=af hg;clear hx hy ox oy hg;dsimp only [bQ]at *;by_cases h:a0=b0/\a1=b1/\a4=b4/\a5=b5
 ·obtain⟨rfl,rfl,rfl,rfl⟩:=h;cases hp:decide (ap=bp)with
  | false =>
   have HE:=af (CX (a:=⟨a0,a1,ap,am,a4,a5⟩) (b:=⟨a0,a1,bp,bm,a4,a5⟩) (λ e=>of_decide_eq_false hp (jC Rt.path e)));rw [hp]at E1;clear hp E2;generalize ap.length=n1 at *;generalize bp.length=n2 at *;generalize am.length=n3 at *;generalize bm.length=n4 at *;go_enter func107,ntmps107;go_wp2_with (go_at_call 160;refine(ae E1 _ _ 0).mono ?_;rintro e w' ⟨rfl,k1,rfl⟩)
   go_ret;exact⟨aO (ae HE).symm,(ae HG _ _).trans ⟨k1,#[],by rw [grow_empty]⟩⟩
  | true =>
   have hp':ap=bp:=of_decide_eq_true hp;rw [hp]at E1;clear hp;cases hm:decide (am=bm)with
   | false =>
    have HE:=af (CX (a:=⟨a0,a1,ap,am,a4,a5⟩) (b:=⟨a0,a1,bp,bm,a4,a5⟩) (λ e=>of_decide_eq_false hm (jC Rt.marks e)));rw [hm]at E2;clear hm hp';generalize ap.length=n1 at *;generalize bp.length=n2 at *;generalize am.length=n3 at *;generalize bm.length=n4 at *;go_enter func107,ntmps107
    go_wp2_with (first
     | (go_at_call 160;refine(ae E1 _ _ 0).mono ?_;clear E1;rintro e w' ⟨rfl,k1,rfl⟩)
     | (go_at_call 160;refine(ae E2 _ _ k1).mono ?_;clear E2;rintro e w' ⟨rfl,k2,rfl⟩))
    go_ret;exact⟨aO (ae HE).symm,(ae HG _ _).trans ⟨k1+k2,#[],by rw [grow_empty,<-World.drewN_drewN]⟩⟩
   | true =>
    have hm':am=bm:=of_decide_eq_true hm;subst hp' hm';have HE:=af (I4 ⟨a0,a1,ap,am,a4,a5⟩);rw [hm]at E2;clear hm;generalize ap.length=n1 at *;generalize am.length=n3 at *;go_enter func107,ntmps107
    go_wp2_with (first
     | (go_at_call 160;refine(ae E1 _ _ 0).mono ?_;clear E1;rintro e w' ⟨rfl,k1,rfl⟩)
     | (go_at_call 160;refine(ae E2 _ _ k1).mono ?_;clear E2;rintro e w' ⟨rfl,k2,rfl⟩))
    go_ret;exact⟨aO (ae HE).symm,(ae HG _ _).trans ⟨k1+k2,#[],by rw [grow_empty,<-World.drewN_drewN]⟩⟩
 have HE:=af (CX (a:=⟨a0,a1,ap,am,a4,a5⟩) (b:=⟨b0,b1,bp,bm,b4,b5⟩) (λ e=>h ⟨jC Rt.addr e,jC Rt.len e,jC Rt.pref e,jC Rt.med e⟩));clear E1 E2;rw [show yt ⟨a0,a1,ap,am,a4,a5⟩ ⟨b0,b1,bp,bm,b4,b5⟩=false from ae HE];generalize ap.length=n1 at *;generalize bp.length=n2 at *;generalize am.length=n3 at *;generalize bm.length=n4 at *;by_cases h0:a0=b0/\a1=b1
 ·obtain⟨rfl,rfl⟩:=h0;by_cases h4:a4=b4
  ·subst h4;have h5:¬a5=b5:=λ e=>h ⟨rfl,rfl,rfl,e⟩
   have h5':(a5==b5)=false:=by simpa using h5
   clear h;go_enter func107,ntmps107;go_wp2
   go_ret;exact⟨rfl,ae HG _ _⟩
  have h4':(a4==b4)=false:=by simpa using h4
  clear h;go_enter func107,ntmps107;go_wp2
  go_ret;exact⟨rfl,ae HG _ _⟩
 clear h
 have h0':(a0==b0&&a1==b1)=false:=by
  cases hh:(a0==b0&&a1==b1)with
  | false=>rfl
  | true=>exact absurd (by simpa using hh) h0
 go_enter func107,ntmps107;go_wp2
 all_goals
  go_ret;exact⟨rfl,ae HG _ _⟩
structure MV where
 m:fI
 vg:Value
 vn:Value
 vp:Value
 vm:Value
abbrev MV.val(x:MV):Value:=.agg #[x.vg,x.vn,x.vp,x.vm,.int .i64 x.m.pref,.int .i64 x.m.med]
structure Fl(W:World)(x:MV):Prop where
 gone:cd W x.vg x.m.gone
 nets:cd W x.vn x.m.nets
 path:aA W x.vp x.m.path
 marks:aA W x.vm x.m.marks
 ok:eW x.m
structure zA(X Y:World):Prop where
 size:X.heap.size<=Y.heap.size
 keep:∀(k:Nat) (c:Array Value) (T:TypeId) (z:Nat×Nat),X.heap[k]?=some (.cells c T z)->T≠93->T≠51->Y.heap[k]?=some (.cells c T z)
def eR(w:World)(v:Value)(l:List Rv):Prop:=∃ q c,v=.slice q l.length c/\(l=[]\/∃ g o cur,q=some ⟨g,o,none⟩/\w.heap[g]?=some (.cells cur 65 (0,0))/\l.length<=c/\∀ k (hk:k<l.length) i,i<6->cur[o+(k*6+i)]?=(bQ l[k])[i]?)
theorem eR.readV{w:World}{v:Value}{l:List Rv}(h:eR w v l):Ij w v l:=by
 obtain⟨q,c,rfl,h|⟨g,o,cur,rfl,hg,hc,hr⟩⟩:=h
 ·exact⟨q,c,rfl,inl h⟩
 exact⟨_,c,rfl,inr ⟨g,o,rfl,ah hg,hc,λ k hk i hi=>(ag hg).trans (hr k hk i hi)⟩⟩
theorem eR.of{w w':World}{v:Value}{l:List Rv}(h:eR w v l)(hk:∀(k:Nat) (cur:Array Value),w.heap[k]?=some (.cells cur 65 (0,0))->w'.heap[k]?=some (.cells cur 65 (0,0))):eR w' v l:=by
 obtain⟨q,c,rfl,h|⟨g,o,cur,rfl,hg,hc,hr⟩⟩:=h
 ·exact⟨q,c,rfl,inl h⟩
 exact⟨_,c,rfl,inr ⟨g,o,cur,rfl,hk g cur hg,hc,hr⟩⟩
theorem bS.readT{w:World}{base:Nat}{v:Value}{l:List Rv}(h:bS w base v l):eR w v l:=by
 obtain⟨q,c,rfl⟩:=al h;rcases Ic l.length with h0|h0
 ·exact⟨q,c,rfl,inl (List.length_eq_zero_iff.1 h0)⟩
 obtain⟨g,rfl,hg,hc⟩:=h.atG h0;obtain⟨cur,hb,_,_,_,hsz,hrow⟩:=h.block;refine⟨_,c,rfl,inr ⟨g,0,cur,rfl,hb,hc,λ k hk i hi=>?_⟩⟩;rw [<-h.cell hk hi,ag hb,Nat.zero_add]
theorem eR.tail{w:World}{q:Option Addr}{n c:Nat}{x:Rv}{l:List Rv}(h:eR w (.slice q n c) (x::l)):∃ g o,q=some ⟨g,o,none⟩/\g<w.heap.size/\n=l.length+1/\n<=c/\(∀ i,i<6->w.cell? ⟨g,o+i,none⟩=(bQ x)[i]?)/\eR w (.slice (some ⟨g,o+6,none⟩) l.length (c-1)) l/\(c=1->l=[]):=by
 obtain⟨q',c',hv,h|⟨g,o,cur,rfl,hg,hc,hr⟩⟩:=h
 ·cases h
 cases hv
 refine⟨g,o,rfl,ah hg,rfl,hc,λ i hi=>?_,⟨_,c-1,rfl,?_⟩,λ e=>?_⟩
 ·have:=hr 0 (by simp) i hi;rw [Nat.zero_mul,Nat.zero_add]at this;rw [ag hg];exact this
 ·cases l with
  | nil=>exact inl rfl
  | cons y l =>
   refine inr ⟨g,o+6,cur,rfl,hg,by simp only [List.length_cons]at hc ⊢;omega,λ k hk i hi=>?_⟩;have:=hr (k+1) (by simpa using hk) i hi;rw [show o+((k+1)*6+i)=o+6+(k*6+i)by omega]at this;exact this
 subst e;simp only [List.length_cons]at hc;exact List.length_eq_zero_iff.1 (by omega)
theorem eR.nil(w:World)(q:Option Addr)(c:Nat):eR w (.slice q 0 c) []:=⟨q,c,rfl,inl rfl⟩
def eI:List Rv->List Rv->Bool×fI×List Rv×List Rv
 | [],[]=>(false,⟨[],[],[],[],0,0⟩,[],[])
 | x::a,[]=>(true,sR x.r,a,[])
 | [],y::b=>(true,ov y.r,[],b)
 | x::a,y::b=>if gv x.net y.net<0 then(true,sR x.r,a,y::b)else if 0<gv x.net y.net then(true,ov y.r,x::a,b)else(!yt x.r y.r,ov y.r,a,b)
theorem ly(x y:Rv)(a b:List Rv):eI (x::a) (y::b)=if gv x.net y.net<0 then(true,sR x.r,a,y::b)else if 0<gv x.net y.net then(true,ov y.r,x::a,b)else(!yt x.r y.r,ov y.r,a,b):=rfl
theorem IN{a b:List Rv}(h:0<a.length+b.length)(f:Nat):pH (f+1) (a.map (·.r)) (b.map (·.r))=(if(eI a b).1 then [(eI a b).2.1]else [])++pH f ((eI a b).2.2.1.map (·.r)) ((eI a b).2.2.2.map (·.r)):=by
 match a,b,h with
 | x::a,[],_=>rfl
 | [],y::b,_=>rfl
 | x::a,y::b,_ =>
  have e:gv x.r.net y.r.net=gv x.net y.net:=rfl;rw [ly];simp only [List.map_cons,pH,e];split
  ·rfl
  split
  ·rfl
  cases he:yt x.r y.r with
  | true=>rfl
  | false=>rfl
theorem Kq{a b:List Rv}(h:0<a.length+b.length):(eI a b).2.2.1.length+(eI a b).2.2.2.length<a.length+b.length:=by
 match a,b,h with
 | x::a,[],_=>simp [eI]
 | [],y::b,_=>simp [eI]
 | x::a,y::b,_ =>
  rw [ly];split
  ·simp only [List.length_cons];omega
  split
  ·simp only [List.length_cons];omega
  simp only [List.length_cons];omega
theorem BK{a b:List Rv}:(∀ z∈(eI a b).2.2.1,z∈a)/\∀ z∈(eI a b).2.2.2,z∈b:=by
 match a,b with
 | [],[]=>exact⟨λ z h=>h,λ z h=>h⟩
 | x::a,[]=>exact⟨λ z h=>List.mem_cons_of_mem _ h,λ z h=>h⟩
 | [],y::b=>exact⟨λ z h=>h,λ z h=>List.mem_cons_of_mem _ h⟩
 | x::a,y::b =>
  rw [ly];split
  ·exact⟨λ z h=>List.mem_cons_of_mem _ h,λ z h=>h⟩
  split
  ·exact⟨λ z h=>h,λ z h=>List.mem_cons_of_mem _ h⟩
  exact⟨λ z h=>List.mem_cons_of_mem _ h,λ z h=>List.mem_cons_of_mem _ h⟩
theorem AT{W:World}{g:Nat}{x y:Int}(h:W.heap[g]?=some (.cells #[.int .i64 x,.int .i64 y] 63 (0,0)))(hx:eN x)(hy:eN y):cd W (.slice (some ⟨g,0,none⟩) 1 1) [(x,y)]:=by
 refine⟨_,1,rfl,aL _,by simp,by simpa using⟨hx,hy⟩,inr ⟨g,0,rfl,ah h,λ j hj=>?_⟩⟩;have:j=0:=by simpa using hj
 subst this;exact⟨ag h,ag h⟩
theorem xi(W:World):cd W (.slice none 0 0) []:=⟨none,0,rfl,aL _,by simp,by simp,inl ⟨rfl,λ _=>rfl⟩⟩
theorem uh(W:World):aA W (.slice none 0 0) []:=aA.nil W 0 (l:=[]) (by simp)
theorem sM{r:Rt}(h:dh r=true):eN r.addr/\eN r.len:=by
 have:=Br h;unfold dX Rt.net at this;unfold eN;exact⟨by omega,by omega⟩
theorem Of{W:World}{x:Rt}{g:Nat}(h:W.heap[g]?=some (.cells #[.int .i64 x.addr,.int .i64 x.len] 63 (0,0)))(ho:dh x=true):Fl W ⟨sR x,.slice (some ⟨g,0,none⟩) 1 1,.slice none 0 0,.slice none 0 0,.slice none 0 0⟩ :=
 ⟨AT h (sM ho).1 (sM ho).2,xi W,uh W,uh W,NV (Br ho)⟩
theorem M3{W:World}{x:Rv}{g:Nat}(h:W.heap[g]?=some (.cells #[.int .i64 x.r.addr,.int .i64 x.r.len] 63 (0,0)))(hr:bK W x)(ho:dh x.r=true):Fl W ⟨ov x.r,.slice none 0 0,.slice (some ⟨g,0,none⟩) 1 1,.slice x.pq x.r.path.length x.pc,.slice x.mq x.r.marks.length x.mc⟩ :=
 ⟨xi W,AT h (sM ho).1 (sM ho).2,(hr.ints ho).1,(hr.ints ho).2,Nj ho⟩
structure pf(W:World)(Bv Bm:Nat)(a b:List Rv):Prop where
 view:∃ v,W.heap[Bv]?=some (.cells #[v] 105 (0,0))/\eR W v a
 must:∃ u,W.heap[Bm]?=some (.cells #[u] 105 (0,0))/\eR W u b
 rowsA:∀ y∈a,bK W y/\dh y.r=true
 rowsB:∀ y∈b,bK W y/\dh y.r=true
theorem bK.keepT{X Y:World}{x:Rv}(h:bK X x)(hk:zA X Y):bK Y x:=h.fr λ k _ ⟨cur,hc⟩=>(hk.keep k cur _ _ hc (by decide) (by decide)).trans hc.symm
theorem pf.keepT{X Y:World}{Bv Bm:Nat}{a b:List Rv}(h:pf X Bv Bm a b)(hk:zA X Y):pf Y Bv Bm a b:=by
 obtain⟨⟨v,h1,h2⟩,⟨u,h3,h4⟩,h5,h6⟩:=h;exact⟨⟨v,hk.keep _ _ _ _ h1 (by decide) (by decide),h2.of λ k cur hc=>hk.keep _ _ _ _ hc (by decide) (by decide)⟩,⟨u,hk.keep _ _ _ _ h3 (by decide) (by decide),h4.of λ k cur hc=>hk.keep _ _ _ _ hc (by decide) (by decide)⟩,λ y hy=>⟨(h5 y hy).1.keepT hk,(h5 y hy).2⟩,λ y hy=>⟨(h6 y hy).1.keepT hk,(h6 y hy).2⟩⟩
theorem pf.below{X Y:World}{Bv Bm:Nat}{a b:List Rv}(h:pf X Bv Bm a b)(hk:Below X.heap.size X Y):pf Y Bv Bm a b :=
 h.keepT ⟨hk.size,λ k _ _ _ hc _ _=>(hk.block k (ah hc)).trans hc⟩
section
variable {α:Type} {P:Program} {n:Nat}
def MO(n:Nat)(P:Program)(gf:Nat)(lb:Array Value)(enc:α->Array Value)(O:Nat->Prop)(Px:α->World->Prop)(Kp:World->World->Prop)(S:List α->Prop)(N:Nat)(w:World):Prop :=
 ∀(L:Nat) (J:List α->World->Prop) (W:World),Below w.heap.size w W->(∀ pre X Y,J pre X->Fr O X O Y->J pre Y) ->
  (∀ pre x X,J pre X->Px x X->pre.length<N->YieldAt Fence.wide (n-1) P L (enc x) X λ e Y=>e=.returned (.bool true)/\J (pre++[x]) Y/\Kp X Y)->J [] W ->
  CallsIn Fence.wide n P gf (#[.func (.yield L) #[] #[]]++lb) W λ e Y=>(∃ v,e=.returned v)/\∃ xs,S xs/\J xs Y
theorem B8(w:World)(a b:Obj):((w.alloc a).alloc b).heap[w.heap.size]?=some a/\((w.alloc a).alloc b).heap[w.heap.size+1]?=some b/\Below w.heap.size w ((w.alloc a).alloc b):=by
 refine⟨(mC _ _ _ (by simp)).trans (World.alloc_heap_new w a),?_,((aY _ w).alloc (aL _) _).alloc (by simp) _⟩;have:=World.alloc_heap_new (w.alloc a) b
 rwa [World.size_alloc]at this
theorem GY{g:Operand}{ps:Array Tmp}{assign body:Code}{Q:Exit->Act->World->Prop}{a:Act}{w:World}{gf:Nat}{lb:Array Value}(hg:a.eval g=.func (.func gf) #[] lb)(eg:∀ args w,(callFunc gf args).run P w=.ok (.enter gf args) w)(h1:1<=n)
  {enc:α->Array Value} {O:Nat->Prop} {Px:α->World->Prop} {Kp:World->World->Prop} {S:List α->Prop} {N:Nat} (hseq:MO (n-1) P gf lb enc O Px Kp S N w) (hps:∀ x,(enc x).size=ps.size) (hO:∀ k,O k->k<w.heap.size)
  (I:List α->World->Prop) (hI:∀ pre X Y,I pre X->Fr O X O Y->I pre Y) (hIp:∀ pre X l o o',I pre X->w.heap.size<=l->X.heap[l]?=some o->o.isCells=false->I pre (X.putObj l o')) (h0:I [] w)
  (hround:∀(L:Nat) (pre:List α) (x:α) (X:World),w.heap.size<L->L<X.heap.size->I pre X->Px x X->pre.length<N ->
   assign.wpIn (Fence.wide.inRound L) (n-1-1) P (Exit.then (λ a1 X1=>KeepsFrom w.heap.size X X1/\∀ o o':Obj,o.isCells=false->o'.isCells=false->X1.heap[L]?=some o->body.wpIn (Fence.wide.inRound L) (n-1-1) P (λ e _ Y=>e=.normal/\KeepsFrom w.heap.size (X1.putObj L o') Y/\(∀ o2,Kp X (Y.putObj L o2))/\I (pre++[x]) Y) a1 (X1.putObj L o')) (λ _ _ _=>False))
    { tmps:=(ps.zip (enc x)).foldl (λ t (p,v)=>t.setIfInBounds p v) a.tmps,defers:=[] } X)
  (hdone:∀(D L:Nat) (xs:List α) (X:World),w.heap.size<=D->D<L->S xs->I xs X->X.heap[D]?=some (.deferred (some []))->(∃ o:Obj,X.heap[L]?=some o/\o.isCells=false)->Q .normal { a with defers:={ target:=.collected D,args:=#[] }::a.defers } X) :
  (Code.rangeFunc g ps assign body).wpIn Fence.wide n P Q a w:=by
 refine wpIn_rangeFunc λ fn hfn=>?_
 obtain⟨rc,hrc⟩:∃ rc:LoopState->Loop,rc=λ st=>{ state:=st,pending:=none,fn:=fn,tmps:=a.tmps,params:=ps,assign:=assign,body:=body,defers:=w.heap.size }:=⟨_,rfl⟩
 have hnew:=B8 w (.deferred (some [])) (.loop (rc .ready));obtain⟨W1,hW1⟩:∃ W1,(w.alloc (.deferred (some []))).alloc (.loop (rc .ready))=W1:=⟨_,rfl⟩
 rw [hW1]at hnew;obtain⟨hD1,hL1,hB1⟩:=hnew;refine⟨w.heap.size+1,[{ target:=.collected w.heap.size,args:=#[] }],W1,{ target:=.fn (.func gf) lb,args:=#[.func (.yield (w.heap.size+1)) #[] #[]] },W1,gf,#[.func (.yield (w.heap.size+1)) #[] #[]]++lb,W1,?_,?_,?_,?_,λ _=>h1,?_⟩
 ·rw [<-hW1,hrc];exact run_enterLoop_outer _ _ _ _ _
 ·simp only [resolve,hg];simp [go_sem]
 ·intro f' _;trivial
 ·simp [invoke,go_sem,eg]
 have hnO:∀ k,w.heap.size<=k->¬O k:=λ k hk h=>by have:=hO k h;omega
 have key:=hseq (w.heap.size+1) (λ pre X=>I pre X/\X.heap[w.heap.size]?=some (.deferred (some []))/\X.heap[w.heap.size+1]?=some (.loop (rc .ready))) W1 hB1
  (λ pre X Y hX hf=>⟨hI pre X Y hX.1 hf,(hf.block _ (ah hX.2.1) (hnO _ (aL _))).trans hX.2.1,(hf.block _ (ah hX.2.2) (hnO _ (by omega))).trans hX.2.2⟩)
  ?_ ⟨hI _ _ _ h0 (Fr.of_below hB1),hD1,hL1⟩
 ·refine key.mono ?_;rintro e Y ⟨⟨v,rfl⟩,xs,hS,hIY,hDY,hLY⟩;have hend:=run_endLoop (P:=P) hLY (by rw [hrc];simp);rw [hrc]at hend;refine⟨none,_,hend,?_⟩;refine hdone w.heap.size (w.heap.size+1) xs _ (aL _) (by omega) hS (hIp _ _ _ _ _ hIY (by omega) hLY rfl) ?_ ⟨_,World.putObj_heap_same (ah hLY),rfl⟩;exact(World.putObj_heap_other (by omega)).trans hDY
 rintro pre x X ⟨hIX,hDX,hLX⟩ hPx hlen;have hy:=run_yield (P:=P) (args:=enc x) hLX (by rw [hrc];exact hps x);rw [hrc]at hy;refine⟨fn,_,assign,body,hy,roundIn_of_wpIn hfn ?_⟩;refine wpIn_mono (hround (w.heap.size+1) pre x X (by omega) (ah hLX) hIX hPx hlen) ?_;intro e a1 X1 h;cases e with
 | normal =>
  obtain⟨hk,hb⟩:=h;have hLX1:=hk.same _ _ (by omega) hLX rfl;have hDX1:=hk.same _ _ (aL _) hDX rfl;refine⟨_,run_beginRound hLX1 (by rw [hrc]),?_⟩;refine wpIn_mono (hb _ (.loop _) rfl rfl hLX1) ?_;rintro e2 a2 Y ⟨rfl,hkY,hKY,hIY⟩;have hL2:=hkY.same (w.heap.size+1) _ (by omega) (World.putObj_heap_same (ah hLX1)) rfl;have hD2:=hkY.same w.heap.size _ (aL _) ((World.putObj_heap_other (by omega)).trans hDX1) rfl;have hend:=run_endRound (P:=P) none hL2;refine⟨_,_,hend,rfl,⟨hIp _ _ _ _ _ hIY (by omega) hL2 rfl,(World.putObj_heap_other (by omega)).trans hD2,?_⟩,hKY _⟩;rw [World.putObj_heap_same (ah hL2),hrc]
  rfl
 | _=>exact h.elim
end
