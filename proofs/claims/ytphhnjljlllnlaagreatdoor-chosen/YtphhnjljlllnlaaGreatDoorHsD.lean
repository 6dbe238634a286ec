/- part -/
import Derived.Test.YtphhnjljlllnlaaGreatDoorHsB
set_option maxRecDepth 100000
set_option maxHeartbeats 16000000
namespace Go.Proofs.YtphhnjljlllnlaaGreatDoor
open Go.Proofs.Tryz
open Or
open Go Go.RowKit Go.Sort Go.Shelf
abbrev yy(x:TV):Int×fI:=(x.peer,x.m)
theorem eC.cell{w:World}{base:Nat}{q:Option Addr}{c:Nat}{T:List TV}(h:eC w base (.slice q T.length c) T){k:Nat}(hk:k<T.length):∃ g,q=some ⟨g,0,none⟩/\g<w.heap.size/\w.cell? ⟨g,k*2,none⟩=some (.int .i64 T[k].peer)/\w.cell? ⟨g,k*2+1,none⟩=some T[k].bv:=by
 have hr:=h.row;obtain⟨_,⟨_,h2⟩|⟨g,cap,cur,h2,_,h3,_⟩⟩:=id h.row
 ·omega
 simp only [Value.slice.injEq]at h2;obtain⟨rfl,-,rfl⟩:=h2
 have key:∀(l:List TV) (k:Nat) (hk:k<l.length),(y9 l)[k*2]?=some (.int .i64 l[k].peer)/\(y9 l)[k*2+1]?=some l[k].bv:=by
  intro l
  induction l with
  | nil=>intro k hk;simp at hk
  | cons x l ih =>
   intro k hk;cases k with
   | zero=>exact⟨rfl,rfl⟩
   | succ k =>
    have:=ih k (by simpa using hk);rw [show(k+1)*2=k*2+1+1 by omega];exact this
 have hh:=key T k hk;refine⟨g,rfl,ah h3,?_,?_⟩
 ·rw [hr.cellAt (k*2) (by omega)];exact hh.1
 rw [hr.cellAt (k*2+1) (by omega)];exact hh.2
theorem qT(l:List (Int×Int))(h:0<l.length):l[0]=l.headD (0,0):=by
 cases l with
 | nil=>simp at h
 | cons x l=>rfl
theorem kD{st:List HP}{i:Nat}(h:i<st.length):(dI st).getD i []=st[i].view.map (·.r):=by
 unfold dI;rw [List.getD_eq_getElem?_getD,List.getElem?_map,gW h];rfl
theorem Ei{st:List HP}{i:Nat}(h:i<st.length)(l:List Rv):dI (st.set i { st[i]with view:=l })=(dI st).set i (l.map (·.r)):=by
 unfold dI;rw [List.map_set]
theorem Dd(l:List Rt)(x r:Rt)(g:Bool):jw (l++[x]) r g=(jw l r g||(decide (x.net=r.net)&&(yt x r||g))):=by
 unfold jw;rw [List.any_append];simp
theorem o4(a b:Rt):fl a b=yt a b:=by
 rw [Bool.eq_iff_iff,kt];unfold fl;obtain⟨a0,a1,a2,a3,a4,a5⟩:=a;obtain⟨b0,b1,b2,b3,b4,b5⟩:=b;simp only [Bool.and_eq_true,decide_eq_true_eq,Prod.mk.injEq,Rt.mk.injEq]
 constructor
 ·rintro⟨⟨⟨⟨⟨h1,h2⟩,h3⟩,h4⟩,h5⟩,h6⟩;exact⟨h1,h2,h3,h4,h5,h6⟩
 rintro⟨h1,h2,h3,h4,h5,h6⟩;exact⟨⟨⟨⟨⟨h1,h2⟩,h3⟩,h4⟩,h5⟩,h6⟩
theorem wZ{α:Type}{l:List α}{i:Nat}{x:α}(h:l[i]?=some x):l.set i x=l:=by
 obtain⟨hi,rfl⟩:=List.getElem?_eq_some_iff.1 h;exact List.set_getElem_self hi
theorem F9{n0 nb n i:Nat}{w wr w7:World}{hb sb ip op:Nat}{cs csk:Array Value}{st stk:List HP}{v':Value}{X:Rv}{gn:Bool}{m:fI}{t:List (Int×fI)}{V:List (List Rt)}{U:List Bool}
  (hS:gX n0 w7 hb sb ip op csk stk) (hfr:Fr (· = hb) w (· = hb) wr) (hb7:Below wr.heap.size wr w7) (htab:∀ k,dJ csk k->dJ cs k\/w.heap.size<=k) (hups:stk.map (·.up)=st.map (·.up)) (hrts:stk.map (·.rts)=st.map (·.rts)) (hi:i<stk.length)
  (ht:bS w7 nb v' (oe stk[i].view X gn)) (hnb:wr.heap.size<=nb) (hn0:n0<=nb) (hX:bK w7 X) (hXk:gn=false->dh X.r=true) (hlen:∀ p∈stk,p.view.length+(n+1)<=1000) (hro:uT m=X.r) (hgn:gd m=gn)
  (hoks:okS U (fg (dI stk) ((i:Int),m)) t) (hfold:(((i:Int),m)::t).foldl fg (dI stk)=V) :
  ∃ cs' st',gX n0 (w7.setCell ⟨hb,9+i,none⟩ v') hb sb ip op cs' st'/\Fr (· = hb) w (· = hb) (w7.setCell ⟨hb,9+i,none⟩ v')/\(∀ k,dJ cs' k->dJ cs k\/w.heap.size<=k)/\st'.map (·.up)=st.map (·.up)/\st'.map (·.rts)=st.map (·.rts)/\okS U (dI st') t/\t.foldl fg (dI st')=V/\∀ p∈st',p.view.length+n<=1000:=by
 have hmem:∀ y∈oe stk[i].view X gn,y∈stk[i].view\/(gn=false/\y=X):=λ y hy=>by
  unfold oe at hy;rcases List.mem_append.1 hy with hy|hy
  ·exact inl ((List.mem_filter.1 hy).1)
  cases gn with
  | true=>simp at hy
  | false=>simp at hy;exact inr ⟨rfl,hy⟩
 have hpl:(oe stk[i].view X gn).length<=stk[i].view.length+1:=by
  unfold oe;rw [List.length_append];have:=List.length_filter_le (λ y:Rv=>!decide (y.net=X.net)) stk[i].view;split<;>simp<;>omega
 have hli:=hlen _ (ej hi)
 have hv:fg (dI stk) ((i:Int),m)=dI (stk.set i { stk[i]with view:=oe stk[i].view X gn }):=by
  rw [Ei hi,DM];unfold fg jh;dsimp only;rw [Int.toNat_natCast,kD hi,hro,hgn]
 refine⟨_,_,hS.setView hi (aZ ht hn0) (λ y hy=>?_) (by omega),(hfr.below hb7).setCell (inl rfl) _,λ k hk=>?_,?_,?_,?_,?_,λ p hp=>?_⟩
 ·rcases hmem y hy with hy|⟨e,rfl⟩
  ·exact hS.rows _ (ej hi) y (inr hy)
  exact⟨hX,hXk e⟩
 ·rcases hk.set with hk|hk
  ·exact htab k hk
  have:=(ht.lt k hk).1;have:=hfr.size;exact inr (by omega)
 ·rw [<-hups,List.map_set];exact wZ (by rw [List.getElem?_map,gW hi];rfl)
 ·rw [<-hrts,List.map_set];exact wZ (by rw [List.getElem?_map,gW hi];rfl)
 ·rw [<-hv];exact hoks
 ·rw [<-hv];exact hfold
 rcases List.mem_or_eq_of_mem_set hp with hp|rfl
 ·have:=hlen p hp;omega
 dsimp only;omega
theorem Ga{n0:Nat}{w0 w:World}{hb sb ip op base:Nat}{cs:Array Value}{st:List HP}{v:Value}{T:List TV}(hN:n0=w0.heap.size)(hD:iS w0 35)(hbel:Below n0 w0 w)(h:gX n0 w hb sb ip op cs st)(hT:eC w base v T)(hTl:T.length<=600)
  (hok:okS (st.map (·.up)) (dI st) (T.map yy)) (hvl:∀ p∈st,p.view.length+T.length<=1000) :
  Calls prog 17 #[.pointer (some ⟨hb,0,none⟩),v] w λ e w'=>e=.returned (.bool true)/\∃ cs' st',gX n0 w' hb sb ip op cs' st'/\Fr (· = hb) w (· = hb) w'/\(∀ k,dJ cs' k->dJ cs k\/w.heap.size<=k)/\st'.map (·.up)=st.map (·.up)/\st'.map (·.rts)=st.map (·.rts)/\dI st'=(T.map yy).foldl fg (dI st):=by
 obtain⟨q,c,rfl⟩:=al hT.row;have H:=af h;have HT:=af hT;have NA:=af hbel;have HD:=af hD;have GB:=af hok;have JB:=af hvl;have HN:=af hN;clear h hT hbel hD hok hvl hN;go_enter func17,ntmps17;go_wp2
 go_loopw [5] (λ i wr=>∃(k:Nat) (csk:Array Value) (stk:List HP),k<=T.length/\i=.int .i64 k/\gX n0 wr hb sb ip op csk stk/\Fr (· = hb) w (· = hb) wr/\(∀ k,dJ csk k->dJ cs k\/w.heap.size<=k)/\stk.map (·.up)=st.map (·.up)/\stk.map (·.rts)=st.map (·.rts)/\okS (st.map (·.up)) (dI stk) ((T.drop k).map yy)/\((T.drop k).map yy).foldl fg (dI stk)=(T.map yy).foldl fg (dI st)/\∀ p∈stk,p.view.length+(T.length-k)<=1000) (λ i _=>T.length-(intOf i).toNat)
 case atStart=>exact⟨0,cs,st,dG _,rfl,ae H,dw _ _,λ k hk=>inl hk,rfl,rfl,ae GB,rfl,ae JB⟩
 case round =>
  obtain⟨k,csk,stk,hk,rfl,hS,hfr,htab,hups,hrts,hoks,hfold,hlen⟩:=hrel;by_cases hlt:k<T.length
  ·have hTr:eC wr base (.slice q T.length c) T:=(ae HT).fr (λ k0 e=>hfr.block k0 ((ae HT).row.lt k0 e).2 λ e2=>by
     obtain⟨cur,hc⟩:=own_typed (ae HT).row e;rw [e2,(ae H).blk]at hc;cases hc) λ x hx k0 e=>hfr.block k0 (((ae HT).bytes x hx).1.lt k0 e).2 λ e2=>by
     obtain⟨cur,hc⟩:=own_typed ((ae HT).bytes x hx).1 e;rw [e2,(ae H).blk]at hc;cases hc
   obtain⟨g,rfl,hg,t0,t1⟩:=hTr.cell hlt;rw [List.drop_eq_getElem_cons hlt,List.map_cons]at hoks hfold;obtain⟨⟨i,hpi,hi3,hui,hone,hkn⟩,hoks'⟩:=hoks;have hi:i<stk.length:=by rw [hS.len];exact hi3
   have hbyt:=hTr.bytes T[k] (ej hlt)
   have hupi:stk[i].up=true:=by
    rw [<-hups,List.getD_eq_getElem?_getD,List.getElem?_map,gW hi]at hui;exact hui
   have u0:wr.cell? ⟨hb,3+i,none⟩=some (.bool true):=(ag hS.blk).trans (by rw [hS.up i hi,hupi]);have hpi':T[k].peer=(i:Int):=hpi;rw [hpi']at t0;have iz0:(0:Int)<=(i:Int):=by omega
   have iz3:(i:Int)<3:=by omega
   have p0:¬((i:Int)<0):=by omega
   have p1:¬((2:Int)<(i:Int)):=by omega
   obtain⟨X,hX⟩:∃ X,X=T[k]:=⟨_,rfl⟩
   rw [<-hX]at t1 hbyt hoks' hfold hone hkn;obtain⟨xp,m,bv⟩:=X;have hpi2:xp=(i:Int):=by rw [<-hpi',<-hX]
   subst hpi2;dsimp only [yy]at t1 hbyt hoks' hfold hone hkn;obtain⟨bq,bc,rfl⟩:=aI hbyt.1;have hmo:=hbyt.2
   have hbelr:Below w0.heap.size w0 wr:=by
    have hb0:=ae NA;have hlo:=hS.lo;rw [ae HN]at hb0 hlo;exact⟨hfr.os.trans hb0.os,hfr.tape.trans hb0.tape,hfr.output.trans hb0.output,gG hb0.size hfr.size,λ k0 hk0=>(hfr.block k0 (by have:=hb0.size;omega) (by omega)).trans (hb0.block k0 hk0)⟩
   have UA:=af ((ae HD) wr _ (jv m) hbelr (dK.at_ hbyt.1 (EF hmo) (by have:=Ak hmo;omega)));have hdm:cl (jv m)=m:=by unfold cl;rw [sH hmo]
   have hde:lP (jv m)=0:=by unfold lP;rw [sH hmo]
   rw [hdm,hde]at UA;have HS:=af hS;have WA:=af hfr;have JA:=af htab;have KA:=af hups;have IA:=af hrts;have HA:=af hoks';have BA:=af hfold;have GA:=af hlen;have FB:=af hkn;have QA:=af hmo;have HX:=af hX;have lhb:hb<wr.heap.size:=ah hS.blk;clear hX hS hfr htab hups hrts hoks' hfold hlen hkn hmo hbelr hdm hde hTr hbyt hui hpi hpi';go_upto_region 8 with(go_at_call 35;refine(ae UA).mono ?_;rintro e w1 ⟨hb1,vg,vn,vp,vm,rfl,og,on,opp,om,-⟩;obtain⟨q1,k1,rfl⟩:=aI og;obtain⟨q2,k2,rfl⟩:=aI on;obtain⟨q3,k3,rfl⟩:=aI opp;obtain⟨q4,k4,rfl⟩:=aI om;have MA:=af hb1;have OG:=af og;have ON:=af on;have OP:=af opp;have OM:=af om;clear hb1 og on opp om)
   have hnu:=cM w1 (.cells #[.slice q1 m.gone.length k1,.slice q2 m.nets.length k2,.slice q3 m.path.length k3,.slice q4 m.marks.length k4,.int .i64 m.pref,.int .i64 m.med] 87);have hb2:Below w1.heap.size w1 (w1.alloc (.cells #[.slice q1 m.gone.length k1,.slice q2 m.nets.length k2,.slice q3 m.path.length k3,.slice q4 m.marks.length k4,.int .i64 m.pref,.int .i64 m.med] 87)):=(aY _ _).alloc (aL _) _;generalize w1.alloc (.cells #[.slice q1 m.gone.length k1,.slice q2 m.nets.length k2,.slice q3 m.path.length k3,.slice q4 m.marks.length k4,.int .i64 m.pref,.int .i64 m.med] 87)=W2 at hnu hb2 ⊢;have hbW2:Below wr.heap.size wr W2:=(ae MA).trans (hb2.mono (ae MA).size);have lu:w1.heap.size<W2.heap.size:=ah hnu;have a0:W2.cell? ⟨w1.heap.size,0,none⟩=some (.slice q1 m.gone.length k1):=ag hnu;have a1:W2.cell? ⟨w1.heap.size,1,none⟩=some (.slice q2 m.nets.length k2):=ag hnu;have a2:W2.cell? ⟨w1.heap.size,2,none⟩=some (.slice q3 m.path.length k3):=ag hnu;have a3:W2.cell? ⟨w1.heap.size,3,none⟩=some (.slice q4 m.marks.length k4):=ag hnu;have a4:W2.cell? ⟨w1.heap.size,4,none⟩=some (.int .i64 m.pref):=ag hnu;have a5:W2.cell? ⟨w1.heap.size,5,none⟩=some (.int .i64 m.med):=ag hnu;have MB:=af hnu;obtain⟨nx,hnx⟩:∃ nx,(m.gone++m.nets).headD (0,0)=nx:=⟨_,rfl⟩
   obtain⟨gn,hgn⟩:∃ gn,gd m=gn:=⟨_,rfl⟩
   have hgn2:((m.gone.length:Int)==1)=gn:=by rw [<-hgn];unfold gd;rw [Bool.eq_iff_iff];simp;omega
   have NET:(gn=true/\m.gone.length=1/\m.nets.length=0/\∃ g1,q1=some ⟨g1,0,none⟩/\W2.cell? ⟨g1,0,none⟩=some (.int .i64 nx.1)/\W2.cell? ⟨g1,1,none⟩=some (.int .i64 nx.2))\/(gn=false/\m.gone.length=0/\m.nets.length=1/\∃ g1,q2=some ⟨g1,0,none⟩/\W2.cell? ⟨g1,0,none⟩=some (.int .i64 nx.1)/\W2.cell? ⟨g1,1,none⟩=some (.int .i64 nx.2)):=by
    by_cases hgl:m.gone.length=1
    ·refine inl ⟨by rw [<-hgn];unfold gd;rw [hgl];rfl,hgl,by omega,?_⟩;have og:cQ W2 0 (.slice q1 m.gone.length k1) m.gone:=aZ (ay (ae OG) λ k e=>hb2.block k ((ae OG).lt k e).2) (dG _);obtain⟨g1,cur,e1,e2,e3⟩:=pZ og (by omega);have e4:=e3 0 (by omega)
     have e5:m.gone[0]'(by omega)=nx:=by
      rw [<-hnx,<-qT (m.gone++m.nets) (by rw [List.length_append];omega),List.getElem_append_left]
     rw [e5]at e4;exact⟨g1,e1,(ag e2).trans e4.1,(ag e2).trans e4.2⟩
    refine inr ⟨by rw [<-hgn];unfold gd;rw [Cf hgl],by omega,by omega,?_⟩;have og:cQ W2 0 (.slice q2 m.nets.length k2) m.nets:=aZ (ay (ae ON) λ k e=>hb2.block k ((ae ON).lt k e).2) (dG _);obtain⟨g1,cur,e1,e2,e3⟩:=pZ og (by omega);have e4:=e3 0 (by omega);have e0:m.gone=[]:=List.length_eq_zero_iff.1 (by omega)
    have e5:m.nets[0]'(by omega)=nx:=by
     rw [<-hnx,e0,List.nil_append,<-qT m.nets (by omega)]
    rw [e5]at e4;exact⟨g1,e1,(ag e2).trans e4.1,(ag e2).trans e4.2⟩
   have DA:=af NET;have hs1:((m.gone.length:Int)+(m.nets.length:Int))=1:=by omega
   have hg1:m.gone.length<=1:=by omega
   have hg2:m.nets.length<=1:=by omega
   have OA:=af hbW2;have LA:Hid (uT m=⟨nx.1,nx.2,m.path,m.marks,m.pref,m.med⟩):=af (by unfold uT;rw [hnx]);have PA:=af hgn;have CB:=af hb2;have lW2:=(ae MA).size;have hwz:wr.heap.size<=W2.heap.size:=hbW2.size;clear NET hnx hgn hnu hbW2 hb2 hone
   go_upto_if 73 with fail
   have hnr:=cM W2 (.cells #[.int .i64 0,.int .i64 0,.slice q3 m.path.length k3,.slice q4 m.marks.length k4,.int .i64 m.pref,.int .i64 m.med] 65);have hb3:Below W2.heap.size W2 (W2.alloc (.cells #[.int .i64 0,.int .i64 0,.slice q3 m.path.length k3,.slice q4 m.marks.length k4,.int .i64 m.pref,.int .i64 m.med] 65)):=(aY _ _).alloc (aL _) _;generalize W2.alloc (.cells #[.int .i64 0,.int .i64 0,.slice q3 m.path.length k3,.slice q4 m.marks.length k4,.int .i64 m.pref,.int .i64 m.med] 65)=W3 at hnr hb3 ⊢;have b0:=(hb3.cell (p:=⟨w1.heap.size,0,none⟩) lu).trans a0;have b1:=(hb3.cell (p:=⟨w1.heap.size,1,none⟩) lu).trans a1;have r0:W3.cell? ⟨W2.heap.size,0,none⟩=some (.int .i64 0):=ag hnr;have r1:W3.cell? ⟨W2.heap.size,1,none⟩=some (.int .i64 0):=ag hnr;have rz:∀ o,W3.frozen? ⟨W2.heap.size,o,none⟩=false:=λ o=>aj hnr
   have lr:W2.heap.size<W3.heap.size:=ah hnr;go_cut [] (λ wc=>wc=(W3.setCell ⟨W2.heap.size,0,none⟩ (.int .i64 nx.1)).setCell ⟨W2.heap.size,1,none⟩ (.int .i64 nx.2))
   case first =>
    rcases ae DA with⟨e1,e2,e3,g1,rfl,e4,e5⟩|⟨e1,e2,e3,g1,rfl,e4,e5⟩
    ·have f4:=(hb3.cell (p:=⟨g1,0,none⟩) (World.block_lt_of_cell? _ _ e4)).trans e4;have f5:=(hb3.cell (p:=⟨g1,1,none⟩) (World.block_lt_of_cell? _ _ e5)).trans e5;have hp1:0<m.gone.length:=by omega
     subst e1;clear e2 e3 e4 e5;go_wp2_with fail
     go_meet
     case rel=>rfl
    have f4:=(hb3.cell (p:=⟨g1,0,none⟩) (World.block_lt_of_cell? _ _ e4)).trans e4;have f5:=(hb3.cell (p:=⟨g1,1,none⟩) (World.block_lt_of_cell? _ _ e5)).trans e5;have hp1:0<m.nets.length:=by omega
    subst e1;clear e2 e3 e4 e5;go_wp2_with fail
    go_meet
    case rel=>rfl
   case rest =>
    rename World=>W4
    have hR4:W4.heap[W2.heap.size]?=some (.cells #[.int .i64 nx.1,.int .i64 nx.2,.slice q3 m.path.length k3,.slice q4 m.marks.length k4,.int .i64 m.pref,.int .i64 m.med] 65 (0,0)):=by
     rw [hcut,aV (aV hnr)];rfl
    have hbW4:Below W2.heap.size W2 W4:=by
     rw [hcut];exact(hb3.setCell (p:=⟨W2.heap.size,0,none⟩) (aL _) _).setCell (p:=⟨W2.heap.size,1,none⟩) (aL _) _
    have lr4:W2.heap.size<W4.heap.size:=ah hR4;have lu4:w1.heap.size<W4.heap.size:=by omega
    have b04:=(hbW4.cell (p:=⟨w1.heap.size,0,none⟩) lu).trans a0;have hb14:Below wr.heap.size wr W4:=(ae OA).trans (hbW4.mono hwz);have hS4:=(ae HS).below hb14;obtain⟨vv,ev,tv⟩:=hS4.view i hi;obtain⟨vq,vc,rfl⟩:=al tv;have hvrow:=hS4.rows stk[i] (ej hi);have hvlen:=(hS4.few stk[i] (ej hi)).2
    have hm4:W4.ownsRow 0 3 1 (.slice q3 m.path.length k3) m.path.length (aB m.path)/\W4.ownsRow 0 3 1 (.slice q4 m.marks.length k4) m.marks.length (aB m.marks):=by
     have hb24:Below w1.heap.size w1 W4:=(ae CB).trans (hbW4.mono (by omega));exact⟨aZ (ay (ae OP) λ k e=>hb24.block k ((ae OP).lt k e).2) (dG _),aZ (ay (ae OM) λ k e=>hb24.block k ((ae OM).lt k e).2) (dG _)⟩
    have IB:=af hS4;have AA:=af hb14;have AB:=af tv;have KB:=af (λ y hy=>hvrow y (inr hy));have EA:=af hm4;have HB:=af hR4;have EB:=af ev;clear hcut hS4 hb14 tv hvrow hm4 hbW4 hR4 hnr hb3 b0 b1 r0 r1 rz a0 a1 a2 a3 a4 a5 u0 t0 t1 ev;have lhb4:hb<W4.heap.size:=by omega
    go_wp2
    go_loopw [10,11] (λ kn kk wx=>∃ j:Nat,j<=stk[i].view.length/\kk=.int .i64 j/\kn=.bool (jw ((stk[i].view.take j).map (·.r)) ⟨nx.1,nx.2,m.path,m.marks,m.pref,m.med⟩ gn)/\Below W4.heap.size W4 wx) (λ _ kk _=>stk[i].view.length-(intOf kk).toNat)
    case atStart=>exact⟨0,dG _,rfl,rfl,aY _ _⟩
    case round =>
     rename World=>wx
     obtain⟨j,hj,rfl,rfl,hbx⟩:=hrel;have hSx:=(ae IB).below hbx;have c9:wx.cell? ⟨hb,9+i,none⟩=some (.slice vq stk[i].view.length vc):=(ag hSx.blk).trans (ae EB);have lhx:hb<wx.heap.size:=ah hSx.blk;have hRx:=(hbx.block _ lr4).trans (ae HB);have lrx:W2.heap.size<wx.heap.size:=ah hRx;have bux:=(hbx.cell (p:=⟨w1.heap.size,0,none⟩) lu4).trans b04;have lux:w1.heap.size<wx.heap.size:=by have:=hbx.size;omega
     have CA:=af hbx;by_cases hjl:j<stk[i].view.length
     ·have tvx:=(ae AB).below hbx;obtain⟨g2,rfl,hg2,_⟩:=tvx.atG (by omega);have hyr:=(ae KB _ (ej hjl))
      have hyx:=hyr.1.below hbx;have TA:Hid (∀ W':World,Below wx.heap.size wx W'->W'.cell? ⟨hb,9+i,none⟩=some (.slice (some ⟨g2,0,none⟩) stk[i].view.length vc)/\W'.cell? ⟨g2,j*6,none⟩=some (.int .i64 stk[i].view[j].r.addr)/\W'.cell? ⟨g2,j*6+1,none⟩=some (.int .i64 stk[i].view[j].r.len)/\W'.cell? ⟨g2,j*6+2,none⟩=some (.slice stk[i].view[j].pq stk[i].view[j].r.path.length stk[i].view[j].pc)/\W'.cell? ⟨g2,j*6+3,none⟩=some (.slice stk[i].view[j].mq stk[i].view[j].r.marks.length stk[i].view[j].mc)/\W'.cell? ⟨g2,j*6+4,none⟩=some (.int .i64 stk[i].view[j].r.pref)/\W'.cell? ⟨g2,j*6+5,none⟩=some (.int .i64 stk[i].view[j].r.med)/\W'.cell? ⟨W2.heap.size,0,none⟩=some (.int .i64 nx.1)/\W'.cell? ⟨W2.heap.size,1,none⟩=some (.int .i64 nx.2)/\W'.cell? ⟨W2.heap.size,2,none⟩=some (.slice q3 m.path.length k3)/\W'.cell? ⟨W2.heap.size,3,none⟩=some (.slice q4 m.marks.length k4)/\W'.cell? ⟨W2.heap.size,4,none⟩=some (.int .i64 m.pref)/\W'.cell? ⟨W2.heap.size,5,none⟩=some (.int .i64 m.med)):=af (λ W' hW=>⟨(hW.cell (p:=⟨hb,9+i,none⟩) lhx).trans c9,(hW.cell (p:=⟨g2,_,none⟩) hg2).trans (tvx.cell hjl (i:=0) (by decide)),(hW.cell (p:=⟨g2,_,none⟩) hg2).trans (tvx.cell hjl (i:=1) (by decide)),(hW.cell (p:=⟨g2,_,none⟩) hg2).trans (tvx.cell hjl (i:=2) (by decide)),(hW.cell (p:=⟨g2,_,none⟩) hg2).trans (tvx.cell hjl (i:=3) (by decide)),(hW.cell (p:=⟨g2,_,none⟩) hg2).trans (tvx.cell hjl (i:=4) (by decide)),(hW.cell (p:=⟨g2,_,none⟩) hg2).trans (tvx.cell hjl (i:=5) (by decide)),(hW.cell (p:=⟨W2.heap.size,0,none⟩) lrx).trans (ag hRx),(hW.cell (p:=⟨W2.heap.size,1,none⟩) lrx).trans (ag hRx),(hW.cell (p:=⟨W2.heap.size,2,none⟩) lrx).trans (ag hRx),(hW.cell (p:=⟨W2.heap.size,3,none⟩) lrx).trans (ag hRx),(hW.cell (p:=⟨W2.heap.size,4,none⟩) lrx).trans (ag hRx),(hW.cell (p:=⟨W2.heap.size,5,none⟩) lrx).trans (ag hRx)⟩);have hmx4:=ae EA
      have hin:aA wx (.slice q3 m.path.length k3) m.path/\aA wx (.slice q4 m.marks.length k4) m.marks:=by
       have h1:=(ae QA).2.1;have h2:=(ae QA).2.2.1;exact⟨(aA.own hmx4.1 (xl h1) (by have:=h1.1;omega)).below hbx,(aA.own hmx4.2 (us h2) (by have:=h2.1;omega)).below hbx⟩
      have SR:=af (λ(W':World) (hW:Below wx.heap.size wx W')=>kJ stk[i].view[j].r ⟨nx.1,nx.2,m.path,m.marks,m.pref,m.med⟩ _ _ _ _ W' ((hyx.below hW).ints hyr.2).1 ((hyx.below hW).ints hyr.2).2 (hin.1.below hW) (hin.2.below hW));have KS:=af (Dd ((stk[i].view.take j).map (·.r)) stk[i].view[j].r ⟨nx.1,nx.2,m.path,m.marks,m.pref,m.med⟩ gn);have KT:=af (show(stk[i].view.take (j+1)).map (·.r)=(stk[i].view.take j).map (·.r)++[stk[i].view[j].r]by rw [List.take_succ_eq_append_getElem hjl,List.map_append];rfl);obtain⟨nb,HC,hnb⟩:∃ c:Bool,(∀ W:World,Calls prog 21 #[.agg #[.int .i64 stk[i].view[j].r.addr,.int .i64 stk[i].view[j].r.len],.agg #[.int .i64 nx.1,.int .i64 nx.2]] W λ e w'=>e=.returned (.bool c)/\Below W.heap.size W w')/\decide (stk[i].view[j].r.net=(nx.1,nx.2))=c:=⟨decide (stk[i].view[j].r.net=(nx.1,nx.2)),λ W=>jr stk[i].view[j].r.net (nx.1,nx.2) W,rfl⟩
      obtain⟨sv,hsv⟩:∃ sv,fl stk[i].view[j].r ⟨nx.1,nx.2,m.path,m.marks,m.pref,m.med⟩=sv:=⟨_,rfl⟩
      rw [hsv]at SR;rw [o4]at hsv;have XA:=af hnb;have YA:=af hsv;have VA:=af HC;obtain⟨kn,hkn⟩:∃ kn,jw ((stk[i].view.take j).map (·.r)) ⟨nx.1,nx.2,m.path,m.marks,m.pref,m.med⟩ gn=kn:=⟨_,rfl⟩
      have FA:=af hkn;rw [hkn];have hmx:prog.follows .mixedOrders=true:=by kernel_rfl
      generalize stk[i].view[j]=Y at *;clear hyr hyx hnb hsv hkn HC tvx hSx hRx hbx hin hmx4;go_upto_region 18 with fail
      have HT:Hid (Below wx.heap.size wx wx.drew):=af (aY _ _).drew
      go_region_held3 (λ W'=>W'.cell? ⟨hb,9+i,none⟩=some (.slice (some ⟨g2,0,none⟩) stk[i].view.length vc)/\W'.cell? ⟨g2,j*6,none⟩=some (.int .i64 Y.r.addr)/\W'.cell? ⟨g2,j*6+1,none⟩=some (.int .i64 Y.r.len)/\W'.cell? ⟨g2,j*6+2,none⟩=some (.slice Y.pq Y.r.path.length Y.pc)/\W'.cell? ⟨g2,j*6+3,none⟩=some (.slice Y.mq Y.r.marks.length Y.mc)/\W'.cell? ⟨g2,j*6+4,none⟩=some (.int .i64 Y.r.pref)/\W'.cell? ⟨g2,j*6+5,none⟩=some (.int .i64 Y.r.med)/\W'.cell? ⟨W2.heap.size,0,none⟩=some (.int .i64 nx.1)/\W'.cell? ⟨W2.heap.size,1,none⟩=some (.int .i64 nx.2)/\W'.cell? ⟨W2.heap.size,2,none⟩=some (.slice q3 m.path.length k3)/\W'.cell? ⟨W2.heap.size,3,none⟩=some (.slice q4 m.marks.length k4)/\W'.cell? ⟨W2.heap.size,4,none⟩=some (.int .i64 m.pref)/\W'.cell? ⟨W2.heap.size,5,none⟩=some (.int .i64 m.med)) (first|(with_reducible exact ae TA _ (ae HT))) (first
       | (go_at_call 21;refine(ae VA _).mono ?_;clear VA;rintro e w6 ⟨rfl,hg6⟩;replace HT:=af ((ae HT).trans (hg6.mono (ae HT).size));clear hg6))
      rename World=>w5
      go_upto_region 19 with fail
      replace HT:Hid (Below wx.heap.size wx w5.drew):=af (ae HT).drew
      go_region_held3 (λ W'=>W'.cell? ⟨hb,9+i,none⟩=some (.slice (some ⟨g2,0,none⟩) stk[i].view.length vc)/\W'.cell? ⟨g2,j*6,none⟩=some (.int .i64 Y.r.addr)/\W'.cell? ⟨g2,j*6+1,none⟩=some (.int .i64 Y.r.len)/\W'.cell? ⟨g2,j*6+2,none⟩=some (.slice Y.pq Y.r.path.length Y.pc)/\W'.cell? ⟨g2,j*6+3,none⟩=some (.slice Y.mq Y.r.marks.length Y.mc)/\W'.cell? ⟨g2,j*6+4,none⟩=some (.int .i64 Y.r.pref)/\W'.cell? ⟨g2,j*6+5,none⟩=some (.int .i64 Y.r.med)/\W'.cell? ⟨W2.heap.size,0,none⟩=some (.int .i64 nx.1)/\W'.cell? ⟨W2.heap.size,1,none⟩=some (.int .i64 nx.2)/\W'.cell? ⟨W2.heap.size,2,none⟩=some (.slice q3 m.path.length k3)/\W'.cell? ⟨W2.heap.size,3,none⟩=some (.slice q4 m.marks.length k4)/\W'.cell? ⟨W2.heap.size,4,none⟩=some (.int .i64 m.pref)/\W'.cell? ⟨W2.heap.size,5,none⟩=some (.int .i64 m.med)) (first|(with_reducible exact ae TA _ (ae HT))) (first
       | (go_at_call 23;refine(ae SR _ (ae HT)).mono ?_;clear SR;rintro e w6 ⟨rfl,hb6⟩;replace HT:=af ((ae HT).trans (hb6.mono (ae HT).size));clear hb6))
      rename World=>w6
      have hb6:=ae HT;have b6:=(hb6.cell (p:=⟨w1.heap.size,0,none⟩) lux).trans bux;have LB:=af hgn2;have SA:Hid ((jw ((stk[i].view.take (j+1)).map (·.r)) ⟨nx.1,nx.2,m.path,m.marks,m.pref,m.med⟩ gn)=(kn||(nb&&(sv||gn)))):=af (by rw [ae KT,ae KS,ae FA,<-ae YA,<-ae XA];rfl);have DB:=af ((ae CA).trans (hb6.mono (ae CA).size));have hjn:j+1<=stk[i].view.length:=hjl;clear hb6 KS KT FA YA XA TA HT;cases kn<;>cases nb<;>cases sv
      all_goals (go_wp2;exact⟨⟨j+1,hjn,by go_num,by rw [ae SA];simp,ae DB⟩,by simp [intOf];omega⟩)
     have hje:j=stk[i].view.length:=by omega
     subst hje
     have hkg:jw ((stk[i].view.take stk[i].view.length).map (·.r)) ⟨nx.1,nx.2,m.path,m.marks,m.pref,m.med⟩ gn=gn:=by
      have:=ae FB;rw [kD hi,ae LA,ae PA]at this;rw [List.take_length];exact this
     rw [hkg];clear hkg;have r0:wx.cell? ⟨W2.heap.size,0,none⟩=some (.int .i64 nx.1):=ag hRx;have r1:wx.cell? ⟨W2.heap.size,1,none⟩=some (.int .i64 nx.2):=ag hRx;have r2:wx.cell? ⟨W2.heap.size,2,none⟩=some (.slice q3 m.path.length k3):=ag hRx;have r3:wx.cell? ⟨W2.heap.size,3,none⟩=some (.slice q4 m.marks.length k4):=ag hRx;have r4:wx.cell? ⟨W2.heap.size,4,none⟩=some (.int .i64 m.pref):=ag hRx;have r5:wx.cell? ⟨W2.heap.size,5,none⟩=some (.int .i64 m.med):=ag hRx;have hmx4:=ae EA;have RA:=af hSx;have BB:=af (uk wx.drew n0 (.slice vq stk[i].view.length vc) stk[i].view ⟨⟨nx.1,nx.2,m.path,m.marks,m.pref,m.med⟩,q3,k3,q4,k4⟩ gn (((ae AB).below hbx).below (aY _ _).drew) hvlen);have hmx:prog.follows .mixedOrders=true:=by kernel_rfl
     clear hRx hbx hSx;go_upto_region 23 with fail
     have HT:Hid (Below wx.heap.size wx wx.drew):=af (aY _ _).drew
     go_region_with (first
      | (go_at_call 33;refine(ae BB).mono ?_;clear BB;rintro e w7 ⟨vn,rfl,htn,hb7⟩;obtain⟨qn,cn,rfl⟩:=al htn;have ZA:=af htn;replace HT:=af ((ae HT).trans hb7);have c9n:=(hb7.cell (p:=⟨hb,9+i,none⟩) lhx).trans c9;have fzn:w7.frozen? ⟨hb,9+i,none⟩=false:=aj ((hb7.block _ lhx).trans (ae RA).blk);clear htn hb7))
     all_goals
      have SA:=af (F9 (n:=T.length-(k+1)) (U:=st.map (·.up)) ((ae RA).below (ae HT)) (ae WA) (((ae AA).trans ((ae CA).mono (by have:=(ae AA).size;omega))).trans ((ae HT).mono (by have:=(ae AA).size;have:=(ae CA).size;omega))) (ae JA) (ae KA) (ae IA) hi (ae ZA) (by have:=(ae AA).size;have:=(ae CA).size;exact gG (by omega) (aL wx.heap.size)) (by have:=(ae HS).lo;exact gG (by omega) (aL wx.heap.size))
       (by
        have hbz:=(ae CA).trans ((ae HT).mono (ae CA).size);exact⟨ay (ae EA).1 λ k e=>hbz.block k ((ae EA).1.lt k e).2,ay (ae EA).2 λ k e=>hbz.block k ((ae EA).2.lt k e).2⟩)
       (by
        intro eg;have hn:=Dp (ae QA);rcases ae DA with⟨e1,_⟩|⟨_,e2,e3,_⟩
        ·rw [eg]at e1;cases e1
        ·have hro:=ae LA;have e0:m.gone=[]:=List.length_eq_zero_iff.1 e2;have:=hn (m.nets[0]'(by omega)) (ej _);rw [qT _ (by omega)]at this;rw [<-hro];unfold uT;rw [e0,List.nil_append];exact this)
       (λ p hp=>by have:=ae GA p hp;omega) (ae LA) (ae PA) (ae HA) (ae BA))
      clear RA ZA HT WA JA KA IA HS DA LA PA HA BA GA;go_wp2
      obtain⟨cs',st',h1,h2,h3,h4,h5,h6,h7,h8⟩:=ae SA;exact⟨⟨k+1,cs',st',hlt,by go_num,h1,h2,h3,h4,h5,h6,h7,h8⟩,by simp [intOf];omega⟩
  have hke:k=T.length:=by omega
  subst hke;rw [List.drop_length]at hfold;have HH:=af (show gX n0 wr hb sb ip op csk stk/\Fr (· = hb) w (· = hb) wr/\(∀ k,dJ csk k->dJ cs k\/w.heap.size<=k)/\stk.map (·.up)=st.map (·.up)/\stk.map (·.rts)=st.map (·.rts)/\dI stk=(T.map yy).foldl fg (dI st)from⟨hS,hfr,htab,hups,hrts,hfold⟩);clear hS hfr htab hups hrts hoks hfold hlen;go_wp2
  go_ret;exact⟨rfl,csk,stk,ae HH⟩
