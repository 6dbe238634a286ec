/- part -/
import Derived.Test.YtphhnjljlllnlaaGreatDoorSqK
import Derived.Shelf.SlSortCmp.NoneTotal
set_option maxRecDepth 100000
set_option maxHeartbeats 8000000
namespace Go.Proofs.YtphhnjljlllnlaaGreatDoor
open Go.Proofs.Tryz
open Or
open Go.RowKit Go.Sort
open Go.RowKit Go.Sort Go.Shelf
open Go.RowKit
theorem FK{W:World}{base g cap n k:Nat}{L l:List Kp}{zs:List Value}(h:dg W base (.slice (some ⟨g,0,none⟩) n cap) L)(hI:kN l L k n)(hn:n=l.length)(hz:zs.length=(n-k)*7) :
  (gp l).length=k/\dg (W.setCells g (k*7) zs) base (.slice (some ⟨g,0,none⟩) k cap) (gp l)/\eS W g (W.setCells g (k*7) zs):=by
 have hk:k<n:=hI.lt;have e:L.take k=gp l:=by rw [hI.done,hn,List.take_length]
 have h2:=h.cut (Nat.le_of_lt hk) zs hz;rw [e]at h2;refine⟨?_,h2.1,h2.2⟩;rw [<-e,List.length_take,hI.len];omega
theorem dg.cell2{w:World}{base g cap n:Nat}{l:List Kp}(h:dg w base (.slice (some ⟨g,0,none⟩) n cap) l){k t i:Nat}(hk:k+t<l.length)(hi:i<7):w.cell? ⟨g,k*7+t*7+i,none⟩=(ey l[k+t])[i]?:=by
 rw [<-Nat.add_mul];exact h.cell hk hi
theorem Tryz.zKept:∀ w,(zeroValue 67).run prog w=.ok (.agg #[.int .i64 0,.int .i64 0,.slice none 0 0,.slice none 0 0,.int .i64 0,.int .i64 0,.int .i64 0]) w:=Tryz.zeroValue67
theorem zZ(l:List Kp)(base g cap:Nat)(w:World)(h:dg w base (.slice (some ⟨g,0,none⟩) l.length cap) l)(hl:l.length<=100000) :
  Calls prog 55 #[.slice (some ⟨g,0,none⟩) l.length cap,.func (.func 56) #[] #[]] w λ e w'=>e=.returned (.slice (some ⟨g,0,none⟩) (gp l).length cap)/\dg w' base (.slice (some ⟨g,0,none⟩) (gp l).length cap) (gp l)/\Fr (· = g) w (· = g) w':=by
 have H:=af (λ x y W=>Hc x y W);have hlc:l.length<=cap:=h.block.choose_spec.2.2.2.1;have HK:=af h;clear h;have hmx:prog.follows .mixedOrders=true:=by kernel_rfl
 have eg:∀ args w,(callFunc 56 args).run prog w=.ok (.enter 56 args) w:=enters_of func56 (by kernel_rfl) rfl;by_cases h2:l.length<2
 ·have HC:=af (wG (l:=l) (by omega));go_enter func55,ntmps55;go_wp2
  go_ret;rw [ae HC];exact⟨rfl,ae HK,dw _ _⟩
 go_enter func55,ntmps55;go_wp2
 go_loopw [5] (λ i wr=>∃ k:Nat,0<k/\k<=l.length/\i=.int .i64 k/\gp (l.take k)=l.take k/\bF w wr) (λ i _=>l.length-(intOf i).toNat)
 case atStart=>exact⟨1,by omega,by omega,rfl,wG (by rw [List.length_take];omega),bF.refl _⟩
 case round =>
  obtain⟨k,hk0,hk,rfl,hc,hg⟩:=hrel;by_cases hlt:k<l.length
  ·obtain⟨j,hj⟩:∃ j:Nat,k=j+1:=⟨k-1,by omega⟩
   have hsub:(k:Int)-1=(j:Int):=by omega
   have hjl:j<l.length:=by omega
   have hwj:IntKind.i64.wrap (j:Int)=(j:Int):=by rw [IntKind.wrap_i64];omega
   have hKr:dg wr base (.slice (some ⟨g,0,none⟩) l.length cap) l:=(ae HK).below hg.below;have hgr:g<wr.heap.size:=ah hKr.block.choose_spec.1;have FA:=af hKr;have HG:=af hg;have HC:=af hc;have HJ:=af hj;clear hj hc hg;go_upto_region 6 with fail
   have HC1:=ae H l[k] l[j];obtain⟨c,hcc⟩:∃ c,decide ((l[k].r.addr,l[k].r.len)=(l[j].r.addr,l[j].r.len))=c:=⟨_,rfl⟩
   rw [hcc]at HC1
   have HE:=af (show c=true↔l[k].net=(l[k-1]'(by omega)).net from by
    have e:l[k-1]'(by omega)=l[j]:=by congr 1;have:=ae HJ;omega
    rw [e,<-hcc];exact decide_eq_true_iff)
   clear hcc;have p0:=λ n os=>cell_grown (w:=wr) (a:=⟨g,k*7,none⟩) hgr (hKr.cell hlt (i:=0) (by decide)) n os
   have p1:=λ n os=>cell_grown (w:=wr) (a:=⟨g,k*7+1,none⟩) hgr (hKr.cell hlt (by decide)) n os
   have p2:=λ n os=>cell_grown (w:=wr) (a:=⟨g,k*7+2,none⟩) hgr (hKr.cell hlt (by decide)) n os
   have p3:=λ n os=>cell_grown (w:=wr) (a:=⟨g,k*7+3,none⟩) hgr (hKr.cell hlt (by decide)) n os
   have p4:=λ n os=>cell_grown (w:=wr) (a:=⟨g,k*7+4,none⟩) hgr (hKr.cell hlt (by decide)) n os
   have p5:=λ n os=>cell_grown (w:=wr) (a:=⟨g,k*7+5,none⟩) hgr (hKr.cell hlt (by decide)) n os
   have p6:=λ n os=>cell_grown (w:=wr) (a:=⟨g,k*7+6,none⟩) hgr (hKr.cell hlt (by decide)) n os
   have q0:=λ n os=>cell_grown (w:=wr) (a:=⟨g,j*7,none⟩) hgr (hKr.cell hjl (i:=0) (by decide)) n os
   have q1:=λ n os=>cell_grown (w:=wr) (a:=⟨g,j*7+1,none⟩) hgr (hKr.cell hjl (by decide)) n os
   have q2:=λ n os=>cell_grown (w:=wr) (a:=⟨g,j*7+2,none⟩) hgr (hKr.cell hjl (by decide)) n os
   have q3:=λ n os=>cell_grown (w:=wr) (a:=⟨g,j*7+3,none⟩) hgr (hKr.cell hjl (by decide)) n os
   have q4:=λ n os=>cell_grown (w:=wr) (a:=⟨g,j*7+4,none⟩) hgr (hKr.cell hjl (by decide)) n os
   have q5:=λ n os=>cell_grown (w:=wr) (a:=⟨g,j*7+5,none⟩) hgr (hKr.cell hjl (by decide)) n os
   have q6:=λ n os=>cell_grown (w:=wr) (a:=⟨g,j*7+6,none⟩) hgr (hKr.cell hjl (by decide)) n os
   clear hKr;generalize l[k]=x at HC1 p0 p1 p2 p3 p4 p5 p6;generalize l[j]=y at HC1 q0 q1 q2 q3 q4 q5 q6;obtain⟨⟨a0,a1,ap,am,a4,a5⟩,aq,ac,aq2,ac2,a6⟩:=x;obtain⟨⟨b0,b1,bp,bm,b4,b5⟩,bq,bc,bq2,bc2,b6⟩:=y;dsimp only [ey]at HC1 p0 p1 p2 p3 p4 p5 p6 q0 q1 q2 q3 q4 q5 q6;generalize ap.length=n1 at *;generalize am.length=n3 at *;generalize bp.length=n2 at *;generalize bm.length=n4 at *;have DA:=af HC1;clear HC1
   go_quiet_grown ((go_at_fn 56;with_reducible exact Calls.grown_of (ae DA _)))
   dsimp only;have AA:=af ((ae HG).trans ⟨nq,osq,rfl⟩);generalize grow (wr.drewN nq) osq=wq at AA ⊢;clear p0 p1 p2 p3 p4 p5 p6 q0 q1 q2 q3 q4 q5 q6 DA;cases c with
   | false =>
    have KA:=af (show gp (l.take (k+1))=l.take (k+1)from by
     rw [lO hk0 hlt,aG (λ e=>by have:=(ae HE).2 e;cases this),ae HC,List.take_succ_eq_append_getElem hlt])
    clear HE;go_wp2
    go_roundw
    case rel=>exact⟨k+1,by omega,by omega,by simp,ae KA,ae AA⟩
    case measure=>simp [intOf];omega
   | true =>
    have HI:=af (kN.start hk0 hlt (ae HC) ((ae HE).1 rfl));have MA:=af ((ae HK).below (ae AA).below);have LA:Hid (Fr (· = g) w (· = g) wq):=af (Fr.of_below (ae AA).below);have hkc:k<cap:=by omega
    clear HE HC hsub HJ hjl FA HG hgr AA hwj;go_wp2
    obtain⟨N2,hN2⟩:∃ N2,l.length-k=N2:=⟨_,rfl⟩
    have hN3:k+N2<=l.length:=by omega
    have hN4:l.length<=k+N2:=by omega
    rw [hN2];clear hN2;go_loopw [5,7] (λ i i2 wr2=>∃(kk t:Nat) (L:List Kp),i=.int .i64 kk/\i2=.int .i64 t/\0<t/\t<=N2/\kN l L kk (k+t)/\dg wr2 base (.slice (some ⟨g,0,none⟩) l.length cap) L/\Fr (· = g) w (· = g) wr2) (λ _ i2 _=>N2-(intOf i2).toNat)
    case atStart=>exact⟨k,1,l,rfl,rfl,by omega,by omega,ae HI,ae MA,ae LA⟩
    case round =>
     rename World=>wr2
     obtain⟨kk,t,L,rfl,rfl,ht0,htN,hI,hKr,hfr⟩:=hrel;have hLl:=hI.len;have hkk:=hI.lt;by_cases hlt2:t<N2
     ·obtain⟨j,hj⟩:∃ j:Nat,t=j+1:=⟨t-1,by omega⟩
      have hsub:(t:Int)-1=(j:Int):=by omega
      have hwj:IntKind.i64.wrap (j:Int)=(j:Int):=by rw [IntKind.wrap_i64];omega
      have hjl:j<N2:=by omega
      have hltL:k+t<L.length:=by omega
      have hjlL:k+j<L.length:=by omega
      have hgr:g<wr2.heap.size:=ah hKr.block.choose_spec.1;have IA:=af hI;have FA:=af hKr;have EA:=af hfr;have HJ:=af hj;have OA:=af hLl;clear hj hfr hLl;go_upto_region 11 with fail
      have HC1:=ae H L[k+t] L[k+j];obtain⟨c,hcc⟩:∃ c,decide ((L[k+t].r.addr,L[k+t].r.len)=(L[k+j].r.addr,L[k+j].r.len))=c:=⟨_,rfl⟩
      rw [hcc]at HC1;have hmt:k+t<l.length:=by omega
      have HE:=af (show(c=true↔l[k+t].net=(l[k+t-1]'(by omega)).net)/\L[k+t]=l[k+t]from by
       have e1:L[k+t]=l[k+t]:=hI.get hltL (by omega);have e2:L[k+j]=l[k+j]'(by omega):=hI.get hjlL (by have:=ae HJ;omega);have e3:l[k+t-1]'(by omega)=l[k+j]'(by omega):=by congr 1;have:=ae HJ;omega
       refine⟨?_,e1⟩;rw [e3,<-hcc,e1,e2];exact decide_eq_true_iff)
      clear hcc hI;have p0:=λ n os=>cell_grown (w:=wr2) (a:=⟨g,k*7+t*7,none⟩) hgr (hKr.cell2 (l:=L) (k:=k) (t:=t) hltL (i:=0) (by decide)) n os
      have p1:=λ n os=>cell_grown (w:=wr2) (a:=⟨g,k*7+t*7+1,none⟩) hgr (hKr.cell2 (l:=L) (k:=k) (t:=t) hltL (by decide)) n os
      have p2:=λ n os=>cell_grown (w:=wr2) (a:=⟨g,k*7+t*7+2,none⟩) hgr (hKr.cell2 (l:=L) (k:=k) (t:=t) hltL (by decide)) n os
      have p3:=λ n os=>cell_grown (w:=wr2) (a:=⟨g,k*7+t*7+3,none⟩) hgr (hKr.cell2 (l:=L) (k:=k) (t:=t) hltL (by decide)) n os
      have p4:=λ n os=>cell_grown (w:=wr2) (a:=⟨g,k*7+t*7+4,none⟩) hgr (hKr.cell2 (l:=L) (k:=k) (t:=t) hltL (by decide)) n os
      have p5:=λ n os=>cell_grown (w:=wr2) (a:=⟨g,k*7+t*7+5,none⟩) hgr (hKr.cell2 (l:=L) (k:=k) (t:=t) hltL (by decide)) n os
      have p6:=λ n os=>cell_grown (w:=wr2) (a:=⟨g,k*7+t*7+6,none⟩) hgr (hKr.cell2 (l:=L) (k:=k) (t:=t) hltL (by decide)) n os
      have q0:=λ n os=>cell_grown (w:=wr2) (a:=⟨g,k*7+j*7,none⟩) hgr (hKr.cell2 (l:=L) (k:=k) (t:=j) hjlL (i:=0) (by decide)) n os
      have q1:=λ n os=>cell_grown (w:=wr2) (a:=⟨g,k*7+j*7+1,none⟩) hgr (hKr.cell2 (l:=L) (k:=k) (t:=j) hjlL (by decide)) n os
      have q2:=λ n os=>cell_grown (w:=wr2) (a:=⟨g,k*7+j*7+2,none⟩) hgr (hKr.cell2 (l:=L) (k:=k) (t:=j) hjlL (by decide)) n os
      have q3:=λ n os=>cell_grown (w:=wr2) (a:=⟨g,k*7+j*7+3,none⟩) hgr (hKr.cell2 (l:=L) (k:=k) (t:=j) hjlL (by decide)) n os
      have q4:=λ n os=>cell_grown (w:=wr2) (a:=⟨g,k*7+j*7+4,none⟩) hgr (hKr.cell2 (l:=L) (k:=k) (t:=j) hjlL (by decide)) n os
      have q5:=λ n os=>cell_grown (w:=wr2) (a:=⟨g,k*7+j*7+5,none⟩) hgr (hKr.cell2 (l:=L) (k:=k) (t:=j) hjlL (by decide)) n os
      have q6:=λ n os=>cell_grown (w:=wr2) (a:=⟨g,k*7+j*7+6,none⟩) hgr (hKr.cell2 (l:=L) (k:=k) (t:=j) hjlL (by decide)) n os
      clear hKr;generalize hx:L[k+t]=x at HC1 p0 p1 p2 p3 p4 p5 p6 HE;generalize L[k+j]=y at HC1 q0 q1 q2 q3 q4 q5 q6;have JA:=af (ae HE).2;clear hx;obtain⟨X,hX⟩:∃ X,X=x:=⟨_,rfl⟩
      have HX:=af hX;clear hX;obtain⟨⟨a0,a1,ap,am,a4,a5⟩,aq,ac,aq2,ac2,a6⟩:=x;obtain⟨⟨b0,b1,bp,bm,b4,b5⟩,bq,bc,bq2,bc2,b6⟩:=y;dsimp only [ey]at HC1 p0 p1 p2 p3 p4 p5 p6 q0 q1 q2 q3 q4 q5 q6;have EX:=af (show ey X=[.int .i64 a0,.int .i64 a1,.slice aq ap.length ac,.slice aq2 am.length ac2,.int .i64 a4,.int .i64 a5,.int .i64 a6]from by rw [ae HX];rfl);generalize ap.length=n1 at HC1 p2 EX ⊢;generalize am.length=n3 at HC1 p3 EX ⊢;generalize bp.length=n2 at HC1 q2 ⊢;generalize bm.length=n4 at HC1 q3 ⊢;have DA:=af HC1;clear HC1
      go_quiet_grown ((go_at_fn 56;with_reducible exact Calls.grown_of (ae DA _)))
      dsimp only;have z0:=p0 nq osq;have z1:=p1 nq osq;have z2:=p2 nq osq;have z3:=p3 nq osq;have z4:=p4 nq osq;have z5:=p5 nq osq;have z6:=p6 nq osq;have AA:=af (show bF wr2 (grow (wr2.drewN nq) osq)from⟨nq,osq,rfl⟩);generalize grow (wr2.drewN nq) osq=wq2 at AA z0 z1 z2 z3 z4 z5 z6 ⊢;have BA:=af ((ae FA).below (ae AA).below);have HA:=af ((ae EA).below (ae AA).below);clear p0 p1 p2 p3 p4 p5 p6 q0 q1 q2 q3 q4 q5 q6 DA AA FA EA;cases c with
      | true =>
       have GA:=af ((ae IA).skip hmt ((ae HE).1.1 rfl));clear HE z0 z1 z2 z3 z4 z5 z6;go_wp2
       refine⟨⟨kk,t+1,L,rfl,by simp,by omega,by omega,by rw [<-Nat.add_assoc];exact ae GA,ae BA,ae HA⟩,by simp [intOf];omega⟩
      | false =>
       have GA:=af ((ae IA).take hmt (λ e=>by have:=(ae HE).1.2 e;cases this));have hkkl:kk<l.length:=by omega
       have hkL:kk<L.length:=by omega
       have CA:=af ((ae BA).put hkkl X);have y0:wq2.cell? ⟨g,kk*7,none⟩=some (.int .i64 L[kk].r.addr):=(ae BA).cell hkL (i:=0) (by decide);have y1:wq2.cell? ⟨g,kk*7+1,none⟩=some (.int .i64 L[kk].r.len):=(ae BA).cell hkL (by decide);have y2:wq2.cell? ⟨g,kk*7+2,none⟩=some (.slice L[kk].pq L[kk].r.path.length L[kk].pc):=(ae BA).cell hkL (by decide);have y3:wq2.cell? ⟨g,kk*7+3,none⟩=some (.slice L[kk].mq L[kk].r.marks.length L[kk].mc):=(ae BA).cell hkL (by decide);have y4:wq2.cell? ⟨g,kk*7+4,none⟩=some (.int .i64 L[kk].r.pref):=(ae BA).cell hkL (by decide);have y5:wq2.cell? ⟨g,kk*7+5,none⟩=some (.int .i64 L[kk].r.med):=(ae BA).cell hkL (by decide);have y6:wq2.cell? ⟨g,kk*7+6,none⟩=some (.int .i64 L[kk].peer):=(ae BA).cell hkL (by decide)
       have fz:∀ o,wq2.frozen? ⟨g,o,none⟩=false:=λ o=>by
        obtain⟨cur,hb,_⟩:=(ae BA).block;simp [World.frozen?,hb]
       rw [ae EX]at CA;simp only [World.setCells,Nat.add_assoc,Nat.reduceAdd]at CA;have NA:=af (show X=l[k+t]from(ae HX).trans (ae JA));clear HE EX HX JA;go_wp2
       refine⟨⟨kk+1,t+1,L.set kk X,by simp,by simp,by omega,by omega,?_,?_,?_⟩,by simp [intOf];omega⟩
       ·rw [<-Nat.add_assoc,ae NA];exact ae GA
       ·with_reducible exact(ae CA).1
       have hs:=(ae CA).2.fr;exact(ae HA).trans hs
     have hkt:k+t=l.length:=by omega
     rw [hkt]at hI hkk;have hbk:=hKr.block
     have hcl:∀ ty,(Builtin.clear_ #[30] ty #[.slice (some ⟨g,kk*7,none⟩) (l.length-kk) (cap-kk)]).run prog wr2=.ok (.tuple #[]) (wr2.setCells g (kk*7) (Builtin.zeroCells #[.int .i64 0,.int .i64 0,.slice none 0 0,.slice none 0 0,.int .i64 0,.int .i64 0,.int .i64 0] (l.length-kk)).toList):=λ ty=>by
      obtain⟨cur,hb1,_,_,hlc2,_,hsz,_⟩:=hbk;have hm:(l.length-kk)*7=l.length*7-kk*7:=Nat.sub_mul ..;have hm2:l.length*7<=cap*7:=Nat.mul_le_mul_right 7 hlc2;have hm3:kk*7<=l.length*7:=Nat.mul_le_mul_right 7 (Nat.le_of_lt hkk)
      exact mI wr2 _ _ ty _ underlying30 Tryz.zKept (by simp [Value.cells]) (by simp [Value.cells,Value.oneCell']) g (kk*7) (l.length-kk) (cap-kk) (by omega)
       (λ j hj=>by simp [Value.cells]at hj;rw [ag hb1,Array.getElem?_eq_getElem (by omega)];rfl) (λ j hj=>by simp [World.frozen?,hb1])
     have CA:=af (FK hKr hI rfl (zs:=(Builtin.zeroCells #[.int .i64 0,.int .i64 0,.slice none 0 0,.slice none 0 0,.int .i64 0,.int .i64 0,.int .i64 0] (l.length-kk)).toList) (by rw [nF];rfl));have EA:=af hfr;have hkc2:kk<cap:=by omega
     generalize wr2.setCells g (kk*7) (Builtin.zeroCells #[.int .i64 0,.int .i64 0,.slice none 0 0,.slice none 0 0,.int .i64 0,.int .i64 0,.int .i64 0] (l.length-kk)).toList=W9 at hcl CA;clear hI hKr hfr hbk;go_wp2
     go_ret;obtain⟨f1,f2,f3⟩:=ae CA;rw [f1];exact⟨rfl,f2,(ae EA).trans f3.fr⟩
  have hke:k=l.length:=by omega
  subst hke;rw [List.take_length]at hc;have HC:=af hc;have HG:=af hg;clear hc hg;go_wp2
  go_ret;rw [ae HC];exact⟨rfl,(ae HK).below (ae HG).below,Fr.of_below (ae HG).below⟩
abbrev Oy:Inhabited Kp:=⟨⟨⟨0,0,[],[],0,0⟩,none,0,none,0,0⟩⟩
def o7(l:List Kp):List Kp:=@r8 Oy l
def cX(ps:List (List Rv)):List Kp:=gp (o7 (gl 0 ps))
theorem fo(l:List Kp):(o7 l).Perm l/\Fm (o7 l):=@r9 Oy l
theorem zP{w W W':World}{v:Value}(hb:Below w.heap.size w W)(hf:Fr (λ k=>v.ownBlock=some k) W (λ k=>v.ownBlock=some k) W')(hv:∀ k,v.ownBlock=some k->w.heap.size<=k):Below w.heap.size w W' :=
 ⟨hf.os.trans hb.os,hf.tape.trans hb.tape,hf.output.trans hb.output,gG hb.size hf.size,λ k hk=>(hf.block k (gY hk hb.size) λ e=>by have:=hv k e;omega).trans (hb.block k hk)⟩
theorem Kl(w:World)(base:Nat)(v:Value)(l:List Kp)(h:dg w base v l)(hl:l.length<=100000) :
  Calls prog 53 #[v,.func (.func 54) #[] #[]] w λ e w'=>e=.returned (.tuple #[])/\dg w' base v (o7 l)/\Fr (λ k=>v.ownBlock=some k) w (λ k=>v.ownBlock=some k) w':=by
 rcases Ic l.length with h0|h0
 ·have hl0:l=[]:=List.length_eq_zero_iff.1 h0;subst hl0;have e:o7 []=[]:=List.length_eq_zero_iff.1 (by have:=(fo []).1.length_eq;simpa using this);rw [e];obtain⟨q,cap,rfl⟩:=al h;exact(AnyF.slices_SortFunc_none Tryz.shSort q cap _ w).mono λ e w' ⟨he,hw⟩=>⟨he,by rw [hw];exact h,by rw [hw];exact dw _ _⟩
 exact @Hi Oy w base v l h h0 (by omega)
theorem IP(w:World)(base:Nat)(v:Value)(l:List Kp)(h:dg w base v l)(hl:l.length<=100000) :
  Calls prog 55 #[v,.func (.func 56) #[] #[]] w λ e w'=>∃ r,e=.returned r/\dg w' base r (gp l)/\Fr (λ k=>v.ownBlock=some k) w (λ k=>v.ownBlock=some k) w':=by
 obtain⟨_,⟨rfl,h0⟩|⟨g,cap,cur,rfl,_⟩⟩:=id h
 ·have hl0:l=[]:=List.length_eq_zero_iff.1 h0;subst hl0;have HK:=af h;clear h;go_enter func55,ntmps55;go_wp2
  go_ret;exact⟨_,rfl,ae HK,dw _ _⟩
 refine(zZ l base g cap w h hl).mono ?_;rintro e w' ⟨rfl,h1,h2⟩;exact⟨_,rfl,h1,⟨h2.os,h2.tape,h2.output,h2.size,λ k hk hne=>h2.block k hk λ e=>hne (by rw [e];rfl),λ k hk=>inl hk⟩⟩
theorem zQ(w:World)(sb pb base c:Nat)(ps:List (List Rv))(hs:w.cell? ⟨sb,0,none⟩=some (.slice (some ⟨pb,0,none⟩) ps.length c))(hp:xX w pb base ps)(hlb:pb<w.heap.size)(hc:ps.length<=100) :
  Calls prog 38 #[.pointer (some ⟨sb,0,none⟩)] w λ e w'=>∃ r,e=.returned r/\dg w' w.heap.size r (cX ps)/\Below w.heap.size w w':=by
 refine Cx (λ v w'=>dg w' w.heap.size v (o7 (gl 0 ps))/\Below w.heap.size w w'/\(gl 0 ps).length<=100000) (λ v w'=>dg w' w.heap.size v (cX ps)/\Below w.heap.size w w') w sb pb base c ps hs hp hlb hc ?_ ?_
 ·intro wr v h hl hb;refine(Kl wr w.heap.size v _ h hl).mono ?_;rintro e w' ⟨rfl,h1,h2⟩;exact⟨rfl,h1,zP hb h2 λ k e=>(World.ownsRow.lt h k e).1,hl⟩
 rintro wr v ⟨h1,h2,h3⟩;refine(IP wr w.heap.size v _ h1 (by rw [(fo _).1.length_eq];exact h3)).mono ?_;rintro e w' ⟨r,rfl,h4,h5⟩;exact⟨r,rfl,h4,zP h2 h5 λ k e=>(World.ownsRow.lt h1 k e).1⟩
theorem bG.setTab{n0:Nat}{w0 w w':World}{sb pb cap:Nat}{cs:Array Value}{ps:List aW}(h:bG n0 w0 w sb pb cap cs ps){i q:Nat}(hi:i<ps.length)(hq:oU ps.length q)(hqi:q / 7=i){v v':Value}(hv:cs[q]?=some v)
  (hbel:Below n0 w0 w') (hoth:∀ k,k<w.heap.size->k≠pb->v.ownBlock≠some k->w'.heap[k]?=w.heap[k]?) (hblk:w'.heap[pb]?=some (.cells (cs.setIfInBounds q v') 107 (0,0)))
  (hab:∀ q' u,oU ps.length q'->q'≠q->cs[q']?=some u->hZ u v') (p':aW) (e1:p'.p1=ps[i].p1) (e2:p'.s1=ps[i].s1) (e3:p'.p2=ps[i].p2) (e4:p'.s2=ps[i].s2) (e5:p'.up=ps[i].up)
  (hat:(q=i*7+5/\bS w' n0 v' p'.rts/\p'.view=ps[i].view)\/(q=i*7+6/\bS w' n0 v' p'.view/\p'.rts=ps[i].rts)) (hok:(∀ y:Rv,bK w y->bK w' y)->Ck n0 w0 w' p') :
  bG n0 w0 w' sb pb cap (cs.setIfInBounds q v') (ps.set i p'):=by
 obtain⟨lv,htv⟩:=h.tab hq hv
 have hvt:∀ k c T,w.heap[k]?=some (.cells c T (0,0))->T≠65->v.ownBlock≠some k:=λ k c T hk hT e=>by
  obtain⟨cur,hc⟩:=htv.typed e;rw [hk]at hc;cases hc;exact hT rfl
 have hsp:sb≠pb:=λ e=>by have:=h.spk;rw [e,h.blk]at this;cases this
 have hg:∀ q',q'≠q->(cs.setIfInBounds q v')[q']?=cs[q']?:=λ q' hne=>eM (Ne.symm hne)
 have hT:∀ q' u l,oU ps.length q'->q'≠q->cs[q']?=some u->bS w n0 u l->bS w' n0 u l:=λ q' u l hq' hne hu ht=>ht.fr λ k e=>by
  obtain⟨cur,hc⟩:=ht.typed e;exact hoth k (ah hc) (λ e2=>by rw [e2,h.blk]at hc;cases hc) λ e2=>h.apart q' q u v hq' hq hne hu hv k e e2
 have hR:∀ y:Rv,bK w y->bK w' y:=λ y hy=>hy.fr λ k hk ⟨cur,hc⟩=>hoth k hk (λ e2=>by rw [e2,h.blk]at hc;cases hc) (hvt k _ _ hc (by decide))
 have hq1:=hq.1;have hq2:=hq.2;refine⟨hbel,h.n0w,h.lo,?_,hblk,?_,?_,λ j hj=>?_,λ p hp=>?_,λ q1 q2 u u' h1 h2 hqq hu hu'=>?_⟩
 ·rw [hoth sb (ah h.spk) hsp (hvt sb _ _ h.spk (by decide)),List.length_set];exact h.spk
 ·rw [List.length_set,Array.size_setIfInBounds];exact h.room
 ·rw [List.length_set];exact h.few
 ·rw [List.length_set]at hj;have a:=h.at_ j hj;obtain⟨v5,f5,t5⟩:=a.c5;obtain⟨v6,f6,t6⟩:=a.c6;by_cases hij:i=j
  ·subst hij;rw [List.getElem_set_self];rcases hat with⟨rfl,ht,ev⟩|⟨rfl,ht,ev⟩
   ·exact⟨by rw [hg _ (by omega),e1];exact a.c0,by rw [hg _ (by omega),e2];exact a.c1,by rw [hg _ (by omega),e3];exact a.c2,by rw [hg _ (by omega),e4];exact a.c3,by rw [hg _ (by omega),e5];exact a.c4,⟨v',fF hv,ht⟩,⟨v6,(hg _ (by omega)).trans f6,by rw [ev];exact hT _ _ _ ⟨by omega,by omega⟩ (by omega) f6 t6⟩⟩
   exact⟨by rw [hg _ (by omega),e1];exact a.c0,by rw [hg _ (by omega),e2];exact a.c1,by rw [hg _ (by omega),e3];exact a.c2,by rw [hg _ (by omega),e4];exact a.c3,by rw [hg _ (by omega),e5];exact a.c4,⟨v5,(hg _ (by omega)).trans f5,by rw [ev];exact hT _ _ _ ⟨by omega,by omega⟩ (by omega) f5 t5⟩,⟨v',fF hv,ht⟩⟩
  rw [List.getElem_set_ne hij];exact⟨(hg _ (by omega)).trans a.c0,(hg _ (by omega)).trans a.c1,(hg _ (by omega)).trans a.c2,(hg _ (by omega)).trans a.c3,(hg _ (by omega)).trans a.c4,⟨v5,(hg _ (by omega)).trans f5,hT _ _ _ ⟨by omega,by omega⟩ (by omega) f5 t5⟩,⟨v6,(hg _ (by omega)).trans f6,hT _ _ _ ⟨by omega,by omega⟩ (by omega) f6 t6⟩⟩
 ·rcases List.mem_or_eq_of_mem_set hp with hp|rfl
  ·have o:=h.ok p hp;exact⟨o.pin,o.pout,o.gin,o.gout,o.sin,o.sout,o.rise,o.few,o.seen,λ y hy=>⟨hR y (o.rows y hy).1,(o.rows y hy).2⟩,λ y hy=>⟨hR y (o.vrows y hy).1,(o.vrows y hy).2⟩⟩
  exact hok hR
 rw [List.length_set]at h1 h2;by_cases g1:q1=q
 ·have g2:q2≠q:=λ e=>hqq (g1.trans e.symm)
  rw [g1,fF hv]at hu;cases hu
  rw [hg _ g2]at hu';have:=hab q2 u' h2 g2 hu';exact λ k e e2=>this k e2 e
 rw [hg _ g1]at hu;by_cases g2:q2=q
 ·rw [g2,fF hv]at hu';cases hu'
  exact hab q1 u h1 g1 hu
 rw [hg _ g2]at hu';exact h.apart q1 q2 u u' h1 h2 hqq hu hu'
theorem bB.apartOf{n0:Nat}{w0 w w':World}{sb pb cap q:Nat}{cs:Array Value}{ps:List aW}{v v':Value}{l':List Rv}(h:bG n0 w0 w sb pb cap cs ps)(hq:oU ps.length q)(hv:cs[q]?=some v)(ts:bB w n0 pb q cs 107 v w' v' l'):∀ q' u,oU ps.length q'->q'≠q->cs[q']?=some u->hZ u v':=λ q' u hq' hne hu k e e2=>by
 obtain⟨lu,hu2⟩:=h.tab hq' hu;rcases ts.fr.own k (inr e2)with(e3|e3)|e3
 ·exact ts.apart (by rw [e2,e3])
 ·exact h.apart q' q u v hq' hq hne hu hv k e e3
 have:=(World.ownsRow.lt hu2 k e).2;omega
theorem bB.spFr{n0:Nat}{w w':World}{pb q n:Nat}{cs:Array Value}{v v':Value}{l':List Rv}(hq:oU n q)(hv:cs[q]?=some v)(ts:bB w n0 pb q cs 107 v w' v' l'):Fr (dA pb cs n) w (dA pb (cs.setIfInBounds q v') n) w':=by
 refine⟨ts.fr.os,ts.fr.tape,ts.fr.output,ts.fr.size,λ k hk hno=>ts.fr.block k hk λ e=>hno ?_,λ k hk=>?_⟩
 ·rcases e with e|e
  ·exact inl e
  exact inr ⟨q,v,hq,hv,e⟩
 rcases hk with e|⟨q',u,hq',hu,e⟩
 ·exact inl (inl e)
 by_cases hqq:q'=q
 ·rw [hqq,fF hv]at hu;cases hu
  rcases ts.fr.own k (inr e)with(e3|e3)|e3
  ·exact inl (inl e3)
  ·exact inl (inr ⟨q,v,hq,hv,e3⟩)
  exact inr e3
 rw [eM (Ne.symm hqq)]at hu;exact inl (inr ⟨q',u,hq',hu,e⟩)
theorem bG.setRts{n0:Nat}{w0 w w':World}{sb pb cap:Nat}{cs:Array Value}{ps:List aW}(h:bG n0 w0 w sb pb cap cs ps){i:Nat}(hi:i<ps.length){v v':Value}{l':List Rv}(hv:cs[i*7+5]?=some v)(ts:bB w n0 pb (i*7+5) cs 107 v w' v' l')
  (hrise:eo l') (hfew:l'.length<=16) (hrows:∀ y∈l',bK w' y/\dh y.r=true) :
  bG n0 w0 w' sb pb cap (cs.setIfInBounds (i*7+5) v') (ps.set i { ps[i]with rts:=l' })/\Fr (dA pb cs ps.length) w (dA pb (cs.setIfInBounds (i*7+5) v') ps.length) w':=by
 have hq:oU ps.length (i*7+5):=⟨by omega,by omega⟩
 obtain⟨lv,htv⟩:=h.tab hq hv;refine⟨h.setTab hi hq (by omega) hv (ts.belowN htv h.bel h.lo (aL _) h.n0le) (λ k hk h1 h2=>ts.fr.block k hk λ e=>e.elim h1 h2) ts.blk (ts.apartOf h hq hv) { ps[i]with rts:=l' } rfl rfl rfl rfl rfl (inl ⟨rfl,ts.tab,rfl⟩) λ hR=>?_,ts.spFr hq hv⟩;have o:=h.ok ps[i] (ej hi);exact⟨o.pin,o.pout,o.gin,o.gout,o.sin,o.sout,hrise,hfew,o.seen,hrows,λ y hy=>⟨hR y (o.vrows y hy).1,(o.vrows y hy).2⟩⟩
theorem bB.nil{n0:Nat}{w:World}{pb q:Nat}{cs:Array Value}{v:Value}(hb:w.heap[pb]?=some (.cells cs 107 (0,0))):bB w n0 pb q cs 107 v (w.setCell ⟨pb,q,none⟩ (.slice none 0 0)) (.slice none 0 0) [] :=
 ⟨⟨rfl,rfl,rfl,by simp [World.setCell],λ k _ hno=>ai λ e=>hno (inl e),λ k hk=>inl (hk.imp id λ e=>by cases e)⟩,dm hb,i7 _ _ _ _,λ e=>by cases e⟩
theorem bG.setView{n0:Nat}{w0 w:World}{sb pb cap:Nat}{cs:Array Value}{ps:List aW}(h:bG n0 w0 w sb pb cap cs ps){i:Nat}(hi:i<ps.length){v':Value}{l':List Rv}(ht:bS w n0 v' l')(hfresh:∀ k,v'.ownBlock=some k->¬dA pb cs ps.length k)(hlen:l'.length<=64)(hrows:∀ y∈l',bK w y/\dh y.r=true) :
  bG n0 w0 (w.setCell ⟨pb,i*7+6,none⟩ v') sb pb cap (cs.setIfInBounds (i*7+6) v') (ps.set i { ps[i]with view:=l' }):=by
 have hq:oU ps.length (i*7+6):=⟨by omega,by omega⟩
 obtain⟨v,hv,htv⟩:=(h.at_ i hi).c6;refine h.setTab hi hq (by omega) hv (h.bel.trans ((aY _ _).setCell (p:=⟨pb,i*7+6,none⟩) h.lo _)) (λ k hk h1 h2=>ai h1) (dm h.blk) (λ q' u hq' hne hu k e e2=>hfresh k e2 (inr ⟨q',u,hq',hu,e⟩)) { ps[i]with view:=l' } rfl rfl rfl rfl rfl (inr ⟨rfl,ht.fr λ k e=>ai λ e2=>hfresh k e (inl e2),rfl⟩) λ hR=>?_
 have o:=h.ok ps[i] (ej hi);exact⟨o.pin,o.pout,o.gin,o.gout,o.sin,o.sout,o.rise,o.few,hlen,λ y hy=>⟨hR y (o.rows y hy).1,(o.rows y hy).2⟩,λ y hy=>⟨hR y (hrows y hy).1,(hrows y hy).2⟩⟩
theorem Tryz.infoByteW:(prog.info? 5).map (λ i=>(i.zero,i.size,i.bytes))=some (some (.int .u8 0),1,1):=by kernel_rfl
theorem dK.made{w:World}{base:Nat}{l:List Int}(hb:base<=w.heap.size)(hl:l.length<=1000):dK (w.alloc (.cells (l.map (Value.int .u8)).toArray 5)) base (.slice (some ⟨w.heap.size,0,none⟩) l.length l.length) l:=by
 refine⟨by simp,inr ⟨w.heap.size,l.length,(l.map (Value.int .u8)).toArray,rfl,hb,cM _ _,aL _,by simp [maxLen];omega,by simp,by simpa using List.take_of_length_le (l:=l.map (Value.int .u8)) (by simp)⟩⟩
theorem dK.next{w w':World}{base:Nat}{v:Value}{l:List Int}(h:dK w base v l)(hb:Below w.heap.size w w'):dK w' base v l:=ay h (λ k hk=>hb.block k (h.lt k hk).2)
theorem dK.base{w:World}{base b2:Nat}{v:Value}{l:List Int}(h:dK w base v l)(hb:b2<=base):dK w b2 v l:=aZ h hb
theorem dK.join{w:World}{base:Nat}{v:Value}{a b:List Int}{n m:Nat}(hn:n=a.length)(hm:m=b.length)(h:w.ownsRow base 5 1 v (n+m) (a.map (Value.int .u8)++b.map (Value.int .u8))):dK w base v (a++b):=by
 subst hn hm;unfold dK;rw [List.map_append,List.length_append];exact h
theorem yL(l:List Int):∀ u∈l.map (Value.int .u8),u.oneCell'=true:=by
 intro u hu;obtain⟨x,_,rfl⟩:=List.mem_map.1 hu
 rfl
theorem Bi{w:World}{x:Value}{m:Nat}{news:List Value}(h:eP w x m news):∃ q c,x=.slice q m c:=by
 rcases h with⟨rfl,rfl,_⟩|⟨ad,c,rfl,_⟩
 ·exact⟨_,_,rfl⟩
 exact⟨_,_,rfl⟩
theorem JW{w:World}{base g cap n:Nat}{l:List Int}(h:dK w base (.slice (some ⟨g,0,none⟩) l.length cap) l)(hn:n<=l.length)(c:Nat):eP w (.slice (some ⟨g,0,none⟩) n c) n ((l.take n).map (Value.int .u8)):=by
 refine inr ⟨_,_,rfl,λ j u hj=>h.cells rfl j u ?_⟩;rw [List.map_take]at hj
 have hlt:j<n:=by
  rcases Nat.lt_or_ge j n with h1|h1
  ·exact h1
  rw [List.getElem?_eq_none (by simp;omega)]at hj;cases hj
 rwa [List.getElem?_take_of_lt hlt]at hj
theorem Dt(l:List (Int×Int))(x:Int×Int):cJ (l++[x])=cJ l++pW x:=by simp [cJ]
theorem cd.reads{w:World}{v:Value}{l:List (Int×Int)}(h:cd w v l):eP w v l.length (bu l):=by
 obtain⟨p,c,rfl,hcap,hl,hin,hr⟩:=h;rcases hr with⟨rfl,hp⟩|⟨b,o,rfl,hb,hc⟩
 ·cases p with
  | none=>have:=hp rfl;subst this;exact inl ⟨rfl,rfl,rfl⟩
  | some a=>exact inr ⟨a,c,rfl,λ j u hj=>by simp [bu]at hj⟩
 refine inr ⟨_,_,rfl,λ j u hj=>?_⟩
 have hjl:j<l.length*2:=by
  rcases Nat.lt_or_ge j (l.length*2)with h1|h1
  ·exact h1
  rw [List.getElem?_eq_none (by rw [lV];exact h1)]at hj;cases hj
 have hadd:(⟨b,o,none⟩:Addr).add j=⟨b,o+j,none⟩:=by unfold Addr.add;split<;>simp_all
 rw [hadd];have hq:j / 2<l.length:=by omega
 obtain⟨e1,e2⟩:=jL l (j / 2) hq;obtain⟨c1,c2⟩:=hc (j / 2) hq;rcases(by omega:j=2*(j / 2)\/j=2*(j / 2)+1)with hj2|hj2
 ·rw [<-hj2]at e1;rw [e1]at hj;cases hj;rw [<-c1];congr 1;simp only [Addr.mk.injEq,and_true,true_and];omega
 rw [<-hj2]at e2;rw [e2]at hj;cases hj;rw [<-c2];congr 1;simp only [Addr.mk.injEq,and_true,true_and];omega
theorem EZ(l:List (Int×Int)):∀ u∈bu l,u.oneCell'=true:=by
 intro u hu;obtain⟨x,_,hx⟩:=List.mem_flatMap.1 hu;simp only [List.mem_cons,List.not_mem_nil,or_false]at hx;rcases hx with rfl|rfl<;>rfl
theorem ss(a b:List (Int×Int)):bu (a++b)=bu a++bu b:=by simp [bu]
def eH(l:List (Int×Int)):Bool:=decide (kI l)
theorem l6{l:List (Int×Int)}(h:20<l.length):eH l=false:=by
 unfold eH;simp only [decide_eq_false_iff_not];intro h2;have:=h2.1;omega
theorem AM{l:List (Int×Int)}{k:Nat}(hk:k<l.length)(h:fA l[k]=false):eH l=false:=by
 unfold eH;simp only [decide_eq_false_iff_not];intro h2;have:=h2.2.1 l[k] (ej _);unfold fA at h;simp only [decide_eq_false_iff_not]at h;exact h this
theorem vT{l:List (Int×Int)}{k j:Nat}(hk:k<l.length)(hj:j<k)(h:l[k]=l[j]):eH l=false:=by
 unfold eH;simp only [decide_eq_false_iff_not];intro h2;have:=(List.getElem_inj (h₀:=hk) (h₁:=by omega) h2.2.2).1 h;omega
theorem sw{l:List (Int×Int)}{k:Nat}(hk:k<l.length)(h:(l.take k).Nodup)(hn:l[k] ∉ l.take k):(l.take (k+1)).Nodup:=by
 rw [List.take_succ_eq_append_getElem hk,List.nodup_append];refine⟨h,by simp,λ a ha b hb=>?_⟩;simp only [List.mem_singleton]at hb;subst hb;intro e;subst e;exact hn ha
theorem AL{l:List (Int×Int)}{k:Nat}(hlen:l.length<=20)(hk:l.length<=k)(h1:∀ x∈l.take k,dX x)(h2:(l.take k).Nodup):eH l=true:=by
 rw [List.take_of_length_le hk]at h1 h2;unfold eH;simp only [decide_eq_true_eq];exact⟨hlen,h1,h2⟩
theorem Tryz.infoNetW:(prog.info? 63).map (λ i=>(i.zero,i.size,i.bytes))=some (some (.agg #[.int .i64 0,.int .i64 0]),2,16):=by kernel_rfl
theorem cQ.nextW{w w':World}{base:Nat}{v:Value}{l:List (Int×Int)}(h:cQ w base v l)(hb:Below w.heap.size w w'):cQ w' base v l:=ay h (λ k hk=>hb.block k (h.lt k hk).2)
theorem cQ.cellW{w:World}{base:Nat}{q:Option Addr}{c:Nat}{l:List (Int×Int)}(h:cQ w base (.slice q l.length c) l){j:Nat}(hj:j<l.length) :
  ∃ g,q=some ⟨g,0,none⟩/\base<=g/\g<w.heap.size/\∀ i,(hi:i<l.length)->w.cell? ⟨g,i*2,none⟩=some (.int .i64 l[i].1)/\w.cell? ⟨g,i*2+1,none⟩=some (.int .i64 l[i].2):=by
 have hk:=h;rcases h.2 with⟨h1,h2⟩|⟨g,cap,cur,hv,hb,hg,hn,hm,hs,ht⟩
 ·omega
 cases hv
 refine⟨g,rfl,hb,ah hg,λ i hi=>?_⟩;obtain⟨e1,e2⟩:=jL l i hi;have h3:=hk.cells (g:=g) rfl _ _ e1;have h4:=hk.cells (g:=g) rfl _ _ e2;rw [mO]at h3 h4;rw [Nat.mul_comm i 2];exact⟨h3,h4⟩
def jx(u:fI):Bool:=decide (eW u)
theorem Gu{u:fI}(h:¬eW u):jx u=false:=by unfold jx;exact Cf h
theorem Og:dX (0,0):=by decide
theorem dF{w:World}{b:Nat}{vg vn vp vm:Value}{pref med:Int}(h:w.heap[b]?=some (.cells #[vg,vn,vp,vm,.int .i64 pref,.int .i64 med] 87 (0,0))) :
  w.cell? ⟨b,0,none⟩=some vg/\w.cell? ⟨b,1,none⟩=some vn/\w.cell? ⟨b,2,none⟩=some vp/\w.cell? ⟨b,3,none⟩=some vm/\w.cell? ⟨b,4,none⟩=some (.int .i64 pref)/\w.cell? ⟨b,5,none⟩=some (.int .i64 med) :=
 ⟨ag h,ag h,ag h,ag h,ag h,ag h⟩
theorem Ca(l:List Int)(x:Int):cI (l++[x])=cI l++en x:=by simp [cI]
theorem Cb{l:List Int}{k:Nat}(h:k<l.length):cI (l.take (k+1))=cI (l.take k)++en l[k]:=by
 rw [List.take_succ_eq_append_getElem h,Ca]
theorem xO(l:List Int)(x:Int):bZ (l++[x])=256*bZ l+x:=by simp [bZ,List.foldl_append]
theorem sQ:∀(n:Nat) {l:List Int},aK l->l.length=n->0<=bZ l/\bZ l<256 ^ n:=by
 intro n
 induction n with
 | zero=>intro l _ h;have:l=[]:=List.length_eq_zero_iff.1 h;subst this;simp [bZ]
 | succ n ih =>
  intro l hb h;rcases List.eq_nil_or_concat l with rfl|⟨l',x,rfl⟩
  ·simp at h
  simp only [List.concat_eq_append]at hb h ⊢;rw [cN]at hb;have hx:=hb.2 x (by simp);obtain⟨a,b⟩:=ih hb.1 (by simpa using h);rw [xO,Int.pow_succ];omega
def Nd(w:World)(b o:Nat)(l:List Int):Prop:=b<w.heap.size/\∀ j,(h:j<l.length)->w.cell? ⟨b,o+j,none⟩=some (.int .u8 l[j])
theorem aX.empty(w:World)(a:Addr)(c:Nat):aX w (.slice (some a) 0 c) []:=⟨_,_,rfl,by simp,by simp,gP,inl ⟨rfl,λ h=>by cases h⟩⟩
def j4(b:List Int):Option (List Int×List Int×List Int) :=
 if b.length<2 then none else
 if(b.drop 2).length<(bZ (b.take 2)).toNat+2 then none else
 if((b.drop 2).drop ((bZ (b.take 2)).toNat+2)).length<(bZ (((b.drop 2).drop (bZ (b.take 2)).toNat).take 2)).toNat then none else
 some ((b.drop 2).take (bZ (b.take 2)).toNat,((b.drop 2).drop ((bZ (b.take 2)).toNat+2)).take (bZ (((b.drop 2).drop (bZ (b.take 2)).toNat).take 2)).toNat,
  ((b.drop 2).drop ((bZ (b.take 2)).toNat+2)).drop (bZ (((b.drop 2).drop (bZ (b.take 2)).toNat).take 2)).toNat)
theorem zo{l:List Int}(hb:aK l)(h:l.length=2):0<=bZ l/\bZ l<65536:=by
 have:=sQ 2 hb h;simpa using this
def ze:Value->Nat|.slice _ n _=>n|_=>0
theorem JX{l:List Int}(h:l.length<=4):(iB l).length=4:=by unfold iB;simp;omega
theorem Mk{l:List Int}(h:aK l):aK (iB l):=by
 unfold iB;refine cN.2 ⟨h,λ x hx=>?_⟩;have:=List.eq_of_mem_replicate hx;omega
theorem BU{n:Int}(h0:0<=n):cE n<=4:=by
 unfold cE;split
 ·omega
 exact(jk ⟨h0,by omega⟩).1
theorem Hy{l:List Int}(h:aK l)(hl:l.length<=4):0<=bZ (iB l)/\bZ (iB l)<=4294967295:=by
 have:=sQ 4 (Mk h) (JX hl);have e:(256:Int) ^ 4=4294967296:=by decide
 omega
theorem Du{l t:List Int}{n:Int}{D:List (Int×Int)}(h:c8 l=(c8 (n::t)).map (λ L=>D++L))(hk:cE n<=t.length) :
  c8 l=(c8 (t.drop (cE n))).map (λ L=>(D++[(bZ (iB (t.take (cE n))),n)])++L):=by
 rw [h,o0,aG (by omega),Option.map_map]
 congr 1
 funext L
 simp
theorem Dv{l t:List Int}{n:Int}{D:List (Int×Int)}(h:c8 l=(c8 (n::t)).map (λ L=>D++L))(hk:t.length<cE n):c8 l=none:=by
 rw [h,o0,aS hk];rfl
theorem cQ.push1{w:World}{base g cap:Nat}{l:List (Int×Int)}{X:Int×Int}(h:w.ownsRow base 63 2 (.slice (some ⟨g,0,none⟩) (l.length+1) cap) (l.length+1) (bu l++[.int .i64 X.1,.int .i64 X.2])):cQ w base (.slice (some ⟨g,0,none⟩) (l.length+1) cap) (l++[X]):=by
 unfold cQ;rw [oG,List.length_append];exact h
def db(w:World):List (Int×Int×Value)->List (Int×Int×List Int)->Prop
 | [],[]=>True
 | a::l,p::m=>(a.1=p.1/\a.2.1=p.2.1/\aX w a.2.2 p.2.2)/\db w l m
 | _,_=>False
theorem db.snoc{w:World}:∀{l:List (Int×Int×Value)} {m:List (Int×Int×List Int)},db w l m->∀{x y:Int} {v:Value} {b:List Int},aX w v b->db w (l++[(x,y,v)]) (m++[(x,y,b)]):=by
 intro l
 induction l with
 | nil =>
  intro m h x y v b hv;cases m with
  | nil=>exact⟨⟨rfl,rfl,hv⟩,trivial⟩
  | cons _ _=>cases h
 | cons a l ih =>
  intro m h x y v b hv;cases m with
  | nil=>cases h
  | cons p m=>exact⟨h.1,ih h.2 hv⟩
theorem db.len{w:World}:∀{l:List (Int×Int×Value)} {m:List (Int×Int×List Int)},db w l m->l.length=m.length:=by
 intro l
 induction l with
 | nil=>intro m h;cases m with|nil=>rfl|cons _ _=>cases h
 | cons a l ih=>intro m h;cases m with|nil=>cases h|cons p m=>simp [ih h.2]
theorem zO{x:List Int}(h0:x≠[])(h:x.length<3):eU x=none:=by
 match x,h0,h with
 | [],h0,_=>exact absurd rfl h0
 | [_],_,_=>rfl
 | [_,_],_,_=>rfl
 | _::_::_::_,_,h=>simp at h;omega
theorem KE{R:List Int}(h:3<=R.length):∃ x y z t,R=x::y::z::t:=by
 match R,h with
 | x::y::z::t,_=>exact⟨x,y,z,t,rfl⟩
 | [],h=>simp at h
 | [_],h=>simp at h
 | [_,_],h=>simp at h
theorem CP{b:List Int}(h:j4 b=none):jt b=.error 6:=by
 match b,h with
 | [],_=>rfl
 | [_],_=>rfl
 | x::y::t,h =>
  unfold j4 at h;rw [aG (by simp)]at h;simp only [List.take_succ_cons,List.take_zero,List.drop_succ_cons,List.drop_zero,nE]at h;simp only [jt];split
  ·rfl
  rename_i c1;rw [aG (by omega)]at h;rw [List.drop_drop]at *;split
  ·rfl
  rename_i c2;exfalso;rw [aG c2]at h;cases h
theorem tN{b g a n:List Int}(h:j4 b=some (g,a,n)):jt b =
  match c8 g,eU a,c8 n with
  | some gone,some l,some there =>
   match cV ⟨fN,0,false,false⟩ l with
   | .error e=>.error e
   | .ok s =>
    if(there≠[]/\¬(s.two=true/\s.five=true))\/(there=[]/\l≠[])then .error 9
    else if kI (gone++there)then .ok { s.u with gone:=gone,nets:=there }else .error 10
  | _,_,_=>.error 6:=by
 match b,h with
 | [],h=>simp [j4]at h
 | [_],h=>simp [j4]at h
 | x::y::t,h =>
  unfold j4 at h;rw [aG (by simp)]at h;simp only [List.take_succ_cons,List.take_zero,List.drop_succ_cons,List.drop_zero,nE]at h;simp only [jt];split at h
  ·cases h
  rename_i c1;split at h
  ·cases h
  rename_i c2;rw [aG c1,aG c2];simp only [Option.some.injEq,Prod.mk.injEq]at h;obtain⟨rfl,rfl,rfl⟩:=h
  rfl
