/- part -/
import Derived.Test.YtgdeeodifnegiaaGreatDoorEqF
set_option maxRecDepth 100000
set_option maxHeartbeats 6400000
namespace Go.Proofs.YtgdeeodifnegiaaGreatDoor
open Go.Proofs.Tryz
open Or
open Go.RowKit
section
variable {s:ByteArray} {ts:List aw}
structure Gu(s:ByteArray)(ts:List aw)(p:rf.PS)(ds:List rf.Df)(r:RS):Prop where
 al:Al s ts p r
 defs:gQ ds r.defs
 nam:r.nam=iA none (Znq [] ds)
 num:r.num=iA none (jg ds)
 ok:∀ d∈ds,Gv d
theorem Ag(L:Lx s ts)(hL:l9 ts)(n g F:Nat):∀(k j:Nat) {p:rf.PS} {r:RS} {ds:List rf.Df} {q:rf.PS×List rf.Df} {r':RS},Gu s ts p ds r->ds.length+j=8->rf.gB s F k p ds=some q->defsW ts n g j r=some r' ->
  De q.1 r'\/Gu s ts q.1 q.2 r'\/(∃ p',Al s ts p' r'/\(am ts r'=5\/am ts r'=6)/\q.1.bad=(p'.next.at_:Int))
 | 0,_,_,_,_,_,_,_,_,h,_=>by cases h
 | k+1,j,p,r,ds,q,r',h,hj,h1,h2=>by
  obtain⟨_,_,_,_,_,_,_,_,_,_,_,_,_,_,_,_,_,_,v19,v20⟩:=fD;have hal:=h.al;rw [rf.gB,hal.isW L rf.nz 1 6 (by decide) v19 rfl,hal.isW L rf.qE 0 5 (by decide) v20 rfl]at h1;by_cases hk:am ts r=5\/am ts r=6
  ·rw [aC (by simp only [Bool.or_eq_true,decide_eq_true_eq];exact hk)]at h1;split at h1
   ·cases h1
   rename_i p1 d e1;cases j with
   | zero =>
    rw [aC (by omega)]at e1;have hb:(rf.aY p).bad=(p.next.at_:Int):=by unfold rf.aY;rw [aC hal.bad]
    have h0:(0:Int)<=(p.next.at_:Int):=Int.natCast_nonneg _;have b1:=J3 s F _ _ (by omega) e1;dsimp only at b1;cases k with
    | zero=>cases h1
    | succ k =>
    rw [rf.gB,bC (by omega),bC (by omega),au (by decide)]at h1;cases h1
    rw [defsW]at h2;cases h2
    exact inr (inr ⟨p,hal,hk,b1.trans hb⟩)
   | succ j =>
    rw [au (by omega)]at e1;rw [defsW]at h2;split at h2
    ·cases h2
    ·rename_i r1 e2;obtain⟨_,hs⟩:=DV L hL n g F hal h.defs hk e1 e2;rcases hs with hde|hs
     ·left;obtain⟨y,y0,y1,y2⟩:=hde;dsimp only at y1 y2;cases k with
      | zero=>cases h1
      | succ k =>
      rw [rf.gB,bC (by omega),bC (by omega),au (by decide)]at h1;cases h1
      exact⟨y,y0,y1,(bp ts y).defsW n g j _ _ y2 h2⟩
     obtain⟨D,hD,hT⟩:=hs.defs;refine Ag L hL n g F k j ⟨hs.al,by rw [hD];exact h.defs.snoc hT,?_,?_,λ x hx=>?_⟩ (by simp;omega) h1 h2
     ·have:=hs.nam;dsimp only at this;rw [this,h.nam,vP,List.nil_append]
     ·have:=hs.num;dsimp only at this;rw [this,h.num,qP]
     rcases List.mem_append.1 hx with hx|hx
     ·exact h.ok x hx
     rw [List.mem_singleton.1 hx];exact hs.ok
    rename_i r1 e2;obtain⟨hz,_⟩:=DV L hL n g F hal h.defs hk e1 e2;cases hz
  rw [au (by simp only [Bool.or_eq_true,decide_eq_true_eq];exact hk)]at h1;cases h1
  have hr:r'=r:=by
   cases j with
   | zero=>rw [defsW]at h2;cases h2;rfl
   | succ j =>
    have e:defW ts n g r=some (r,false):=by
     unfold defW yY;rw [au (by omega),au (by omega),au (by omega)]
    rw [defsW,e]at h2;cases h2;rfl
  subst hr;exact inr (inl h)
def rJ(ts:List aw)(z:RS×List (Option aM)):RS:=if z.2.length=0 then cC ts z.1 else z.1
def xy(ts:List aw)(z:RS×List (Option aM)):RS:=if am ts (rJ ts z)=1 then rJ ts z else cC ts (rJ ts z)
theorem zj{z:RS×List (Option aM)}{a:Int}(h:z.1.syn=some a):(xy ts z).syn=some a:=by
 have C:=bp ts a
 have h1:(rJ ts z).syn=some a:=by
  unfold rJ;split
  ·exact C.fail _ h
  exact h
 unfold xy;split
 ·exact h1
 exact C.fail _ h1
theorem Eh(L:Lx s ts){p:rf.PS}{r:RS}(hal:Al s ts p r):rf.cZ p=decide (7<=am ts r/\am ts r<=14):=by
 obtain⟨v1,v2,v3,v4,v5,v6,v7,v8,v9,v10,v11,_⟩:=fD;obtain⟨w1,w2,_⟩:=fO;unfold rf.cZ rf.aO;simp only [List.any_cons,List.any_nil,Bool.or_false];rw [hal.isW L rf.mZ 2 7 (by decide) v10 rfl,hal.isW L rf.m8 3 8 (by decide) v11 rfl,hal.isW L rf.kh 4 9 (by decide) w1 rfl,hal.isW L rf.pI 5 10 (by decide) w2 rfl,hal.isW L rf.wJ 6 11 (by decide) v7 rfl,hal.isW L rf.m9 7 12 (by decide) v8 rfl,hal.isW L rf.kT 8 13 (by decide) v9 rfl,hal.isW L rf.MF 9 14 (by decide) v4 rfl];rw [Bool.eq_iff_iff];simp only [Bool.or_eq_true,decide_eq_true_eq];omega
theorem mI{n g0 g1 g:Nat}{r:RS}{z:RS×Option (Option aM)}(hb:¬(7<=am ts r/\am ts r<=14))(h:stmtTw ts n DI (sumTw ts n g0) (ig ts (notTw ts n (sumTw ts n g0) g1) n) g r=some z):z=(r,none):=by
 cases g with
 | zero=>cases h
 | succ g =>
  rw [stmtTw,au (by simp [DI]),au (by omega),au (by omega),au (by omega),au (by omega),au (by omega),au (by omega),au (by omega),au (by omega)]at h;exact(fZ h).symm
theorem Ae(L:Lx s ts)(n g0 g1 g F:Nat)(ds:List rf.Df):∀(k:Nat) {p:rf.PS} {r r0:RS} {m:Nat} {ks:List rf.Tr} {l:List (Option aM)} {q:rf.PS×List rf.Tr} {z:RS×List (Option aM)},wM ds r0.defs->yp s ts ds r0 p ks r l->ks.length=l.length->(ks=[]\/am ts r≠1) ->
  rf.fQ s F k true p ks=some q->bO (stmtTw ts n DI (sumTw ts n g0) (ig ts (notTw ts n (sumTw ts n g0) g1) n) g) m r l=some z->De q.1 (xy ts z)\/yp s ts ds r0 q.1 q.2 (xy ts z) z.2
 | 0,_,_,_,_,_,_,_,_,_,_,_,_,h,_=>by cases h
 | k+1,p,r,r0,m,ks,l,q,z,hds,h,hlen,hor,h1,h2=>by
  have hal:=h.al;rw [rf.fQ,aC ⟨rfl,hal.bad⟩]at h1;split at h1
  ·cases h1
  rename_i p1 x e1;cases F with
  | zero=>simp [rf.stmtTw]at e1
  | succ F =>
  rw [rf.stmtTw,Eh L hal]at e1;cases m with
  | zero=>cases h2
  | succ m =>
  rw [bO]at h2
  have KS:∀ y,bS (λ st:RS=>st.syn=some y) (stmtTw ts n DI (sumTw ts n g0) (ig ts (notTw ts n (sumTw ts n g0) g1) n) g):=λ y =>
   (bp ts y).stmtTw n DI ((bp ts y).sumTw n g0) ((bp ts y).cond ((bp ts y).notTw ((bp ts y).sumTw n g0) n g1) n) g
  have hstop:∀{b:Bool} {q':rf.PS×List rf.Tr},0<=p1.bad->rf.fQ s (F+1) k b p1 (ks++[x])=some q'->q'.1=p1:=λ{b q'} hb he=>by
   cases k with
   | zero=>cases he
   | succ k =>
    rw [rf.fQ,au (by omega)]at he;cases he;rfl
  by_cases hb:7<=am ts r/\am ts r<=14
  ·rw [jj hb,aC rfl]at e1;split at h2
   ·cases h2
   ·rename_i r1 e2;obtain⟨⟨o,ho⟩,_⟩:=(kR L n g0 g1 ds rfl F).2.2 p r g _ _ (by rw [h.defs];exact hds) hal hb e1 e2;cases ho
   rename_i r1 o e2;obtain⟨_,hst⟩:=(kR L n g0 g1 ds rfl F).2.2 p r g _ _ (by rw [h.defs];exact hds) hal hb e1 e2;rcases hst with hde|hs
   ·left;obtain⟨y,y0,y1,y2⟩:=hde;dsimp only at y1 y2;refine⟨y,y0,by rw [hstop (by omega) h1];exact y1,zj ?_⟩;exact eC (KS y) m _ _ _ y2 h2
   have hd:=hs.defs;dsimp only at hd;have hal1:=hs.al;dsimp only at hal1
   have hq:yp s ts ds r0 p1 (ks++[x]) r1 (l++[o]):=by
    refine⟨hal1,hd.trans h.defs,?_,?_,λ ms hms=>?_,uD h.wf hs.wf⟩
    ·rw [mM,ed,<-h.nam];exact hs.nam
    ·rw [p7,ed,<-h.num];exact hs.num
    obtain⟨ms0,mm,a1,a2,rfl⟩:=pX hms;have:=hs.stp mm (by dsimp only;rw [a2]);rw [h.defs]at this;exact(h.stp ms0 a1).snoc this
   have hl2:(ks++[x]).length=(l++[o]).length:=by simp [hlen]
   by_cases e1':am ts r1=1
   ·have h46:(p1.next.kind != 46)=false:=by rw [(hal1.kinds L).2.2.2.1.2 e1'];rfl
    rw [h46]at h1;cases k with
    | zero=>cases h1
    | succ k =>
    rw [rf.fQ,au (by simp)]at h1;cases h1
    cases m with
    | zero=>cases h2
    | succ m =>
    rw [bO]at h2;split at h2
    ·cases h2
    ·rename_i r2 e3;have:=mI (by omega) e3;cases this
     cases h2
     right
     have he:xy ts (r1,l++[o])=r1:=by
      have hm:rJ ts (r1,l++[o])=r1:=by unfold rJ;rw [au (by simp)]
      unfold xy;rw [hm,aC e1']
     rw [he];exact hq
    rename_i r2 o2 e3;have:=mI (by omega) e3;cases this
   have h46:(p1.next.kind != 46)=true:=by
    rw [bne_iff_ne];intro e;exact e1' ((hal1.kinds L).2.2.2.1.1 e)
   rw [h46]at h1;exact Ae L n g0 g1 g (F+1) ds k hds hq hl2 (inr e1') h1 h2
  rw [gn hb,au (by decide)]at e1;left;obtain⟨y,y0,y1,y2⟩:=hal.fail L;have b1:=(eM s F).2.2.2 _ _ (by omega) e1;dsimp only at b1
  have hz:z=(r,l):=by
   split at h2
   ·cases h2
   ·rename_i r1 e2;have:=mI hb e2;cases this
    exact(fZ h2).symm
   rename_i r1 o e2;have:=mI hb e2;cases this
  subst hz;refine⟨y,y0,by rw [hstop (by omega) h1];exact b1.trans y1,?_⟩;unfold xy;by_cases hl:l.length=0
  ·rw [show rJ ts (r,l)=cC ts r by unfold rJ;rw [aC hl]];split
   ·exact y2
   exact(bp ts y).fail _ y2
  have hk1:am ts r≠1:=hor.resolve_left (λ e=>hl (by rw [<-hlen,e];rfl));rw [show rJ ts (r,l)=r by unfold rJ;rw [au hl],au hk1];exact y2
end
structure Gs(s:ByteArray)(c:rf.PS×List rf.Df×List rf.Tr)(r:RS×List (Option aM)):Prop where
 al:Al s (cO s) c.1 r.1
 defs:gQ c.2.1 r.1.defs
 nam:r.1.nam=iA none (rf.gL c.2.1 (.mk rf.bP nB 0 0 c.2.2))
 num:r.1.num=iA none (rf.ec c.2.1 (.mk rf.bP nB 0 0 c.2.2))
 stp:∀ ms,iz r.2=some ms->f8 r.1.defs c.2.2 ms
 wf:rf.f9 c.2.2
theorem NC{s:ByteArray}(h:0<(cO s).length):Al s (cO s) (rf.Mv s) lJ :=
 ⟨by show(-1:Int)<0;decide,rfl,h,rfl,rfl,rfl,⟨[],rfl,rfl,rfl,inl ⟨rfl,rfl⟩⟩⟩
theorem G8{s:ByteArray}(hs:s.size<=600){F:Nat}{c:rf.PS×List rf.Df×List rf.Tr}{r:RS×List (Option aM)}(h1:rf.vI s F=some c)(h2:tU (cO s)=some r):De c.1 r.1\/Gs s c r:=by
 obtain⟨hok,hl0⟩:=ju hs;have L:=Im hs;have hL:=yy s;unfold rf.vI at h1;split at h1
 ·cases h1
 rename_i p1 ds e1;split at h1
 ·cases h1
 rename_i p2 ks e2;cases h1
 have h2':policyW (cO s) 700 700 (Am (cO s)) lJ=some r:=h2;unfold policyW at h2';split at h2'
 ·cases h2'
 rename_i r1 e3;unfold i6 at h2';split at h2'
 ·cases h2'
 rename_i r2 l e4;have hr:r=(xy (cO s) (r2,l),l):=(fZ h2').symm;subst hr;have e4':bO (stmtTw (cO s) 700 DI (sumTw (cO s) 700 700) (ig (cO s) (notTw (cO s) 700 (sumTw (cO s) 700 700) 700) 700) 700) 700 r1 []=some (r2,l):=e4
 have hdead:∀ y:Int,p1.bad=y->0<=y->p2.bad=y:=λ y hy h0=>by
  cases F with
  | zero=>cases e2
  | succ F =>
   rw [rf.fQ,au (by omega)]at e2;cases e2;exact hy
 rcases Ag L hL 700 700 F F 8 (p:=rf.Mv s) (r:=lJ) (ds:=[]) ⟨NC hl0,.nil,rfl,rfl,λ d hd=>by cases hd⟩ rfl e1 e3 with hde|hq|⟨p',hal,hk,hb⟩
 ·left;obtain⟨y,y0,y1,y2⟩:=hde;dsimp only at y1 y2;refine⟨y,y0,hdead y y1 y0,zj ?_⟩;exact eC (lK _ _ (bp _ y)) 700 _ _ _ y2 e4
 ·have hd:=hq.defs;dsimp only at hd;have hal:=hq.al;dsimp only at hal;rcases Ae L 700 700 700 700 F ds F (p:=p1) (r:=r1) (r0:=r1) (m:=700) (ks:=[]) (l:=[]) hd.ok ⟨hal,rfl,by rw [bk,bq (by decide)],by rw [bU,bq (by decide)],λ ms hms=>(by cases hms;exact .nil),ox⟩ rfl (inl rfl) e2 e4' with hde|hb
  ·exact inl hde
  right;have hdf:=hb.defs;refine⟨hb.al,by dsimp only;rw [hdf];exact hd,?_,?_,λ ms hms=>?_,hb.wf⟩
  ·have a:=hb.nam;have b:=hq.nam;dsimp only at a b ⊢;rw [a,b,It,io,bu ds (by decide +kernel)]
  ·have a:=hb.num;have b:=hq.num;dsimp only at a b ⊢;unfold rf.ec;rw [a,b,tM _ ds hq.ok,io,cJ (by decide +kernel)]
  dsimp only;rw [hdf];exact hb.stp ms hms
 left;dsimp only at hb;have h0:(0:Int)<=(p'.next.at_:Int):=Int.natCast_nonneg _;obtain⟨y,y0,y1,y2⟩:=hal.fail L
 have hy:y=(p'.next.at_:Int):=by
  rw [<-y1];unfold rf.aY;rw [aC hal.bad]
 subst hy;refine⟨_,y0,hdead _ hb y0,?_⟩;have hnone:∀ z,Am (cO s) r1=some z->z=(r1,none):=λ z hz=>mI (g0:=700) (g1:=700) (g:=700) (n:=700) (by omega) hz
 have hz:(r2,l)=(r1,[]):=by
  rw [bO]at e4;split at e4
  ·cases e4
  ·rename_i r3 e5;have:=hnone _ e5;cases this
   exact(fZ e4).symm
  rename_i r3 o e5;have:=hnone _ e5;cases this
 cases hz
 unfold xy;rw [show rJ (cO s) (r1,[])=cC (cO s) r1 from rfl];split
 ·exact y2
 exact(bp _ _).fail _ y2
namespace rf
theorem Hq{ds:List Df}{Ds:List fe}(h:gQ ds Ds){t:ByteArray}{S:dU}:dP Ds t=some S->∀ i:Nat,∃ j,∃ hj:j<ds.length,dJ t false ds i=((i+j:Nat):Int)/\S=gC (ds[j].ranges.map iB)/\∀ x∈ds[j].ranges,se x.addr x.len:=by
 induction h with
 | nil=>intro hf;simp [dP]at hf
 | cons a b ih =>
  intro hf i;cases a with
  | set hn =>
   rename_i nm l t';rw [dP]at hf;rw [dJ];cases hc:(nm.text.toList==t.toList)with
   | true =>
    rw [hc]at hf;simp only [Option.isSome_some,Bool.and_true,if_true,Option.some.injEq]at hf;refine⟨0,by simp,?_,hf.symm,hn⟩;rw [aC (by simp)];simp
   | false =>
    rw [hc]at hf;simp only [Bool.false_and,Bool.false_eq_true,if_false]at hf;obtain⟨j,hj,h1,h2,h3⟩:=ih hf (i+1);refine⟨j+1,by simpa using hj,?_,by simpa using h2,by simpa using h3⟩;rw [au (by simp),h1]
    congr 1;omega
  | way hw =>
   rename_i nm l t' W;rw [dP]at hf;rw [dJ];simp only [Option.isSome_none,Bool.and_false,Bool.false_eq_true,if_false]at hf;obtain⟨j,hj,h1,h2,h3⟩:=ih hf (i+1);refine⟨j+1,by simpa using hj,?_,by simpa using h2,by simpa using h3⟩;rw [au (by simp),h1]
   congr 1;omega
theorem Hr{ds:List Df}{Ds:List fe}(h:gQ ds Ds){t:ByteArray}{W:aH}:dQ Ds t=some W->∀ i:Nat,∃ j,∃ hj:j<ds.length,dJ t true ds i=((i+j:Nat):Int)/\mf ds[j].way W:=by
 induction h with
 | nil=>intro hf;simp [dQ]at hf
 | cons a b ih =>
  intro hf i;cases a with
  | set hn =>
   rename_i nm l t';rw [dQ]at hf;rw [dJ];simp only [Option.isSome_none,Bool.and_false,Bool.false_eq_true,if_false]at hf;obtain⟨j,hj,h1,h2⟩:=ih hf (i+1);refine⟨j+1,by simpa using hj,?_,by simpa using h2⟩;rw [au (by simp),h1]
   congr 1;omega
  | way hw =>
   rename_i nm l t' W';rw [dQ]at hf;rw [dJ];cases hc:(nm.text.toList==t.toList)with
   | true =>
    rw [hc]at hf;simp only [Option.isSome_some,Bool.and_true,if_true,Option.some.injEq]at hf;subst hf;refine⟨0,by simp,?_,hw⟩;rw [aC (by simp)];simp
   | false =>
    rw [hc]at hf;simp only [Bool.false_and,Bool.false_eq_true,if_false]at hf;obtain⟨j,hj,h1,h2⟩:=ih hf (i+1);refine⟨j+1,by simpa using hj,?_,by simpa using h2⟩;rw [au (by simp),h1]
    congr 1;omega
def nj(ds:List Df)(ks:List Tr)(tk:List kA)(ln:List Bool)(sb pb:Nat)(w:World):Prop:=az w (λ k=>k≠sb) (uH pb ds ks tk ln)
theorem nj.fr{ds:List Df}{ks:List Tr}{tk:List kA}{ln:List Bool}(sb pb:Nat)(w w':World)(h:nj ds ks tk ln sb pb w)(hf:Fr (Sb sb) w (Sb sb) w'):nj ds ks tk ln sb pb w' :=
 az.mono h hf.size (λ k hk hn=>⟨hf.block k hk hn,hn⟩) (λ _ _ h=>h)
def rF(P:Nat->Nat->World->Prop)(t:Tr)(m:aM):Prop:=∀(w:World) (Q:Nat->Prop) (v:Value) (sb pb:Nat) (R:Rt) (pv mv:Value),Q sb->P sb pb w->aP w Q t v->D8 R->pQ w sb pb R pv mv 0 ->
 Calls prog 97 #[fX sb,v] w (MU w sb pb (m R))
theorem pQ.pref{w:World}{sb pb:Nat}{R:Rt}{pv mv:Value}{ver:Int}(h:pQ w sb pb R pv mv ver)(x:Int):pQ (w.setCell ⟨sb,5,none⟩ (.int .i64 x)) sb pb { R with pref:=x } pv mv ver :=
 ⟨aB h.blk,ap h.own1 (λ k hk=>ah (λ e=>h.ne1 (by have e':k=sb:=e;rw [<-e'];exact hk))),ap h.own2 (λ k hk=>ah (λ e=>h.ne2 (by have e':k=sb:=e;rw [<-e'];exact hk))),h.ne1,h.ne2⟩
theorem pQ.med{w:World}{sb pb:Nat}{R:Rt}{pv mv:Value}{ver:Int}(h:pQ w sb pb R pv mv ver)(x:Int):pQ (w.setCell ⟨sb,6,none⟩ (.int .i64 x)) sb pb { R with med:=x } pv mv ver :=
 ⟨aB h.blk,ap h.own1 (λ k hk=>ah (λ e=>h.ne1 (by have e':k=sb:=e;rw [<-e'];exact hk))),ap h.own2 (λ k hk=>ah (λ e=>h.ne2 (by have e':k=sb:=e;rw [<-e'];exact hk))),h.ne1,h.ne2⟩
theorem Hi(P:Nat->Nat->World->Prop)(op:ByteArray)(ver:Int)(ac:Bool)(hop:(op=mZ/\ver=1/\ac=true)\/(op=m8/\ver=2/\ac=false)):rF P (.mk op nB 0 0 []) (gq ver):=by
 intro w Q v sb pb R pv mv hQ _ ht _ hs;have e0:(op.toList==[97,99,99,101,112,116])=ac:=by rcases hop with⟨rfl,_,rfl⟩|⟨rfl,_,rfl⟩<;>decide +kernel
 have e1:(op.toList==[114,101,106,101,99,116])=!ac:=by rcases hop with⟨rfl,_,rfl⟩|⟨rfl,_,rfl⟩<;>decide +kernel
 have hv:ver=if ac=true then 1 else 2:=by rcases hop with⟨_,rfl,rfl⟩|⟨_,rfl,rfl⟩<;>rfl
 rw [aP]at ht;obtain⟨kv,xs,rfl,_,_,_⟩:=ht;have hA:Below w.heap.size w (w.alloc (.cells (aj op nB 0 0 kv) 115)):=(aX _ _).alloc (aD _) _;have hs1:=hs.below hA;obtain⟨WA,hWA⟩:∃ WA,w.alloc (.cells (aj op nB 0 0 kv) 115)=WA:=⟨_,rfl⟩
 have k0:(w.alloc (.cells (aj op nB 0 0 kv) 115)).cell? ⟨w.heap.size,0,none⟩=some (.string op):=af (cN _ _);have AA:=ae hWA;rw [hWA]at hs1 hA k0;have c7:WA.cell? ⟨sb,7,none⟩=some (.int .i64 0):=af hs1.blk;have z7:∀ o,WA.frozen? ⟨sb,o,none⟩=false:=λ o=>ak hs1.blk
 have lsb:sb<WA.heap.size:=ai hs1.blk;have H:=ae hs1;have HF:=ae (show Fr (Sb sb) w (Sb sb) WA from dL hA);have HV:=ae hv;clear hs hs1 hA hop hQ hWA hv;cases ac
 all_goals
  simp only [Bool.not_true,Bool.not_false]at e1;go_enter func97,ntmps97;go_upto_region 1 with fail
  rw [ab AA];go_wp2_with fail
  go_end0
  rw [ab HV];exact⟨rfl,_,_,(ab H).ver _,Fr.setCell (p:=⟨sb,7,none⟩) (ab HF) (inl rfl) _⟩
theorem Hj(P:Nat->Nat->World->Prop){x:Tr}{a:bh}{m:aM}(IA:ss x a)(op:ByteArray)(pr:Bool)(hop:(op=kh/\pr=true/\m=fJ a)\/(op=pI/\pr=false/\m=gE a)):rF P (.mk op nB 0 0 [x]) m:=by
 intro w Q v sb pb R pv mv hQ _ ht _ hs;have e0:(op.toList==[97,99,99,101,112,116])=false:=by rcases hop with⟨rfl,_⟩|⟨rfl,_⟩<;>decide +kernel
 have e1:(op.toList==[114,101,106,101,99,116])=false:=by rcases hop with⟨rfl,_⟩|⟨rfl,_⟩<;>decide +kernel
 have e2:(op.toList==[112,114,101,102])=pr:=by rcases hop with⟨rfl,rfl,_⟩|⟨rfl,rfl,_⟩<;>decide +kernel
 have e3:(op.toList==[109,101,100])=!pr:=by rcases hop with⟨rfl,rfl,_⟩|⟨rfl,rfl,_⟩<;>decide +kernel
 have hm:m R=(match a R with|none=>(R,3)|some n=>((if pr=true then{ R with pref:=n }else{ R with med:=n }),0)):=by
  rcases hop with⟨_,rfl,rfl⟩|⟨_,rfl,rfl⟩
  ·unfold fJ;cases a R<;>rfl
  unfold gE;cases a R<;>rfl
 obtain⟨kv,g,rfl,hk⟩:=ht.kids (by simp);obtain⟨cap,hkv⟩:=hk.sl;obtain rfl:kv=.slice (some ⟨g,0,none⟩) 1 cap:=by simpa using hkv
 have lsb:=ai hs.blk;have hA:Below w.heap.size w (w.alloc (.cells (aj op nB 0 0 (.slice (some ⟨g,0,none⟩) 1 cap)) 115)):=(aX _ _).alloc (aD _) _;have q0:(w.alloc (.cells (aj op nB 0 0 (.slice (some ⟨g,0,none⟩) 1 cap)) 115)).heap[w.heap.size]?=some (.cells (aj op nB 0 0 (.slice (some ⟨g,0,none⟩) 1 cap)) 115 (0,0)):=cN _ _;have hk1:=hk.fr hQ (dL hA);have hs1:=hs.below hA;obtain⟨WA,hWA⟩:∃ WA,w.alloc (.cells (aj op nB 0 0 (.slice (some ⟨g,0,none⟩) 1 cap)) 115)=WA:=⟨_,rfl⟩
 have DA:=ae hWA;rw [hWA]at q0 hk1 hs1 hA;have HA:=ae hA;obtain⟨p0,p1,p2,p3,p4,c0,c1,c2,c3,c4,t0⟩:=hk1.at_ 0 (by simp);have k0:WA.cell? ⟨w.heap.size,0,none⟩=some (.string op):=af q0;have k4:WA.cell? ⟨w.heap.size,4,none⟩=some (.slice (some ⟨g,0,none⟩) 1 cap):=af q0;have BA:=ae (IA _ _ _ _ _ _ _ _ (inl hQ) t0 hs1);have Q0:=ae q0;have HM:=ae hm;have lA:w.heap.size<WA.heap.size:=ai q0;have lg:=hk1.lt;simp only [Nat.zero_mul,Nat.zero_add]at c0 c1 c2 c3 c4;clear hk hk1 hs hs1 hA ht t0 q0 hQ IA hop hWA hkv hm;cases pr
 all_goals
  simp only [Bool.not_true,Bool.not_false]at e3;go_enter func97,ntmps97;go_upto_region 1 with fail
  rw [ab DA];go_wp2_with fail;refine(ab BA).mono ?_;rintro e w1 ⟨x1,v1,rfl,hs1,hf1,hm1⟩;have c7:w1.cell? ⟨sb,7,none⟩=some (.int .i64 v1):=af hs1.blk;have c5:w1.cell? ⟨sb,5,none⟩=some (.int .i64 R.pref):=af hs1.blk;have c6:w1.cell? ⟨sb,6,none⟩=some (.int .i64 R.med):=af hs1.blk;have z1:∀ o,w1.frozen? ⟨sb,o,none⟩=false:=λ o=>ak hs1.blk
  have l1:sb<w1.heap.size:=ai hs1.blk;have CA:=ae hs1;have F1:=ae ((dL (ab HA)).trans hf1);have q1:w1.heap[w.heap.size]?=_:=(hf1.block w.heap.size lA (by omega)).trans (ab Q0);have n0:w1.cell? ⟨w.heap.size,0,none⟩=some (.string op):=af q1;have lw1:w.heap.size<w1.heap.size:=ai q1;have nsw:sb≠w.heap.size:=by omega
  clear hs1 hf1 q1 c0 c1 c2 c3 c4 k0 k4;rcases hm1 with⟨hm1,rfl⟩|⟨hm1,rfl⟩
  ·have AA:=ae (ab HM);rw [hm1]at AA;clear hm1 HM;go_wp2_with fail
   go_end0
   rw [ab AA]
   first
    | exact⟨rfl,_,_,(ab CA).pref _,Fr.setCell (p:=⟨sb,5,none⟩) (ab F1) (inl rfl) _⟩
    | exact⟨rfl,_,_,(ab CA).med _,Fr.setCell (p:=⟨sb,6,none⟩) (ab F1) (inl rfl) _⟩
  have AA:=ae (ab HM);rw [hm1]at AA;clear hm1 HM;go_wp2_with fail
  go_end0
  rw [ab AA];exact⟨rfl,_,_,ab CA,ab F1⟩
theorem wO.num{w:World}{Q:Nat->Prop}{n a:Int}{kv:Value}{g:Nat}(h:wO w Q [.mk cy nB n a []] kv g):w.cell? ⟨g,2,none⟩=some (.int .i64 n):=by
 obtain⟨a0,a1,a2,a3,a4,_,_,y2,_,_,t0⟩:=h.at_ 0 (by simp);simp only [List.getElem_cons_zero]at t0;rw [aP]at t0;obtain⟨kv',xs,e,_⟩:=t0;simp only [Nat.zero_mul,Nat.zero_add]at y2;rw [y2];simp at e;rw [e.2.2.1]
theorem Ki(P:Nat->Nat->World->Prop)(n a:Int)(op:ByteArray)(hop:op=wJ):rF P (.mk op nB 0 0 [.mk cy nB n a []]) (fV n):=by
 intro w Q v sb pb R pv mv hQ _ ht hR hs;have e0:(op.toList==[97,99,99,101,112,116])=false:=by rw [hop];decide +kernel
 have e1:(op.toList==[114,101,106,101,99,116])=false:=by rw [hop];decide +kernel
 have e2:(op.toList==[112,114,101,102])=false:=by rw [hop];decide +kernel
 have e3:(op.toList==[109,101,100])=false:=by rw [hop];decide +kernel
 have e4:(op.toList==[109,97,114,107])=true:=by rw [hop];decide +kernel
 obtain⟨kv,g,rfl,hk⟩:=ht.kids (by simp);obtain⟨cap,hkv⟩:=hk.sl;obtain rfl:kv=.slice (some ⟨g,0,none⟩) 1 cap:=by simpa using hkv
 have hA:Below w.heap.size w (w.alloc (.cells (aj op nB 0 0 (.slice (some ⟨g,0,none⟩) 1 cap)) 115)):=(aX _ _).alloc (aD _) _;have q0:(w.alloc (.cells (aj op nB 0 0 (.slice (some ⟨g,0,none⟩) 1 cap)) 115)).heap[w.heap.size]?=some (.cells (aj op nB 0 0 (.slice (some ⟨g,0,none⟩) 1 cap)) 115 (0,0)):=cN _ _;have hk1:=hk.fr hQ (dL hA);have hs1:=hs.below hA;obtain⟨WA,hWA⟩:∃ WA,w.alloc (.cells (aj op nB 0 0 (.slice (some ⟨g,0,none⟩) 1 cap)) 115)=WA:=⟨_,rfl⟩
 have CA:=ae hWA;rw [hWA]at q0 hk1 hs1 hA;have HF:=ae (show Fr (Sb sb) w (Sb sb) WA from dL hA);have c2:=hk1.num;have k0:WA.cell? ⟨w.heap.size,0,none⟩=some (.string op):=af q0;have k4:WA.cell? ⟨w.heap.size,4,none⟩=some (.slice (some ⟨g,0,none⟩) 1 cap):=af q0;have AA:=ae (Iq hs1 hR.rise hR.marks n);have lA:w.heap.size<WA.heap.size:=ai q0;have lg:=hk1.lt;clear hk hk1 hs hs1 hA ht q0 hQ hop hWA hkv hR;go_enter func97,ntmps97;go_upto_region 1 with fail
 rw [ab CA];go_wp2_with fail;refine(ab AA).mono ?_;rintro e w1 ⟨rfl,pv',mv',hs1,hf1⟩;have BA:=ae hs1;have F1:=ae ((ab HF).trans hf1);clear hs1 hf1 AA;go_wp2_with fail
 go_end0
 exact⟨rfl,pv',mv',ab BA,ab F1⟩
theorem KD(w:World)(n:Int):kZ w (w.alloc (.cells #[.int .i64 n] 3)) (.slice (some ⟨w.heap.size,0,none⟩) 1 1) [n] :=
 ⟨⟨rfl,inr ⟨w.heap.size,1,#[.int .i64 n],rfl,iL _,cN _ _,aD _,by simp [maxLen],rfl,rfl⟩⟩,λ k hk=>by simp [Value.ownBlock]at hk;omega⟩
theorem Bq(P:Nat->Nat->World->Prop)(n a:Int)(op:ByteArray)(hop:op=kT):rF P (.mk op nB 0 0 [.mk cy nB n a []]) (dw n):=by
 intro w Q v sb pb R pv mv hQ _ ht hR hs;obtain⟨i0,hi0,hz0,hz1,hz2⟩:=info_parts Tryz.infoInt;have e0:(op.toList==[97,99,99,101,112,116])=false:=by rw [hop];decide +kernel
 have e1:(op.toList==[114,101,106,101,99,116])=false:=by rw [hop];decide +kernel
 have e2:(op.toList==[112,114,101,102])=false:=by rw [hop];decide +kernel
 have e3:(op.toList==[109,101,100])=false:=by rw [hop];decide +kernel
 have e4:(op.toList==[109,97,114,107])=false:=by rw [hop];decide +kernel
 have e5:(op.toList==[117,110,109,97,114,107])=false:=by rw [hop];decide +kernel
 have e6:(op.toList==[112,114,101,112,101,110,100])=true:=by rw [hop];decide +kernel
 obtain⟨kv,g,rfl,hk⟩:=ht.kids (by simp);obtain⟨cap,hkv⟩:=hk.sl;obtain rfl:kv=.slice (some ⟨g,0,none⟩) 1 cap:=by simpa using hkv
 have hA:Below w.heap.size w (w.alloc (.cells (aj op nB 0 0 (.slice (some ⟨g,0,none⟩) 1 cap)) 115)):=(aX _ _).alloc (aD _) _;have q0:(w.alloc (.cells (aj op nB 0 0 (.slice (some ⟨g,0,none⟩) 1 cap)) 115)).heap[w.heap.size]?=some (.cells (aj op nB 0 0 (.slice (some ⟨g,0,none⟩) 1 cap)) 115 (0,0)):=cN _ _;have hk1:=hk.fr hQ (dL hA);obtain⟨po,pc,rfl⟩:=aU hs.own1;have hs1:=hs.below hA;obtain⟨WA,hWA⟩:∃ WA,w.alloc (.cells (aj op nB 0 0 (.slice (some ⟨g,0,none⟩) 1 cap)) 115)=WA:=⟨_,rfl⟩
 have DA:=ae hWA;rw [hWA]at q0 hk1 hs1 hA;have HF:=ae (show Fr (Sb sb) w (Sb sb) WA from dL hA);have c2:=hk1.num;have k0:WA.cell? ⟨w.heap.size,0,none⟩=some (.string op):=af q0;have k4:WA.cell? ⟨w.heap.size,4,none⟩=some (.slice (some ⟨g,0,none⟩) 1 cap):=af q0;have s3:WA.cell? ⟨sb,3,none⟩=some (.slice po R.path.length pc):=af hs1.blk;have s7:WA.cell? ⟨sb,7,none⟩=some (.int .i64 0):=af hs1.blk;have zs:∀ o,WA.frozen? ⟨sb,o,none⟩=false:=λ o=>ak hs1.blk
 have lsb:sb<WA.heap.size:=ai hs1.blk;have HS:=ae hs1;have hp12:=hR.path;have lA:w.heap.size<WA.heap.size:=ai q0;have lg:=hk1.lt;clear hk hk1 hs hs1 hA ht q0 hQ hop hWA hkv hR;by_cases h12:R.path.length=12
 ·have e12:((R.path.length:Int)==12)=true:=by rw [h12];rfl
  have CA:=ae (show dw n R=(R,3)from by unfold dw;rw [aC h12]);go_enter func97,ntmps97;go_upto_region 1 with fail
  rw [ab DA];go_wp2_with fail
  go_end0
  rw [ab CA];exact⟨rfl,_,_,(ab HS).ver 3,Fr.setCell (p:=⟨sb,7,none⟩) (ab HF) (inl rfl) _⟩
 have e12:((R.path.length:Int)==12)=false:=by rw [beq_eq_false_iff_ne];omega
 have CA:=ae (show dw n R=({ R with path:=n::R.path },0)from by unfold dw;rw [au h12]);go_enter func97,ntmps97;go_upto_region 1 with fail
 rw [ab DA];go_upto_region 25 with fail
 have hb1:Below WA.heap.size WA (WA.alloc (.cells #[.int .i64 n] 3)):=(aX _ _).alloc (aD _) _;have N1:=ae (KD WA n);have AA:=ae hb1;have hs1:=(ab HS).below hb1;have t3:(WA.alloc (.cells #[.int .i64 n] 3)).cell? ⟨sb,3,none⟩=some (.slice po R.path.length pc):=af hs1.blk;have RD:=ae (fA.own hs1.own1);obtain⟨W1,hW1⟩:∃ W1,WA.alloc (.cells #[.int .i64 n] 3)=W1:=⟨_,rfl⟩
 rw [hW1]at N1 AA t3 RD ⊢;have ls1:sb<W1.heap.size:=eV lsb (ab AA).size;clear hb1 hs1 hW1 s3 s7 zs k0 k4 c2;go_wp2_with (at_builtin;refine bA rfl _ _ _ rfl 0 3 i0 _ 1 8 underlying26 hi0 hz0 hz1 hz2 rfl (by omega) _ _ _ rfl (ab N1).own _ _ _ rfl (ab RD) (by simp [aq]) kM (by simp only [maxLen,List.length_singleton];omega) (by simp only [List.length_singleton];omega) (by omega) ?_;intro v2 w2 hown hgrow hat;obtain⟨o2,cc2,rfl⟩:=aU hown;have BA:=ae (ee (ab AA) hgrow (ab AA).size (ab N1).new);have EA:=ae (kZ.app (ab N1) (ab AA) hown hat);have c42:=((ab BA).cell (p:=⟨sb,3,none⟩) lsb).trans (af (ab HS).blk);have z42:∀ o,w2.frozen? ⟨sb,o,none⟩=false:=(λ o=>ak (((ab BA).block sb lsb).trans (ab HS).blk));have ls2:sb<w2.heap.size:=eV lsb (ab BA).size;clear hown hgrow hat)
 go_end0
 rw [ab CA];exact⟨rfl,_,_,(ab HS).path (ab BA) (ab EA),Fr.setCell (p:=⟨sb,3,none⟩) ((ab HF).trans (dL (sb:=sb) (ab BA))) (inl rfl) _⟩
theorem Ev(P:Nat->Nat->World->Prop)(n a:Int)(op:ByteArray)(hop:op=m9):rF P (.mk op nB 0 0 [.mk cy nB n a []]) (el n):=by
 intro w Q v sb pb R pv mv hQ _ ht hR hs;obtain⟨i0,hi0,hz0,hz1,hz2⟩:=info_parts Tryz.infoInt;have e0:(op.toList==[97,99,99,101,112,116])=false:=by rw [hop];decide +kernel
 have e1:(op.toList==[114,101,106,101,99,116])=false:=by rw [hop];decide +kernel
 have e2:(op.toList==[112,114,101,102])=false:=by rw [hop];decide +kernel
 have e3:(op.toList==[109,101,100])=false:=by rw [hop];decide +kernel
 have e4:(op.toList==[109,97,114,107])=false:=by rw [hop];decide +kernel
 have e5:(op.toList==[117,110,109,97,114,107])=true:=by rw [hop];decide +kernel
 obtain⟨kv,g,rfl,hk⟩:=ht.kids (by simp);obtain⟨cap,hkv⟩:=hk.sl;obtain rfl:kv=.slice (some ⟨g,0,none⟩) 1 cap:=by simpa using hkv
 have hA:Below w.heap.size w (w.alloc (.cells (aj op nB 0 0 (.slice (some ⟨g,0,none⟩) 1 cap)) 115)):=(aX _ _).alloc (aD _) _;have q0:(w.alloc (.cells (aj op nB 0 0 (.slice (some ⟨g,0,none⟩) 1 cap)) 115)).heap[w.heap.size]?=some (.cells (aj op nB 0 0 (.slice (some ⟨g,0,none⟩) 1 cap)) 115 (0,0)):=cN _ _;have hk1:=hk.fr hQ (dL hA);obtain⟨mo,mc,rfl⟩:=aU hs.own2;have hs1:=hs.below hA;obtain⟨WA,hWA⟩:∃ WA,w.alloc (.cells (aj op nB 0 0 (.slice (some ⟨g,0,none⟩) 1 cap)) 115)=WA:=⟨_,rfl⟩
 have EA:=ae hWA;rw [hWA]at q0 hk1 hs1 hA;have HF:=ae (show Fr (Sb sb) w (Sb sb) WA from dL hA);have c2:=hk1.num;have k0:WA.cell? ⟨w.heap.size,0,none⟩=some (.string op):=af q0;have k4:WA.cell? ⟨w.heap.size,4,none⟩=some (.slice (some ⟨g,0,none⟩) 1 cap):=af q0;have s4:WA.cell? ⟨sb,4,none⟩=some (.slice mo R.marks.length mc):=af hs1.blk;have zs:∀ o,WA.frozen? ⟨sb,o,none⟩=false:=λ o=>ak hs1.blk
 have lsb:sb<WA.heap.size:=ai hs1.blk;have HS:=ae hs1;have hm8:=hR.marks;have MK:=ae (gK hs1 n);have lA:w.heap.size<WA.heap.size:=ai q0;have lg:=hk1.lt;clear hk hk1 hs hs1 hA ht q0 hQ hop hWA hkv hR;by_cases hn:n∈R.marks
 ·obtain⟨i,hi⟩:∃ i,R.marks.idxOf n=i:=⟨_,rfl⟩
  have hil:i<R.marks.length:=by rw [<-hi];exact List.idxOf_lt_length_iff.2 hn
  have CA:=ae (show el n R=({ R with marks:=R.marks.take i++R.marks.drop (i+1) },0)from by unfold el;rw [aC (by simpa using hn),List.erase_eq_eraseIdx_of_idxOf hi,List.eraseIdx_eq_take_drop_succ]);have hma:gJ R.marks n=(i:Int):=by unfold gJ;rw [aC hn,hi]
  obtain⟨gm,mcap,hv,hgm,_⟩:=ly (ab HS).own2 hil;simp only [Value.slice.injEq]at hv;obtain⟨rfl,-,rfl⟩:=hv
  have hicap:R.marks.length<=mc:=by
   rcases(ab HS).own2.2 with⟨h0,_⟩|⟨_,_,_,h0,_,_,h3,_⟩
   ·cases h0
   simp only [Value.slice.injEq]at h0;omega
  obtain⟨l,hl⟩:∃ l,R.marks=l:=⟨_,rfl⟩
  have OW:=ae (ab HS).own2;rw [hl]at OW CA hil hm8 s4 hma hicap
  have RD:=ae (show ∀ W,Below WA.heap.size WA W->fA W (.slice (some ⟨gm,0,none⟩) i mc) i (aq (l.take i))from λ W hW=>inr ⟨_,_,rfl,λ j u hj=>by
   have hj0:=(List.getElem?_eq_some_iff.1 hj).1;have hj1:j<i:=by simp [aq]at hj0;omega
   rw [show(⟨gm,0,none⟩:Addr).add j=⟨gm,j,none⟩from(by simp [Addr.add];intro h;omega),hW.cell (p:=⟨gm,j,none⟩) hgm,(ab OW).cellAt j (by omega),<-hj];simp [aq,hj1]⟩)
  have GA:=ae (show ∀ W,Below WA.heap.size WA W->fA W (.slice (if mc=i+1 then some ⟨gm,0,none⟩else some ⟨gm,i+1,none⟩) (l.length-(i+1)) (mc-(i+1))) (l.length-(i+1)) (aq (l.drop (i+1)))from λ W hW=>by
   split
   ·rename_i hmi;exact inr ⟨_,_,rfl,λ j u hj=>by rw [List.drop_eq_nil_of_le (by omega)]at hj;simp [aq]at hj⟩
   ·exact inr ⟨_,_,rfl,λ j u hj=>by
     have hj':(aq l)[i+1+j]?=some u:=by rw [<-hj];simp [aq]
     have hlt':i+1+j<l.length:=by have:=(List.getElem?_eq_some_iff.1 hj').1;simpa [aq]using this
     rw [show(⟨gm,i+1,none⟩:Addr).add j=⟨gm,i+1+j,none⟩from by simp [Addr.add],hW.cell (p:=⟨gm,i+1+j,none⟩) hgm,(ab OW).cellAt (i+1+j) (by omega)];exact hj'⟩)
  rw [hl]at MK;rw [hma]at MK;have HL:=ae hl;clear hn hi hl hma;go_enter func97,ntmps97;go_upto_region 1 with fail
  rw [ab EA];go_wp2_with fail;refine(ab MK).mono ?_;rintro e w1 ⟨rfl,rfl⟩;go_upto_region 20 with(at_builtin;refine bA rfl _ _ _ rfl 0 3 i0 _ 1 8 underlying26 hi0 hz0 hz1 hz2 rfl (by omega) _ _ _ rfl (jX _ _ _ _) _ _ _ rfl (ab RD _ (aX _ _)) (by simp [aq];omega) kM (by simp only [maxLen];omega) (by omega) (by omega) ?_;intro v2 w2 hown hgrow hat)
  have AA:=ae (ee (v:=.slice none 0 0) (aX w1.heap.size w1) hgrow (aD _) (λ k hk=>by simp [Value.ownBlock]at hk));have hlt:(l.take i).length=i:=by rw [List.length_take];omega
  have DA:=ae (kZ.app (w:=w1) (v:=.slice none 0 0) (l:=[]) (l2:=l.take i) ⟨jX _ _ _ _,λ k hk=>by simp [Value.ownBlock]at hk⟩ (aX w1.heap.size w1) (by rw [hlt];exact hown) hat);clear hown hgrow hat;have c4n:=((ab AA).cell (p:=⟨sb,4,none⟩) lsb).trans s4;have lsn:sb<w2.heap.size:=eV lsb (ab AA).size;have hln:([]++l.take i).length=i:=by simp;omega
  go_wp2_with (at_builtin;refine bA rfl _ _ _ rfl 0 3 i0 _ 1 8 underlying26 hi0 hz0 hz1 hz2 rfl (by omega) _ _ _ rfl (ab DA).own _ _ _ rfl (ab GA _ (ab AA)) (by simp [aq]) kM (by simp only [maxLen];omega) (by omega) (by omega) ?_;intro v3 w3 hown hgrow hat;obtain⟨o2,cc2,rfl⟩:=aU hown;have BA:=ae (ee (ab AA) hgrow (ab AA).size (ab DA).new);have FA:=ae (kZ.app (ab DA) (ab AA) (by rw [List.length_drop];exact hown) hat);have c42:=((ab BA).cell (p:=⟨sb,4,none⟩) lsb).trans s4;have z42:∀ o,w3.frozen? ⟨sb,o,none⟩=false:=(λ o=>ak (((ab BA).block sb lsb).trans (ab HS).blk));have ls2:sb<w3.heap.size:=eV lsb (ab BA).size;clear hown hgrow hat)
  all_goals
   go_end0
   rw [ab CA];have hn2:=ab FA;rw [hln,List.nil_append]at hn2;exact⟨rfl,_,_,(ab HS).marks (ab BA) hn2,Fr.setCell (p:=⟨sb,4,none⟩) ((ab HF).trans (dL (sb:=sb) (ab BA))) (inl rfl) _⟩
 have CA:=ae (show el n R=(R,0)from by unfold el;rw [au (by simpa using hn)]);rw [qg hn]at MK;go_enter func97,ntmps97;go_upto_region 1 with fail
 rw [ab EA];go_wp2_with fail;refine(ab MK).mono ?_;rintro e w1 ⟨rfl,rfl⟩;go_wp2_with fail
 go_end0
 rw [ab CA];exact⟨rfl,_,_,ab HS,ab HF⟩
def hH(m:aM):Prop:=∀ R,D8 R->D8 (m R).1
theorem xK{ms:List aM}{i:Nat}(h:i<ms.length)(R:Rt):aK (ms.drop i) R=if(ms[i] R).2=0 then aK (ms.drop (i+1)) (ms[i] R).1 else ms[i] R:=by
 rw [List.drop_eq_getElem_cons h,aK]
theorem oO{P:Nat->Nat->World->Prop}(hP:∀ sb pb w w',P sb pb w->Fr (Sb sb) w (Sb sb) w'->P sb pb w'){ks:List Tr}{ms:List aM}(hlen:ks.length=ms.length)(IK:∀ i,(h:i<ks.length)->(h':i<ms.length)->rF P ks[i] ms[i]/\hH ms[i])(op:ByteArray)(hop:op=bP) :
  rF P (.mk op nB 0 0 ks) (aK ms):=by
 intro w Q v sb pb R pv mv hQ hp0 ht hR hs;have e0:(op.toList==[97,99,99,101,112,116])=false:=by rw [hop];decide +kernel
 have e1:(op.toList==[114,101,106,101,99,116])=false:=by rw [hop];decide +kernel
 have e2:(op.toList==[112,114,101,102])=false:=by rw [hop];decide +kernel
 have e3:(op.toList==[109,101,100])=false:=by rw [hop];decide +kernel
 have e4:(op.toList==[109,97,114,107])=false:=by rw [hop];decide +kernel
 have e5:(op.toList==[117,110,109,97,114,107])=false:=by rw [hop];decide +kernel
 have e6:(op.toList==[112,114,101,112,101,110,100])=false:=by rw [hop];decide +kernel
 have e7:(op.toList==[105,102])=false:=by rw [hop];decide +kernel
 have e8:(op.toList==[98,108,111,99,107])=true:=by rw [hop];decide +kernel
 have HT:=ae ht;rw [aP]at ht;obtain⟨kv,xs,rfl,hko,_,_⟩:=ht
 have hkmax:ks.length<=9223372036854775807:=by
  rcases hko.2 with⟨_,e⟩|⟨_,cap,_,_,_,_,h3,h4,_⟩
  ·omega
  unfold maxLen at h4;omega
 obtain⟨ko,kc,rfl⟩:=aU hko;have lsw:=ai hs.blk;have hA:Below w.heap.size w (w.alloc (.cells (aj op nB 0 0 (.slice ko ks.length kc)) 115)):=(aX _ _).alloc (aD _) _;have q0:(w.alloc (.cells (aj op nB 0 0 (.slice ko ks.length kc)) 115)).heap[w.heap.size]?=some (.cells (aj op nB 0 0 (.slice ko ks.length kc)) 115 (0,0)):=cN _ _;have hs1:=hs.below hA;obtain⟨WA,hWA⟩:∃ WA,w.alloc (.cells (aj op nB 0 0 (.slice ko ks.length kc)) 115)=WA:=⟨_,rfl⟩
 have GA:=ae hWA;rw [hWA]at hA q0 hs1;have lA:w.heap.size<WA.heap.size:=ai q0;have k0:WA.cell? ⟨w.heap.size,0,none⟩=some (.string op):=af q0;have HF:=ae (show Fr (Sb sb) w (Sb sb) WA from dL hA);have Q0:=ae q0;have HS:=ae hs1;have DA:=ae IK;have CA:=ae hlen;have EA:=ae hp0;have HQ:=ae hQ;have HR:=ae hR;clear hWA hA q0 hop hko IK hlen hs hs1 hp0 hQ hR;go_enter func97,ntmps97;go_upto_region 1 with fail
 rw [ab GA];go_wp2_with fail;go_loopg [9] ks.length (λ k b9 wr=>∃(i:Nat) (R':Rt) (ver:Int) (pv mv:Value),i+k=ks.length/\b9=.int .i64 i/\Fr (Sb sb) w (Sb sb) wr/\wr.heap[w.heap.size]?=some (.cells (aj op nB 0 0 (.slice ko ks.length kc)) 115 (0,0))/\pQ wr sb pb R' pv mv ver/\(ver=0->D8 R'/\aK (ms.drop i) R'=aK ms R)/\(ver≠0->aK ms R=(R',ver)))
 case atStart=>exact⟨0,R,0,pv,mv,by omega,rfl,ab HF,ab Q0,ab HS,λ _=>⟨ab HR,rfl⟩,λ h=>absurd rfl h⟩
 case round =>
  clear HF HS HR k0;obtain⟨i,R',ver,pv',mv',hik,rfl,hf,q0,hs,h0,h1⟩:=hrel;have c4:wr.cell? ⟨w.heap.size,4,none⟩=some (.slice ko ks.length kc):=af q0;have lw:w.heap.size<wr.heap.size:=ai q0;have c7:wr.cell? ⟨sb,7,none⟩=some (.int .i64 ver):=af hs.blk;have lsb:sb<wr.heap.size:=ai hs.blk;have HF:=ae hf;have QR:=ae q0;have HS:=ae hs;have H0:=ae h0;have H1:=ae h1;clear q0 hs h0 h1;by_cases hv:ver=0
  ·subst hv;by_cases hi:i<ks.length
   ·have hi':i<ms.length:=by have:=ab CA;omega
    obtain⟨hr',hpd⟩:=ab H0 rfl;obtain⟨kv',g,ev,hk⟩:=(ab HT).kids (λ e=>by rw [e]at hi;simp at hi);obtain rfl:kv'=.slice ko ks.length kc:=by simp at ev;exact ev.symm
    have hkr:=hk.fr (ab HQ) hf;obtain⟨cap,hcap⟩:=hkr.sl;simp only [Value.slice.injEq]at hcap;obtain⟨rfl,-,rfl⟩:=hcap;obtain⟨a0,a1,a2,a3,a4,y0,y1,y2,y3,y4,tk⟩:=hkr.at_ i hi;have lg:=hkr.lt;have BA:=ae ((ab DA i hi hi').1 wr _ _ sb pb R' pv' mv' (inl (ab HQ)) (hP _ _ _ _ (ab EA) hf) tk hr' (ab HS));have KP:=ae ((ab DA i hi hi').2 R' hr');have PD:=ae (show aK ms R=if(ms[i] R').2=0 then aK (ms.drop (i+1)) (ms[i] R').1 else ms[i] R' from by rw [<-hpd,xK hi']);clear hf hk hkr tk ev hr' hpd H0 H1;go_wp2_with fail;refine(ab BA).mono ?_;rintro e w2 ⟨rfl,pv2,mv2,hs2,hf2⟩;have AA:=ae (show Fr (Sb sb) w (Sb sb) w2/\w2.heap[w.heap.size]?=some (.cells (aj op nB 0 0 (.slice (some ⟨g,0,none⟩) ks.length kc)) 115 (0,0))from⟨(ab HF).trans hf2,(hf2.block w.heap.size lw (by show ¬w.heap.size=sb;omega)).trans (ab QR)⟩);have FA:=ae hs2;clear hs2 hf2 BA y0 y1 y2 y3 y4 c4 c7;go_wp2_with fail;go_roundg (ks.length-(i+1))
    case measure=>omega
    case rel=>exact⟨i+1,_,_,pv2,mv2,by omega,by go_num,(ab AA).1,(ab AA).2,ab FA,λ h=>⟨ab KP,by rw [ab PD,aC h]⟩,λ h=>by rw [ab PD,au h]⟩
   have AA:=ae (show aK ms R=(R',0)from by
    rw [<-(ab H0 rfl).2,List.drop_eq_nil_of_le (by have:=ab CA;omega)]
    rfl)
   clear hf;go_wp2_with fail
   go_end0
   rw [ab AA];exact⟨rfl,_,_,ab HS,ab HF⟩
  have AA:=ae (ab H1 hv);have hvb:(ver==0)=false:=by simpa using hv
  clear hf;by_cases hi:i<ks.length
  ·go_wp2_with fail
   go_end0
   rw [ab AA];exact⟨rfl,_,_,ab HS,ab HF⟩
  go_wp2_with fail
  go_end0
  rw [ab AA];exact⟨rfl,_,_,ab HS,ab HF⟩
theorem Lz{P:Nat->Nat->World->Prop}(hP:∀ sb pb w w',P sb pb w->Fr (Sb sb) w (Sb sb) w'->P sb pb w'){c y:Tr}{rest:List Tr}{cm:aQ}{yes no:List aM}(IC:rD P c cm)(IY:rF P y (aK yes))(hz:(rest=[]/\no=[])\/∃ z,rest=[z]/\rF P z (aK no))(op:ByteArray)(hop:op=MF) :
  rF P (.mk op nB 0 0 (c::y::rest)) (eR cm yes no):=by
 intro w Q v sb pb R pv mv hQ hp0 ht hR hs;have e0:(op.toList==[97,99,99,101,112,116])=false:=by rw [hop];decide +kernel
 have e1:(op.toList==[114,101,106,101,99,116])=false:=by rw [hop];decide +kernel
 have e2:(op.toList==[112,114,101,102])=false:=by rw [hop];decide +kernel
 have e3:(op.toList==[109,101,100])=false:=by rw [hop];decide +kernel
 have e4:(op.toList==[109,97,114,107])=false:=by rw [hop];decide +kernel
 have e5:(op.toList==[117,110,109,97,114,107])=false:=by rw [hop];decide +kernel
 have e6:(op.toList==[112,114,101,112,101,110,100])=false:=by rw [hop];decide +kernel
 have e7:(op.toList==[105,102])=true:=by rw [hop];decide +kernel
 obtain⟨N,hN⟩:∃ N,(c::y::rest).length=N:=⟨_,rfl⟩
 have hN2:2<=N:=by rw [<-hN];simp
 have hN3:N<=3:=by rcases hz with⟨h,_⟩|⟨z,h,_⟩<;>rw [<-hN,h]<;>simp
 obtain⟨kv,g,rfl,hk⟩:=ht.kids (by simp);obtain⟨cap,hkv⟩:=hk.sl;rw [hN]at hkv;subst hkv;have lsw:=ai hs.blk;have hA:Below w.heap.size w (w.alloc (.cells (aj op nB 0 0 (.slice (some ⟨g,0,none⟩) N cap)) 115)):=(aX _ _).alloc (aD _) _;have q0:(w.alloc (.cells (aj op nB 0 0 (.slice (some ⟨g,0,none⟩) N cap)) 115)).heap[w.heap.size]?=some (.cells (aj op nB 0 0 (.slice (some ⟨g,0,none⟩) N cap)) 115 (0,0)):=cN _ _;have hk1:=hk.fr hQ (dL hA);have hs1:=hs.below hA;have hp1:=hP _ _ _ _ hp0 (dL hA);obtain⟨WA,hWA⟩:∃ WA,w.alloc (.cells (aj op nB 0 0 (.slice (some ⟨g,0,none⟩) N cap)) 115)=WA:=⟨_,rfl⟩
 have IA:=ae hWA;rw [hWA]at q0 hk1 hs1 hA hp1;have HF:=ae (show Fr (Sb sb) w (Sb sb) WA from dL hA);obtain⟨p0,p1,p2,p3,p4,c0,c1,c2,c3,c4,t0⟩:=hk1.at_ 0 (by simp);have k0:WA.cell? ⟨w.heap.size,0,none⟩=some (.string op):=af q0;have k4:WA.cell? ⟨w.heap.size,4,none⟩=some (.slice (some ⟨g,0,none⟩) N cap):=af q0;have BA:=ae (IC _ _ _ _ _ _ _ _ (inl hQ) hp1 t0 hR hs1);have HK:=ae hk1;have FA:=ae hp1;have HQ:=ae hQ;have Q0:=ae q0;have HA:=ae IY;have HZ:=ae hz;have HR:=ae hR;have HN:=ae hN;have lA:w.heap.size<WA.heap.size:=ai q0;have lg:=hk1.lt;simp only [Nat.zero_mul,Nat.zero_add]at c0 c1 c2 c3 c4;clear hk hk1 hs hs1 hA ht t0 q0 hQ IC IY hop hWA hp0 hp1 hz hR hN;go_enter func97,ntmps97;go_upto_region 1 with fail
 rw [ab IA];go_wp2_with fail;refine(ab BA).mono ?_;rintro e w1 ⟨x1,v1,rfl,hs1,hf1,hm1⟩;have c7:w1.cell? ⟨sb,7,none⟩=some (.int .i64 v1):=af hs1.blk;have l1:sb<w1.heap.size:=ai hs1.blk;have hk1:=(ab HK).fr (inl (ab HQ)) hf1;have q1:w1.heap[w.heap.size]?=_:=(hf1.block w.heap.size lA (by show ¬w.heap.size=sb;omega)).trans (ab Q0);have n4:w1.cell? ⟨w.heap.size,4,none⟩=some (.slice (some ⟨g,0,none⟩) N cap):=af q1;have CA:=ae hs1;have F1:=ae ((ab HF).trans hf1);have EA:=ae hk1;have GA:=ae (hP _ _ _ _ (ab FA) hf1);have lg1:=hk1.lt;have lw1:w.heap.size<w1.heap.size:=ai q1;clear hs1 hf1 hk1 q1 c0 c1 c2 c3 c4 k0 k4 HK FA BA;rcases hm1 with⟨hm1,rfl⟩|⟨hm1,rfl⟩
 ·cases x1
  ·have AA:=ae (show eR cm yes no R=aK no R from by simp only [eR,hm1]);clear hm1;rcases ab HZ with⟨hr,hno⟩|⟨z,hr,IZ⟩
   ·have hN':N=2:=by rw [<-ab HN,hr];rfl
    subst hN';go_wp2_with fail
    go_end0
    rw [ab AA,hno];exact⟨rfl,_,_,ab CA,ab F1⟩
   have hN':N=3:=by rw [<-ab HN,hr];rfl
   subst hN';subst hr;obtain⟨r0,r1,r2,r3,r4,d0,d1,d2,d3,d4,t1⟩:=(ab EA).at_ 2 (by simp);have CZ:=ae (IZ _ _ _ _ _ _ _ _ (inl (inl (ab HQ))) (ab GA) t1 (ab HR) (ab CA));simp only [Nat.reduceMul,Nat.reduceAdd]at d0 d1 d2 d3 d4;clear t1 IZ HZ;go_wp2_with fail;refine(ab CZ).mono ?_;rintro e w2 ⟨rfl,pv2,mv2,hs2,hf2⟩;have DA:=ae hs2;have F2:=ae ((ab F1).trans hf2);clear hs2 hf2 d0 d1 d2 d3 d4 n4 c7 CZ;go_wp2_with fail
   go_end0
   rw [ab AA];exact⟨rfl,_,_,ab DA,ab F2⟩
  have AA:=ae (show eR cm yes no R=aK yes R from by simp only [eR,hm1]);obtain⟨r0,r1,r2,r3,r4,d0,d1,d2,d3,d4,t1⟩:=(ab EA).at_ 1 (by simp);have CY:=ae (ab HA _ _ _ _ _ _ _ _ (inl (inl (ab HQ))) (ab GA) t1 (ab HR) (ab CA));simp only [Nat.one_mul,Nat.reduceAdd]at d0 d1 d2 d3 d4;clear hm1 t1;go_wp2_with fail;refine(ab CY).mono ?_;rintro e w2 ⟨rfl,pv2,mv2,hs2,hf2⟩;have DA:=ae hs2;have F2:=ae ((ab F1).trans hf2);clear hs2 hf2 d0 d1 d2 d3 d4 n4 c7 CY;go_wp2_with fail
  go_end0
  rw [ab AA];exact⟨rfl,_,_,ab DA,ab F2⟩
 have AA:=ae (show eR cm yes no R=(R,3)from by simp only [eR,hm1]);clear hm1;go_wp2_with fail
 go_end0
 rw [ab AA];exact⟨rfl,_,_,ab CA,ab F1⟩
theorem ER(n:Int):hH (fV n):=λ R h=>by
 unfold fV;split
 ·exact h
 rename_i hc;split
 ·exact h
 rename_i h8;have hm:=h.marks;refine⟨h.path,?_,nX h.rise (by simpa using hc),h.net⟩;have:=tQ R.marks n;show(R.marks.take (ce R.marks n)++n::R.marks.drop (ce R.marks n)).length<=8;simp;omega
theorem zw(n:Int):hH (el n):=λ R h=>by
 unfold el;split
 ·exact⟨h.path,kr List.length_erase_le h.marks,h.rise.sublist List.erase_sublist,h.net⟩
 exact h
theorem xB(n:Int):hH (dw n):=λ R h=>by
 unfold dw;split
 ·exact h
 rename_i h12;have:=h.path;exact⟨by show(n::R.path).length<=12;simp;omega,h.marks,h.rise,h.net⟩
theorem ES(a:bh):hH (fJ a):=λ R h=>by
 unfold fJ;split
 ·exact h
 exact⟨h.path,h.marks,h.rise,h.net⟩
theorem H9(a:bh):hH (gE a):=λ R h=>by
 unfold gE;split
 ·exact h
 exact⟨h.path,h.marks,h.rise,h.net⟩
theorem ik:∀{ms:List aM},(∀ m∈ms,hH m)->hH (aK ms)
 | [],_=>λ _ h=>h
 | m::ms,hm=>λ R h=>by
  rw [aK];split
  ·exact ik (λ m' h'=>hm m' (List.mem_cons_of_mem _ h')) _ (hm m List.mem_cons_self R h)
  exact hm m List.mem_cons_self R h
theorem qZ{c:aQ}{yes no:List aM}(hy:hH (aK yes))(hn:hH (aK no)):hH (eR c yes no):=λ R h=>by
 unfold eR;split
 ·exact h
 ·exact hy R h
 exact hn R h
mutual
theorem wC{Ds:List fe}:∀{t:Tr} {m:aM},nP Ds t m->hH m
 | _,_,.accept=>λ _ h=>h
 | _,_,.reject=>λ _ h=>h
 | _,_,.pref _=>ES _
 | _,_,.med _=>H9 _
 | _,_,.mark n _=>ER n
 | _,_,.unmark n _=>zw n
 | _,_,.prepend n _=>xB n
 | _,_,.if1 _ h=>qZ (ik (jO h)) (λ _ h=>h)
 | _,_,.if2 _ h g=>qZ (ik (jO h)) (ik (jO g))
theorem jO{Ds:List fe}:∀{ks:List Tr} {ms:List aM},f8 Ds ks ms->∀ m∈ms,hH m
 | _,_,.nil,_,h=>by cases h
 | _,_,.cons a b,m,h=>by
  rcases List.mem_cons.1 h with rfl|h
  ·exact wC a
  exact jO b m h
end
theorem f8.len{Ds:List fe}:∀{ks:List Tr} {ms:List aM},f8 Ds ks ms->ks.length=ms.length
 | _,_,.nil=>rfl
 | _,_,.cons _ b=>by simp [f8.len b]
section
mutual
theorem Mb{Ds:List fe}{P:Nat->Nat->World->Prop}(hP:∀ sb pb w w',P sb pb w->Fr (Sb sb) w (Sb sb) w'->P sb pb w')(HC:∀ t m,lY Ds t m->rD P t m):∀{t:Tr} {m:aM},nP Ds t m->rF P t m
 | _,_,.accept=>Hi P _ 1 true (inl ⟨rfl,rfl,rfl⟩)
 | _,_,.reject=>Hi P _ 2 false (inr ⟨rfl,rfl,rfl⟩)
 | _,_,.pref h=>Hj P (mX h) _ true (inl ⟨rfl,rfl,rfl⟩)
 | _,_,.med h=>Hj P (mX h) _ false (inr ⟨rfl,rfl,rfl⟩)
 | _,_,.mark n a=>Ki P n a _ rfl
 | _,_,.unmark n a=>Ev P n a _ rfl
 | _,_,.prepend n a=>Bq P n a _ rfl
 | _,_,.if1 hc h=>Lz hP (HC _ _ hc) (oO hP (f8.len h) (oP hP HC h) _ rfl) (inl ⟨rfl,rfl⟩) _ rfl
 | _,_,.if2 hc h g=>Lz hP (HC _ _ hc) (oO hP (f8.len h) (oP hP HC h) _ rfl) (inr ⟨_,rfl,oO hP (f8.len g) (oP hP HC g) _ rfl⟩) _ rfl
theorem oP{Ds:List fe}{P:Nat->Nat->World->Prop}(hP:∀ sb pb w w',P sb pb w->Fr (Sb sb) w (Sb sb) w'->P sb pb w')(HC:∀ t m,lY Ds t m->rD P t m):∀{ks:List Tr} {ms:List aM},f8 Ds ks ms->∀ i,(h:i<ks.length)->(h':i<ms.length)->rF P ks[i] ms[i]/\hH ms[i]
 | _,_,.cons a _,0,_,_=>⟨Mb hP HC a,wC a⟩
 | _,_,.cons _ b,i+1,h,h'=>oP hP HC b i (by simpa using h) (by simpa using h')
end
end
structure MN(w:World)(pb:Nat)(ds:List Df)(j:Nat)(d:Df)(g cap:Nat)(ro:Option Addr)(rc:Nat)(op text:ByteArray)(n a:Int)(ko:Option Addr)(kc kl:Nat):Prop where
 pb_:w.cell? ⟨pb,0,none⟩=some (.slice (some ⟨g,0,none⟩) ds.length cap)
 lp:pb<w.heap.size
 lg:g<w.heap.size
 nm:w.cell? ⟨g,j*10,none⟩=some (.int .u8 d.name.kind)/\w.cell? ⟨g,j*10+1,none⟩=some (.string d.name.text)/\w.cell? ⟨g,j*10+2,none⟩=some (.int .i64 d.name.at_)/\w.cell? ⟨g,j*10+3,none⟩=some (.bool d.isWay)
 rg:w.cell? ⟨g,j*10+4,none⟩=some (.slice ro d.ranges.length rc)
 tr:w.cell? ⟨g,j*10+5,none⟩=some (.string op)/\w.cell? ⟨g,j*10+6,none⟩=some (.string text)/\w.cell? ⟨g,j*10+7,none⟩=some (.int .i64 n)/\w.cell? ⟨g,j*10+8,none⟩=some (.int .i64 a)/\w.cell? ⟨g,j*10+9,none⟩=some (.slice ko kc kl)
 own:w.ownsRow 0 233 6 (.slice ro d.ranges.length rc) d.ranges.length (cG d.ranges)
 way:∃ Q,aP w Q d.way (bx op text n a (.slice ko kc kl))
 defs:jD w pb ds
 big:ds.length<=1000000
theorem nj.found{ds:List Df}{ks:List Tr}{tk:List kA}{ln:List Bool}{sb pb:Nat}{w:World}(h:nj ds ks tk ln sb pb w){j:Nat}(hj:j<ds.length):∃ g cap ro rc op text n a ko kc kl,MN w pb ds j ds[j] g cap ro rc op text n a ko kc kl:=by
 obtain⟨K,hK,hP⟩:=h;obtain⟨hp,hl,_,dv,kv,tv,lv,xs,ys,hb,hd,_⟩:=hP w (aD _) (λ _ _=>rfl);have hc:w.cell? ⟨pb,0,none⟩=some dv:=af hb;obtain⟨g,cap,hv,_,_⟩:=hd.own.form (by omega);obtain⟨v,h1,h2,h3⟩:=hd.all.get j hj;obtain⟨ro,rc,op,text,n,a,ko,kc,kl,hvv,hown,htr⟩:=h2.parts;have lg:=(hd.own.lt g (by rw [hv];rfl)).2;have ho:=hd.own;rw [hv]at ho
 have key:∀ i,i<10->w.cell? ⟨g,j*10+i,none⟩=v[i]?:=λ i hi=>by
  rw [ho.cellAt (j*10+i) (by omega),h3 i hi]
 have k0:=key 0 (by omega);rw [Nat.add_zero]at k0;subst hvv;exact⟨g,cap,ro,rc,op,text,n,a,ko,kc,kl,by rw [hc,hv],(hK pb hp).1,lg,⟨k0,key 1 (by omega),key 2 (by omega),key 3 (by omega)⟩,key 4 (by omega),⟨key 5 (by omega),key 6 (by omega),key 7 (by omega),key 8 (by omega),key 9 (by omega)⟩,hown,⟨_,htr⟩,(hd.defsIn hc hl).1,hl⟩
theorem CT{l:List Rg}{i:Nat}(h:i<l.length)(a b:Int):gC ((l.take (i+1)).map iB) a b=(gC ((l.take i).map iB) a b||iB l[i] a b):=by
 rw [List.take_succ_eq_append_getElem h,List.map_append];unfold gC;rw [List.any_append];simp only [List.map_cons,List.map_nil,List.any_cons,List.any_nil,Bool.or_false]
