/- part -/
import Derived.Test.YtgdeeodifnegiaaGreatDoorRnQ
import Derived.Test.YtgdeeodifnegiaaGreatDoorNotA
set_option maxRecDepth 100000
set_option maxHeartbeats 2000000
namespace Go.Proofs.YtgdeeodifnegiaaGreatDoor
open Go.Proofs.Tryz
open Or
open Go.RowKit
theorem pu{s:ByteArray}(hs:s.size<=600){r:RS×List (Option aM)}(h:tU (cO s)=some r)(pb:Nat)(W:World)(O:Nat->Prop)(hR:RA W pb (cO s) lJ (λ _=>False) O)(hk:Ok (cO s) lJ) :
  Calls prog 110 #[ay pb 0] W (wP pb (cO s) W O r):=by
 obtain⟨h1,_⟩:=ju hs;have IS:iN pb (cO s) (Ju (cO s)):=CF h1 700 700
 have IH:kz pb (cO s) (Am (cO s)) :=
  FW h1 700 (by decide) DI (λ _=>xQ) (λ _=>uV) (λ _=>xO) IS (vJ h1 (zD h1 IS 700 700) 700) 700
 exact xM h1 (yy s) IH 700 700 (by decide) (qS h1 700 (by decide) 700) hR hk rfl h
def Lt(s:ByteArray)(ms:List aM)(x:ByteArray):Prop:=∀ w,bB w->Calls prog 65 #[.string s] w λ e w'=>∃ sv,e=.returned (.tuple #[.agg #[.string x,sv],.int .i64 0,.int .i64 0])/\Below w.heap.size w w'/\az w' (λ k=>w.heap.size<=k) (jE sv ms)
def yu(s:ByteArray)(er at_:Int):Prop:=∀ w,bB w->Calls prog 65 #[.string s] w λ e w'=>e=.returned (.tuple #[.agg #[.string ⟨#[]⟩,.slice none 0 0],.int .i64 er,.int .i64 at_])/\Below w.heap.size w w'
theorem Cg(st:RS):pw st=⟨st.page.toArray⟩++st.gap:=by
 unfold pw;rw [J1,gI]
theorem IW{s:ByteArray}(hs:s.size<=600){r:RS×List (Option aM)}(h:tU (cO s)=some r)(hn:¬fY r.1){ms:List aM}(hm:r.2=ms.map some)(hp:r.1.page≠[]):Lt s ms (pw r.1):=λ w ht=>by
 obtain⟨h1,h2⟩:=ju hs
 have f1:r.1.syn=none:=by
  cases e:r.1.syn with
  | none=>rfl
  | some x=>exact absurd (inl (by rw [e];rfl)) hn
 have f2:r.1.nam=none:=by
  cases e:r.1.nam with
  | none=>rfl
  | some x=>exact absurd (inr (inl (by rw [e];rfl))) hn
 have f3:r.1.num=none:=by
  cases e:r.1.num with
  | none=>rfl
  | some x=>exact absurd (inr (inr (by rw [e];rfl))) hn
 rw [Cg];exact Ck s hs w ht h1 h2 (st:=r.1) (l:=r.2) (pu hs h) f1 f2 f3 (by rw [hm];exact sJ ms) hp
theorem Fw(s:ByteArray)(hs:600<s.size):yu s 1 0:=λ w _=>by
 have hb0:decide ((600:Int)<(s.size:Int))=true:=jj (by omega);refine(callsIn_wide (n:=6)).1 ?_;refine callsIn_of_wp_marks func65 rfl trivial ?_ rfl;simp only [ntmps65,List.size_toArray,List.length_cons,List.length_nil,Nat.reduceAdd,Nat.reduceSub,Array.replicate_succ,Array.replicate_zero,List.push_toArray,List.append_toArray,List.nil_append,List.cons_append]
 gi_wp2
 have hn:=fp w #[.string ⟨#[]⟩,.slice none 0 0] 109;have u0:(w.alloc (.cells #[.string ⟨#[]⟩,.slice none 0 0] 109)).cell? ⟨w.heap.size,0,none⟩=some (.string ⟨#[]⟩):=af hn;have u1:(w.alloc (.cells #[.string ⟨#[]⟩,.slice none 0 0] 109)).cell? ⟨w.heap.size,1,none⟩=some (.slice none 0 0):=af hn;exact⟨.tuple #[.agg #[.string ⟨#[]⟩,.slice none 0 0],.int .i64 1,.int .i64 0],by simp [results,results65,go_sem,u0,u1],rfl,(aX _ _).alloc (aD _) _⟩
theorem j6{s:ByteArray}{er at_:Int}(hne:er≠0)(hr:yu s er at_)(w:World)(ht:bB w) :
  Calls prog 24 #[.string s] w λ e w'=>e=.returned (.tuple #[.pointer none,.int .i64 er,.int .i64 at_])/\Below w.heap.size w w':=by
 have HR:=ae (hr w ht);clear hr ht;go_enter func24,ntmps24;go_wp2_with fail;refine(ab HR).mono ?_;rintro e w1 ⟨rfl,hb⟩;have HB:=ae hb;have hb0:(er != 0)=true:=by simpa using hne
 have hb1:(er==0)=false:=by simpa using hne
 clear hb HR hne;go_wp2_with fail;refine eO (v:=.tuple #[.pointer none,.int .i64 er,.int .i64 at_]) (by simp [results,results24,go_sem]) rfl ⟨rfl,?_⟩;exact(ab HB).alloc (ab HB).size _
def D6(pp:Nat)(ms:List aM)(x:ByteArray)(K:Nat->Prop)(W:World):Prop:=K pp/\∃ sv,W.heap[pp]?=some (.cells #[.string x,sv] 111 (0,0))/\jE sv ms K W
theorem D6.c{pp:Nat}{ms:List aM}{x:ByteArray}{K:Nat->Prop}{W:World}(h:D6 pp ms x K W):MR pp ms K W:=by
 obtain⟨h0,sv,h1,h2⟩:=h;exact⟨h0,x,sv,h1,h2⟩
theorem Ep{s x:ByteArray}{ms:List aM}(hr:Lt s ms x)(w:World)(ht:bB w) :
  Calls prog 24 #[.string s] w λ e w'=>∃ pp,e=.returned (.tuple #[ay pp 0,.int .i64 0,.int .i64 0])/\Below w.heap.size w w'/\az w' (λ k=>w.heap.size<=k) (D6 pp ms x):=by
 have HR:=ae (hr w ht);clear hr ht;go_enter func24,ntmps24;go_wp2_with fail;refine(ab HR).mono ?_;rintro e w1 ⟨sv,rfl,hb,hl⟩;have HB:=ae hb;have HL:=ae hl
 have hf:∃ a n c,sv=.slice a n c:=by
  obtain⟨K,h0,vs,h1,h2,_⟩:=hl.now;rcases h2 with⟨_,h2⟩|⟨S,cap,h2,_⟩
  ·exact⟨_,_,_,h2⟩
  exact⟨_,_,_,h2⟩
 obtain⟨sa,sn,sc,rfl⟩:=hf;clear hb hl HR;go_wp2_with fail;refine eO (v:=.tuple #[ay (w1.heap.size+1) 0,.int .i64 0,.int .i64 0]) (by simp [results,results24,go_sem]) rfl ⟨w1.heap.size+1,rfl,?_,?_⟩
 ·exact((ab HB).alloc (ab HB).size _).alloc (by have:=(ab HB).size;rw [World.size_alloc];omega) _
 obtain⟨n1,n2,sz⟩:=iu w1 (.cells #[.string x,.slice sa sn sc] 109) (.cells #[.string x,.slice sa sn sc] 111);have h1:=((ab HL).mono (bK w1 (.cells #[.string x,.slice sa sn sc] 109) (λ k=>w.heap.size<=k)).1 (bK w1 (.cells #[.string x,.slice sa sn sc] 109) (λ k=>w.heap.size<=k)).2 (λ _ _ h=>h)).mono (bK _ (.cells #[.string x,.slice sa sn sc] 111) (λ k=>w.heap.size<=k)).1 (bK _ (.cells #[.string x,.slice sa sn sc] 111) (λ k=>w.heap.size<=k)).2 (λ _ _ h=>h);refine az.one h1 (λ k=>k=w1.heap.size+1) (λ k hk=>⟨by omega,by have:=(ab HB).size;omega⟩) (λ K1 _ q1 W hW hk=>?_);exact⟨inr rfl,_,(hk _ (inr rfl)).trans n2,(q1 W hW (λ k h=>hk k (inl h))).mono (λ k h=>inl h)⟩
def Rk(s:ByteArray)(ts:List aw)(p:rf.PS)(m:Nat):Prop:=(0<=p.bad/\m=0)\/(p.bad<0/\∃ k,k<ts.length/\m=ts.length-k/\p.next=(qM s k).1/\p.i=(qM s k).2)
section
variable {s:ByteArray} {ts:List aw}
theorem Rk.dead{p:rf.PS}(h:0<=p.bad):Rk s ts p 0:=inl ⟨h,rfl⟩
theorem Rk.alive{p:rf.PS}{m:Nat}(h:Rk s ts p m)(hm:0<m):p.bad<0:=by
 rcases h with⟨_,h⟩|h
 ·omega
 exact h.1
theorem Rk.zero{p:rf.PS}{m:Nat}(h:Rk s ts p m)(hm:m=0):0<=p.bad:=by
 rcases h with h|⟨_,k,h1,h2,_⟩
 ·exact h.1
 omega
theorem wj(p:rf.PS):0<=(rf.aY p).bad:=by
 unfold rf.aY;split
 ·exact Int.natCast_nonneg _
 omega
theorem Rk.fail{p:rf.PS}(q:rf.PS)(h:q=rf.aY p):Rk s ts q 0:=by rw [h];exact .dead (wj p)
theorem Rk.take(L:Lx s ts){p:rf.PS}{m:Nat}(h:Rk s ts p m):∃ m',Rk s ts (rf.ax s p) m'/\m'<=m-1:=by
 rcases h with⟨h,rfl⟩|⟨hb,k,h1,h2,h3,h4⟩
 ·exact⟨0,by rw [jG h];exact .dead h,by omega⟩
 unfold rf.ax;by_cases he:p.next.kind=33\/p.next.kind=46
 ·rw [aC he];exact⟨0,.fail _ rfl,by omega⟩
 rw [au he,aC hb]
 have hk:2<=ts[k].kind:=by
  have hr:=(L.rel k h1).how;rw [<-h3]at hr;have n33:p.next.kind≠33:=λ e=>he (inl e)
  have n46:p.next.kind≠46:=λ e=>he (inr e)
  rcases hr with⟨a,b⟩|⟨a,b⟩|⟨a,b,_⟩|⟨a,b,_⟩|⟨a,b,_⟩|⟨a,j,_,b,_⟩|⟨a,j,_,b,_⟩
  ·exact absurd a n46
  ·exact absurd a n33
  all_goals rw [b];omega
 have:=L.more k h1 hk;refine⟨ts.length-(k+1),inr ⟨hb,k+1,this,rfl,?_,?_⟩,by omega⟩
 ·show(fG s p.i).1=_;rw [h4];rfl
 show(fG s p.i).2=_;rw [h4];rfl
theorem Rk.need(L:Lx s ts){p:rf.PS}{m:Nat}(h:Rk s ts p m)(x:ByteArray):∃ m',Rk s ts (rf.aJ s p x) m'/\m'<=m-1:=by
 unfold rf.aJ;split
 ·exact h.take L
 exact⟨0,.fail _ rfl,by omega⟩
theorem Rk.kind(L:Lx s ts){p:rf.PS}{m:Nat}(h:Rk s ts p m)(k:Int):∃ m',Rk s ts (rf.aA s p k) m'/\m'<=m-1:=by
 unfold rf.aA;split
 ·exact h.take L
 exact⟨0,.fail _ rfl,by omega⟩
theorem Rk.opn{p q:rf.PS}{m:Nat}(h:Rk s ts p m)(h1:q.bad=p.bad)(h2:q.next=p.next)(h3:q.i=p.i):Rk s ts q m:=by
 unfold Rk at *;rw [h1,h2,h3];exact h
theorem Rk.opens{p:rf.PS}{m:Nat}(h:Rk s ts p m):∃ m',Rk s ts (rf.cx p) m'/\m'<=m:=by
 unfold rf.cx;split
 ·exact⟨0,.dead (wj p),by omega⟩
 exact⟨m,h.opn rfl rfl rfl,by omega⟩
theorem Rk.dec{p:rf.PS}{m:Nat}(h:Rk s ts p m):Rk s ts (rf.p8 p) m:=h.opn rfl rfl rfl
theorem Rk.line{p:rf.PS}{m:Nat}(h:Rk s ts p m):Rk s ts (rf.fw p) m:=by
 unfold rf.fw;split
 ·exact h.opn rfl rfl rfl
 exact h
theorem Rk.openTake(L:Lx s ts){p:rf.PS}{m:Nat}(h:Rk s ts p m):∃ m',Rk s ts (rf.ax s (rf.cx p)) m'/\m'<=m-1:=by
 obtain⟨m1,h1,l1⟩:=h.opens;obtain⟨m2,h2,l2⟩:=h1.take L;exact⟨m2,h2,by omega⟩
def Tt{α:Type}(s:ByteArray)(ts:List aw)(c f:Nat)(X:rf.PS->Option (rf.PS×α)):Prop:=∀ p m,Rk s ts p m->(m=0->5<=f)->(0<m->16*m+c<=f)->∃ r m',X p=some r/\Rk s ts r.1 m'/\m'<=m-1
def Tl{α:Type}(s:ByteArray)(ts:List aw)(c f:Nat)(X:rf.PS->Option (rf.PS×α)):Prop:=∀ p m,Rk s ts p m->(m=0->1<=f)->(0<m->16*m+c<=f)->∃ r m',X p=some r/\Rk s ts r.1 m'/\m'<=m
theorem AK{α:Type}{c f:Nat}{X:rf.PS->Option (rf.PS×α)}(hk:fP X)(hd:5<=f->∀ p,0<=p.bad->∃ r,X p=some r)(h:∀ p m,Rk s ts p m->0<m->p.bad<0->16*m+c<=f->∃ r m',X p=some r/\Rk s ts r.1 m'/\m'<=m-1):Tt s ts c f X:=λ p m hr h1 h2=>by
 by_cases hm:m=0
 ·have hb:=hr.zero hm;obtain⟨r,e⟩:=hd (h1 hm) p hb;have:=hk p r hb e;exact⟨r,0,e,.dead (by omega),by omega⟩
 exact h p m hr (by omega) (hr.alive (by omega)) (h2 (by omega))
theorem vO{p:rf.PS}(hb:0<=p.bad)(f:Nat):∃ r,rf.termTw s (f+1) p=some r:=by
 rw [rf.termTw,k9 hb,au (by decide)];split<;>exact⟨_,rfl⟩
theorem Bm{p:rf.PS}(hb:0<=p.bad)(f:Nat)(t:rf.Tr):rf.sumLp s (f+1) p t=some (p,t):=by
 rw [rf.sumLp,bC hb,bC hb,au (by decide)]
theorem yX{p:rf.PS}(hb:0<=p.bad)(f:Nat):∃ r,rf.sumTw s (f+2) p=some r:=by
 obtain⟨r,e⟩:=vO (s:=s) hb f;have:=(fl s (f+1)).2.2 p r hb e;rw [rf.sumTw,e];exact⟨_,Bm (by omega) f _⟩
theorem qO{p:rf.PS}(hb:0<=p.bad)(f lv:Nat)(t:rf.Tr):rf.eJ s (f+1) lv p t=some (p,t):=by
 rw [rf.eJ,bC hb,au (by decide)]
theorem ta{p:rf.PS}(hb:0<=p.bad)(f:Nat):∃ r,rf.cQ s (f+1) 2 p=some r:=by
 rw [rf.cQ,au (by decide),bC hb,bC hb,bC hb,bC hb,bC hb,k9 hb,au (by decide),au (by decide),au (by decide),au (by decide),au (by decide),aC rfl];exact⟨_,rfl⟩
theorem Es{p:rf.PS}(hb:0<=p.bad)(f:Nat):∃ r,rf.cQ s (f+3) 0 p=some r:=by
 obtain⟨r,e⟩:=ta (s:=s) hb f;have h1:=(gS s (f+1)).1 2 p r hb e
 have e1:rf.cQ s (f+2) 1 p=some (r.1,r.2):=by
  rw [rf.cQ,aC (by decide),e];exact qO (by omega) f 1 _
 rw [rf.cQ,aC (by decide),e1];exact⟨_,qO (by omega) (f+1) 0 _⟩
theorem yW{p:rf.PS}(hb:0<=p.bad)(f:Nat):∃ r,rf.dq s (f+5) p=some r:=by
 have e1:∃ x,rf.gT s (f+1) p=some (p,x):=by
  rw [rf.gT,bC hb,bC hb,au (by decide),au (by decide),ie hb];exact⟨_,rfl⟩
 obtain⟨x,e1⟩:=e1;have e2:rf.gi s (f+1) p x=some (p,x):=by rw [rf.gi,wV hb,au (by simp)]
 have e3:∃ y,rf.gV s (f+2) p []=some (p,y):=by
  rw [rf.gV,e1];dsimp only;rw [e2];dsimp only;rw [kD hb,au (by decide)];exact⟨_,rfl⟩
 obtain⟨y,e3⟩:=e3;rw [rf.dq,rf.dp,rf.jn,e3];dsimp only;rw [bC hb,au (by decide)];exact⟨_,rfl⟩
theorem xr{p:rf.PS}(hb:0<=p.bad)(f:Nat)(ks:List rf.Tr):∃ r,rf.dO s (f+1) p ks=some r:=by
 rw [rf.dO,au (by omega)];exact⟨_,rfl⟩
theorem s9{p:rf.PS}(hb:0<=p.bad)(f:Nat):∃ r,rf.ef s (f+2) p=some r:=by
 rw [rf.ef,bC hb,au (by decide),dm hb,mh hb];exact xr hb f []
theorem vN{p:rf.PS}(hb:0<=p.bad)(f:Nat):∃ r,rf.ft s (f+4) p=some r:=by
 rw [rf.ft,jG hb,dm hb,dm hb,ie hb,dm hb];split
 ·obtain⟨r,e⟩:=yX (s:=s) hb (f+1);rw [e];exact⟨_,rfl⟩
 split
 ·exact⟨_,rfl⟩
 split
 ·obtain⟨r,e⟩:=Es (s:=s) hb f;have h1:=(gS s (f+3)).1 0 p r hb e;rw [e];dsimp only;rw [dm (by omega)];obtain⟨r2,e2⟩:=s9 (s:=s) (p:=r.1) (by omega) (f+1);have h2:=(eM s (f+3)).1 r.1 r2 (by omega) e2;rw [e2];dsimp only;rw [bC (by omega),au (by decide)];exact⟨_,rfl⟩
 exact⟨_,rfl⟩
theorem Et{p:rf.PS}(hb:0<=p.bad)(f:Nat):∃ r,rf.stmtTw s (f+5) p=some r:=by
 rw [rf.stmtTw];have:(if rf.cZ p=true then p else rf.aY p)=p:=by split;rfl;exact iU hb
 rw [this];exact vN hb f
theorem uy(L:Lx s ts):∀ f,Tt s ts 2 f (rf.sumTw s f)/\(∀ t,Tl s ts 1 f (λ p=>rf.sumLp s f p t))/\Tt s ts 1 f (rf.termTw s f)
 | 0=>⟨λ p m h h1 h2=>by omega,λ t p m h h1 h2=>by omega,λ p m h h1 h2=>by omega⟩
 | f+1=>by
  obtain⟨i1,i2,i3⟩:=uy L f;refine⟨?_,λ t p m h h1 h2=>?_,?_⟩
  ·refine AK (fl s (f+1)).1 (λ hf p hb=>?_) (λ p m h hm hb hf=>?_)
   ·obtain⟨g,rfl⟩:∃ g,f=g+1:=⟨f-1,by omega⟩
    exact yX hb g
   obtain⟨⟨p1,t1⟩,m1,e1,r1,l1⟩:=i3 p m h (by omega) (by omega);obtain⟨r2,m2,e2,r3,l2⟩:=i2 t1 p1 m1 r1 (by omega) (by omega);rw [rf.sumTw,e1];exact⟨r2,m2,e2,r3,by omega⟩
  ·dsimp only;rw [rf.sumLp];by_cases hc:(rf.aT p rf.dI||rf.aT p rf.iJ)=true
   ·rw [aC hc]
    have hm:0<m:=by
     rcases yj m with hz|hz
     ·have hb:=h.zero hz;rw [bC hb,bC hb]at hc;cases hc
     exact hz
    obtain⟨m1,r1,l1⟩:=h.take L;obtain⟨⟨p2,x⟩,m2,e2,r2,l2⟩:=i3 _ m1 r1 (by omega) (by omega);rw [e2];obtain⟨r3,m3,e3,r4,l3⟩:=i2 (.mk p.next.text ⟨#[]⟩ 0 0 [t,x]) p2 m2 r2 (by omega) (by omega);exact⟨r3,m3,e3,r4,by omega⟩
   rw [au hc];exact⟨_,m,rfl,h,aD _⟩
  refine AK (fl s (f+1)).2.2 (λ hf p hb=>vO hb f) (λ p m h hm hb hf=>?_);rw [rf.termTw];split
  ·split
   ·obtain⟨m1,r1,l1⟩:=h.openTake L;obtain⟨⟨p2,x⟩,m2,e2,r2,l2⟩:=i1 _ m1 r1 (by omega) (by omega);rw [e2];obtain⟨m3,r3,l3⟩:=Rk.need L (x:=rf.mO) r2;exact⟨_,m3,rfl,r3.dec,by omega⟩
   split
   ·obtain⟨m1,r1,l1⟩:=h.kind L 48;exact⟨_,m1,rfl,r1,l1⟩
   obtain⟨m1,r1,l1⟩:=h.take L;exact⟨_,m1,rfl,r1,l1⟩
  split
  ·exact⟨_,0,rfl,.fail _ rfl,by omega⟩
  exact⟨_,0,rfl,.fail _ rfl,by omega⟩
theorem wH(L:Lx s ts):∀ f,(∀ lv,lv<=2->∀ p m,Rk s ts p m->(m=0->5<=f+lv)->(0<m->16*m+(5-lv)<=f)->∃ r m',rf.cQ s f lv p=some r/\Rk s ts r.1 m'/\m'<=m-1)/\(∀ lv,lv<2->∀ t,Tl s ts 1 f (λ p=>rf.eJ s f lv p t))
 | 0=>⟨λ lv hl p m h h1 h2=>by omega,λ lv hl t p m h h1 h2=>by omega⟩
 | f+1=>by
  obtain⟨i1,i2⟩:=wH L f;obtain⟨j1,_,_⟩:=uy L f;refine⟨λ lv hl p m h h1 h2=>?_,λ lv hl t p m h h1 h2=>?_⟩
  ·by_cases hlv:lv<2
   ·rw [rf.cQ,aC hlv];obtain⟨⟨p1,t1⟩,m1,e1,r1,l1⟩:=i1 (lv+1) (by omega) p m h (by omega) (by omega);rw [e1];obtain⟨r2,m2,e2,r3,l2⟩:=i2 lv hlv t1 p1 m1 r1 (by omega) (by omega);exact⟨r2,m2,e2,r3,by omega⟩
   obtain rfl:lv=2:=by omega
   by_cases hm:m=0
   ·have hb:=h.zero hm;obtain⟨r,e⟩:=ta (s:=s) hb f;have:=(gS s (f+1)).1 2 p r hb e;exact⟨r,0,e,.dead (by omega),by omega⟩
   have hf:=h2 (by omega);rw [rf.cQ,au (by decide)];split
   ·obtain⟨m1,r1,l1⟩:=h.openTake L;obtain⟨⟨p2,x⟩,m2,e2,r2,l2⟩:=i1 2 (aD _) _ m1 r1 (by omega) (by omega);rw [e2];exact⟨_,m2,rfl,r2.dec,by omega⟩
   split
   ·obtain⟨m1,r1,l1⟩:=h.openTake L;obtain⟨⟨p2,x⟩,m2,e2,r2,l2⟩:=i1 0 (by decide) _ m1 r1 (by omega) (by omega);rw [e2];obtain⟨m3,r3,l3⟩:=Rk.need L (x:=rf.m7) r2;exact⟨_,m3,rfl,r3.dec,by omega⟩
   split
   ·obtain⟨m1,r1,l1⟩:=h.take L;obtain⟨m2,r2,l2⟩:=r1.need L rf.AN;obtain⟨m3,r3,l3⟩:=r2.kind L 110;exact⟨_,m3,rfl,r3,by omega⟩
   split
   ·obtain⟨m1,r1,l1⟩:=h.take L;obtain⟨m2,r2,l2⟩:=r1.need L rf.jd;obtain⟨m3,r3,l3⟩:=r2.kind L 110;exact⟨_,m3,rfl,r3,by omega⟩
   split
   ·obtain⟨m1,r1,l1⟩:=h.take L;obtain⟨m3,r3,l3⟩:=r1.kind L 48;exact⟨_,m3,rfl,r3,by omega⟩
   split
   ·exact⟨_,0,rfl,.fail _ rfl,by omega⟩
   obtain⟨⟨p1,a⟩,m1,e1,r1,l1⟩:=j1 p m h (by omega) (by omega);rw [e1];dsimp only;obtain⟨m2,r2,l2⟩:=Rk.need L (x:=if rf.aT p1 rf.ku=true then rf.ku else rf.jo) r1;obtain⟨⟨p3,b⟩,m3,e3,r3,l3⟩:=j1 _ m2 r2 (by omega) (by omega);rw [e3];exact⟨_,m3,rfl,r3,by omega⟩
  dsimp only;rw [rf.eJ];by_cases hc:rf.aT p (rf.Cb lv)=true
  ·rw [aC hc]
   have hm:0<m:=by
    rcases yj m with hz|hz
    ·rw [bC (h.zero hz)]at hc;cases hc
    exact hz
   obtain⟨m1,r1,l1⟩:=h.take L;obtain⟨⟨p2,x⟩,m2,e2,r2,l2⟩:=i1 (lv+1) (by omega) _ m1 r1 (by omega) (by omega);rw [e2];obtain⟨r3,m3,e3,r4,l3⟩:=i2 lv hl (.mk (rf.Cb lv) ⟨#[]⟩ 0 0 [t,x]) p2 m2 r2 (by omega) (by omega);exact⟨r3,m3,e3,r4,by omega⟩
  rw [au hc];exact⟨_,m,rfl,h,aD _⟩
theorem Cz(L:Lx s ts){q:rf.PS×rf.Tr×Bool}{m:Nat}(h:Rk s ts q.1 m)(w:ByteArray):∃ m',Rk s ts (rf.bF s w q).1 m'/\m'<=m/\((rf.bF s w q).2.2=true->q.2.2=true\/m'<=m-1/\0<m):=by
 unfold rf.bF;by_cases hc:rf.aT q.1 w=true
 ·rw [aC hc];obtain⟨m1,r1,l1⟩:=h.take L
  have hm:0<m:=by
   rcases yj m with hz|hz
   ·rw [bC (h.zero hz)]at hc;cases hc
   exact hz
  exact⟨m1,r1,by omega,λ _=>inr ⟨l1,hm⟩⟩
 rw [au hc];exact⟨m,h,aD _,λ e=>inl e⟩
theorem D5(L:Lx s ts):∀ f x,Tl s ts 1 f (λ p=>rf.gi s f p x)
 | 0,x=>λ p m h h1 h2=>by omega
 | f+1,x=>λ p m h h1 h2=>by
  dsimp only;rw [rf.gi];obtain⟨m1,r1,l1,f1⟩:=Cz L (q:=(p,x,false)) h rf.fK;obtain⟨m2,r2,l2,f2⟩:=Cz L r1 rf.dI;obtain⟨m3,r3,l3,f3⟩:=Cz L r2 rf.eZ;have r3':Rk s ts (rf.jU s p x).1 m3:=r3;split
  ·rename_i hc
   have hlt:m3<=m-1/\0<m:=by
    rcases f3 hc with e|e
    ·rcases f2 e with e|e
     ·rcases f1 e with e|e
      ·cases e
      omega
     omega
    omega
   obtain⟨r,m4,e4,r4,l4⟩:=D5 L f (rf.jU s p x).2.1 _ m3 r3' (by omega) (by omega);exact⟨r,m4,e4,r4,by omega⟩
  exact⟨_,m3,rfl,r3',by omega⟩
theorem AJ(L:Lx s ts):∀ f,Tt s ts 5 f (rf.dq s f)/\(∀ ks p m,Rk s ts p m->0<m->16*m+4<=f->∃ r m',rf.dp s f p ks=some r/\Rk s ts r.1 m'/\m'<=m-1)/\(∀ p m,Rk s ts p m->0<m->16*m+3<=f->∃ r m',rf.jn s f p=some r/\Rk s ts r.1 m'/\m'<=m-1)/\(∀ ks p m,Rk s ts p m->0<m->16*m+2<=f->∃ r m',rf.gV s f p ks=some r/\Rk s ts r.1 m'/\m'<=m-1)/\(∀ p m,Rk s ts p m->0<m->16*m+1<=f->∃ r m',rf.gT s f p=some r/\Rk s ts r.1 m'/\m'<=m-1)
 | 0=>⟨λ p m h h1 h2=>by omega,λ ks p m h h1 h2=>by omega,λ p m h h1 h2=>by omega,λ ks p m h h1 h2=>by omega,λ p m h h1 h2=>by omega⟩
 | f+1=>by
  obtain⟨i1,i2,i3,i4,i5⟩:=AJ L f;refine⟨?_,λ ks p m h hm hf=>?_,λ p m h hm hf=>?_,λ ks p m h hm hf=>?_,λ p m h hm hf=>?_⟩
  ·refine AK (mi s (f+1)).1 (λ hf p hb=>?_) (λ p m h hm hb hf=>?_)
   ·obtain⟨g,rfl⟩:∃ g,f=g+4:=⟨f-4,by omega⟩
    exact yW hb g
   rw [rf.dq];exact i2 [] p m h hm (by omega)
  ·rw [rf.dp];obtain⟨⟨p1,r1⟩,m1,e1,k1,l1⟩:=i3 p m h hm (by omega);rw [e1];dsimp only;by_cases hc:rf.aT p1 rf.AM=true
   ·rw [aC hc]
    have hm1:0<m1:=by
     rcases yj m1 with hz|hz
     ·rw [bC (k1.zero hz)]at hc;cases hc
     exact hz
    obtain⟨m2,k2,l2⟩:=Rk.take L k1;dsimp only at k2;by_cases hz:m2=0
    ·have hb:=k2.zero hz;obtain⟨g,rfl⟩:∃ g,f=g+4:=⟨f-4,by omega⟩
     have e2:∃ r,rf.dp s (g+4) (rf.ax s p1) (ks++[r1])=some r:=by
      have e1:∃ x,rf.gT s (g+1) (rf.ax s p1)=some (rf.ax s p1,x):=by
       rw [rf.gT,bC hb,bC hb,au (by decide),au (by decide),ie hb];exact⟨_,rfl⟩
      obtain⟨x,e1⟩:=e1;have e2:rf.gi s (g+1) (rf.ax s p1) x=some (rf.ax s p1,x):=by rw [rf.gi,wV hb,au (by simp)]
      rw [rf.dp,rf.jn,rf.gV,e1];dsimp only;rw [e2];dsimp only;rw [kD hb,au (by decide)];dsimp only;rw [bC hb,au (by decide)];exact⟨_,rfl⟩
     obtain⟨r,e2⟩:=e2;have:=(mi s (g+4)).2.1 _ _ _ hb e2;exact⟨r,0,e2,.dead (by omega),by omega⟩
    obtain⟨r,m3,e3,k3,l3⟩:=i2 (ks++[r1]) _ m2 k2 (by omega) (by omega);exact⟨r,m3,e3,k3,by omega⟩
   rw [au hc];exact⟨_,m1,rfl,k1,l1⟩
  ·rw [rf.jn];exact i4 [] p m h hm (by omega)
  ·rw [rf.gV];obtain⟨⟨p1,x⟩,m1,e1,k1,l1⟩:=i5 p m h hm (by omega);rw [e1];dsimp only;obtain⟨⟨p2,x2⟩,m2,e2,k2,l2⟩:=D5 L f x p1 m1 k1 (by omega) (by omega);dsimp only at e2;rw [e2];dsimp only;by_cases hc:rf.lV p2=true
   ·rw [aC hc]
    have hm2:0<m2:=by
     rcases yj m2 with hz|hz
     ·rw [kD (k2.zero hz)]at hc;cases hc
     exact hz
    obtain⟨r,m3,e3,k3,l3⟩:=i4 (ks++[x2]) p2 m2 k2 hm2 (by omega);exact⟨r,m3,e3,k3,by omega⟩
   rw [au hc];exact⟨_,m2,rfl,k2,by omega⟩
  rw [rf.gT];split
  ·obtain⟨m1,k1,l1⟩:=h.take L;exact⟨_,m1,rfl,k1,l1⟩
  split
  ·obtain⟨m1,k1,l1⟩:=h.openTake L;obtain⟨⟨p2,t⟩,m2,e2,k2,l2⟩:=i1 _ m1 k1 (by omega) (by omega);rw [e2];obtain⟨m3,k3,l3⟩:=Rk.need L (x:=rf.mO) k2;exact⟨_,m3,rfl,k3.dec,by omega⟩
  obtain⟨m1,k1,l1⟩:=h.kind L 48;exact⟨_,m1,rfl,k1,l1⟩
theorem wI(L:Lx s ts):∀ f,Tt s ts 1 f (rf.ef s f)/\(∀ ks,Tl s ts 8 f (λ p=>rf.dO s f p ks))/\Tt s ts 7 f (rf.stmtTw s f)/\(∀ p m,Rk s ts p m->(m=0->4<=f)->(0<m->16*m+6<=f)->∃ r m',rf.ft s f p=some r/\Rk s ts r.1 m'/\m'<=m-1)
 | 0=>⟨λ p m h h1 h2=>by omega,λ ks p m h h1 h2=>by omega,λ p m h h1 h2=>by omega,λ p m h h1 h2=>by omega⟩
 | f+1=>by
  obtain⟨i1,i2,i3,i4⟩:=wI L f;obtain⟨j1,_,_⟩:=uy L f;obtain⟨c1,_⟩:=wH L f;refine⟨?_,λ ks p m h h1 h2=>?_,?_,λ p m h h1 h2=>?_⟩
  ·refine AK (eM s (f+1)).1 (λ hf p hb=>?_) (λ p m h hm hb hf=>?_)
   ·obtain⟨g,rfl⟩:∃ g,f=g+1:=⟨f-1,by omega⟩
    exact s9 hb g
   rw [rf.ef]
   have ho:∃ m1,Rk s ts (if rf.aT p rf.iw=true then rf.cx p else p) m1/\m1<=m:=by
    split
    ·exact h.opens
    exact⟨m,h,aD _⟩
   obtain⟨m1,k1,l1⟩:=ho;obtain⟨m2,k2,l2⟩:=k1.need L rf.iw;obtain⟨r,m3,e3,k3,l3⟩:=i2 [] _ m2 k2.line (by omega) (by omega);exact⟨r,m3,e3,k3,by omega⟩
  ·dsimp only;rw [rf.dO];by_cases hc:rf.aT p rf.fC=false/\p.bad<0
   ·rw [aC hc]
    have hm:0<m:=by
     rcases yj m with hz|hz
     ·have:=h.zero hz;omega
     exact hz
    obtain⟨⟨p1,x⟩,m1,e1,k1,l1⟩:=i3 p m h (by omega) (by omega);rw [e1];dsimp only;obtain⟨r,m2,e2,k2,l2⟩:=i2 (ks++[x]) p1 m1 k1 (by omega) (by omega);exact⟨r,m2,e2,k2,by omega⟩
   rw [au hc];obtain⟨m1,k1,l1⟩:=h.need L rf.fC;exact⟨_,m1,rfl,k1.line.dec,by omega⟩
  ·refine AK (eM s (f+1)).2.2.1 (λ hf p hb=>?_) (λ p m h hm hb hf=>?_)
   ·obtain⟨g,rfl⟩:∃ g,f=g+4:=⟨f-4,by omega⟩
    exact Et hb g
   rw [rf.stmtTw];split
   ·exact i4 p m h (by omega) (by omega)
   obtain⟨r,m1,e1,k1,l1⟩:=i4 (rf.aY p) 0 (.fail _ rfl) (by omega) (by omega);exact⟨r,m1,e1,k1,by omega⟩
  by_cases hm:m=0
  ·have hb:=h.zero hm;obtain⟨g,rfl⟩:∃ g,f=g+3:=⟨f-3,by omega⟩
   obtain⟨r,e⟩:=vN (s:=s) hb g;have:=(eM s (g+3+1)).2.2.2 p r hb e;exact⟨r,0,e,.dead (by omega),by omega⟩
  have hf:=h2 (by omega);obtain⟨m1,k1,l1⟩:=h.take L;rw [rf.ft];split
  ·obtain⟨m2,k2,l2⟩:=k1.need L rf.ku;obtain⟨⟨p3,x⟩,m3,e3,k3,l3⟩:=j1 _ m2 k2 (by omega) (by omega);rw [e3];obtain⟨m4,k4,l4⟩:=Rk.need L (x:=rf.fy) k3;exact⟨_,m4,rfl,k4,by omega⟩
  split
  ·obtain⟨m2,k2,l2⟩:=k1.kind L 48;obtain⟨m3,k3,l3⟩:=k2.need L rf.fy;exact⟨_,m3,rfl,k3,by omega⟩
  split
  ·obtain⟨⟨p2,c⟩,m2,e2,k2,l2⟩:=c1 0 (by decide) _ m1 k1 (by omega) (by omega);rw [e2];dsimp only;obtain⟨m3,k3,l3⟩:=Rk.need L (x:=rf.uB) k2;obtain⟨⟨p4,b⟩,m4,e4,k4,l4⟩:=i1 _ m3 k3 (by omega) (by omega);dsimp only at e4;rw [e4];dsimp only;split
   ·obtain⟨m5,k5,l5⟩:=Rk.take L k4;dsimp only at k5;obtain⟨⟨p6,y⟩,m6,e6,k6,l6⟩:=i1 _ m5 k5 (by omega) (by omega);rw [e6];exact⟨_,m6,rfl,k6,by omega⟩
   exact⟨_,m4,rfl,k4,by omega⟩
  obtain⟨m3,k3,l3⟩:=k1.need L rf.fy;exact⟨_,m3,rfl,k3,by omega⟩
theorem IV(L:Lx s ts){p:rf.PS}{m:Nat}(h:Rk s ts p m):∃ m',Rk s ts (rf.dV s p).1 m'/\m'<=m-1:=by
 obtain⟨m1,k1,l1⟩:=h.kind L 47;unfold rf.dV;split
 ·obtain⟨m2,k2,l2⟩:=k1.kind L 48;obtain⟨m3,k3,l3⟩:=k2.kind L 48;exact⟨m3,k3,by omega⟩
 exact⟨m1,k1,l1⟩
theorem yd(L:Lx s ts):∀ f b l,Tl s ts 2 f (λ p=>rf.rangesLp s f b p l)
 | 0,b,l=>λ p m h h1 h2=>by omega
 | f+1,b,l=>λ p m h h1 h2=>by
  dsimp only;rw [rf.rangesLp];by_cases hc:b=true/\p.bad<0
  ·rw [aC hc]
   have hm:0<m:=by
    rcases yj m with hz|hz
    ·have:=h.zero hz;omega
    exact hz
   obtain⟨m1,k1,l1⟩:=IV L h;split
   ·obtain⟨m2,k2,l2⟩:=k1.take L;obtain⟨r,m3,e3,k3,l3⟩:=yd L f true (l++[(rf.dV s p).2]) _ m2 k2 (by omega) (by omega);exact⟨r,m3,e3,k3,by omega⟩
   obtain⟨r,m3,e3,k3,l3⟩:=yd L f false (l++[(rf.dV s p).2]) _ m1 k1 (by omega) (by omega);exact⟨r,m3,e3,k3,by omega⟩
  rw [au hc];obtain⟨m1,k1,l1⟩:=h.need L rf.rW;exact⟨_,m1,rfl,k1,by omega⟩
theorem Ln(L:Lx s ts){f m:Nat}{p:rf.PS}(h:Rk s ts p m)(hf:16*m+5<=f):∃ r m',rf.nD s f p=some r/\Rk s ts r.1 m'/\m'<=m-1:=by
 obtain⟨m1,k1,l1⟩:=h.take L;obtain⟨m2,k2,l2⟩:=k1.kind L 110;obtain⟨m3,k3,l3⟩:=k2.need L rf.ku;unfold rf.nD;split
 ·obtain⟨⟨p4,t⟩,m4,e4,k4,l4⟩:=(AJ L f).1 _ m3 k3 (by omega) (by omega);rw [e4];obtain⟨m5,k5,l5⟩:=Rk.need L (x:=rf.fy) k4;exact⟨_,m5,rfl,k5,by omega⟩
 obtain⟨m4,k4,l4⟩:=k3.need L rf.uG;obtain⟨⟨p5,l⟩,m5,e5,k5,l5⟩:=yd L f true [] _ m4 k4 (by omega) (by omega);dsimp only at e5;unfold rf.ja;rw [e5];obtain⟨m6,k6,l6⟩:=Rk.need L (x:=rf.fy) k5;exact⟨_,m6,rfl,k6,by omega⟩
theorem AI(L:Lx s ts){F N:Nat}(hF:16*N+5<=F):∀(k:Nat) {p:rf.PS} {m:Nat} (l:List rf.Df),Rk s ts p m->m<=N->m+1<=k->∃ r m',rf.gB s F k p l=some r/\Rk s ts r.1 m'/\m'<=m
 | 0,p,m,l,h,h1,h2=>by omega
 | k+1,p,m,l,h,h1,h2=>by
  rw [rf.gB];by_cases hc:(rf.aT p rf.qE||rf.aT p rf.nz)=true
  ·rw [aC hc]
   have hm:0<m:=by
    rcases yj m with hz|hz
    ·have hb:=h.zero hz;rw [bC hb,bC hb]at hc;cases hc
    exact hz
   have hp:∃ m1,Rk s ts (if l.length=8 then rf.aY p else p) m1/\m1<=m:=by
    split
    ·exact⟨0,.fail _ rfl,by omega⟩
    exact⟨m,h,aD _⟩
   obtain⟨m1,k1,l1⟩:=hp;obtain⟨⟨p2,d⟩,m2,e2,k2,l2⟩:=Ln L k1 (f:=F) (by omega);rw [e2];dsimp only;obtain⟨r,m3,e3,k3,l3⟩:=AI L hF k (l++[d]) k2 (by omega) (by omega);exact⟨r,m3,e3,k3,by omega⟩
  rw [au hc];exact⟨_,m,rfl,h,aD _⟩
theorem AH(L:Lx s ts){F N:Nat}(hF:16*N+7<=F):∀(k:Nat) (b:Bool) {p:rf.PS} {m:Nat} (l:List rf.Tr),Rk s ts p m->m<=N->m+1<=k->∃ r,rf.fQ s F k b p l=some r
 | 0,b,p,m,l,h,h1,h2=>by omega
 | k+1,b,p,m,l,h,h1,h2=>by
  rw [rf.fQ];by_cases hc:b=true/\p.bad<0
  ·rw [aC hc]
   have hm:0<m:=by
    rcases yj m with hz|hz
    ·have:=h.zero hz;omega
    exact hz
   obtain⟨⟨p2,x⟩,m2,e2,k2,l2⟩:=(wI L F).2.2.1 p m h (by omega) (by omega);rw [e2];dsimp only;exact AH L hF k _ (l++[x]) k2 (by omega) (by omega)
  rw [au hc];exact⟨_,rfl⟩
end
theorem G9{s:ByteArray}(hs:s.size<=600):∃ c,rf.vI s 10000=some c:=by
 obtain⟨hok,hl0⟩:=ju hs;have L:=Im hs;have hn:=hok.n1;have h0:Rk s (cO s) (rf.Mv s) (cO s).length:=inr ⟨by show(-1:Int)<0;decide,0,hl0,by omega,rfl,rfl⟩;obtain⟨⟨p1,ds⟩,m1,e1,k1,l1⟩:=AI L (F:=10000) (N:=(cO s).length) (by omega) 10000 [] h0 (aD _) (by omega);obtain⟨⟨p2,ks⟩,e2⟩:=AH L (F:=10000) (N:=(cO s).length) (by omega) 10000 true [] k1 l1 (by omega);unfold rf.vI;rw [e1];dsimp only;dsimp only at e2;rw [e2];exact⟨_,rfl⟩
theorem I2{s:ByteArray}(hs:s.size<=600){r:RS×List (Option aM)}(h:tU (cO s)=some r){a:Int}(e:r.1.syn=some a):yu s 2 a:=λ w ht=>by
 obtain⟨h1,h2⟩:=ju hs;exact tV s hs w ht h1 h2 (st:=r.1) (l:=r.2) (pu hs h) (inl ⟨e,rfl⟩)
theorem I0{s:ByteArray}(hs:s.size<=600){r:RS×List (Option aM)}(h:tU (cO s)=some r){a:Int}(e1:r.1.syn=none)(e:r.1.nam=some a):yu s 3 a:=λ w ht=>by
 obtain⟨h1,h2⟩:=ju hs;exact tV s hs w ht h1 h2 (st:=r.1) (l:=r.2) (pu hs h) (inr (inl ⟨e1,e,rfl⟩))
theorem I1{s:ByteArray}(hs:s.size<=600){r:RS×List (Option aM)}(h:tU (cO s)=some r){a:Int}(e1:r.1.syn=none)(e2:r.1.nam=none)(e:r.1.num=some a):yu s 4 a:=λ w ht=>by
 obtain⟨h1,h2⟩:=ju hs;exact tV s hs w ht h1 h2 (st:=r.1) (l:=r.2) (pu hs h) (inr (inr ⟨e1,e2,e,rfl⟩))
theorem nR(s:ByteArray):∀(f k:Nat) (t:aw),t∈dh s f k->2<=t.kind->1<=t.text.size
 | 0,_,t,h,_=>by cases h
 | f+1,k,t,h,h2=>by
  rw [dh]at h;split at h
  ·rename_i hlt;have h0:0<(s.extract k s.size).size:=by simp;omega
   have h1:1<=(hC s k).text.size:=(qV h0).1;split at h
   ·exact nR s f _ t h h2
   split at h
   ·rw [List.mem_singleton.1 h];exact h1
   rcases List.mem_cons.1 h with rfl|h
   ·exact h1
   exact nR s f _ t h h2
  rw [List.mem_singleton.1 h]at h2;have:(nV s).kind=1:=rfl;omega
theorem KT{s:ByteArray}{r:RS×List (Option aM)}(h:tU (cO s)=some r)(hn:¬fY r.1):r.1.page≠[]:=λ e=>by
 have hsyn:r.1.syn=none:=by
  cases e:r.1.syn with
  | none=>rfl
  | some x=>exact absurd (inl (by rw [e];rfl)) hn
 obtain⟨hk,hne⟩:=Cd h hsyn;have hp:=zO (λ I C=>lK _ I C) h;have htk:=(Az (cO s)).policyW 700 700 (lK _ _ (Az _)) _ _ (λ t ht=>by simp [lJ]at ht) h
 have hkt:(bL (cO s) r.1).kind=1:=by
  unfold am at hk;rw [hsyn]at hk;simpa using hk
 obtain⟨t,ht⟩:∃ t,(cO s)[r.1.next]?=some t:=by
  cases e:(cO s)[r.1.next]? with
  | none =>
   unfold bL at hkt;rw [e]at hkt;cases hkt
  | some t=>exact⟨t,rfl⟩
 have hk1:t.kind=1:=by
  unfold bL at hkt;rw [ht]at hkt;exact hkt
 have hnlt:r.1.next<(cO s).length:=(List.getElem?_eq_some_iff.1 ht).1;obtain⟨l,hpe,hpm,_⟩:=hp.ex
 have hl0:l=[]:=by
  cases l with
  | nil=>rfl
  | cons x l =>
   have hx2:x.2∈(cO s).take r.1.next:=by rw [<-hpm];exact List.mem_cons_self
   have hsz:=nR s _ _ _ (List.mem_of_mem_take hx2) (htk _ hx2);rw [hpe]at e;have e':x.1++x.2.text.data.toList++Cm l=[]:=e;simp only [List.append_eq_nil_iff]at e';have h3:=pP List.length e'.1.2;have h4:x.2.text.data.toList.length=x.2.text.size:=Array.length_toList;rw [h4]at h3;have h5:x.2.text.size=0:=h3;omega
 have hnx:r.1.next=0:=by
  rw [hl0]at hpm;have h1:=pP List.length hpm;rw [List.length_take]at h1;simp only [List.map_nil,List.length_nil]at h1;omega
 rw [hnx]at ht
 have hk0:am (cO s) lJ=1:=by
  show(bL (cO s) lJ).kind=1;unfold bL;rw [show lJ.next=0 from rfl,ht];exact hk1
 refine hne ?_;unfold tU policyW at h
 have hd:defsW (cO s) 700 700 8 lJ=some lJ:=by
  rw [defsW];unfold defW yY;rw [hk0,au (by decide),au (by decide),au (by decide)]
 rw [hd]at h;dsimp only at h;unfold i6 at h
 have hst:Am (cO s) lJ=some (lJ,none):=by
  unfold Am;rw [show(700:Nat)=699+1 from rfl,stmtTw,hk0,au (by decide),au (by decide),au (by decide),au (by decide),au (by decide),au (by decide),au (by decide),au (by decide),au (by decide)]
 have hmo:bO (Am (cO s)) 700 lJ []=some (lJ,[]):=by
  rw [show(700:Nat)=699+1 from rfl,bO,hst]
 rw [hmo]at h;cases h;rfl
structure LT(s:ByteArray)(ms:List aM)(x:ByteArray)(c:rf.PS×List rf.Df×List rf.Tr)(r:RS×List (Option aM)):Prop where
 sim:Gs s c r
 steps:r.2=ms.map some
 text:x=pw r.1
 pol:tU (cO s)=some r
 size:s.size<=600
theorem xe(s:ByteArray):(∃ er at_:Int,er≠0/\(∀ w,bB w->Calls prog 24 #[.string s] w λ e w'=>e=.returned (.tuple #[.pointer none,.int .i64 er,.int .i64 at_])/\Below w.heap.size w w') /\
   (∀ w,Calls prog 25 #[.string s] w λ e w'=>e=.returned (.tuple #[.pointer none,.int .i64 er,.int .i64 at_])/\Below w.heap.size w w')) \/
  ∃ ms x c r,LT s ms x c r/\(∀ w,bB w->Calls prog 24 #[.string s] w λ e w'=>∃ pp,e=.returned (.tuple #[ay pp 0,.int .i64 0,.int .i64 0])/\Below w.heap.size w w'/\az w' (λ k=>w.heap.size<=k) (D6 pp ms x)) /\
   (∀ w,Calls prog 25 #[.string s] w λ e w'=>∃ pp,e=.returned (.tuple #[ay pp 0,.int .i64 0,.int .i64 0])/\Below w.heap.size w w'/\az w' (λ k=>w.heap.size<=k) (rf.uH pp c.2.1 c.2.2 c.1.taken c.1.lines)):=by
 by_cases hl:600<s.size
 ·refine inl ⟨1,0,by decide,λ w ht=>j6 (by decide) (Fw s hl) w ht,λ w=>?_⟩;refine(rf.xf hl w).mono ?_;rintro e w' ⟨rfl,rfl⟩;exact⟨rfl,aX _ _⟩
 have hs:s.size<=600:=by omega
 obtain⟨r,hr⟩:=IQ (ts:=cO s) (by have:=(ju hs).1.n1;omega);obtain⟨c,hc⟩:=G9 hs;rcases G8 hs hc hr with⟨a,a0,a1,a2⟩|hq
 ·refine inl ⟨2,a,by decide,λ w ht=>j6 (by decide) (I2 hs hr a2) w ht,λ w=>?_⟩;refine(rf.j5 hs (by decide) hc (λ h=>by omega) w).mono ?_;rintro e w' ⟨hb,he⟩;rw [aC (by omega),a1]at he;exact⟨he,hb⟩
 have hbad:=hq.al.bad;have hsyn:=hq.al.syn;have hnam:=hq.nam;have hnum:=hq.num;by_cases hn:0<=rf.gL c.2.1 (.mk rf.bP nB 0 0 c.2.2)
 ·have e1:r.1.nam=some (rf.gL c.2.1 (.mk rf.bP nB 0 0 c.2.2)):=by rw [hnam];simp [iA,hn]
  refine inl ⟨3,_,by decide,λ w ht=>j6 (by decide) (I0 hs hr hsyn e1) w ht,λ w=>?_⟩;refine(rf.j5 hs (by decide) hc (λ _=>hq.wf) w).mono ?_;rintro e w' ⟨hb,he⟩;rw [au (by omega),aC hn]at he;exact⟨he,hb⟩
 have e1:r.1.nam=none:=by rw [hnam];simp [iA];omega
 by_cases hm:0<=rf.ec c.2.1 (.mk rf.bP nB 0 0 c.2.2)
 ·have e2:r.1.num=some (rf.ec c.2.1 (.mk rf.bP nB 0 0 c.2.2)):=by rw [hnum];simp [iA,hm]
  refine inl ⟨4,_,by decide,λ w ht=>j6 (by decide) (I1 hs hr hsyn e1 e2) w ht,λ w=>?_⟩;refine(rf.j5 hs (by decide) hc (λ _=>hq.wf) w).mono ?_;rintro e w' ⟨hb,he⟩;rw [au (by omega),au hn,aC hm]at he;exact⟨he,hb⟩
 have e2:r.1.num=none:=by rw [hnum];simp [iA];omega
 have hnt:¬fY r.1:=by
  unfold fY;rw [hsyn,e1,e2];simp
 obtain⟨ms,hms⟩:=Fo hr hnt;have hp:=KT hr hnt;refine inr ⟨ms,pw r.1,c,r,⟨hq,hms,rfl,hr,hs⟩,λ w ht=>Ep (IW hs hr hnt hms hp) w ht,λ w=>?_⟩;refine(rf.j5 hs (by decide) hc (λ _=>hq.wf) w).mono ?_;rintro e w' ⟨hb,he⟩;rw [au (by omega),au hn,au hm]at he;obtain⟨pp,h1,h2⟩:=he;exact⟨pp,h1,hb,h2⟩
structure MP(cs:List Value)(k:Int)(S:ByteArray):Prop where
 len:cs.length=18
 kind:cs[0]?=some (.int .i64 k)
 str:cs[3]?=some (.string S)
abbrev Dd(v:Value):Array Value:=#[v,.slice none 0 0,.slice none 0 0,.slice none 0 0,.slice none 0 0,.slice none 0 0,.slice none 0 0]
def k7(W:World)(O:Nat->Prop)(a b:Value):Prop :=
 ∃ s ms x c r pp qq,a=ay pp 0/\b=ay qq 0/\LT s ms x c r/\az W (λ k=>¬O k) (D6 pp ms x)/\az W (λ k=>¬O k) (rf.uH qq c.2.1 c.2.2 c.1.taken c.1.lines)
theorem k7.fr{W W':World}{O O':Nat->Prop}{a b:Value}(h:k7 W O a b)(hf:Fr O W O' W'):k7 W' O' a b:=by
 obtain⟨s,ms,x,c,r,pp,qq,h1,h2,h3,h4,h5⟩:=h
 have key:∀ k,k<W.heap.size->¬O k->W'.heap[k]?=W.heap[k]?/\¬O' k:=λ k h1 h2=>⟨hf.block k h1 h2,λ h=>by
  rcases hf.own k h with h|h
  ·exact h2 h
  ·omega⟩
 exact⟨s,ms,x,c,r,pp,qq,h1,h2,h3,h4.mono hf.size key (λ _ _ h=>h),h5.mono hf.size key (λ _ _ h=>h)⟩
theorem Tryz.infoPol:(prog.info? 53).map (λ i=>(i.zero,i.size,i.bytes))=some (some (.agg #[.pointer none,.pointer none]),2,16):=by kernel_rfl
theorem ue{P:Program}(w:World)(base:Nat)(t ty e:TypeId)(i:TypeInfo)(z:Value)(size bytes:Nat)(ht:P.underlying t=some (.slice e))(hi:P.info? e=some i)(hz:i.zero=some z)
  (hsize:i.size=size) (hby:i.bytes=bytes) (hzs:z.cells.size=size) (hsz:0<size)
  (v:Value) (n:Nat) (xs:List Value) (hown:w.ownsRow base e size v n xs)
  (a:Addr) (m c:Nat) (news:List Value) (hl:news.length=m*size) (hnews:∀ j u,news[j]?=some u->w.cell? (a.add j)=some u) (h1:∀ u∈news,u.oneCell'=true)
  (h63:n+m<=maxLen) (hbytes:(n+m)*bytes<=140737488355328) (hbase:base<=w.heap.size) :
  ∃ v' w',(Builtin.append_ #[t,t] ty #[v,.slice (some a) m c]).run P w=.ok v' w'/\w'.ownsRow base e size v' (n+m) (xs++news)/\w'.ownsRow base e size v n xs/\w.grownBy w' v.ownBlock /\
   (v'.ownBlock=v.ownBlock\/(v'.ownBlock=some w.heap.size/\∀ k,k<w.heap.size->w'.heap[k]?=w.heap[k]?)):=by
 obtain⟨v',w',hr,h2,h3,_,h5⟩:=run_append_own_at (P:=P) w base t ty e i z size bytes ht hi hz hsize hby hzs hsz v n xs hown a m c news hl hnews h1 h63 hbytes hbase;rcases hown.2 with⟨rfl,hn0⟩|⟨g,cap,cur,rfl,hbg,hg,hnc,hcm,hcs,htake⟩
 ·subst hn0;have hx0:xs=[]:=List.length_eq_zero_iff.1 (by simpa using hown.1);subst hx0;refine⟨v',w',hr,h2,jX _ _ _ _,h3,?_⟩;rcases h5 with h5|h5
  ·exact inl h5
  exact inr ⟨h5,λ k hk=>h3.block k hk (by simp [Value.ownBlock])⟩
 by_cases hroom:n+m<=cap
 ·have hfit:n*i.size+news.length<=cur.size:=by rw [hl,hcs,hsize,<-Nat.add_mul];exact Nat.mul_le_mul_right _ hroom
  have hr2:=run_append_room (P:=P) w t ty e i ht hi g n cap cur hg a m c news (by rw [hl,hsize]) hnews h1 hroom hfit;have e1:=hr.symm.trans hr2;simp only [Result.ok.injEq]at e1;have hh:=setRow_heap w g cur (cur.toList.take (n*i.size)++news++cur.toList.drop (n*i.size+news.length)).toArray e (0,0) hg;refine⟨v',w',hr,h2,⟨hown.1,inr ⟨g,cap,_,rfl,hbg,by rw [e1.2];exact hh,hnc,hcm,?_,?_⟩⟩,h3,?_⟩
  ·simp only [List.size_toArray,List.length_append,List.length_take,List.length_drop,Array.length_toList];omega
  ·have hle:n*i.size<=cur.toList.length:=by simp only [Array.length_toList];omega
   rw [<-hsize,List.append_assoc,List.take_append_of_le_length (by rw [List.length_take];omega),List.take_take,Nat.min_self,hsize];exact htake
  left;rw [e1.1];rfl
 have hsmall:n+m<=9223372036854775807:=by simp only [maxLen]at h63;omega
 have holds:∀ j u,xs[j]?=some u->w.cell? ((⟨g,0,none⟩:Addr).add j)=some u:=hown.cells (g:=g) rfl;have hr2:=run_append_grow (P:=P) w t ty e i z ht hi hz ⟨g,0,none⟩ n cap xs (by rw [hown.1,hsize]) holds a m c news (by rw [hl,hsize]) hnews (by omega) (by omega) (growslice_fits (by omega) (by rw [hby];exact hbytes));have e1:=hr.symm.trans hr2;simp only [Result.ok.injEq]at e1;have hsame:∀ k,k<w.heap.size->w'.heap[k]?=w.heap[k]?:=by rw [e1.2];exact λ k hk=>eW w.drew _ k hk
 refine⟨v',w',hr,h2,ap hown (λ k hk=>hsame k (hown.lt k hk).2),h3,inr ⟨by rw [e1.1];rfl,hsame⟩⟩
theorem ix{P:Program}{w:World}{ops:Array Oper}{rest:List Oper}{o:Oper}{a:Act}{Q:Exit->Act->World->Prop}(hgd:o.guard=none)(s x:Operand)(t:TypeId)
  (ho:o.op=.call { callee:=.builtin .append,args:=#[s,x],argTypes:=#[t,t] })
  (base:Nat) (e:TypeId) (i:TypeInfo) (z:Value) (size bytes:Nat) (ht:P.underlying t=some (.slice e)) (hi:P.info? e=some i) (hz:i.zero=some z)
  (hsize:i.size=size) (hby:i.bytes=bytes) (hzs:z.cells.size=size) (hsz:0<size)
  (v:Value) (n:Nat) (xs:List Value) (hs:a.eval s=v) (hown:w.ownsRow base e size v n xs)
  (ad:Addr) (m c:Nat) (news:List Value) (hx:a.eval x=.slice (some ad) m c) (hl:news.length=m*size) (hnews:∀ j u,news[j]?=some u->w.cell? (ad.add j)=some u) (h1:∀ u∈news,u.oneCell'=true)
  (h63:n+m<=maxLen) (hbytes:(n+m)*bytes<=140737488355328) (hbase:base<=w.heap.size)
  (h:∀ v' w',w'.ownsRow base e size v' (n+m) (xs++news)->w'.ownsRow base e size v n xs->w.grownBy w' v.ownBlock->(v'.ownBlock=v.ownBlock\/(v'.ownBlock=some w.heap.size/\∀ k,k<w.heap.size->w'.heap[k]?=w.heap[k]?))->wpList P ops Q rest (a.put o.dst v') w') :
  wpList P ops Q (o::rest) a w:=by
 refine wpList_plain hgd λ K hK=>?_
 obtain⟨v',w',hr,h2,h0,h3,h5⟩:=ue (P:=P) w base t o.type e i z size bytes ht hi hz hsize hby hzs hsz v n xs hown ad m c news hl hnews h1 h63 hbytes hbase;unfold Oper.wp execOp;simp only [ho,resolve,invoke,builtin,Sem.run_bind,Sem.run_pure,Result.andThen_ok,List.map_toArray,List.map_cons,List.map_nil,hs,hx,hr];exact hK _ _ (h v' w' h2 h0 h3 h5)
def h9(w:World)(v:Value)(l:List (Int×Int)):Prop :=
 ∃ p c,v=.slice p l.length c/\l.length<=c/\(l.length:Int)<=8796093022208/\(∀ x∈l,jw x.1/\jw x.2)/\((l=[]/\(p=none->c=0))\/∃ b o,p=some ⟨b,o,none⟩/\b<w.heap.size/\∀ j,(h:j<l.length)->w.cell? ⟨b,o+j*2,none⟩=some (.int .i64 l[j].1)/\w.cell? ⟨b,o+j*2+1,none⟩=some (.int .i64 l[j].2))
def fS(w:World)(v:Value)(l:List Int):Prop :=
 ∃ p c,v=.slice p l.length c/\l.length<=c/\(l.length:Int)<=140737488355328/\J5 l/\((l=[]/\(p=none->c=0))\/∃ b o,p=some ⟨b,o,none⟩/\b<w.heap.size/\∀ j,(h:j<l.length)->w.cell? ⟨b,o+j,none⟩=some (.int .u8 l[j]))
theorem h9.below{w w':World}{v:Value}{l:List (Int×Int)}(h:h9 w v l)(hb:Below w.heap.size w w'):h9 w' v l:=by
 obtain⟨p,c,hv,hcap,hl,hin,hr⟩:=h;refine⟨p,c,hv,hcap,hl,hin,?_⟩;rcases hr with h|⟨b,o,hp,hlt,hc⟩
 ·exact inl h
 refine inr ⟨b,o,hp,eV hlt hb.size,λ j hj=>?_⟩;rw [hb.cell (p:=⟨b,o+j*2,none⟩) hlt,hb.cell (p:=⟨b,o+j*2+1,none⟩) hlt];exact hc j hj
theorem fS.below{w w':World}{v:Value}{l:List Int}(h:fS w v l)(hb:Below w.heap.size w w'):fS w' v l:=by
 obtain⟨p,c,hv,hcap,hl,hin,hr⟩:=h;refine⟨p,c,hv,hcap,hl,hin,?_⟩;rcases hr with h|⟨b,o,hp,hlt,hc⟩
 ·exact inl h
 refine inr ⟨b,o,hp,eV hlt hb.size,λ j hj=>?_⟩;rw [hb.cell (p:=⟨b,o+j,none⟩) hlt];exact hc j hj
def nO(w:World)(base:Nat)(v:Value)(l:List Int):Prop:=w.ownsRow base 3 1 v l.length (l.map (Value.int .i64))
theorem sG(g j:Nat):(⟨g,0,none⟩:Addr).add j=⟨g,j,none⟩:=by
 rcases yj j with rfl|hj
 ·simp [Addr.add]
 simp [Addr.add,Nat.ne_of_gt hj]
def vk(a b:Value):Prop:=∀ k,a.ownBlock=some k->b.ownBlock≠some k
theorem a8.of_block{w w':World}{v:Value}{l:List Int}(h:a8 w v l)(hs:w.heap.size<=w'.heap.size)(hk:∀ k,v.ownBlock=some k->w'.heap[k]?=w.heap[k]?):a8 w' v l:=by
 obtain⟨p,c,hv,hcap,hl,hin,hr⟩:=h;refine⟨p,c,hv,hcap,hl,hin,?_⟩;rcases hr with h|⟨b,o,hp,hlt,hc⟩
 ·exact inl h
 refine inr ⟨b,o,hp,eV hlt hs,λ j hj=>?_⟩;rw [World.cell?_of_block (w:=w) (a:=⟨b,o+j,none⟩) (hk b (by rw [hv,hp];rfl))];exact hc j hj
theorem fS.of_block{w w':World}{v:Value}{l:List Int}(h:fS w v l)(hs:w.heap.size<=w'.heap.size)(hk:∀ k,v.ownBlock=some k->w'.heap[k]?=w.heap[k]?):fS w' v l:=by
 obtain⟨p,c,hv,hcap,hl,hin,hr⟩:=h;refine⟨p,c,hv,hcap,hl,hin,?_⟩;rcases hr with h|⟨b,o,hp,hlt,hc⟩
 ·exact inl h
 refine inr ⟨b,o,hp,eV hlt hs,λ j hj=>?_⟩;rw [World.cell?_of_block (w:=w) (a:=⟨b,o+j,none⟩) (hk b (by rw [hv,hp];rfl))];exact hc j hj
theorem h9.of_block{w w':World}{v:Value}{l:List (Int×Int)}(h:h9 w v l)(hs:w.heap.size<=w'.heap.size)(hk:∀ k,v.ownBlock=some k->w'.heap[k]?=w.heap[k]?):h9 w' v l:=by
 obtain⟨p,c,hv,hcap,hl,hin,hr⟩:=h;refine⟨p,c,hv,hcap,hl,hin,?_⟩;rcases hr with h|⟨b,o,hp,hlt,hc⟩
 ·exact inl h
 refine inr ⟨b,o,hp,eV hlt hs,λ j hj=>?_⟩;rw [World.cell?_of_block (w:=w) (a:=⟨b,o+j*2,none⟩) (hk b (by rw [hv,hp];rfl)),World.cell?_of_block (w:=w) (a:=⟨b,o+j*2+1,none⟩) (hk b (by rw [hv,hp];rfl))];exact hc j hj
theorem IG{w:World}{base:Nat}{e:TypeId}{size n g cap j:Nat}{xs:List Value}(h:w.ownsRow base e size (.slice (some ⟨g,0,none⟩) n cap) n xs)(u:Value) :
  (w.setCell ⟨g,j,none⟩ u).ownsRow base e size (.slice (some ⟨g,0,none⟩) n cap) n (xs.set j u):=by
 obtain⟨h1,h2⟩:=h;refine⟨by rw [List.length_set];exact h1,?_⟩;rcases h2 with⟨h2,_⟩|⟨g',cap',cur,hv,hb,hg,hn,hm,hs,ht⟩
 ·cases h2
 simp only [Value.slice.injEq,Option.some.injEq,Addr.mk.injEq,true_and,and_true]at hv;obtain⟨rfl,rfl⟩:=hv;refine inr ⟨g,cap,cur.setIfInBounds j u,rfl,hb,aB hg,hn,hm,by simpa using hs,?_⟩;rw [Array.toList_setIfInBounds,List.take_set,ht]
theorem zK{w:World}{base:Nat}{e:TypeId}{size n g cap:Nat}{xs:List Value}(h:w.ownsRow base e size (.slice (some ⟨g,0,none⟩) n cap) n xs):∀ o,w.frozen? ⟨g,o,none⟩=false:=by
 rcases h.2 with⟨h2,_⟩|⟨g',cap',cur,hv,hb,hg,_⟩
 ·cases h2
 simp only [Value.slice.injEq,Option.some.injEq,Addr.mk.injEq,true_and,and_true]at hv;obtain⟨rfl,rfl⟩:=hv;exact λ o=>ak hg
def ep(w:World)(v:Value)(n:Nat)(x:Int):Prop:=a8 w v (List.replicate n x)/\∀ b o s,(∃ c,v=.slice (some ⟨b,o,s⟩) n c)->o=0
def rY(w:World)(v:Value)(n:Nat)(x:Int):Prop:=fS w v (List.replicate n x)/\∀ b o s,(∃ c,v=.slice (some ⟨b,o,s⟩) n c)->o=0
def rZ(w:World)(v:Value)(n:Nat)(x:Int×Int):Prop:=h9 w v (List.replicate n x)/\∀ b o s,(∃ c,v=.slice (some ⟨b,o,s⟩) n c)->o=0
theorem KQ{w:World}{base:Nat}{e:TypeId}{size n m:Nat}{v:Value}{xs:List Value}(h:w.ownsRow base e size v n xs):∀ b o s,(∃ c,v=.slice (some ⟨b,o,s⟩) m c)->o=0:=by
 rintro b o s ⟨c,hv⟩;rcases h.2 with⟨h2,_⟩|⟨g,cap,cur,h2,_⟩
 ·rw [h2]at hv;cases hv
 rw [h2]at hv;simp only [Value.slice.injEq,Option.some.injEq,Addr.mk.injEq]at hv;exact hv.1.2.1.symm
theorem ep.own{w:World}{base n:Nat}{v:Value}{x:Int}(h:nO w base v (List.replicate n x))(hx:jw x)(hn:n<=1099511627776):ep w v n x :=
 ⟨a8.own h (λ y hy=>by rw [List.eq_of_mem_replicate hy];exact hx) (by rw [List.length_replicate];omega),KQ h⟩
theorem ep.keep{w w':World}{base a b:Nat}{u v v':Value}{x:Int}(h:ep w u a x)(ho:nO w' base v' (List.replicate b x))(hab:a<=b)(hg:w.grownBy w' v.ownBlock)
  (hd:v'.ownBlock=v.ownBlock\/(v'.ownBlock=some w.heap.size/\∀ k,k<w.heap.size->w'.heap[k]?=w.heap[k]?)):ep w' u a x:=by
 refine⟨?_,h.2⟩;obtain⟨⟨p,c,hv,hcap,hl,hin,hr⟩,hoff⟩:=h;refine⟨p,c,hv,hcap,hl,hin,?_⟩;rcases hr with h|⟨bb,o,rfl,hlt,hc⟩
 ·exact inl h
 have ho0:=hoff bb o none ⟨c,by rw [hv,List.length_replicate]⟩;subst ho0;refine inr ⟨bb,0,rfl,eV hlt hg.size,λ j hj=>?_⟩;rcases hd with hd|⟨_,hd⟩
 ·by_cases hbv:v.ownBlock=some bb
  ·rw [hbv]at hd;rw [List.length_replicate]at hj;rcases ho.2 with⟨h2,_⟩|⟨g,cap,cur,h2,_⟩
   ·rw [h2]at hd;cases hd
   rw [h2]at hd;have:g=bb:=by simpa [Value.ownBlock]using hd
   subst this;have h3:=ho.cells (show v'.ownBlock=some g by rw [h2];rfl) j (.int .i64 x) (by simp [List.getElem?_replicate];omega);rw [sG]at h3;simpa using h3
  rw [World.cell?_of_block (w:=w) (a:=⟨bb,0+j,none⟩) (hg.block bb hlt (λ e=>hbv e.symm))];exact hc j hj
 rw [World.cell?_of_block (w:=w) (a:=⟨bb,0+j,none⟩) (hd bb hlt)];exact hc j hj
theorem ep.of_block{w w':World}{v:Value}{n:Nat}{x:Int}(h:ep w v n x)(hs:w.heap.size<=w'.heap.size)(hk:∀ k,v.ownBlock=some k->w'.heap[k]?=w.heap[k]?):ep w' v n x:=⟨h.1.of_block hs hk,h.2⟩
theorem rY.of_block{w w':World}{v:Value}{n:Nat}{x:Int}(h:rY w v n x)(hs:w.heap.size<=w'.heap.size)(hk:∀ k,v.ownBlock=some k->w'.heap[k]?=w.heap[k]?):rY w' v n x:=⟨h.1.of_block hs hk,h.2⟩
theorem rZ.of_block{w w':World}{v:Value}{n:Nat}{x:Int×Int}(h:rZ w v n x)(hs:w.heap.size<=w'.heap.size)(hk:∀ k,v.ownBlock=some k->w'.heap[k]?=w.heap[k]?):rZ w' v n x:=⟨h.1.of_block hs hk,h.2⟩
