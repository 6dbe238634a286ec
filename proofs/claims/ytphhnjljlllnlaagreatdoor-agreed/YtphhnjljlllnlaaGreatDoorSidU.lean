/- part -/
import Derived.Test.YtphhnjljlllnlaaGreatDoorKeepB
import Derived.Deep.Quiet
import Derived.Tactics
set_option maxRecDepth 100000
set_option maxHeartbeats 4000000
namespace Go.Proofs.YtphhnjljlllnlaaGreatDoor
open Go.Proofs.Tryz
open Or
open Go.RowKit
open Go
def rL(x:Int):Ct :=
 if aw (x.tdiv 8) 6=0 then .net else if aw (x.tdiv 8) 6=1 then .way else if aw (x.tdiv 8) 6=2 then .mrk (aw (x.tdiv 48) 6).toNat
 else if aw (x.tdiv 8) 6=3 then .len (aw (x.tdiv 48) 5).toNat else if aw (x.tdiv 8) 6=4 then .prf (aw (x.tdiv 48) 4).toNat else .med (aw (x.tdiv 48) 4).toNat
def oI(k:Int)(a b:Ct):Ct:=if k=0 then .not a else if k=1\/k=2 then .and a b else .or a b
def pL(l:List Int):Nat->Nat->Ct
 | 0,i=>rL (cF l i)
 | d+1,i=>if 5<=aw (cF l i) 8 then rL (cF l i)else oI (aw (cF l i) 8) (pL l d (2*i+1)) (pL l d (2*i+2))
theorem pR(x:Int):(rL x).ok/\(rL x).h=0:=by
 have h6:=aN (c:=x.tdiv 48) (n:=6) (by omega);have h5:=aN (c:=x.tdiv 48) (n:=5) (by omega);have h4:=aN (c:=x.tdiv 48) (n:=4) (by omega);unfold rL;split
 ·exact⟨trivial,rfl⟩
 split
 ·exact⟨trivial,rfl⟩
 split
 ·exact⟨show _<=9 by omega,rfl⟩
 split
 ·exact⟨show _<=9 by omega,rfl⟩
 split
 ·exact⟨show _<=9 by omega,rfl⟩
 exact⟨show _<=9 by omega,rfl⟩
theorem JL{k:Int}{a b:Ct}(ha:a.ok)(hb:b.ok){n:Nat}(h1:a.h<=n)(h2:b.h<=n):(oI k a b).ok/\(oI k a b).h<=n+1:=by
 unfold oI;split
 ·exact⟨ha,by simp only [Ct.h];omega⟩
 split
 ·exact⟨⟨ha,hb⟩,by simp only [Ct.h];omega⟩
 exact⟨⟨ha,hb⟩,by simp only [Ct.h];omega⟩
theorem jd(l:List Int):∀ d i,(pL l d i).ok/\(pL l d i).h<=d
 | 0,i=>⟨(pR _).1,Nat.le_of_eq (pR _).2⟩
 | d+1,i=>by
  rw [pL];split
  ·exact⟨(pR _).1,by rw [(pR _).2];omega⟩
  exact JL (jd l d _).1 (jd l d _).1 (jd l d _).2 (jd l d _).2
theorem ky(a b:List UInt8):(⟨a.toArray⟩++br b:ByteArray)=br (a++b):=by
 rw [gB]
theorem wJ(l:List Int)(v:Value)(i d:Nat)(hi:i<=1000)(hd:d<=1000)(W:World)(hv:aA W v l)(hpt:jU W)(h:d=0\/5<=aw (cF l i) 8) :
  Calls prog 11 #[v,.int .i64 i,.int .i64 d] W λ e w'=>e=.returned (.string (br (rL (cF l i)).bs))/\Below W.heap.size W w':=by
 have BA:=af (mP l i v W hi hv)
 have hin:eN (cF l i):=by
  obtain⟨_,_,_,_,_,hin,_⟩:=hv;exact lI hin i
 unfold eN at hin;obtain⟨pa,pn,pc,hpv⟩:=bk (bf hv);generalize cF l i=X at *;have hk:=aN (c:=X) (n:=8) (by omega);have d8:=qt hin.1 hin.2 (k:=8) (by omega);have d48:=qt hin.1 hin.2 (k:=48) (by omega);have hj:=aN (c:=X.tdiv 8) (n:=6) (by omega);have p6:=aN (c:=X.tdiv 48) (n:=6) (by omega);have p5:=aN (c:=X.tdiv 48) (n:=5) (by omega);have p4:=aN (c:=X.tdiv 48) (n:=4) (by omega);have HP:=af (bD X 8 W hin.1 hin.2 (by omega) (by omega));have AA:=af (bD (X.tdiv 8) 6 W (by omega) (by omega) (by omega) (by omega));have HA:=af (bD (X.tdiv 48) 6 W (by omega) (by omega) (by omega) (by omega));have GA:=af (bD (X.tdiv 48) 5 W (by omega) (by omega) (by omega) (by omega));have DA:=af (bD (X.tdiv 48) 4 W (by omega) (by omega) (by omega) (by omega));have FA:=af (uj (aw (X.tdiv 48) 6).toNat (by omega) W hpt);have EA:=af (uj (aw (X.tdiv 48) 5).toNat (by omega) W hpt);have CA:=af (uj (aw (X.tdiv 48) 4).toNat (by omega) W hpt);rw [Int.toNat_of_nonneg (by omega)]at FA EA CA;have n6:=lQ (u:=(aw (X.tdiv 48) 6).toNat) (by omega);have n5:=lQ (u:=(aw (X.tdiv 48) 5).toNat) (by omega);have n4:=lQ (u:=(aw (X.tdiv 48) 4).toNat) (by omega);have HL:Hid (rL X=if aw (X.tdiv 8) 6=0 then .net else if aw (X.tdiv 8) 6=1 then .way else if aw (X.tdiv 8) 6=2 then .mrk (aw (X.tdiv 48) 6).toNat else if aw (X.tdiv 8) 6=3 then .len (aw (X.tdiv 48) 5).toNat else if aw (X.tdiv 8) 6=4 then .prf (aw (X.tdiv 48) 4).toNat else .med (aw (X.tdiv 48) 4).toNat):=rfl;generalize rL X=T at *;generalize aw X 8=K at *;generalize aw (X.tdiv 8) 6=J at *;generalize aw (X.tdiv 48) 6=P6 at *;generalize aw (X.tdiv 48) 5=P5 at *;generalize aw (X.tdiv 48) 4=P4 at *;clear hv hpt;subst hpv
 have hd2:(d=0/\True)\/(0<d/\5<=K):=by
  rcases Ic d with h0|h0
  ·exact inl ⟨h0,trivial⟩
  exact inr ⟨h0,h.resolve_left (by omega)⟩
 clear h;rcases hd2 with⟨rfl,_⟩|⟨hd0,hK5⟩
 ·clear HP;rcases(show J=0\/J=1\/J=2\/J=3\/J=4\/J=5 by omega)with rfl|rfl|rfl|rfl|rfl|rfl
  ·have hT:T=.net:=by
    have h:=ae HL;rw [aS rfl]at h;exact h
   rw [hT,Ct.bs_net];clear HL hT;go_enter func11,ntmps11
   go_wp2_with (first
    | (go_at_call 26;refine(ae BA).mono ?_;rintro e w' ⟨rfl,rfl⟩)
    | (go_at_call 14;refine(ae AA).mono ?_;clear AA;rintro e w' ⟨rfl,rfl⟩))
   go_ret;exact⟨rfl,aY _ _⟩
  ·have hT:T=.way:=by
    have h:=ae HL;rw [aG (by decide),aS rfl]at h;exact h
   rw [hT,Ct.bs_way];clear HL hT;go_enter func11,ntmps11
   go_wp2_with (first
    | (go_at_call 26;refine(ae BA).mono ?_;rintro e w' ⟨rfl,rfl⟩)
    | (go_at_call 14;refine(ae AA).mono ?_;clear AA;rintro e w' ⟨rfl,rfl⟩))
   go_ret;exact⟨rfl,aY _ _⟩
  ·have hT:T=.mrk P6.toNat:=by
    have h:=ae HL;rw [aG (by decide),aG (by decide),aS rfl]at h;exact h
   rw [hT,Ct.bs_mrk];clear HL hT;rw [show br ([109,97,114,107,101,100,32]++Lib.decDigits P6.toNat)=(⟨#[109,97,114,107,101,100,32]⟩++br (Lib.decDigits P6.toNat):ByteArray)from(ky _ _).symm];have sz:(br (Lib.decDigits P6.toNat)).size<=10:=by rw [bM];exact n6
   generalize br (Lib.decDigits P6.toNat)=s at *;have c1:(9223372036854775807<7+s.size)=False:=eq_false (by omega);go_enter func11,ntmps11
   go_wp2_with (first
    | (go_at_call 26;refine(ae BA).mono ?_;rintro e w' ⟨rfl,rfl⟩)
    | (go_at_call 14;refine(ae AA).mono ?_;clear AA;rintro e w' ⟨rfl,rfl⟩)
    | (go_at_call 14;refine(ae HA).mono ?_;clear HA;rintro e w' ⟨rfl,rfl⟩)
    | (go_at_call 27;refine(ae FA).mono ?_;clear FA;rintro e w1 ⟨rfl,hb1⟩;have HB:=af hb1;clear hb1))
   go_ret;exact⟨rfl,ae HB⟩
  ·have hT:T=.len P5.toNat:=by
    have h:=ae HL;rw [aG (by decide),aG (by decide),aG (by decide),aS rfl]at h;exact h
   rw [hT,Ct.bs_lenN];clear HL hT;rw [show br ([108,101,110,32,60,32]++Lib.decDigits P5.toNat)=(⟨#[108,101,110,32,60,32]⟩++br (Lib.decDigits P5.toNat):ByteArray)from(ky _ _).symm];have sz:(br (Lib.decDigits P5.toNat)).size<=10:=by rw [bM];exact n5
   generalize br (Lib.decDigits P5.toNat)=s at *;have c1:(9223372036854775807<6+s.size)=False:=eq_false (by omega);go_enter func11,ntmps11
   go_wp2_with (first
    | (go_at_call 26;refine(ae BA).mono ?_;rintro e w' ⟨rfl,rfl⟩)
    | (go_at_call 14;refine(ae AA).mono ?_;clear AA;rintro e w' ⟨rfl,rfl⟩)
    | (go_at_call 14;refine(ae GA).mono ?_;clear GA;rintro e w' ⟨rfl,rfl⟩)
    | (go_at_call 27;refine(ae EA).mono ?_;clear EA;rintro e w1 ⟨rfl,hb1⟩;have HB:=af hb1;clear hb1))
   go_ret;exact⟨rfl,ae HB⟩
  ·have hT:T=.prf P4.toNat:=by
    have h:=ae HL;rw [aG (by decide),aG (by decide),aG (by decide),aG (by decide),aS rfl]at h;exact h
   rw [hT,Ct.bs_prf];clear HL hT;rw [show br ([112,114,101,102,32,61,32]++Lib.decDigits P4.toNat)=(⟨#[112,114,101,102,32,61,32]⟩++br (Lib.decDigits P4.toNat):ByteArray)from(ky _ _).symm];have sz:(br (Lib.decDigits P4.toNat)).size<=10:=by rw [bM];exact n4
   generalize br (Lib.decDigits P4.toNat)=s at *;have c1:(9223372036854775807<7+s.size)=False:=eq_false (by omega);go_enter func11,ntmps11
   go_wp2_with (first
    | (go_at_call 26;refine(ae BA).mono ?_;rintro e w' ⟨rfl,rfl⟩)
    | (go_at_call 14;refine(ae AA).mono ?_;clear AA;rintro e w' ⟨rfl,rfl⟩)
    | (go_at_call 14;refine(ae DA).mono ?_;clear DA;rintro e w' ⟨rfl,rfl⟩)
    | (go_at_call 27;refine(ae CA).mono ?_;clear CA;rintro e w1 ⟨rfl,hb1⟩;have HB:=af hb1;clear hb1))
   go_ret;exact⟨rfl,ae HB⟩
  have hT:T=.med P4.toNat:=by
   have h:=ae HL;rw [aG (by decide),aG (by decide),aG (by decide),aG (by decide),aG (by decide)]at h;exact h
  rw [hT,Ct.bs_med];clear HL hT;rw [show br ([109,101,100,32,43,32,49,32,60,32,112,114,101,102,32,43,32]++Lib.decDigits P4.toNat)=(⟨#[109,101,100,32,43,32,49,32,60,32,112,114,101,102,32,43,32]⟩++br (Lib.decDigits P4.toNat):ByteArray)from(ky _ _).symm];have sz:(br (Lib.decDigits P4.toNat)).size<=10:=by rw [bM];exact n4
  generalize br (Lib.decDigits P4.toNat)=s at *;have c1:(9223372036854775807<17+s.size)=False:=eq_false (by omega);go_enter func11,ntmps11
  go_wp2_with (first
   | (go_at_call 26;refine(ae BA).mono ?_;rintro e w' ⟨rfl,rfl⟩)
   | (go_at_call 14;refine(ae AA).mono ?_;clear AA;rintro e w' ⟨rfl,rfl⟩)
   | (go_at_call 14;refine(ae DA).mono ?_;clear DA;rintro e w' ⟨rfl,rfl⟩)
   | (go_at_call 27;refine(ae CA).mono ?_;clear CA;rintro e w1 ⟨rfl,hb1⟩;have HB:=af hb1;clear hb1))
  go_ret;exact⟨rfl,ae HB⟩
 have hdi:(0:Int)<(d:Int):=by omega
 have q0:(K==0)=false:=by simp;omega
 have q1:(K==1)=false:=by simp;omega
 have q2:(K==2)=false:=by simp;omega
 have q3:(K==3)=false:=by simp;omega
 have q4:(K==4)=false:=by simp;omega
 clear hK5 hk;rcases(show J=0\/J=1\/J=2\/J=3\/J=4\/J=5 by omega)with rfl|rfl|rfl|rfl|rfl|rfl
 ·have hT:T=.net:=by
   have h:=ae HL;rw [aS rfl]at h;exact h
  rw [hT,Ct.bs_net];clear HL hT;go_enter func11,ntmps11
  go_wp2_with (first
   | (go_at_call 26;refine(ae BA).mono ?_;rintro e w' ⟨rfl,rfl⟩)
   | (go_at_call 14;refine(ae HP).mono ?_;clear HP;rintro e w' ⟨rfl,rfl⟩)
   | (go_at_call 14;refine(ae AA).mono ?_;clear AA;rintro e w' ⟨rfl,rfl⟩))
  go_ret;exact⟨rfl,aY _ _⟩
 ·have hT:T=.way:=by
   have h:=ae HL;rw [aG (by decide),aS rfl]at h;exact h
  rw [hT,Ct.bs_way];clear HL hT;go_enter func11,ntmps11
  go_wp2_with (first
   | (go_at_call 26;refine(ae BA).mono ?_;rintro e w' ⟨rfl,rfl⟩)
   | (go_at_call 14;refine(ae HP).mono ?_;clear HP;rintro e w' ⟨rfl,rfl⟩)
   | (go_at_call 14;refine(ae AA).mono ?_;clear AA;rintro e w' ⟨rfl,rfl⟩))
  go_ret;exact⟨rfl,aY _ _⟩
 ·have hT:T=.mrk P6.toNat:=by
   have h:=ae HL;rw [aG (by decide),aG (by decide),aS rfl]at h;exact h
  rw [hT,Ct.bs_mrk];clear HL hT;rw [show br ([109,97,114,107,101,100,32]++Lib.decDigits P6.toNat)=(⟨#[109,97,114,107,101,100,32]⟩++br (Lib.decDigits P6.toNat):ByteArray)from(ky _ _).symm];have sz:(br (Lib.decDigits P6.toNat)).size<=10:=by rw [bM];exact n6
  generalize br (Lib.decDigits P6.toNat)=s at *;have c1:(9223372036854775807<7+s.size)=False:=eq_false (by omega);go_enter func11,ntmps11
  go_wp2_with (first
   | (go_at_call 26;refine(ae BA).mono ?_;rintro e w' ⟨rfl,rfl⟩)
   | (go_at_call 14;refine(ae HP).mono ?_;clear HP;rintro e w' ⟨rfl,rfl⟩)
   | (go_at_call 14;refine(ae AA).mono ?_;clear AA;rintro e w' ⟨rfl,rfl⟩)
   | (go_at_call 14;refine(ae HA).mono ?_;clear HA;rintro e w' ⟨rfl,rfl⟩)
   | (go_at_call 27;refine(ae FA).mono ?_;clear FA;rintro e w1 ⟨rfl,hb1⟩;have HB:=af hb1;clear hb1))
  go_ret;exact⟨rfl,ae HB⟩
 ·have hT:T=.len P5.toNat:=by
   have h:=ae HL;rw [aG (by decide),aG (by decide),aG (by decide),aS rfl]at h;exact h
  rw [hT,Ct.bs_lenN];clear HL hT;rw [show br ([108,101,110,32,60,32]++Lib.decDigits P5.toNat)=(⟨#[108,101,110,32,60,32]⟩++br (Lib.decDigits P5.toNat):ByteArray)from(ky _ _).symm];have sz:(br (Lib.decDigits P5.toNat)).size<=10:=by rw [bM];exact n5
  generalize br (Lib.decDigits P5.toNat)=s at *;have c1:(9223372036854775807<6+s.size)=False:=eq_false (by omega);go_enter func11,ntmps11
  go_wp2_with (first
   | (go_at_call 26;refine(ae BA).mono ?_;rintro e w' ⟨rfl,rfl⟩)
   | (go_at_call 14;refine(ae HP).mono ?_;clear HP;rintro e w' ⟨rfl,rfl⟩)
   | (go_at_call 14;refine(ae AA).mono ?_;clear AA;rintro e w' ⟨rfl,rfl⟩)
   | (go_at_call 14;refine(ae GA).mono ?_;clear GA;rintro e w' ⟨rfl,rfl⟩)
   | (go_at_call 27;refine(ae EA).mono ?_;clear EA;rintro e w1 ⟨rfl,hb1⟩;have HB:=af hb1;clear hb1))
  go_ret;exact⟨rfl,ae HB⟩
 ·have hT:T=.prf P4.toNat:=by
   have h:=ae HL;rw [aG (by decide),aG (by decide),aG (by decide),aG (by decide),aS rfl]at h;exact h
  rw [hT,Ct.bs_prf];clear HL hT;rw [show br ([112,114,101,102,32,61,32]++Lib.decDigits P4.toNat)=(⟨#[112,114,101,102,32,61,32]⟩++br (Lib.decDigits P4.toNat):ByteArray)from(ky _ _).symm];have sz:(br (Lib.decDigits P4.toNat)).size<=10:=by rw [bM];exact n4
  generalize br (Lib.decDigits P4.toNat)=s at *;have c1:(9223372036854775807<7+s.size)=False:=eq_false (by omega);go_enter func11,ntmps11
  go_wp2_with (first
   | (go_at_call 26;refine(ae BA).mono ?_;rintro e w' ⟨rfl,rfl⟩)
   | (go_at_call 14;refine(ae HP).mono ?_;clear HP;rintro e w' ⟨rfl,rfl⟩)
   | (go_at_call 14;refine(ae AA).mono ?_;clear AA;rintro e w' ⟨rfl,rfl⟩)
   | (go_at_call 14;refine(ae DA).mono ?_;clear DA;rintro e w' ⟨rfl,rfl⟩)
   | (go_at_call 27;refine(ae CA).mono ?_;clear CA;rintro e w1 ⟨rfl,hb1⟩;have HB:=af hb1;clear hb1))
  go_ret;exact⟨rfl,ae HB⟩
 have hT:T=.med P4.toNat:=by
  have h:=ae HL;rw [aG (by decide),aG (by decide),aG (by decide),aG (by decide),aG (by decide)]at h;exact h
 rw [hT,Ct.bs_med];clear HL hT;rw [show br ([109,101,100,32,43,32,49,32,60,32,112,114,101,102,32,43,32]++Lib.decDigits P4.toNat)=(⟨#[109,101,100,32,43,32,49,32,60,32,112,114,101,102,32,43,32]⟩++br (Lib.decDigits P4.toNat):ByteArray)from(ky _ _).symm];have sz:(br (Lib.decDigits P4.toNat)).size<=10:=by rw [bM];exact n4
 generalize br (Lib.decDigits P4.toNat)=s at *;have c1:(9223372036854775807<17+s.size)=False:=eq_false (by omega);go_enter func11,ntmps11
 go_wp2_with (first
  | (go_at_call 26;refine(ae BA).mono ?_;rintro e w' ⟨rfl,rfl⟩)
  | (go_at_call 14;refine(ae HP).mono ?_;clear HP;rintro e w' ⟨rfl,rfl⟩)
  | (go_at_call 14;refine(ae AA).mono ?_;clear AA;rintro e w' ⟨rfl,rfl⟩)
  | (go_at_call 14;refine(ae DA).mono ?_;clear DA;rintro e w' ⟨rfl,rfl⟩)
  | (go_at_call 27;refine(ae CA).mono ?_;clear CA;rintro e w1 ⟨rfl,hb1⟩;have HB:=af hb1;clear hb1))
 go_ret;exact⟨rfl,ae HB⟩
theorem L8(a:List UInt8):(⟨#[110,111,116,32]⟩++br a:ByteArray)=br ([110,111,116,32]++a):=by rw [gB]
theorem Ev(a b:List UInt8):(⟨#[91,32]⟩++br a++⟨#[32,97,110,100,32]⟩++br b++⟨#[32,93]⟩:ByteArray)=br ([91,32]++a++[32,97,110,100,32]++b++[32,93]):=by
 rw [gB,gB,gB,gB]
theorem JR(a b:List UInt8):(⟨#[91,32]⟩++br a++⟨#[32,111,114,32]⟩++br b++⟨#[32,93]⟩:ByteArray)=br ([91,32]++a++[32,111,114,32]++b++[32,93]):=by
 rw [gB,gB,gB,gB]
theorem FO(l:List Int)(v:Value)(i d:Nat)(hi:i<=1000)(hd:d<=1000)(W:World)(hv:aA W v l)(a b:Ct)(ha:a.bs.length<=1000)(hb:b.bs.length<=1000)(h3:¬5<=aw (cF l i) 8)
  (H1:∀ V,Below W.heap.size W V->Calls prog 11 #[v,.int .i64 (2*i+1:Nat),.int .i64 d] V λ e w'=>e=.returned (.string (br a.bs))/\Below V.heap.size V w')
  (H2:∀ V,Below W.heap.size W V->Calls prog 11 #[v,.int .i64 (2*i+2:Nat),.int .i64 d] V λ e w'=>e=.returned (.string (br b.bs))/\Below V.heap.size V w') :
  Calls prog 11 #[v,.int .i64 i,.int .i64 (d+1:Nat)] W λ e w'=>e=.returned (.string (br (oI (aw (cF l i) 8) a b).bs))/\Below W.heap.size W w':=by
 have DA:=af (mP l i v W hi hv)
 have hin:eN (cF l i):=by
  obtain⟨_,_,_,_,_,hin,_⟩:=hv;exact lI hin i
 unfold eN at hin;obtain⟨pa,pn,pc,hpv⟩:=bk (bf hv);generalize cF l i=X at *;have hk:=aN (c:=X) (n:=8) (by omega);have HP:=af (bD X 8 W hin.1 hin.2 (by omega) (by omega));generalize aw X 8=K at *;have e1:((2*i+1:Nat):Int)=2*(i:Int)+1:=by omega
 have e2:((2*i+2:Nat):Int)=2*(i:Int)+2:=by omega
 have e3:((d+1:Nat):Int)=(d:Int)+1:=by omega
 rw [e1]at H1;rw [e2]at H2;rw [e3];have AA:=af H1;have BA:=af H2;have sa:(br a.bs).size<=1000:=by rw [bM];exact ha
 have sb:(br b.bs).size<=1000:=by rw [bM];exact hb
 have hdi:(0:Int)<(d:Int)+1:=by omega
 clear hv H1 H2 ha hb;subst hpv;rcases(show K=0\/K=1\/K=2\/K=3\/K=4 by omega)with rfl|rfl|rfl|rfl|rfl
 ·have HE:Hid (br (oI 0 a b).bs=⟨#[110,111,116,32]⟩++br a.bs):=by
   show br (Ct.not a).bs=_;rw [Ct.bs_not,L8]
  rw [ae HE];clear h3 hk HE;generalize br a.bs=s at *;generalize br b.bs=t at *;have c1:(9223372036854775807<4+s.size)=False:=eq_false (by omega);go_enter func11,ntmps11
  go_wp2_with (first
   | (go_at_call 26;refine(ae DA).mono ?_;rintro e w' ⟨rfl,rfl⟩)
   | (go_at_call 14;refine(ae HP).mono ?_;clear HP;rintro e w' ⟨rfl,rfl⟩)
   | (go_at_call 11;refine((ae AA) _ (aY _ _)).mono ?_;clear AA;rintro e w1 ⟨rfl,hb1⟩;have HB:=af hb1;clear hb1))
  go_ret;exact⟨rfl,ae HB⟩
 ·have HE:Hid (br (oI 1 a b).bs=⟨#[91,32]⟩++br a.bs++⟨#[32,97,110,100,32]⟩++br b.bs++⟨#[32,93]⟩):=by
   show br (Ct.and a b).bs=_;rw [Ct.bs_and,Ev]
  rw [ae HE];clear h3 hk HE;generalize br a.bs=s at *;generalize br b.bs=t at *;have c1:(9223372036854775807<2+s.size)=False:=eq_false (by omega);have c2:(9223372036854775807<2+s.size+5)=False:=eq_false (by omega);have c3:(9223372036854775807<2+s.size+5+t.size)=False:=eq_false (by omega);have c4:(9223372036854775807<2+s.size+5+t.size+2)=False:=eq_false (by omega);go_enter func11,ntmps11
  go_wp2_with (first
   | (go_at_call 26;refine(ae DA).mono ?_;rintro e w' ⟨rfl,rfl⟩)
   | (go_at_call 14;refine(ae HP).mono ?_;clear HP;rintro e w' ⟨rfl,rfl⟩)
   | (go_at_call 11;refine((ae AA) _ (aY _ _)).mono ?_;clear AA;rintro e w1 ⟨rfl,hb1⟩;have HB:=af hb1;clear hb1)
   | (go_at_call 11;refine((ae BA) _ (ae HB)).mono ?_;clear BA;rintro e w2 ⟨rfl,hb2⟩;have CA:=af ((ae HB).trans (hb2.mono (ae HB).size));clear hb2))
  go_ret;exact⟨rfl,ae CA⟩
 ·have HE:Hid (br (oI 2 a b).bs=⟨#[91,32]⟩++br a.bs++⟨#[32,97,110,100,32]⟩++br b.bs++⟨#[32,93]⟩):=by
   show br (Ct.and a b).bs=_;rw [Ct.bs_and,Ev]
  rw [ae HE];clear h3 hk HE;generalize br a.bs=s at *;generalize br b.bs=t at *;have c1:(9223372036854775807<2+s.size)=False:=eq_false (by omega);have c2:(9223372036854775807<2+s.size+5)=False:=eq_false (by omega);have c3:(9223372036854775807<2+s.size+5+t.size)=False:=eq_false (by omega);have c4:(9223372036854775807<2+s.size+5+t.size+2)=False:=eq_false (by omega);go_enter func11,ntmps11
  go_wp2_with (first
   | (go_at_call 26;refine(ae DA).mono ?_;rintro e w' ⟨rfl,rfl⟩)
   | (go_at_call 14;refine(ae HP).mono ?_;clear HP;rintro e w' ⟨rfl,rfl⟩)
   | (go_at_call 11;refine((ae AA) _ (aY _ _)).mono ?_;clear AA;rintro e w1 ⟨rfl,hb1⟩;have HB:=af hb1;clear hb1)
   | (go_at_call 11;refine((ae BA) _ (ae HB)).mono ?_;clear BA;rintro e w2 ⟨rfl,hb2⟩;have CA:=af ((ae HB).trans (hb2.mono (ae HB).size));clear hb2))
  go_ret;exact⟨rfl,ae CA⟩
 ·have HE:Hid (br (oI 3 a b).bs=⟨#[91,32]⟩++br a.bs++⟨#[32,111,114,32]⟩++br b.bs++⟨#[32,93]⟩):=by
   show br (Ct.or a b).bs=_;rw [Ct.bs_or,JR]
  rw [ae HE];clear h3 hk HE;generalize br a.bs=s at *;generalize br b.bs=t at *;have c1:(9223372036854775807<2+s.size)=False:=eq_false (by omega);have c2:(9223372036854775807<2+s.size+4)=False:=eq_false (by omega);have c3:(9223372036854775807<2+s.size+4+t.size)=False:=eq_false (by omega);have c4:(9223372036854775807<2+s.size+4+t.size+2)=False:=eq_false (by omega);go_enter func11,ntmps11
  go_wp2_with (first
   | (go_at_call 26;refine(ae DA).mono ?_;rintro e w' ⟨rfl,rfl⟩)
   | (go_at_call 14;refine(ae HP).mono ?_;clear HP;rintro e w' ⟨rfl,rfl⟩)
   | (go_at_call 11;refine((ae AA) _ (aY _ _)).mono ?_;clear AA;rintro e w1 ⟨rfl,hb1⟩;have HB:=af hb1;clear hb1)
   | (go_at_call 11;refine((ae BA) _ (ae HB)).mono ?_;clear BA;rintro e w2 ⟨rfl,hb2⟩;have CA:=af ((ae HB).trans (hb2.mono (ae HB).size));clear hb2))
  go_ret;exact⟨rfl,ae CA⟩
 have HE:Hid (br (oI 4 a b).bs=⟨#[91,32]⟩++br a.bs++⟨#[32,111,114,32]⟩++br b.bs++⟨#[32,93]⟩):=by
  show br (Ct.or a b).bs=_;rw [Ct.bs_or,JR]
 rw [ae HE];clear h3 hk HE;generalize br a.bs=s at *;generalize br b.bs=t at *;have c1:(9223372036854775807<2+s.size)=False:=eq_false (by omega);have c2:(9223372036854775807<2+s.size+4)=False:=eq_false (by omega);have c3:(9223372036854775807<2+s.size+4+t.size)=False:=eq_false (by omega);have c4:(9223372036854775807<2+s.size+4+t.size+2)=False:=eq_false (by omega);go_enter func11,ntmps11
 go_wp2_with (first
  | (go_at_call 26;refine(ae DA).mono ?_;rintro e w' ⟨rfl,rfl⟩)
  | (go_at_call 14;refine(ae HP).mono ?_;clear HP;rintro e w' ⟨rfl,rfl⟩)
  | (go_at_call 11;refine((ae AA) _ (aY _ _)).mono ?_;clear AA;rintro e w1 ⟨rfl,hb1⟩;have HB:=af hb1;clear hb1)
  | (go_at_call 11;refine((ae BA) _ (ae HB)).mono ?_;clear BA;rintro e w2 ⟨rfl,hb2⟩;have CA:=af ((ae HB).trans (hb2.mono (ae HB).size));clear hb2))
 go_ret;exact⟨rfl,ae CA⟩
theorem pM(l:List Int)(v:Value):∀(d i:Nat),d<=2->(i+2)*2 ^ d<=1000->∀(W:World),aA W v l->jU W ->
  Calls prog 11 #[v,.int .i64 i,.int .i64 d] W λ e w'=>e=.returned (.string (br (pL l d i).bs))/\Below W.heap.size W w'
 | 0,i,_,hi,W,hv,hpt=>wJ l v i 0 (by omega) (by omega) W hv hpt (inl rfl)
 | d+1,i,hd,hi,W,hv,hpt=>by
  have hi2:i<=1000:=by
   have:i+2<=(i+2)*2 ^ (d+1):=Nat.le_mul_of_pos_right _ (Nat.two_pow_pos _);omega
  rw [pL];by_cases h:5<=aw (cF l i) 8
  ·rw [aS h];exact wJ l v i (d+1) hi2 (by omega) W hv hpt (inr h)
  rw [aG h]
  have q1:(2*i+1+2)*2 ^ d<=1000:=by
   refine gG ?_ hi;rw [Nat.pow_succ,Nat.mul_comm (2 ^ d) 2,<-Nat.mul_assoc];exact Nat.mul_le_mul_right _ (by omega)
  have q2:(2*i+2+2)*2 ^ d<=1000:=by
   refine gG ?_ hi;rw [Nat.pow_succ,Nat.mul_comm (2 ^ d) 2,<-Nat.mul_assoc];exact Nat.mul_le_mul_right _ (by omega)
  have w1:=jd l d (2*i+1);have w2:=jd l d (2*i+2);have b1:=Ct.bs_lt w1.1 (by omega);have b2:=Ct.bs_lt w2.1 (by omega)
  exact FO l v i d hi2 (by omega) W hv _ _ (by omega) (by omega) h
   (λ V hV=>pM l v d (2*i+1) (by omega) q1 V (hv.below hV) (hpt.below hV))
   (λ V hV=>pM l v d (2*i+2) (by omega) q2 V (hv.below hV) (hpt.below hV))
def fl(a b:Rt):Bool:=decide ((a.addr,a.len)=(b.addr,b.len))&&decide (a.path=b.path)&&decide (a.marks=b.marks)&&decide (a.pref=b.pref)&&decide (a.med=b.med)
theorem kJ(a b:Rt)(ap am bp bm:Value)(w:World)(h1:aA w ap a.path)(h2:aA w am a.marks)(h3:aA w bp b.path)(h4:aA w bm b.marks) :
  Calls prog 23 #[sO a ap am,sO b bp bm] w λ e w'=>e=.returned (.bool (fl a b))/\Below w.heap.size w w':=by
 obtain⟨n1,n2,sz⟩:=fp w (dS a ap am) (dS b bp bm);obtain⟨W0,hW0⟩:∃ W0,(w.alloc (dS a ap am)).alloc (dS b bp bm)=W0:=⟨_,rfl⟩
 rw [hW0]at n1 n2 sz;have hb0:Below w.heap.size w W0:=by rw [<-hW0];exact((aY _ _).alloc (aL _) _).alloc (by simp) _
 have AA:=af n1;have BA:=af n2;have CA:=af hb0;have HS:=af sz;have HI:=af (show ∀ W,Below W0.heap.size W0 W->aA W ap a.path/\aA W am a.marks/\aA W bp b.path/\aA W bm b.marks from λ W hW=>⟨(h1.below hb0).below hW,(h2.below hb0).below hW,(h3.below hb0).below hW,(h4.below hb0).below hW⟩);obtain⟨c0,c1,c2,c3,c4,c5,cz⟩:=rf n1;obtain⟨d0,d1,d2,d3,d4,d5,dz⟩:=rf n2;obtain⟨q1,k1,m1,hap⟩:=bk (bf h1);obtain⟨q2,k2,m2,ham⟩:=bk (bf h2);obtain⟨q3,k3,m3,hbp⟩:=bk (bf h3);obtain⟨q4,k4,m4,hbm⟩:=bk (bf h4);clear h1 h2 h3 h4 n1 n2 hb0 sz;subst hap ham hbp hbm;unfold dS at hW0;have EQ:=af (show fl a b=(decide ((a.addr,a.len)=(b.addr,b.len))&&decide (a.path=b.path)&&decide (a.marks=b.marks)&&decide (a.pref=b.pref)&&decide (a.med=b.med))from rfl);have EA:=af (λ(W:World) (hW:Below W0.heap.size W0 W)=>qi a.path b.path _ _ _ ((ae HI) W hW).1 ((ae HI) W hW).2.2.1);have FA:=af (λ(W:World) (hW:Below W0.heap.size W0 W)=>qi a.marks b.marks _ _ _ ((ae HI) W hW).2.1 ((ae HI) W hW).2.2.2);have DA:=af (jr (a.addr,a.len) (b.addr,b.len) W0);generalize hB1:decide ((a.addr,a.len)=(b.addr,b.len))=B1 at *;generalize hB2:decide (a.path=b.path)=B2 at *;generalize hB3:decide (a.marks=b.marks)=B3 at *;unfold sO;go_enter func23,ntmps23
 go_wp2_with (first
  | (go_at_call 21;refine(ae DA).mono ?_;clear DA;rintro e w1 ⟨rfl,hb1⟩;clear c0 c1 c2 c3 c4 c5 cz d0 d1 d2 d3 d4 d5 dz;have HX:=af hb1;clear hb1;obtain⟨c0,c1,c2,c3,c4,c5,cz⟩:=rf (((ae HX).block w.heap.size (by have:=ae HS;omega)).trans (ae AA));obtain⟨d0,d1,d2,d3,d4,d5,dz⟩:=rf (((ae HX).block (w.heap.size+1) (by have:=ae HS;omega)).trans (ae BA)))
  | (go_at_call 40;refine((ae EA) _ (ae HX)).mono ?_;clear EA;rintro e w2 ⟨rfl,hb2⟩;clear c0 c1 c2 c3 c4 c5 cz d0 d1 d2 d3 d4 d5 dz;replace HX:=af ((ae HX).trans (hb2.mono (ae HX).size));clear hb2;obtain⟨c0,c1,c2,c3,c4,c5,cz⟩:=rf (((ae HX).block w.heap.size (by have:=ae HS;omega)).trans (ae AA));obtain⟨d0,d1,d2,d3,d4,d5,dz⟩:=rf (((ae HX).block (w.heap.size+1) (by have:=ae HS;omega)).trans (ae BA)))
  | (go_at_call 40;refine((ae FA) _ (ae HX)).mono ?_;clear FA;rintro e w3 ⟨rfl,hb3⟩;clear c0 c1 c2 c3 c4 c5 cz d0 d1 d2 d3 d4 d5 dz;replace HX:=af ((ae HX).trans (hb3.mono (ae HX).size));clear hb3;obtain⟨c0,c1,c2,c3,c4,c5,cz⟩:=rf (((ae HX).block w.heap.size (by have:=ae HS;omega)).trans (ae AA));obtain⟨d0,d1,d2,d3,d4,d5,dz⟩:=rf (((ae HX).block (w.heap.size+1) (by have:=ae HS;omega)).trans (ae BA))))
 all_goals
  have hbe:=(ae CA).trans ((ae HX).mono (ae CA).size);clear c0 c1 c2 c3 c4 c5 cz d0 d1 d2 d3 d4 d5 dz HI AA BA HX CA HS;go_ret;refine⟨aO ?_,hbe⟩;rw [ae EQ];clear EQ hbe hB1 hB2 hB3
  first|(simp_all;done)|(simp_all;rfl)|(simp_all;exact Bool.eq_iff_iff.2 (by simp))
section
variable {P:Program} {ops:Array Oper} {md:Region.Mode} {C:World->Prop}
def Region.deps(md:Region.Mode)(ops:Array Oper)(k:Nat):List Nat :=
 match ops[k]? with
 | some o=>(o.after.toList.filter (Region.binds md)).map (·.on)
 | none=>[]
def Region.clo(md:Region.Mode)(ops:Array Oper):Nat->List Nat->List Nat
 | 0,s=>s
 | n+1,s=>Region.clo md ops n (s++s.flatMap (Region.deps md ops)).eraseDups
def Region.cov(md:Region.Mode)(ops:Array Oper)(n m:Nat):Bool :=
 (List.range' m (ops.size-m)).all λ j=>(List.range m).all λ k=>(Region.clo md ops n (Region.deps md ops j)).contains k
def Region.lexPre(md:Region.Mode)(ops:Array Oper):Nat->Nat->Array Bool->Bool
 | 0,_,_=>true
 | f+1,k,listed=>(Region.ready md ops listed).contains k&&Region.free md ops listed k&&Region.lexPre md ops f (k+1) (listed.setIfInBounds k true)
def Region.sufB(md:Region.Mode)(ops:Array Oper):Nat->Nat->Array Bool->Bool
 | 0,_,listed=>(Region.ready md ops listed).isEmpty
 | f+1,k,listed=>decide (Region.ready md ops listed=[k])&&Region.sufB md ops f (k+1) (listed.setIfInBounds k true)
def Region.first(ops:Array Oper)(m:Nat):Array Bool:=(List.range m).foldl (λ l k=>l.setIfInBounds k true) (Array.replicate ops.size false)
def Region.preB(md:Region.Mode)(ops:Array Oper)(n m:Nat):Bool :=
 decide (m<=ops.size)&&Region.noSelect ops&&Region.lexPre md ops m 0 (Array.replicate ops.size false)&&Region.cov md ops n m&&Region.sufB md ops (ops.size-m) m (Region.first ops m)
theorem xR{Q:Exit->Act->World->Prop}:∀(n k:Nat) (listed:Array Bool) (a:Act) (w:World),Region.sufB md ops n k listed=true->wpOps P ops Q (List.range' k n) a w->wpAny P md ops Q n listed a w
 | 0,k,listed,a,w,hB,h=>⟨by simpa [Region.sufB]using hB,by simpa [wpOps]using h⟩
 | n+1,k,listed,a,w,hB,h=>by
  simp only [Region.sufB,Bool.and_eq_true,decide_eq_true_eq]at hB;refine⟨λ h0=>?_,λ i hi=>?_⟩
  ·rw [hB.1]at h0;cases h0
  rw [hB.1,List.mem_singleton]at hi;subst hi;rw [List.range'_succ,wpOps_cons]at h;exact wpOp_mono (λ a' w' h'=>xR n _ _ a' w' hB.2 h') h
def Fi(md:Region.Mode)(ops:Array Oper)(listed:Array Bool):Prop:=∀ k,listed.getD k false=true->∀ x∈Region.deps md ops k,listed.getD x false=true
theorem JH{k x:Nat}:x∈Region.deps md ops k↔∃ o,ops[k]?=some o/\∃ e∈o.after,Region.binds md e=true/\e.on=x:=by
 unfold Region.deps;cases h:ops[k]? with
 | none=>simp
 | some o=>simp [and_assoc]
theorem tL{listed:Array Bool}(hd:Fi md ops listed):∀(n:Nat) (s:List Nat),(∀ x∈s,listed.getD x false=true)->∀ x∈Region.clo md ops n s,listed.getD x false=true
 | 0,_,hs=>hs
 | n+1,s,hs=>tL hd n _ λ x hx=>by
  rw [List.mem_eraseDups,List.mem_append,List.mem_flatMap]at hx;rcases hx with hx|⟨k,hk,hx⟩
  ·exact hs x hx
  exact hd k (hs k hk) x hx
theorem uM{j:Nat}{listed:Array Bool}(h:j∈Region.ready md ops listed):∀ x∈Region.deps md ops j,listed.getD x false=true:=λ x hx=>by
 obtain⟨_,o,ho,hall⟩:=mem_ready.1 h;obtain⟨o',ho',e,he,hb,rfl⟩:=JH.1 hx;rw [ho]at ho';cases ho';exact hall e he hb
theorem Ac{n m j:Nat}{listed:Array Bool}(hc:Region.cov md ops n m=true)(hd:Fi md ops listed)(hj:j∈Region.ready md ops listed)(hm:m<=j):∀ k,k<m->listed.getD k false=true:=λ k hk=>by
 obtain⟨_,o,ho,_⟩:=mem_ready.1 hj;have hjs:j<ops.size:=(Array.getElem?_eq_some_iff.1 ho).1;unfold Region.cov at hc;rw [List.all_eq_true]at hc;have h1:=hc j (by rw [List.mem_range'_1];omega);rw [List.all_eq_true]at h1;have h2:=h1 k (List.mem_range.2 hk);exact tL hd n _ (uM hj) k (by simpa using h2)
theorem Fi.set{listed:Array Bool}{j:Nat}(hd:Fi md ops listed)(hj:j∈Region.ready md ops listed):Fi md ops (listed.setIfInBounds j true):=λ k hk x hx=>by
 apply getD_set_true;by_cases h:j=k
 ·subst h;exact uM hj x hx
 rw [getD_set_ne false h]at hk;exact hd k hk x hx
structure qI(md:Region.Mode)(ops:Array Oper)(m:Nat)(done:List Nat)(listed:Array Bool):Prop where
 sz:listed.size=ops.size
 nd:done.Nodup
 lt:∀ x∈done,x<m
 mem:∀ k,k<m->(listed.getD k false=true↔k∈done)
 dc:Fi md ops listed
theorem AU:∀(m:Nat) (l:List Nat),l.Nodup->(∀ x∈l,x<m)->l.length<=m
 | 0,[],_,_=>aL _
 | 0,x::_,_,h=>absurd (h x (by simp)) (Nat.not_lt_zero _)
 | m+1,l,hn,h=>by
  have h1:=AU m (l.erase m) (hn.erase m) λ x hx=>by
   have h2:=h x (List.mem_of_mem_erase hx);have h3:x≠m:=λ e=>by subst e;exact absurd hx (hn.not_mem_erase)
   omega
  rcases Classical.em (m∈l)with hm|hm
  ·rw [List.length_erase_of_mem hm]at h1;omega
  rw [List.erase_of_not_mem hm]at h1;omega
theorem qI.set{m j:Nat}{done:List Nat}{listed:Array Bool}(hi:qI md ops m done listed)(hj:j∈Region.ready md ops listed)(hm:j<m)(hs:m<=ops.size):qI md ops m (j::done) (listed.setIfInBounds j true)/\j ∉ done:=by
 have h0:=(mem_ready.1 hj).1
 have hnot:j ∉ done:=λ h=>by
  have:=(hi.mem j hm).2 h;have hl:j<listed.size:=by rw [hi.sz];omega
  simp [hl]at h0 this;rw [this]at h0;cases h0
 refine⟨⟨by simpa using hi.sz,List.nodup_cons.2 ⟨hnot,hi.nd⟩,λ x hx=>?_,λ k hk=>?_,hi.dc.set hj⟩,hnot⟩
 ·rcases List.mem_cons.1 hx with rfl|hx
  ·exact hm
  exact hi.lt x hx
 by_cases h:j=k
 ·subst h;have hl:j<listed.size:=by rw [hi.sz];omega
  simp [hl]
 rw [getD_set_ne false h,hi.mem k hk,List.mem_cons];exact⟨λ x=>.inr x,λ x=>x.resolve_left (λ e=>h e.symm)⟩
def pe(P:Program)(md:Region.Mode)(ops:Array Oper)(C:World->Prop)(R:Array Bool->Act->Prop):Nat->Array Bool->Act->Prop
 | 0,listed,a=>R listed a
 | fuel+1,listed,a=>Region.ready md ops listed≠[]/\∀ i∈Region.ready md ops listed,qOp P ops C i (pe P md ops C R fuel (listed.setIfInBounds i true)) a
theorem vC{Q:Exit->Act->World->Prop}{r:Nat}:∀(fuel:Nat) (listed:Array Bool) (a:Act) (w:World),C w->pe P md ops C (λ l a'=>∀ w',C w'->wpAny P md ops Q r l a' w') fuel listed a->wpAny P md ops Q (r+fuel) listed a w
 | 0,_,_,_,hw,h=>h _ hw
 | fuel+1,_,_,_,hw,h=>⟨λ h0=>absurd h0 h.1,λ i hi=>wpOp_of_qOp hw (λ a' w' hw'=>vC fuel _ a' w' hw') (h.2 i hi)⟩
theorem zt{R:Array Bool->Act->Prop}{n m i:Nat}{oi:Oper}{v:Value}(hcov:Region.cov md ops n m=true)(hms:m<=ops.size)(hi:ops[i]?=some oi)(him:i<m)(hsel:∀(j:Nat) (o:Oper) cs b,ops[j]?=some o->o.op≠.select cs b) :
  ∀(fuel:Nat) (done:List Nat) (listed:Array Bool) (a:Act),qI md ops m done listed->done.length+fuel+1=m ->
   (∀ j oj,ops[j]?=some oj->j≠i->listed.getD j true=false->(∀ e∈oj.after,Region.binds md e=true->e.on≠i)->oi.apart ops oj=true) ->
   i∈Region.ready md ops listed->YieldsIn P ops C oi v a ->
   pe P md ops C R fuel (listed.setIfInBounds i true) (a.put oi.dst v)->pe P md ops C R (fuel+1) listed a:=by
 intro fuel
 induction fuel with
 | zero =>
  intro done listed a hI hlen _ hr hy H;refine⟨λ h=>(by rw [h]at hr;cases hr),λ j hj=>?_⟩;by_cases hji:j=i
  ·subst hji;exact hy.qOp hi H
  exfalso;have hin:=(hI.set hr him hms).2;by_cases hjm:j<m
  ·have h1:=hI.set hj hjm hms
   have h2:=AU m (i::j::done) (List.nodup_cons.2 ⟨by simp [hin,Ne.symm hji],h1.1.nd⟩) λ x hx=>by
    rcases List.mem_cons.1 hx with rfl|hx
    ·exact him
    exact h1.1.lt x hx
   simp only [List.length_cons]at h2;omega
  exact hin ((hI.mem i him).1 (Ac hcov hI.dc hj (by omega) i him))
 | succ fuel ih =>
  intro done listed a hI hlen hfree hr hy H;refine⟨λ h=>(by rw [h]at hr;cases hr),λ j hj=>?_⟩;by_cases hji:j=i
  ·subst hji;exact hy.qOp hi H
  have hjm:j<m:=Nat.lt_of_not_le λ h=>(hI.set hr him hms).2 ((hI.mem i him).1 (Ac hcov hI.dc hj h i him))
  have h1:=H.2 j (ready_mono hj hji);obtain⟨hjun,oj,hoj,hall⟩:=mem_ready.1 hj
  have hnot:∀ e∈oj.after,Region.binds md e=true->e.on≠i:=λ e he hb heq=>by
   have h1:=hall e he hb;have h0:=(mem_ready.1 hr).1;rw [heq]at h1;rcases Nat.lt_or_ge i listed.size with h'|h'
   ·simp [h']at h0 h1;rw [h0]at h1;cases h1
   simp [Array.getElem?_eq_none h']at h1
  have h2:=qOp_put hoj (hfree j oj hoj hji hjun hnot) (λ cs b=>hsel i oi cs b hi) (λ cs b=>hsel j oj cs b hoj) hy h1
  have hfree':∀ k ok,ops[k]?=some ok->k≠i->(listed.setIfInBounds j true).getD k true=false ->
    (∀ e∈ok.after,Region.binds md e=true->e.on≠i)->oi.apart ops ok=true:=λ k ok hk hki hun hno=>by
   refine hfree k ok hk hki ?_ hno;by_cases hjk:j=k
   ·subst hjk;exact hjun
   rw [getD_set_ne true hjk]at hun;exact hun
  refine qOp_mono (λ a' h3=>ih (j::done) (listed.setIfInBounds j true) a' (hI.set hj hjm hms).1 (by simp only [List.length_cons];omega) hfree' (ready_mono hr (Ne.symm hji)) h3.1 ?_) h2;rw [Array.setIfInBounds_comm _ _ hji];exact h3.2
theorem vB{Q:Act->Prop}{n m:Nat}(hs:Region.noSelect ops=true)(hcov:Region.cov md ops n m=true)(hms:m<=ops.size)(F:Array Bool):∀(l:List Oper) (k:Nat) (done:List Nat) (listed:Array Bool) (a:Act),qI md ops m done listed->done.length=k->l.length+k=m->(∀ j,j<l.length->l[j]?=ops[k+j]?) ->
  (List.range' k l.length).foldl (λ l k=>l.setIfInBounds k true) listed=F ->
  Region.lexPre md ops l.length k listed=true->wpQuiet P ops C Q l a->pe P md ops C (λ l a=>l=F/\Q a) l.length listed a
 | [],_,_,_,_,_,_,_,_,hF,_,h=>⟨by simpa using hF,h⟩
 | o::l,k,done,listed,a,hI,hdk,hlen,hl,hF,hB,h=>by
  have h0:ops[k]?=some o:=by simpa using(hl 0 (by simp)).symm
  simp only [List.length_cons,Region.lexPre,Bool.and_eq_true]at hB;obtain⟨⟨hr,hf⟩,hB'⟩:=hB;have hst:qOp P ops C k (wpQuiet P ops C Q l) a:=by unfold qOp;simp only [h0];exact h
  obtain⟨v,hy,hK⟩:=yieldsIn_of_qOp h0 hst;simp only [List.length_cons]at hlen hF;have hr':k∈Region.ready md ops listed:=by simpa using hr
  have hI':=(hI.set hr' (by omega) hms).1;rw [List.range'_succ,List.foldl_cons]at hF
  exact zt hcov hms h0 (by omega) (Region.noSelect_spec hs) l.length done listed a hI (by omega) (Region.free_spec h0 hf) hr' hy
   (vB hs hcov hms F l (k+1) (k::done) _ _ hI' (by simp [hdk]) (by omega) (λ j hj=>by have:=hl (j+1) (by simpa using hj);simpa [Nat.add_assoc,Nat.add_comm 1 j]using this) hF hB' hK)
theorem si{R R':Array Bool->Act->Prop}(h:∀ l a,R l a->R' l a):∀(f:Nat) (l:Array Bool) (a:Act),pe P md ops C R f l a->pe P md ops C R' f l a
 | 0,_,_,H=>h _ _ H
 | f+1,_,_,H=>⟨H.1,λ i hi=>qOp_mono (λ _ H'=>si h f _ _ H') (H.2 i hi)⟩
theorem wg{id:Nat}{Q:Exit->Act->World->Prop}{a:Act}{w:World}{l1:List Oper}(n m:Nat)(hm:P.follows .mixedOrders=true)(hB:Region.preB .any ops n m=true)(hC:C { w with drawn:=w.drawn+1 })(hl:l1=ops.toList.take m)
  (h:wpQuiet P ops C (λ a'=>∀ w',C w'->wpOps P ops Q (List.range' m (ops.size-m)) a' w') l1 a):(Code.region id ops true).wp P Q a w:=by
 unfold Region.preB at hB;simp only [Bool.and_eq_true,decide_eq_true_eq]at hB;obtain⟨⟨⟨⟨hms,hs⟩,hL⟩,hcov⟩,hS⟩:=hB;have hlen:l1.length=m:=by rw [hl,List.length_take,Array.length_toList];omega
 have hI:qI .any ops m [] (Array.replicate ops.size false):=⟨by simp,List.nodup_nil,by simp,λ k hk=>⟨λ h=>by(exfalso;have hk':k<ops.size:=by omega);simp [hk']at h,λ h=>by cases h⟩,λ k hk=>by
  exfalso;by_cases h:k<ops.size
  ·simp [h]at hk
  ·simp [h]at hk⟩
 have h1:=vB hs hcov hms (Region.first ops m) l1 0 [] _ a hI rfl (by omega) (λ j hj=>by rw [hl,List.getElem?_take,aS (by omega)];simp) (by rw [hlen];unfold Region.first;rw [List.range_eq_range']) (by rw [hlen];exact hL) h;rw [hlen]at h1;have h2:=vC (Q:=Q) (r:=ops.size-m) m _ a _ hC (si (λ l a' ⟨e,hq⟩ w' hw'=>by subst e;exact xR _ _ _ _ _ hS (hq w' hw')) m _ _ h1);refine wp_region_any hm ?_;rw [show ops.size-m+m=ops.size by omega]at h2;exact h2
theorem kG{id:Nat}{Q:Exit->Act->World->Prop}{a:Act}{w:World}{l:List Oper}(n m:Nat)(hm:P.follows .mixedOrders=true)(hB:Region.preB .any l.toArray n m=true)(hC:C { w with drawn:=w.drawn+1 })
  (h:wpQuiet P l.toArray C (λ a'=>∀ w',C w'->wpList P l.toArray Q (l.drop m) a' w') (l.take m) a):(Code.region id l.toArray true).wp P Q a w :=
 wg (l1:=l.take m) n m hm hB hC (by simp) (by
  have e:=wpOps_eq_wpList (P:=P) (ops:=l.toArray) (Q:=Q) (l.drop m) m (λ j=>by rw [List.getElem?_drop];simp);rw [List.length_drop]at e;rw [show l.toArray.size=l.length from by simp,e];exact h)
end
