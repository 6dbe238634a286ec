/- part -/
import Derived.Test.YtphhnjljlllnlaaGreatDoorSpN
namespace Go.Proofs.YtphhnjljlllnlaaGreatDoor
open Go.RowKit
theorem zm(ts:List ak)(st:RS):(gE ts st).1.defs=st.defs:=by
 unfold gE;dsimp only;split
 ·exact aU ts 4 st
 exact aU ts 4 st
theorem zn(ts:List ak)(st:RS):(gF ts st).1.defs=st.defs:=by
 unfold gF;dsimp only;split
 ·exact aU ts 4 st
 exact aU ts 4 st
theorem tF{ts:List ak}{q:Int}{m:aR->aR->aR}{rd:RS->Option (RS×Option aR)}(h0:∀ st r,rd st=some r->r.1.defs=st.defs):∀(n:Nat) (st:RS) (a:Option aR) (r:RS×Option aR),iD ts q m rd n st a=some r->r.1.defs=st.defs
 | 0,_,_,_,h=>by cases h
 | n+1,st,a,r,h=>by
  rw [iD]at h;split at h
  ·split at h
   ·cases h
   rename_i s b hx;rw [tF h0 n _ _ r h];exact h0 _ _ hx
  cases h;rfl
theorem tE{ts:List ak}{q:Int}{m:aR->aR->aR}{rd:RS->Option (RS×Option aR)}{n:Nat}(h0:∀ st r,rd st=some r->r.1.defs=st.defs){st:RS}{r:RS×Option aR}(h:kq ts q m rd n st=some r):r.1.defs=st.defs:=by
 unfold kq at h;split at h
 ·cases h
 rename_i s a hx;rw [tF h0 n _ _ r h];exact h0 _ _ hx
theorem rB{ts:List ak}{nt:RS->Option (RS×Option aR)}{n:Nat}(h0:∀ st r,nt st=some r->r.1.defs=st.defs){st:RS}{r:RS×Option aR}(h:jW ts nt n st=some r):r.1.defs=st.defs :=
 tE (rd:=MQ ts nt n) (λ _ _ h=>tE (rd:=nt) h0 h) h
theorem uA(ts:List ak):∀(f:Nat) (st:RS) (r:RS×Option aR),gw ts 100 (iQ ts) f st=some r->r.1.defs=st.defs
 | 0,_,_,h=>by cases h
 | f+1,st,r,h=>by
  rw [gw]at h;split at h
  ·split at h
   ·cases h
   rename_i s c hx;cases h
   have:=uA ts f _ _ hx;rw [iN]at this;exact this
  split at h
  ·cases h
   show(gE ts _).1.defs=_;rw [zm,aU];rfl
  split at h
  ·cases h
   show(gF ts _).1.defs=_;rw [zn,aU];rfl
  split at h
  ·cases h
   show(aM ts _ _ _).1.defs=_;rw [fq];rfl
  split at h
  ·split at h
   ·cases h
   rename_i s c hx;cases h
   have:=rB (uA ts f) hx;rw [iN]at this;show(ka ts 32 s).defs=_;rw [mr];exact this
  exact pI h
theorem pF{ts:List ak}{rd:RS->Option (RS×Option (Option aJ))}{n:Nat}(h0:∀ st r,rd st=some r->r.1.defs=st.defs){st:RS}{r:RS×List (Option aJ)}(h:ef ts rd n st=some r):r.1.defs=st.defs:=by
 unfold ef at h;split at h
 ·cases h
 rename_i s l hx;cases h
 have:=nf h0 n _ _ _ hx;show(ka ts 30 s).defs=_;rw [mr];exact this.trans (iN ts 29 st)
theorem lz(ts:List ak):∀(f:Nat) (st:RS) (r:RS×Option (Option aJ)),cH ts 100 H8 (iQ ts) (sm ts) f st=some r->r.1.defs=st.defs
 | 0,_,_,h=>by cases h
 | f+1,st,r,h=>by
  rw [cH]at h;split at h
  ·cases h
  split at h
  ·split at h
   ·cases h
   rename_i s1 c hc;have h1:s1.defs=st.defs:=rB (uA ts 20) hc;split at h
   ·cases h
   rename_i s2 yes hy;have h2:s2.defs=st.defs:=(pF (lz ts f) hy).trans ((aU ts 15 s1).trans h1);split at h
   ·split at h
    ·cases h
    rename_i s3 no hn;cases h
    exact(pF (lz ts f) hn).trans h2
   cases h;exact h2
  split at h
  ·cases h;exact aU ts 27 _
  split at h
  ·cases h;exact aU ts 27 _
  split at h
  ·split at h
   ·cases h
   rename_i s1 a hs;cases h
   exact(aU ts 27 s1).trans ((lA hs).trans (aU ts 26 _))
  split at h
  ·split at h
   ·cases h
   rename_i s1 a hs;cases h
   exact(aU ts 27 s1).trans ((lA hs).trans (aU ts 26 _))
  split at h
  ·cases h;exact(aU ts 27 _).trans (fq ts _ _ _)
  split at h
  ·cases h;exact(aU ts 27 _).trans (fq ts _ _ _)
  split at h
  ·cases h;exact(aU ts 27 _).trans (fq ts _ _ _)
  cases h;rfl
theorem xx{ts:List ak}{st1 s2 s3 s4:RS}{m1 m2 m3:aJ}{K:Nat}(hds:mW ts 100 20 8 qE=some st1)(h1:oo ts 3 st1=some (s2,some (some m1)))(h2:oo ts 3 s2=some (s3,some (some m2)))(h3:oo ts 3 s3=some (s4,some (some m3)))(g4:cR ts s4 0 K)(hK:ce ts K=1) :
  ∃ st,mf ts 100 20 (oo ts 3) qE=some (st,[m1,m2,m3].map some)/\cR ts st 0 K:=by
 obtain⟨s5,h5,g5⟩:=I3 hK s4 g4;refine⟨s5,?_,g5⟩;unfold mf;rw [hds];dsimp only;unfold jo;rw [show(100:Nat)=96+1+1+1+1 from rfl,cf,h1];dsimp only;rw [cf,h2];dsimp only;rw [cf,h3];dsimp only;rw [cf,h5];dsimp only;have hlen:¬([]++[some m1]++[some m2]++[some m3]:List (Option aJ)).length=0:=by simp
 rw [aG hlen,g5.kind,aS hK]
 rfl
def NY:List Pc:=[fH 4,.sp,gN 61,.sp,fH 4,.sp,gN 43,.sp,sJ 1,gN 59,.sp,fH 9,.sp,fH 12,.sp,gN 60,.sp,sJ 5,.sp,fH 10,.sp,gN 123,.sp,fH 8,.sp,sJ 2,gN 59,.sp,fH 2,gN 59,.sp,gN 125]
def Jf(q:Tc):List Pc:=NW++(fH 9::.sp::q.pc (.sp::fH 10::.sp::Fq (.sp::NY)))
noncomputable def Jg(c:aR):List aJ:=[gD c [ci 1] [],gy (iu oJ (ie 1) 1),gD ((Ct.len 5).M S0 W0) [dM 2,ci 1] []]
def Oe(R:List Pc):List Pc:=gN 123::.sp::fH 6::.sp::sJ 4::gN 59::.sp::fH 2::gN 59::.sp::gN 125::R
def GK:List Pc:=[fH 5,.sp,gN 61,.sp,fH 5,.sp,gN 43,.sp,fH 12,gN 59,.sp,fH 9,.sp,fH 16,.sp,fH 17,.sp,r7,.sp,fH 10,.sp,gN 123,.sp,fH 2,gN 59,.sp,gN 125]
def uF(q:Tc):List Pc:=NW++(fH 9::.sp::q.pc (.sp::fH 10::.sp::Oe (.sp::GK)))
noncomputable def A3(c:aR):List aJ:=[gD c [jj 4,ci 1] [],iX (iu Dl Gn 1),gD (Ct.net.M S0 W0) [ci 1] []]
theorem Nx:fY NY:=by
 refine fB (by decide) ?_ (cP _).1;refine eZ ?_ (by simp);refine fB (by decide) ?_ (cP _).1;refine eZ ?_ (by simp);refine sy (by decide) (eZ ?_ (by simp)) (Ap _).2;refine fB (by decide) ?_ (cP _).1;refine fB (by decide) ?_ (cP _).1;refine jz (by rw [Ol];decide) ?_;refine sy (by decide) ?_ (cP _).2;refine fB (by decide) ?_ (cP _).1;refine eZ ?_ (by simp);refine fB (by decide) ?_ (cP _).1;refine sy (by decide) (eZ ?_ (by simp)) (Ap _).2;exact fB (by decide) (eZ (eZ trivial (by simp)) (by simp)) (Ap _).1
theorem Mj:fY GK:=by
 refine fB (by decide) ?_ (cP _).1;refine eZ ?_ (by simp);refine fB (by decide) ?_ (cP _).1;refine eZ ?_ (by simp);refine fB (by decide) (eZ ?_ (by simp)) (Ap _).1;refine fB (by decide) ?_ (cP _).1;refine fB (by decide) ?_ (cP _).1;refine fB (by decide) ?_ (cP _).1;refine yI ?_ (cP _).1;refine fB (by decide) ?_ (cP _).1;refine eZ ?_ (by simp);exact fB (by decide) (eZ (eZ trivial (by simp)) (by simp)) (Ap _).1
theorem NH{R:List Pc}(h:fY R):fY (Oe R):=by
 refine eZ ?_ (by simp);refine fB (by decide) ?_ (cP _).1;refine sy (by decide) (eZ ?_ (by simp)) (Ap _).2;exact fB (by decide) (eZ (eZ h (by simp)) (by simp)) (Ap _).1
theorem Gc(q:Tc)(ho:q.ok):∃ st K,mf (fP 0 (Jf q)) 100 20 (oo (fP 0 (Jf q)) 3) qE=some (st,(Jg q.M).map some)/\cR (fP 0 (Jf q)) st 0 (K+1):=by
 have hts:=tg.pcs (Jf q);obtain⟨st,h1,g1,hd,k16,r1,k15,dB⟩:=wI hts (B:=Fq (.sp::NY)) ho rfl;generalize fP 0 (Jf q)=ts at *;generalize p7 (Jf q)=T at *;obtain⟨b1,d0⟩:=Cl hts (f:=1) dB;obtain⟨K,hK⟩:∃ K,17+q.n+1+4=K:=⟨_,rfl⟩
 rw [hK]at b1 d0;obtain⟨e0,d1⟩:=aT hts (show T.drop K=wT 4::_ from d0);obtain⟨e1,d2⟩:=aT hts d1;obtain⟨e2,d3⟩:=aT hts d2;obtain⟨e3,d4⟩:=aT hts d3;obtain⟨e4,d5⟩:=aT hts d4;obtain⟨e5,d6⟩:=aT hts d5;obtain⟨e6,d7⟩:=aT hts d6;obtain⟨r3,d10⟩:=(Ct.len 5).reads hts tW tX 20 0 (K+7) (wT 10) [sT 123,wT 8,nT 2,sT 59,wT 2,sT 59,sT 125,⟨1,0,⟨#[]⟩,0,0,0⟩] (show 5<=9 by decide) (by decide) (by decide) (by decide) ⟨by decide,by decide⟩ d7;have d10':T.drop (K+10)=wT 10::[sT 123,wT 8,nT 2,sT 59,wT 2,sT 59,sT 125,⟨1,0,⟨#[]⟩,0,0,0⟩]:=d10;obtain⟨e10,d11⟩:=aT hts d10';obtain⟨e11,d12⟩:=aT hts d11;obtain⟨e12,d13⟩:=aT hts d12;obtain⟨e13,d14⟩:=aT hts d13;obtain⟨e14,d15⟩:=aT hts d14;obtain⟨e15,d16⟩:=aT hts d15;obtain⟨e16,d17⟩:=aT hts d16;obtain⟨e17,d18⟩:=aT hts d17;obtain⟨eE,_⟩:=aT hts d18;have k0:ce ts K=9:=aF e0;have k5:ce ts (K+5)=27:=(aF e5).trans Kf;have k10:ce ts (K+10)=15:=aF e10;have kE:ce ts (K+18)=1:=aF eE;obtain⟨s2,a2,g2⟩:=Oq (f:=2) g1 hd k16 r1 k15 b1 (by rw [k0];decide);have hd2:s2.defs=Cg:=(lz ts 3 _ _ a2).trans hd;have t4:=jQ (ts:=ts) (n:=100) (f:=19) (d:=0) (k:=K+4) (aF e4);rw [gM e4]at t4
 have hs:bX ts (iQ ts) 0 (K+2) (K+5) (some (iu oJ (ie 1) 1)) :=
  lC (n:=100) (k1:=K+3) (mu (f:=19) (aF e2)) (.plus (k1:=K+5) ((aF e3).trans M7) t4 (.nil (by rw [k5];decide) (by rw [k5];decide))) (by decide)
 obtain⟨s3,a3,g3⟩:=D4 (ts:=ts) (n:=100) (f:=2) (ok:=H8) (sum:=iQ ts) (cnd:=sm ts) (d:=0) (k:=K) k0 rfl ((aF e1).trans NS) hs k5 s2 g2;have hd3:s3.defs=Cg:=(lz ts 3 _ _ a3).trans hd2;have rc:dO Cg ts (sm ts) 0 (K+7) (K+10) (some ((Ct.len 5).M S0 W0)):=nK r3 (by show ce ts (K+10)≠18;rw [k10];decide) (by show ce ts (K+10)≠19;rw [k10];decide)
 have b3:bX ts (ef ts (oo ts 2) 100) 0 (K+11) (K+18) ([dM 2,ci 1].map some):=by
  refine jc (k':=K+17) ((aF e11).trans Hb) (by decide) (by decide) ?_ (by decide) ((aF e17).trans vY);have q1:=oP (ts:=ts) (n:=100) (f:=1) (ok:=H8) (sum:=iQ ts) (cnd:=sm ts) (d:=0+1) (k:=K+12) (aF e12) rfl (aF e13) (by rw [gM e13];decide) (by rw [gM e13];decide) ((aF e14).trans Kf);rw [gM e13]at q1;exact .cons q1 (.cons (k1:=K+17) (iz (aF e15) rfl ((aF e16).trans Kf)) (.nil (sK ((aF e17).trans vY))))
 obtain⟨s4,a4,g4⟩:=Oq (f:=2) (k:=K+6) g3 hd3 (aF e6) rc k10 b3 (by rw [kE];decide);obtain⟨s5,a5,g5⟩:=xx h1 a2 a3 a4 g4 kE;exact⟨s5,K+17,a5,g5⟩
theorem DG(q:Tc)(ho:q.ok):∃ st K,mf (fP 0 (uF q)) 100 20 (oo (fP 0 (uF q)) 3) qE=some (st,(A3 q.M).map some)/\cR (fP 0 (uF q)) st 0 (K+1):=by
 have hts:=tg.pcs (uF q);obtain⟨st,h1,g1,hd,k16,r1,k15,dB⟩:=wI hts (B:=Oe (.sp::GK)) ho rfl;generalize fP 0 (uF q)=ts at *;generalize p7 (uF q)=T at *;obtain⟨J,hJ⟩:∃ J,17+q.n+1=J:=⟨_,rfl⟩
 have k15':ce ts (17+q.n)=15:=k15;rw [hJ]at dB;obtain⟨f0,c1⟩:=aT hts (show T.drop J=sT 123::_ from dB);obtain⟨f1,c2⟩:=aT hts c1;obtain⟨f2,c3⟩:=aT hts c2;obtain⟨f3,c4⟩:=aT hts c3;obtain⟨f4,c5⟩:=aT hts c4;obtain⟨f5,c6⟩:=aT hts c5;obtain⟨f6,c7⟩:=aT hts c6;obtain⟨e0,d1⟩:=aT hts c7;obtain⟨e1,d2⟩:=aT hts d1;obtain⟨e2,d3⟩:=aT hts d2;obtain⟨e3,d4⟩:=aT hts d3;obtain⟨e4,d5⟩:=aT hts d4;obtain⟨e5,d6⟩:=aT hts d5;obtain⟨e6,d7⟩:=aT hts d6;obtain⟨r3,d10⟩:=Ct.net.reads hts tW tX 20 0 (J+14) (wT 10) [sT 123,wT 2,sT 59,sT 125,⟨1,0,⟨#[]⟩,0,0,0⟩] trivial (by decide) (by decide) (by decide) ⟨by decide,by decide⟩ d7;have d10':T.drop (J+17)=wT 10::[sT 123,wT 2,sT 59,sT 125,⟨1,0,⟨#[]⟩,0,0,0⟩]:=d10;obtain⟨e10,d11⟩:=aT hts d10';obtain⟨e11,d12⟩:=aT hts d11;obtain⟨e12,d13⟩:=aT hts d12;obtain⟨e13,d14⟩:=aT hts d13;obtain⟨e14,d15⟩:=aT hts d14;obtain⟨eE,_⟩:=aT hts d15;have k0:ce ts (J+7)=10:=aF e0;have k5:ce ts (J+12)=27:=(aF e5).trans Kf;have k10:ce ts (J+17)=15:=aF e10;have kE:ce ts (J+22)=1:=aF eE
 have b1:bX ts (ef ts (oo ts 2) 100) 0 J (J+7) ([jj 4,ci 1].map some):=by
  refine jc (k':=J+6) ((aF f0).trans Hb) (by decide) (by decide) ?_ (by decide) ((aF f6).trans vY);have q1:=D3 (ts:=ts) (n:=100) (f:=1) (ok:=H8) (sum:=iQ ts) (cnd:=sm ts) (d:=0+1) (k:=J+1) (aF f1) rfl (aF f2) (by rw [gM f2];decide) (by rw [gM f2];decide) ((aF f3).trans Kf);rw [gM f2]at q1;exact .cons q1 (.cons (k1:=J+6) (iz (aF f4) rfl ((aF f5).trans Kf)) (.nil (sK ((aF f6).trans vY))))
 obtain⟨s2,a2,g2⟩:=Oq (f:=2) (k2:=J+7) g1 hd k16 r1 k15' (by rw [hJ];exact b1) (by rw [k0];decide);have hd2:s2.defs=Cg:=(lz ts 3 _ _ a2).trans hd
 have hs:bX ts (iQ ts) 0 (J+9) (J+12) (some (iu Dl Gn 1)) :=
  lC (n:=100) (k1:=J+10) (xL (f:=19) (aF e2)) (.plus (k1:=J+12) ((aF e3).trans M7) (xK (f:=19) (aF e4)) (.nil (by rw [k5];decide) (by rw [k5];decide))) (by decide)
 obtain⟨s3,a3,g3⟩:=Hn (ts:=ts) (n:=100) (f:=2) (ok:=H8) (sum:=iQ ts) (cnd:=sm ts) (d:=0) (k:=J+7) k0 rfl ((aF e1).trans NS) hs k5 s2 g2;have hd3:s3.defs=Cg:=(lz ts 3 _ _ a3).trans hd2;have rc:dO Cg ts (sm ts) 0 (J+14) (J+17) (some (Ct.net.M S0 W0)):=nK r3 (by show ce ts (J+17)≠18;rw [k10];decide) (by show ce ts (J+17)≠19;rw [k10];decide)
 have b3:bX ts (ef ts (oo ts 2) 100) 0 (J+18) (J+22) ([ci 1].map some):=by
  refine jc (k':=J+21) ((aF e11).trans Hb) (by decide) (by decide) ?_ (by decide) ((aF e14).trans vY);exact .cons (k1:=J+21) (iz (aF e12) rfl ((aF e13).trans Kf)) (.nil (sK ((aF e14).trans vY)))
 obtain⟨s4,a4,g4⟩:=Oq (f:=2) (k:=J+13) g3 hd3 (aF e6) rc k10 b3 (by rw [kE];decide);obtain⟨s5,a5,g5⟩:=xx h1 a2 a3 a4 g4 kE;exact⟨s5,J+21,a5,g5⟩
def LE:List UInt8:=[123,32,97,99,99,101,112,116,59,32,125,32,112,114,101,102,32,61,32,112,114,101,102,32,43,32,49,59,32,105,102,32,108,101,110,32,60,32,53,32,116,104,101,110,32,123,32,112,114,101,112,101,110,100,32,50,59,32,97,99,99,101,112,116,59,32,125]
def E5:List UInt8:=[123,32,109,97,114,107,32,52,59,32,97,99,99,101,112,116,59,32,125,32,109,101,100,32,61,32,109,101,100,32,43,32,108,101,110,59,32,105,102,32,110,101,116,32,105,110,32,115,32,116,104,101,110,32,123,32,97,99,99,101,112,116,59,32,125]
theorem Gb:aD (Fq (.sp::NY))=LE:=by
 simp only [Fq,NY,aD,fH,gN,sJ,Ib.2.2.1,Ib.2.2.2.2.2.2.1,Ib.2.2.2.2.2.2.2.1,Ib.2.2.2.2.2.2.2.2.1,di.2.2.2.2.2.1,di.2.2.2.2.2.2.1,fy (u:=1) (by decide),fy (u:=2) (by decide),fy (u:=5) (by decide)]
 rfl
theorem DF:aD (Oe (.sp::GK))=E5:=by
 simp only [Oe,GK,aD,fH,gN,sJ,r7,Ib.2.2.1,Ib.2.2.2.2.1,Ib.2.2.2.2.2.2.2.1,Ib.2.2.2.2.2.2.2.2.1,di.1,di.2.1,di.2.2.2.2.2.1,di.2.2.2.2.2.2.2.1,fy (u:=4) (by decide)]
 rfl
theorem wV(q:Tc):aD (Jf q)=MT++([105,102,32]++(q.bs++([32,116,104,101,110,32]++LE))):=by
 rw [Jf,At,Gb]
theorem uG(q:Tc):aD (uF q)=MT++([105,102,32]++(q.bs++([32,116,104,101,110,32]++E5))):=by
 rw [uF,At,DF]
theorem LH(q:Tc)(ho:q.ok)(hl:q.bs.length<=300):oT (br (aD (Jf q))) (Jg q.M):=by
 obtain⟨st,K,hp,g⟩:=Gc q ho;have hok:fY (Jf q):=IY (fB (by decide) (q.pc_ok ho (fB (by decide) (K5 (show fY (.sp::NY)from Nx)) (cP _).1) (OQ _)) (cP _).1);refine Bg (E6 hok) ?_ hp g.syn g.nam g.num (g.page.resolve_left (by omega));rw [bM,wV];simp only [List.length_append,show MT.length=45 from rfl,show LE.length=67 from rfl,List.length_cons,List.length_nil];omega
theorem JU(q:Tc)(ho:q.ok)(hl:q.bs.length<=300):oT (br (aD (uF q))) (A3 q.M):=by
 obtain⟨st,K,hp,g⟩:=DG q ho;have hok:fY (uF q):=IY (fB (by decide) (q.pc_ok ho (fB (by decide) (NH (show fY (.sp::GK)from Mj)) (cP _).1) (OQ _)) (cP _).1);refine Bg (E6 hok) ?_ hp g.syn g.nam g.num (g.page.resolve_left (by omega));rw [bM,uG];simp only [List.length_append,show MT.length=45 from rfl,show E5.length=65 from rfl,List.length_cons,List.length_nil];omega
theorem LI(x:Ct):br (aD (Jf (.one x)))=(⟨#[115,101,116,32,115,32,61,32,123,32,49,48,46,48,46,48,46,48,47,56,32,49,54,32,50,52,32,125,59,32,119,97,121,32,119,32,61,32,49,32,46,32,42,59,32,105,102,32]⟩++br x.bs++⟨#[32,116,104,101,110,32,123,32,97,99,99,101,112,116,59,32,125,32,112,114,101,102,32,61,32,112,114,101,102,32,43,32,49,59,32,105,102,32,108,101,110,32,60,32,53,32,116,104,101,110,32,123,32,112,114,101,112,101,110,100,32,50,59,32,97,99,99,101,112,116,59,32,125]⟩:ByteArray):=by
 show _=br [115,101,116,32,115,32,61,32,123,32,49,48,46,48,46,48,46,48,47,56,32,49,54,32,50,52,32,125,59,32,119,97,121,32,119,32,61,32,49,32,46,32,42,59,32,105,102,32]++br x.bs++br [32,116,104,101,110,32,123,32,97,99,99,101,112,116,59,32,125,32,112,114,101,102,32,61,32,112,114,101,102,32,43,32,49,59,32,105,102,32,108,101,110,32,60,32,53,32,116,104,101,110,32,123,32,112,114,101,112,101,110,100,32,50,59,32,97,99,99,101,112,116,59,32,125];simp only [<-gB]
 congr 1
 rw [wV,show(Tc.one x).bs=x.bs from rfl];simp [MT,LE]
theorem JV(x:Ct):br (aD (uF (.one x)))=(⟨#[115,101,116,32,115,32,61,32,123,32,49,48,46,48,46,48,46,48,47,56,32,49,54,32,50,52,32,125,59,32,119,97,121,32,119,32,61,32,49,32,46,32,42,59,32,105,102,32]⟩++br x.bs++⟨#[32,116,104,101,110,32,123,32,109,97,114,107,32,52,59,32,97,99,99,101,112,116,59,32,125,32,109,101,100,32,61,32,109,101,100,32,43,32,108,101,110,59,32,105,102,32,110,101,116,32,105,110,32,115,32,116,104,101,110,32,123,32,97,99,99,101,112,116,59,32,125]⟩:ByteArray):=by
 show _=br [115,101,116,32,115,32,61,32,123,32,49,48,46,48,46,48,46,48,47,56,32,49,54,32,50,52,32,125,59,32,119,97,121,32,119,32,61,32,49,32,46,32,42,59,32,105,102,32]++br x.bs++br [32,116,104,101,110,32,123,32,109,97,114,107,32,52,59,32,97,99,99,101,112,116,59,32,125,32,109,101,100,32,61,32,109,101,100,32,43,32,108,101,110,59,32,105,102,32,110,101,116,32,105,110,32,115,32,116,104,101,110,32,123,32,97,99,99,101,112,116,59,32,125];simp only [<-gB]
 congr 1
 rw [uG,show(Tc.one x).bs=x.bs from rfl];simp [MT,E5]
def mL(s:aJ):Prop:=∀ r,dh r=true->dh (s r).1=true/\(s r).1.net=r.net
theorem nP{r:Rt}(h:dh r=true):mn (r.addr,r.len) r.path r.marks r.pref r.med:=of_decide_eq_true h
theorem jM:∀{ms:List aJ},(∀ s∈ms,mL s)->mL (bd ms)
 | [],_=>λ r hr=>⟨hr,rfl⟩
 | s::ms,h=>λ r hr=>by
  have h1:=h s (by simp) r hr;rw [bd];split
  ·have h2:=jM (ms:=ms) (λ t ht=>h t (List.mem_cons_of_mem _ ht)) (s r).1 h1.1;exact⟨h2.1,h2.2.trans h1.2⟩
  exact h1
theorem EH{ms:List aJ}(h:∀ s∈ms,mL s):gh ms:=λ r hr hv=>by
 unfold dl at hv ⊢;split
 ·exact jM h r hr
 rename_i hn;rw [aG hn]at hv;dsimp only at hv;split at hv<;>cases hv
theorem iU(v:Int):mL (ci v):=λ _ hr=>⟨hr,rfl⟩
theorem xu{a b:bh}{s n:Int}{r:Rt}(h:iu a b s r=some n):iE n:=by
 unfold iu at h;split at h
 ·cases h
 split at h
 ·cases h
 unfold rV at h;split at h
 ·rename_i hx;cases h;exact hx
 cases h
theorem Gj(a b:bh)(s:Int):mL (gy (iu a b s)):=λ r hr=>by
 have ho:=nP hr;unfold gy;split
 ·exact⟨hr,rfl⟩
 rename_i n h;exact⟨Fh ⟨ho.1,ho.2.1,ho.2.2.1,xu h,ho.2.2.2.2⟩,rfl⟩
theorem Jp(a b:bh)(s:Int):mL (iX (iu a b s)):=λ r hr=>by
 have ho:=nP hr;unfold iX;split
 ·exact⟨hr,rfl⟩
 rename_i n h;exact⟨Fh ⟨ho.1,ho.2.1,ho.2.2.1,ho.2.2.2.1,xu h⟩,rfl⟩
theorem yx{n:Int}(h1:1<=n)(h2:n<=65535):mL (dM n):=λ r hr=>by
 have ho:=nP hr;unfold dM;split
 ·exact⟨hr,rfl⟩
 rename_i hl;refine⟨Fh ⟨ho.1,⟨?_,λ x hx=>?_⟩,ho.2.2⟩,rfl⟩
 ·have:=ho.2.1.1;simp only [List.length_cons];omega
 rcases List.mem_cons.1 hx with rfl|hx
 ·exact⟨h1,h2⟩
 exact ho.2.1.2 x hx
theorem Bl:∀{l:List Int} {n:Int},l.Pairwise (· < ·)->(∀ x∈l,n<=x/\x<=65535)->gx n l
 | [],n,_,_=>iO n
 | y::l,n,h,hb=>by
  obtain⟨h1,h2⟩:=List.pairwise_cons.1 h;have:=hb y (by simp);exact fQ.2 ⟨this.1,this.2,Bl h2 λ x hx=>⟨by have:=h1 x hx;omega,(hb x (by simp [hx])).2⟩⟩
theorem Gi{n:Int}(h1:0<=n)(h2:n<=65535):mL (jj n):=λ r hr=>by
 have ho:=nP hr;unfold jj;split
 ·exact⟨hr,rfl⟩
 rename_i hc;split
 ·exact⟨hr,rfl⟩
 rename_i hl;have hm:=ho.2.2.1;have hp:=uJ r.marks n;have hnm:n ∉ r.marks:=λ e=>hc (List.contains_iff_mem.2 e)
 refine⟨Fh ⟨ho.1,ho.2.1,⟨?_,Bl (oY (qf hm.2).1 hnm) λ x hx=>?_⟩,ho.2.2.2⟩,rfl⟩
 ·have:=hm.1;simp only [List.length_append,List.length_take,List.length_cons,List.length_drop];omega
 have hall:∀ y∈r.marks,0<=y/\y<=65535:=λ y hy=>by have:=nO hm.2 y hy;omega
 rcases List.mem_append.1 hx with hx|hx
 ·exact hall x (List.mem_of_mem_take hx)
 rcases List.mem_cons.1 hx with rfl|hx
 ·exact⟨h1,h2⟩
 exact hall x (List.mem_of_mem_drop hx)
theorem kw{c:aR}{yes no:List aJ}(hy:∀ s∈yes,mL s)(hn:∀ s∈no,mL s):mL (gD c yes no):=λ r hr=>by
 unfold gD;split
 ·exact⟨hr,rfl⟩
 ·exact jM hy r hr
 exact jM hn r hr
theorem LF(c:aR):gh (Jg c):=EH λ s hs=>by
 simp only [Jg,List.mem_cons,List.not_mem_nil,or_false]at hs;rcases hs with rfl|rfl|rfl
 ·exact kw (λ s hs=>by rcases List.mem_singleton.1 hs with rfl;exact iU 1) (λ s hs=>by cases hs)
 ·exact Gj _ _ _
 exact kw (λ s hs=>by
  rcases List.mem_cons.1 hs with rfl|hs
  ·exact yx (by decide) (by decide)
  ·rcases List.mem_singleton.1 hs with rfl;exact iU 1) (λ s hs=>by cases hs)
theorem JT(c:aR):gh (A3 c):=EH λ s hs=>by
 simp only [A3,List.mem_cons,List.not_mem_nil,or_false]at hs;rcases hs with rfl|rfl|rfl
 ·exact kw (λ s hs=>by
   rcases List.mem_cons.1 hs with rfl|hs
   ·exact Gi (by decide) (by decide)
   ·rcases List.mem_singleton.1 hs with rfl;exact iU 1) (λ s hs=>by cases hs)
 ·exact Jp _ _ _
 exact kw (λ s hs=>by rcases List.mem_singleton.1 hs with rfl;exact iU 1) (λ s hs=>by cases hs)
