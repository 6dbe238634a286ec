/- part -/
import Derived.Test.YtphhnjljlllnlaaGreatDoorFdB
import Derived.Test.YtphhnjljlllnlaaGreatDoorCards
import Derived.Test.YtphhnjljlllnlaaGreatDoorTie
import Derived.ProofKit
import Derived.OpenShut
import Derived.Carry
import Derived.SizedLaws
import Derived.Deep.DeepHandedRow
import Derived.Deep.DeepLaidRun
import Derived.Deep.Slices
import Derived.Lib.LaidTab
set_option maxRecDepth 100000
set_option maxHeartbeats 8000000
namespace Go.Proofs.YtphhnjljlllnlaaGreatDoor
open Go.Proofs.Tryz
open Or
open Go Go.RowKit Go.Sort Go.Shelf
open Go.ChangeShapes Go.WideShapes Go.ChangeAt Go.RowKit
theorem bJ.told{n0:Nat}{w0 w w':World}{hb sb ip op pb cap:Nat}{ch cs:Array Value}{st:List HP}{ps:List aW}(h:bJ n0 w0 w hb sb ip op pb cap ch st cs ps)(hf:Fr (· = hb) w (· = hb) w'){base:Nat}{v:Value}{T:List TV}(ht:eC w base v T):eC w' base v T :=
 ht.keepT hf λ k hk=>by
  subst hk;exact⟨_,_,h.hs.blk,inl rfl⟩
theorem bJ.ups{n0:Nat}{w0 w:World}{hb sb ip op pb cap p:Nat}{ch cs:Array Value}{st:List HP}{ps:List aW}(h:bJ n0 w0 w hb sb ip op pb cap ch st cs ps)(hp:p<st.length)(b:Bool) :
  ∃ ch',bJ n0 w0 (w.setCell ⟨hb,3+p,none⟩ (.bool b)) hb sb ip op pb cap ch' (st.set p { st[p]with up:=b }) cs ps/\Fr (· = hb) w (· = hb) (w.setCell ⟨hb,3+p,none⟩ (.bool b)) :=
 have hf:Fr (· = hb) w (· = hb) (w.setCell ⟨hb,3+p,none⟩ (.bool b)):=Fr.setCell (O:=(· = hb)) (O':=(· = hb)) (dw _ _) (p:=⟨hb,3+p,none⟩) (inl rfl) _
 ⟨_,h.heard hf (h.hs.setUp hp b) λ _ hk=>inl hk.bool,hf⟩
theorem bJ.noRts{n0:Nat}{w0 w:World}{hb sb ip op pb cap p:Nat}{ch cs:Array Value}{st:List HP}{ps:List aW}(h:bJ n0 w0 w hb sb ip op pb cap ch st cs ps)(hp:p<st.length) :
  ∃ ch',bJ n0 w0 (w.setCell ⟨hb,6+p,none⟩ (.slice none 0 0)) hb sb ip op pb cap ch' (st.set p { st[p]with rts:=[] }) cs ps/\Fr (· = hb) w (· = hb) (w.setCell ⟨hb,6+p,none⟩ (.slice none 0 0)) :=
 have hf:Fr (· = hb) w (· = hb) (w.setCell ⟨hb,6+p,none⟩ (.slice none 0 0)):=Fr.setCell (O:=(· = hb)) (O':=(· = hb)) (dw _ _) (p:=⟨hb,6+p,none⟩) (inl rfl) _
 ⟨_,h.heard hf (h.hs.setRts hp (i7 _ _ _ _) (λ y hy=>by cases hy) (by simp)) λ _ hk=>inl hk.nil,hf⟩
theorem bJ.noView{n0:Nat}{w0 w:World}{hb sb ip op pb cap p:Nat}{ch cs:Array Value}{st:List HP}{ps:List aW}(h:bJ n0 w0 w hb sb ip op pb cap ch st cs ps)(hp:p<st.length) :
  ∃ ch',bJ n0 w0 (w.setCell ⟨hb,9+p,none⟩ (.slice none 0 0)) hb sb ip op pb cap ch' (st.set p { st[p]with view:=[] }) cs ps/\Fr (· = hb) w (· = hb) (w.setCell ⟨hb,9+p,none⟩ (.slice none 0 0)) :=
 have hf:Fr (· = hb) w (· = hb) (w.setCell ⟨hb,9+p,none⟩ (.slice none 0 0)):=Fr.setCell (O:=(· = hb)) (O':=(· = hb)) (dw _ _) (p:=⟨hb,9+p,none⟩) (inl rfl) _
 ⟨_,h.heard hf (h.hs.setView hp (i7 _ _ _ _) (λ y hy=>by cases hy) (by simp)) λ _ hk=>inl hk.nil,hf⟩
theorem bJ.gone{n0:Nat}{w0 w:World}{hb sb ip op pb cap p:Nat}{ch cs:Array Value}{st:List HP}{ps:List aW}(h:bJ n0 w0 w hb sb ip op pb cap ch st cs ps)(hp:p<st.length) :
  ∃ ch',bJ n0 w0 (((w.setCell ⟨hb,3+p,none⟩ (.bool false)).setCell ⟨hb,6+p,none⟩ (.slice none 0 0)).setCell ⟨hb,9+p,none⟩ (.slice none 0 0)) hb sb ip op pb cap ch' (st.set p ⟨false,[],[]⟩) cs ps/\Fr (· = hb) w (· = hb) (((w.setCell ⟨hb,3+p,none⟩ (.bool false)).setCell ⟨hb,6+p,none⟩ (.slice none 0 0)).setCell ⟨hb,9+p,none⟩ (.slice none 0 0)):=by
 obtain⟨c1,h1,f1⟩:=h.ups hp false;obtain⟨c2,h2,f2⟩:=h1.noRts (p:=p) (by rw [List.length_set];exact hp);rw [List.set_set,List.getElem_set_self]at h2;obtain⟨c3,h3,f3⟩:=h2.noView (p:=p) (by rw [List.length_set];exact hp);rw [List.set_set,List.getElem_set_self]at h3;exact⟨c3,h3,(f1.trans f2).trans f3⟩
theorem xt(c:Int)(n:Nat)(hn:0<n):∃ p:Nat,aw c n=p/\p<n:=by
 have h:=aN (c:=c) (n:=n) (by omega);exact⟨(aw c n).toNat,by omega,by omega⟩
theorem uU{ps:List aW}{p:Nat}(h:∀ q∈ps,q.view.length<=64){y:aW}(hy:y.view.length<=64):∀ q∈ps.set p y,q.view.length<=64:=λ q hq=>by
 rcases List.mem_or_eq_of_mem_set hq with hq|rfl
 ·exact h q hq
 exact hy
theorem wL{n0:Nat}{w0 w:World}{hb sb ip op pb cap:Nat}{ch cs:Array Value}{st:List HP}{ps:List aW}{mi mo:List aJ}(kind peer:Int)(gone nets r:List Int)(xg xn xr:Value)(hN:n0=w0.heap.size)(hE:fU w0 32)(hEm:fU w0 48)(hDm:iS w0 51)(hD:iS w0 35)(hPi:sS n0 w0 ip mi)(hgi:gh mi)(hgo:gh mo)
  (hik:eN kind) (hip:eN peer) (hB:bJ n0 w0 w hb sb ip op pb cap ch st cs ps) (hI:Cj mi mo st ps) (hg:aA w xg gone) (hn:aA w xn nets) (hr:aA w xr r) :
  Calls prog 6 #[.pointer (some ⟨hb,0,none⟩),.agg #[.int .i64 kind,.int .i64 peer,xg,xn,xr]] w λ e w'=>e=.returned (.bool true)/\∃ ch' st' cs' ps',bJ n0 w0 w' hb sb ip op pb cap ch' st' cs' ps'/\Cj mi mo st' ps':=by
 obtain⟨pg,cg,rfl,-⟩:=id hg;obtain⟨pn,cn,rfl,-⟩:=id hn;obtain⟨pr,cr,rfl,-⟩:=id hr;have hne:=cM w (.cells #[.int .i64 kind,.int .i64 peer,.slice pg gone.length cg,.slice pn nets.length cn,.slice pr r.length cr] 29);have hb0:Below w.heap.size w (w.alloc (.cells #[.int .i64 kind,.int .i64 peer,.slice pg gone.length cg,.slice pn nets.length cn,.slice pr r.length cr] 29)):=(aY _ _).alloc (aL _) _;obtain⟨p,hp,hp3⟩:=xt peer 3 (by omega);obtain⟨k,hk,hk8⟩:=xt kind 8 (by omega);have hst:p<st.length:=by have:=hI.ns;omega
 have hps:p<ps.length:=by have:=hI.n;omega
 have hupp:=hI.up p hst hps;have FA:=af (bD peer 3 (w.alloc (.cells #[.int .i64 kind,.int .i64 peer,.slice pg gone.length cg,.slice pn nets.length cn,.slice pr r.length cr] 29)) hip.1 hip.2 (by decide) (by decide));have EA:=af (bD kind 8 (w.alloc (.cells #[.int .i64 kind,.int .i64 peer,.slice pg gone.length cg,.slice pn nets.length cn,.slice pr r.length cr] 29)) hik.1 hik.2 (by decide) (by decide));rw [show aw peer 3=(p:Int)from hp]at FA;rw [show aw kind 8=(k:Int)from hk]at EA;have hBo:=hB.below hb0;have hg0:=hg.below hb0;have hn0':=hn.below hb0;have hr0:=hr.below hb0;have HG:=af hg0;have NA:=af hn0';have HR:=af hr0;have HI:=af hI;have GA:=af hBo;have DA:Hid (∀ q∈ps,q.view.length<=64):=af λ q hq=>(hB.sp.ok q hq).seen
 have AA:=af (And.intro hN (And.intro hE (And.intro hEm (And.intro hDm (And.intro hD (And.intro hPi (And.intro hgi hgo)))))));have iz0:(0:Int)<=(p:Int):=by omega
 have iz3:(p:Int)<3:=by omega
 clear hg hn hr hg0 hn0' hr0 hI hB hN hE hEm hDm hD hPi hgi hgo hp hk hik hip;go_enter func6,ntmps6;go_upto_region 1 with fail
 generalize w.alloc (.cells #[.int .i64 kind,.int .i64 peer,.slice pg gone.length cg,.slice pn nets.length cn,.slice pr r.length cr] 29)=W at hne hb0 FA EA hBo HG NA HR GA ⊢;have e0:W.cell? ⟨w.heap.size,0,none⟩=some (.int .i64 kind):=ag hne;have e1:W.cell? ⟨w.heap.size,1,none⟩=some (.int .i64 peer):=ag hne;have e2:W.cell? ⟨w.heap.size,2,none⟩=some (.slice pg gone.length cg):=ag hne;have e3:W.cell? ⟨w.heap.size,3,none⟩=some (.slice pn nets.length cn):=ag hne;have e4:W.cell? ⟨w.heap.size,4,none⟩=some (.slice pr r.length cr):=ag hne;have c0:W.cell? ⟨hb,0,none⟩=some (.pointer (some ⟨sb,0,none⟩)):=(ag hBo.hs.blk).trans hBo.hs.c0;have cu:W.cell? ⟨hb,3+p,none⟩=some (.bool st[p].up):=(ag hBo.hs.blk).trans (hBo.hs.up p hst);have LA:=af hupp;clear hBo hne hb0 hupp;go_upto_region 2 with(go_at_call 14;refine(ae FA).mono ?_;rintro e W ⟨rfl,rfl⟩)
 go_upto_region 3 with(go_at_call 14;refine(ae EA).mono ?_;rintro e W ⟨rfl,rfl⟩)
 clear FA EA;cases hu:st[p].up with
 | false =>
  rw [hu]at cu;have UP:=af (Lg (ae AA).1 (ae AA).2.2.1 (ae GA).sp hps (by rw [<-ae LA,hu]));clear hu;rcases(show 1<k\/k=1\/k=0 by omega)with hk1|rfl|rfl
  all_goals
   go_upto_region 18 with(go_at_call 19;refine(ae UP).mono ?_;rintro e wF ⟨v,rfl,htell⟩;obtain⟨vq,vl,vc,rfl⟩:=htell.slice;have BA:=af htell;clear htell)
   obtain⟨T,cs',ps',hT,hsp',hfr',hTm,hpl',htold⟩:=ae BA;have hboF:=(ae GA).spoke (ps':=ps') (by rw [hpl',List.length_set]) (by rw [List.length_set]at hfr';exact hfr') hsp';obtain⟨ch2,hb2,hf2⟩:=hboF.ups hst true;have cu2:wF.cell? ⟨hb,3+p,none⟩=some (.bool st[p].up):=(ag hboF.hs.blk).trans (hboF.hs.up p hst);have fz:wF.frozen? ⟨hb,3+p,none⟩=false:=aj hboF.hs.blk;have CA:=af (jZ (ae AA).1 (ae AA).2.2.2.2.1 (ae AA).2.2.2.2.2.2.2 hb2 ((ae HI).toMid.comes hst hps) (uU (ae DA) (ae DA ps[p] (ej hps))) (hboF.told hf2 hT) hTm hpl' htold);clear hboF hb2 hf2 hT hsp' hfr' hTm hpl' htold BA UP;go_wp2_with (go_at_call 17;refine(ae CA).mono ?_;rintro e w9 ⟨rfl,ch9,st9,hb9,hi9⟩;have H9:=af (And.intro hb9 hi9);clear hb9 hi9)
   go_ret;exact⟨rfl,ch9,st9,cs',ps',(ae H9).1,(ae H9).2⟩
 | true =>
  rw [hu]at cu;have hupt:ps[p].up=true:=by rw [<-ae LA,hu]
  clear hu;rcases(show 1<k\/k=1\/k=0 by omega)with hk1|rfl|rfl
  ·obtain⟨a1,a2,a3,a4,a5,a6,a7,a8⟩:=ae AA;have JA:=af (F0 kind peer gone nets r _ _ _ a1 a2 a3 a4 a5 a6 a7 a8 (ae GA) (ae HI) hps hupt (ae HG) (ae NA) (ae HR));clear a1 a2 a3 a4 a5 a6 a7 a8;go_wp2_with (go_at_call 15;refine(ae JA).mono ?_;rintro e w9 ⟨rfl,h9⟩;have H9:=af h9;clear h9)
   go_ret;exact⟨rfl,ae H9⟩
  ·have HA:=af (FG (ae AA).1 (ae AA).2.2.1 (ae GA).sp hps hupt);go_upto_region 7 with(go_at_call 16;refine(ae HA).mono ?_;rintro e wF ⟨v,rfl,htell⟩;obtain⟨vq,vl,vc,rfl⟩:=htell.slice;have BA:=af htell;clear htell)
   obtain⟨T,cs',ps',hT,hsp',hfr',hTm,hpl',htold⟩:=ae BA;have hboF:=(ae GA).spoke (ps':=ps') (by rw [hpl',List.length_set]) (by rw [List.length_set]at hfr';exact hfr') hsp';obtain⟨ch2,hb2,hf2⟩:=hboF.gone hst;have cu2:wF.cell? ⟨hb,3+p,none⟩=some (.bool st[p].up):=(ag hboF.hs.blk).trans (hboF.hs.up p hst);obtain⟨v6,h6,_⟩:=hboF.hs.rts p hst;obtain⟨v9,h9,_⟩:=hboF.hs.view p hst;have cr2:wF.cell? ⟨hb,6+p,none⟩=some v6:=(ag hboF.hs.blk).trans h6;have cv2:wF.cell? ⟨hb,9+p,none⟩=some v9:=(ag hboF.hs.blk).trans h9;have fz:∀ o,wF.frozen? ⟨hb,o,none⟩=false:=λ o=>aj hboF.hs.blk
   have CA:=af (jZ (ae AA).1 (ae AA).2.2.2.2.1 (ae AA).2.2.2.2.2.2.2 hb2 ((ae HI).toMid.goes hps) (uU (ae DA) (dG _)) (hboF.told hf2 hT) hTm hpl' htold);clear hboF hb2 hf2 hT hsp' hfr' hTm hpl' htold BA HA h6 h9;go_wp2_with (go_at_call 17;refine(ae CA).mono ?_;rintro e w9 ⟨rfl,ch9,st9,hb9,hi9⟩;have H9:=af (And.intro hb9 hi9);clear hb9 hi9)
   go_ret;exact⟨rfl,ch9,st9,cs',ps',(ae H9).1,(ae H9).2⟩
  have hn8:=cM W (.cells #[.int .u8 0] 5);have hb8:Below W.heap.size W (W.alloc (.cells #[.int .u8 0] 5)):=(aY _ _).alloc (aL _) _;have hbo8:=(ae GA).below hb8
  have hby:aX (W.alloc (.cells #[.int .u8 0] 5)) (.slice (some ⟨W.heap.size,0,none⟩) 1 1) [0]:=by
   refine⟨_,1,rfl,by simp,by simp,?_,inr ⟨W.heap.size,0,rfl,by simp,λ j hj=>?_⟩⟩
   ·intro x hx;rcases List.mem_singleton.1 hx with rfl
    decide
   obtain rfl:j=0:=by simpa using hj
   exact ag hn8
  have IA:=af (wv (ae AA).1 (ae AA).2.2.1 (ae AA).2.2.2.1 hbo8.sp hps hupt [0] _ hby);have MA:=af hbo8;clear hn8 hb8 hbo8 hby;go_upto_region 14 with(go_at_call 18;refine(ae IA).mono ?_;rintro e wF ⟨l',ec,v,hfed,rfl,htell⟩;obtain⟨vq,vl,vc,rfl⟩:=htell.slice;have BA:=af htell;have KA:=af hfed;clear htell hfed)
  obtain⟨f1,f2⟩:l'=[]/\ec=6:=by
   rcases ae KA with⟨_,a,b⟩|⟨a,_⟩
   ·exact⟨a,b⟩
   cases a
  subst f1 f2;obtain⟨T,cs',ps',hT,hsp',hfr',hTm,hpl',htold⟩:=ae BA;have hboF:=(ae MA).spoke (ps':=ps') (by rw [hpl',List.length_set]) (by rw [List.length_set]at hfr';exact hfr') hsp';obtain⟨ch2,hb2,hf2⟩:=hboF.noRts hst;obtain⟨v6,h6,_⟩:=hboF.hs.rts p hst;have cr2:wF.cell? ⟨hb,6+p,none⟩=some v6:=(ag hboF.hs.blk).trans h6;have fz:∀ o,wF.frozen? ⟨hb,o,none⟩=false:=λ o=>aj hboF.hs.blk
  have CA:=af (jZ (ae AA).1 (ae AA).2.2.2.2.1 (ae AA).2.2.2.2.2.2.2 hb2 ((ae HI).toMid.takes hst hps hupt (l:=[]) (l':=[]) (List.Perm.refl _)) (uU (ae DA) (ae DA ps[p] (ej hps))) (hboF.told hf2 hT) hTm hpl' htold);clear hboF hb2 hf2 hT hsp' hfr' hTm hpl' htold BA IA KA MA h6;go_wp2_with (go_at_call 17;refine(ae CA).mono ?_;rintro e w9 ⟨rfl,ch9,st9,hb9,hi9⟩;have H9:=af (And.intro hb9 hi9);clear hb9 hi9)
  go_ret;exact⟨rfl,ch9,st9,cs',ps',(ae H9).1,(ae H9).2⟩
structure ML where
 kind:Int
 peer:Int
 g:List Int
 n:List Int
 r:List Int
 xg:Value
 xn:Value
 xr:Value
structure KU(w:World)(e:ML):Prop where
 ik:eN e.kind
 ip:eN e.peer
 ig:aA w e.xg e.g
 inn:aA w e.xn e.n
 ir:aA w e.xr e.r
def zx(w:World)(z:Value)(l:List ML):Prop :=
 ∃ p c,z=.slice p l.length c/\(l.length:Int)<=17592186044416/\(∀ e∈l,KU w e)/\(l=[]\/∃ b o,p=some ⟨b,o,none⟩/\b<w.heap.size/\∀ j,(h:j<l.length)->w.cell? ⟨b,o+j*5,none⟩=some (.int .i64 l[j].kind)/\w.cell? ⟨b,o+j*5+1,none⟩=some (.int .i64 l[j].peer)/\w.cell? ⟨b,o+j*5+2,none⟩=some l[j].xg/\w.cell? ⟨b,o+j*5+3,none⟩=some l[j].xn/\w.cell? ⟨b,o+j*5+4,none⟩=some l[j].xr)
theorem Ex{n0:Nat}{w0 w:World}{sb pb cap:Nat}{cs:Array Value}{ps:List aW}(h:bG n0 w0 w sb pb cap cs ps){L:List Kp}(hL:L.map ji=(cX (ps.map (·.rts))).map ji):(∀ x∈L,dh x.r=true)/\L.length<=64:=by
 obtain⟨hl,hg⟩:=EK hL
 constructor
 ·intro x hx;obtain⟨j,hj,rfl⟩:=List.getElem_of_mem hx;have hjb:j<(cX (ps.map (·.rts))).length:=by omega
  rw [(hg j hj hjb).1];obtain⟨i,hi,y,hy,e⟩:=nI (ej hjb);rw [List.getElem_map]at hy;rw [List.length_map]at hi;rw [e];exact((h.ok _ (ej hi)).rows y hy).2
 have h1:=qM (ps:=ps.map (·.rts)) (n:=16) (λ l hl=>by
  obtain⟨p,hp,rfl⟩:=List.mem_map.1 hl;exact(h.ok p hp).few)
 rw [List.length_map]at h1;have:=h.few;omega
theorem zx.cells{w w':World}{q:Option Addr}{c:Nat}{l:List ML}(h:zx w (.slice q l.length c) l)(hb:Below w.heap.size w w'){j:Nat}(hj:j<l.length):∃ b o,q=some ⟨b,o,none⟩/\b<w'.heap.size/\KU w' l[j]/\w'.cell? ⟨b,o+j*5,none⟩=some (.int .i64 l[j].kind)/\w'.cell? ⟨b,o+j*5+1,none⟩=some (.int .i64 l[j].peer)/\w'.cell? ⟨b,o+j*5+2,none⟩=some l[j].xg/\w'.cell? ⟨b,o+j*5+3,none⟩=some l[j].xn/\w'.cell? ⟨b,o+j*5+4,none⟩=some l[j].xr:=by
 obtain⟨p,c',hv,_,hok,hr⟩:=h;cases hv
 have ho:=hok _ (ej hj);rcases hr with rfl|⟨b,o,rfl,hlt,hc⟩
 ·simp at hj
 obtain⟨h0,h1,h2,h3,h4⟩:=hc j hj;exact⟨b,o,rfl,gY hlt hb.size,⟨ho.ik,ho.ip,ho.ig.below hb,ho.inn.below hb,ho.ir.below hb⟩,(hb.cell (p:=⟨b,_,none⟩) hlt).trans h0,(hb.cell (p:=⟨b,_,none⟩) hlt).trans h1,(hb.cell (p:=⟨b,_,none⟩) hlt).trans h2,(hb.cell (p:=⟨b,_,none⟩) hlt).trans h3,(hb.cell (p:=⟨b,_,none⟩) hlt).trans h4⟩
theorem zY(w:World)(ht:bR w)(hpt:jU w)(hta:ja w)(la lb:List Int)(l:List ML)(x y z:Value)(hx:aA w x la)(hy:aA w y lb)(hz:zx w z l) :
  Calls prog 3 #[x,y,z] w λ e w'=>e=.returned (.bool true)/\Below w.heap.size w w':=by
 have AA:=af (wU w ht hpt la lb x y hx hy);obtain⟨q,c,rfl,hzl,-⟩:=id hz;obtain⟨xa,xn,xc,hxv⟩:=bk (bf hx);obtain⟨ya,yn,yc,hyv⟩:=bk (bf hy);subst hxv hyv;have HZ:=af hz;have EA:=af hta;clear hx hy hz ht hpt hta;go_enter func3,ntmps3;go_wp2_with (go_at_call 5;refine(ae AA).mono ?_;rintro e w1 ⟨hb,rfl,hh⟩;have HH:=af hh;clear hh AA)
 obtain⟨w0,sb,ip,op,pb,cap,ch,cs,st,ps,mi,mo,hh⟩:=ae HH;have HO:=af hh;have CA:=af ((ae EA).below hh.bel);clear hh HH;go_loopw [9] (λ kk wr=>∃(k:Nat) (ch:Array Value) (st:List HP) (cs:Array Value) (ps:List aW),k<=l.length/\k<=40/\kk=.int .i64 k/\bJ w0.heap.size w0 wr hb sb ip op pb cap ch st cs ps/\Cj mi mo st ps) (λ kk _=>l.length-(intOf kk).toNat)
 case atStart=>exact⟨0,ch,st,cs,ps,dG _,dG _,rfl,(ae HO).both,(ae HO).inv⟩
 case round =>
  obtain⟨k,ch,st,cs,ps,hk,hk40,rfl,hB,hI⟩:=hrel;have hbr:Below w.heap.size w wr:=(ae HO).bel.trans (hB.sp.bel.mono (ae HO).bel.size);by_cases hlt:k<l.length
  ·by_cases h4:k<40
   ·obtain⟨b,o,rfl,hbl,hok,e0,e1,e2,e3,e4⟩:=(ae HZ).cells hbr hlt;have EV:=af (wL l[k].kind l[k].peer l[k].g l[k].n l[k].r l[k].xg l[k].xn l[k].xr rfl (rp _ (ae CA)) (rQ _ (ae CA)) (rP _ (ae CA)) (rn _ (ae CA)) (ae HO).bi (ae HO).gi (ae HO).go hok.ik hok.ip hB hI hok.ig hok.inn hok.ir);generalize l[k].kind=v0 at *;generalize l[k].peer=v1 at *;obtain⟨g1,g2,g3,hg⟩:=bk (bf hok.ig);obtain⟨g4,g5,g6,hn⟩:=bk (bf hok.inn);obtain⟨g7,g8,g9,hr⟩:=bk (bf hok.ir);rw [hg]at e2 EV;rw [hn]at e3 EV;rw [hr]at e4 EV;clear hB hI hok hbr hg hn hr;go_upto_region 10 with(go_at_call 6;refine(ae EV).mono ?_;rintro e w2 ⟨rfl,ch2,st2,cs2,ps2,hb2,hi2⟩;have H2:=af (And.intro hb2 hi2);clear hb2 hi2 EV)
    have c0:w2.cell? ⟨hb,0,none⟩=some (.pointer (some ⟨sb,0,none⟩)):=(ag (ae H2).1.hs.blk).trans (ae H2).1.hs.c0;have BA:=af (wu (ae H2).1.sp);clear e0 e1 e2 e3 e4;go_upto_region 11 with(go_at_call 7;refine(ae BA).mono ?_;rintro e w3 ⟨v,L,rfl,hK,hL,hR,hb3⟩;obtain⟨vq,vc,rfl,hq⟩:=hK.open_;have H3:=af (And.intro hK (And.intro hL (And.intro hR hb3)));clear hK hL hR hb3 hq BA)
    obtain⟨hK,hL,hR,hb3⟩:=ae H3;obtain⟨h2,i2⟩:=ae H2;have hbo:=Ex h2.sp hL;have h3:=h2.below hb3;have CH:=af (CJ h3.hs hK (λ x hx=>⟨hR x hx,hbo.1 x hx⟩) (by omega) (i2.chosen hL));have H5:=af (And.intro h3 i2);clear hK hL hR hb3 h2 i2 hbo h3 H2 H3 c0;go_wp2_with (go_at_call 8;refine(ae CH).mono ?_;rintro e w4 ⟨rfl,hb4⟩;have H4:=af hb4;clear hb4 CH)
    exact⟨⟨k+1,ch2,st2,cs2,ps2,by omega,by omega,by go_num,(ae H5).1.below (ae H4),(ae H5).2⟩,by simp [intOf];omega⟩
   have DA:=af hbr;clear hB hI hbr;go_wp2_with fail;go_ret;exact⟨rfl,ae DA⟩
  have DA:=af hbr;clear hB hI hbr;go_wp2_with fail;go_ret;exact⟨rfl,ae DA⟩
theorem MP(w:World)(ht:bR w)(hpt:jU w)(hta:ja w)(la lb:List Int)(l:List ML)(x y z:Value)(hx:aA w x la)(hy:aA w y lb)(hz:zx w z l) :
  Calls prog 4 #[x,y,z] w λ e w'=>e=.returned (.bool true)/\Below w.heap.size w w':=by
 have AA:=af (wU w ht hpt la lb x y hx hy);obtain⟨q,c,rfl,hzl,-⟩:=id hz;obtain⟨xa,xn,xc,hxv⟩:=bk (bf hx);obtain⟨ya,yn,yc,hyv⟩:=bk (bf hy);subst hxv hyv;have HZ:=af hz;have FA:=af hta;clear hx hy hz ht hpt hta;go_enter func4,ntmps4;go_wp2_with (go_at_call 5;refine(ae AA).mono ?_;rintro e w1 ⟨hb,rfl,hh⟩;have HH:=af hh;clear hh AA)
 obtain⟨w0,sb,ip,op,pb,cap,ch,cs,st,ps,mi,mo,hh⟩:=ae HH;have HO:=af hh;have DA:=af ((ae FA).below hh.bel);clear hh HH;go_loopw [9] (λ kk wr=>∃(k:Nat) (ch:Array Value) (st:List HP) (cs:Array Value) (ps:List aW),k<=l.length/\k<=40/\kk=.int .i64 k/\bJ w0.heap.size w0 wr hb sb ip op pb cap ch st cs ps/\Cj mi mo st ps) (λ kk _=>l.length-(intOf kk).toNat)
 case atStart=>exact⟨0,ch,st,cs,ps,dG _,dG _,rfl,(ae HO).both,(ae HO).inv⟩
 case round =>
  obtain⟨k,ch,st,cs,ps,hk,hk40,rfl,hB,hI⟩:=hrel;have hbr:Below w.heap.size w wr:=(ae HO).bel.trans (hB.sp.bel.mono (ae HO).bel.size);by_cases hlt:k<l.length
  ·by_cases h4:k<40
   ·obtain⟨b,o,rfl,hbl,hok,e0,e1,e2,e3,e4⟩:=(ae HZ).cells hbr hlt;have EV:=af (wL l[k].kind l[k].peer l[k].g l[k].n l[k].r l[k].xg l[k].xn l[k].xr rfl (rp _ (ae DA)) (rQ _ (ae DA)) (rP _ (ae DA)) (rn _ (ae DA)) (ae HO).bi (ae HO).gi (ae HO).go hok.ik hok.ip hB hI hok.ig hok.inn hok.ir);generalize l[k].kind=v0 at *;generalize l[k].peer=v1 at *;obtain⟨g1,g2,g3,hg⟩:=bk (bf hok.ig);obtain⟨g4,g5,g6,hn⟩:=bk (bf hok.inn);obtain⟨g7,g8,g9,hr⟩:=bk (bf hok.ir);rw [hg]at e2 EV;rw [hn]at e3 EV;rw [hr]at e4 EV;clear hB hI hok hbr hg hn hr;go_upto_region 10 with(go_at_call 6;refine(ae EV).mono ?_;rintro e w2 ⟨rfl,ch2,st2,cs2,ps2,hb2,hi2⟩;have H2:=af (And.intro hb2 hi2);clear hb2 hi2 EV)
    have c0:w2.cell? ⟨hb,0,none⟩=some (.pointer (some ⟨sb,0,none⟩)):=(ag (ae H2).1.hs.blk).trans (ae H2).1.hs.c0;have BA:=af (wu (ae H2).1.sp);clear e0 e1 e2 e3 e4;go_upto_region 11 with(go_at_call 7;refine(ae BA).mono ?_;rintro e w3 ⟨v,L,rfl,hK,hL,hR,hb3⟩;obtain⟨vq,vc,rfl,hq⟩:=hK.open_;have H3:=af (And.intro hK (And.intro hL (And.intro hR hb3)));clear hK hL hR hb3 hq BA)
    obtain⟨hK,hL,hR,hb3⟩:=ae H3;obtain⟨h2,i2⟩:=ae H2;have hbo:=Ex h2.sp hL;have h3:=h2.below hb3;have H5:=af (And.intro h3 i2);have hst3:=i2.ns;have AG:=af (λ(V:World) (hV:Below w3.heap.size w3 V) (p:Nat) (hp:p<st2.length)=>Cq (ae HO).bo (ae HO).go (h3.sp.bel.trans (hV.mono (by have:=h3.sp.bel.size;omega))) (gG h3.sp.bel.size hV.size) (h3.hs.below hV) (hK.below hV) (λ x hx=>⟨(hR x hx).below hV,hbo.1 x hx⟩) (by omega) hp (i2.agreed hL hp));clear hK hL hR hb3 h2 i2 hbo h3 H2 H3 c0;go_wp2_with fail;go_loopw [11] (λ kk wr=>∃ p:Nat,p<=3/\kk=.int .i64 p/\Below w3.heap.size w3 wr) (λ kk _=>3-(intOf kk).toNat)
    case atStart=>exact⟨0,dG _,rfl,aY _ _⟩
    case round =>
     rename World=>wx
     obtain⟨p,hp3,rfl,hbx⟩:=hrel;by_cases hp:p<3
     ·have AP:=af (ae AG wx hbx p (by omega));have CA:=af hbx;clear hbx;go_wp2_with (go_at_call 9;refine(ae AP).mono ?_;rintro e w4 ⟨rfl,hb4⟩;have H4:=af hb4;clear hb4 AP)
      exact⟨⟨p+1,by omega,by go_num,(ae CA).trans ((ae H4).mono (ae CA).size)⟩,by simp [intOf];omega⟩
     have CA:=af hbx;clear hbx;go_wp2_with fail;exact⟨⟨k+1,ch2,st2,cs2,ps2,by omega,by omega,by go_num,(ae H5).1.below (ae CA),(ae H5).2⟩,by simp [intOf];omega⟩
   have EA:=af hbr;clear hB hI hbr;go_wp2_with fail;go_ret;exact⟨rfl,ae EA⟩
  have EA:=af hbr;clear hB hI hbr;go_wp2_with fail;go_ret;exact⟨rfl,ae EA⟩
namespace rows
theorem own:ownKnob prog.godebug=none:=by kernel_rfl
theorem yA:laidOutB prog=true:=by kernel_rfl
theorem Ez:prog.cellsOf 5=1:=by kernel_rfl
theorem pG:prog.cellsOf 3=1:=by kernel_rfl
theorem IL:prog.cellsOf 9=1:=by kernel_rfl
theorem IM:prog.cellsOf 179=1:=by kernel_rfl
theorem tI:prog.bytesOf 3=8:=by kernel_rfl
theorem Lh:prog.cellsOf 284=2:=by kernel_rfl
theorem N9:prog.globalNamed (Rows.chosenRow.named.getD 8 Rows.chosenRow.func)=some 2:=by kernel_rfl
theorem Jc:(prog.globals[2]?).map (·.type)=some 285:=by kernel_rfl
theorem wC:prog.cellsOf 138=1:=by kernel_rfl
theorem FI:prog.cellsOf 292=2:=by kernel_rfl
theorem FH:prog.cellsOf 264=2:=by kernel_rfl
theorem Jd:prog.globalNamed (Rows.chosenRow.named.getD 3 Rows.chosenRow.func)=some 3:=by kernel_rfl
theorem C4:(prog.globals[3]?).map (·.type)=some 293:=by kernel_rfl
theorem Jb:prog.globalNamed (Rows.chosenRow.named.getD 7 Rows.chosenRow.func)=some 1:=by kernel_rfl
theorem C3:(prog.globals[1]?).map (·.type)=some 265:=by kernel_rfl
theorem Ox:prog.globalNamed (Rows.chosenRow.named.getD 0 Rows.chosenRow.func)=some 0:=by kernel_rfl
theorem Ja:(prog.globals[0]?).map (·.type)=some 239:=by kernel_rfl
theorem GM{H:Type}{enc:TypeId×Value->H}{W:World}{base:Nat}{sp:Nat->Bool}{held:Bool}{m i:Nat}{cs:List Value}{x:DataW H×List MemPlace}{a:List UInt8}{b:Int}
  (h:DataW.trod enc prog W base sp held m 292 ((cs.drop (i*prog.cellsOf 292)).take (prog.cellsOf 292))=some x)
  (hd:x.1=.agg [.lit (.string a),.lit (.int .i64 b)]):cs[i*2]?=some (.string ⟨a.toArray⟩)/\cs[i*2+1]?=some (.int .i64 b):=by
 obtain⟨y0,y1,n,rfl,_,h0,h1⟩:=trod_struct2 underlying292 h;obtain⟨z0,hc0,rfl,_⟩:=DataW.trod_string underlying9 h0;obtain⟨z1,hc1,rfl,_⟩:=DataW.trod_int underlying138 h1;simp only [DataW.agg.injEq,List.cons.injEq,DataW.lit.injEq,Lit.int.injEq,Lit.string.injEq,true_and,and_true]at hd;obtain⟨rfl,rfl⟩:=hd;have e0:=jC (·[0]?) hc0;have e1:=jC (·[0]?) hc1;simp only [FI,IL,wC,List.getElem?_take,List.getElem?_drop]at e0 e1
 constructor
 ·simpa using e0
 simpa using e1
theorem GL{H:Type}{enc:TypeId×Value->H}{W:World}{base:Nat}{sp:Nat->Bool}{held:Bool}{m i:Nat}{cs:List Value}{x:DataW H×List MemPlace}{a b:Int}
  (h:DataW.trod enc prog W base sp held m 264 ((cs.drop (i*prog.cellsOf 264)).take (prog.cellsOf 264))=some x)
  (hd:x.1=.agg [.lit (.int .u8 a),.lit (.int .i64 b)]):cs[i*2]?=some (.int .u8 a)/\cs[i*2+1]?=some (.int .i64 b):=by
 obtain⟨y0,y1,n,rfl,_,h0,h1⟩:=trod_struct2 underlying264 h;obtain⟨z0,hc0,rfl,_⟩:=DataW.trod_int underlying5 h0;obtain⟨z1,hc1,rfl,_⟩:=DataW.trod_int underlying138 h1;simp only [DataW.agg.injEq,List.cons.injEq,DataW.lit.injEq,Lit.int.injEq,true_and,and_true]at hd;obtain⟨rfl,rfl⟩:=hd;have e0:=jC (·[0]?) hc0;have e1:=jC (·[0]?) hc1;simp only [FH,Ez,wC,List.getElem?_take,List.getElem?_drop]at e0 e1
 constructor
 ·simpa using e0
 simpa using e1
theorem l9{H:Type}{enc:TypeId×Value->H}{W:World}{base:Nat}{sp:Nat->Bool}{held:Bool}{m i:Nat}{cs:List Value}{x:DataW H×List MemPlace}{a b:Int}
  (h:DataW.trod enc prog W base sp held m 284 ((cs.drop (i*prog.cellsOf 284)).take (prog.cellsOf 284))=some x)
  (hd:x.1=.agg [.lit (.int .u8 a),.lit (.int .u8 b)]):cs[i*2]?=some (.int .u8 a)/\cs[i*2+1]?=some (.int .u8 b):=by
 obtain⟨y0,y1,n,rfl,_,h0,h1⟩:=trod_struct2 underlying284 h;obtain⟨z0,hc0,rfl,_⟩:=DataW.trod_int underlying5 h0;obtain⟨z1,hc1,rfl,_⟩:=DataW.trod_int underlying5 h1;simp only [DataW.agg.injEq,List.cons.injEq,DataW.lit.injEq,Lit.int.injEq,true_and,and_true]at hd;obtain⟨rfl,rfl⟩:=hd;have e0:=jC (·[0]?) hc0;have e1:=jC (·[0]?) hc1;simp only [Lh,Ez,List.getElem?_take,List.getElem?_drop]at e0 e1
 constructor
 ·simpa using e0
 simpa using e1
theorem rU{α:Type}{f g:α->Value}:∀{L:List α} {cs:List Value},(∀ i p,L[i]?=some p->cs[i*2]?=some (f p)/\cs[i*2+1]?=some (g p))->∀(j:Nat) v,(L.flatMap λ p=>[f p,g p])[j]?=some v->cs[j]?=some v
 | [],_,_,_,_,h=>by simp at h
 | x::L,cs,hh,j,v,h=>by
  match j with
  | 0 =>
   have:=(hh 0 x rfl).1;simp at h;rw [<-h];simpa using this
  | 1 =>
   have:=(hh 0 x rfl).2;simp at h;rw [<-h];simpa using this
  | j+2 =>
   have h2:=rU (L:=L) (cs:=cs.drop 2) (f:=f) (g:=g) (λ i p hp=>by
    have:=hh (i+1) p (by simpa using hp);rw [List.getElem?_drop,List.getElem?_drop];have e1:2+i*2=(i+1)*2:=by omega
    have e2:2+(i*2+1)=(i+1)*2+1:=by omega
    rw [e1,e2];exact this) j v (by simpa using h)
   rw [List.getElem?_drop]at h2;rw [Nat.add_comm];exact h2
theorem M9{α:Type}{f g:α->Value}{H:Type}{xs:List (DataW H×List MemPlace)}{dd:α->DataW H}{L:List α}{cs:List Value}{n:Nat}
  (hx:xs.map (·.1)=L.map dd) (hn:L.length=n) (hel:∀ i x,i<n->xs[i]?=some x->∀ p,x.1=dd p->cs[i*2]?=some (f p)/\cs[i*2+1]?=some (g p)) :
  ∀(j:Nat) v,(L.flatMap λ p=>[f p,g p])[j]?=some v->cs[j]?=some v:=by
 refine rU λ i p hp=>?_
 have hi:i<n:=by rw [<-hn];exact(List.getElem?_eq_some_iff.mp hp).1
 have h2:=jC (·[i]?) hx;simp only [List.getElem?_map,hp,Option.map_some]at h2;obtain⟨x,hxx,hxe⟩:=Option.map_eq_some_iff.mp h2;exact hel i x hi hxx p hxe
theorem C8{n:Int}(h:(Lit.int .i64 n).wf=true):eN n:=by
 have h1:IntKind.i64.min = -9223372036854775808:=rfl;have h2:IntKind.i64.max=9223372036854775807:=rfl;simp only [Lit.wf,Bool.and_eq_true,decide_eq_true_eq]at h;unfold eN;omega
theorem pS{H:Type}(k:IntKind)(l:List Int):(lits (H:=H) k l).length=l.length:=by simp [lits]
theorem ints{H:Type}{enc:TypeId×Value->H}{W:World}{base:Nat}{v:Value}{d:DataW H}{p:List MemPlace}(hv:Value.okWide prog W .any base 22 v)
  (h:DataW.Trod enc prog W 0 (λ _=>true) true 22 v d p) (hz:∀ elems spare,d=.slice elems spare->(elems.length+spare.length)*8<=reachBytes):∃ l,aA W v l:=by
 obtain⟨a0,len,cap,rfl⟩:=okWide_slice underlying22 hv;obtain⟨fuel,hf⟩:=h;rcases open_ints underlying22 underlying3 pG hf with⟨hcs,hx⟩|⟨a,len',cap',zs,hcs,_,hl,hm,hzl,hx,hcell,hwz⟩
 ·simp [Value.cells]at hcs;obtain⟨rfl,rfl,rfl⟩:=hcs;exact⟨[],none,0,rfl,by simp,by simp,by simp,inl ⟨rfl,λ _=>rfl⟩⟩
 simp [Value.cells]at hcs;obtain⟨rfl,rfl,rfl⟩:=hcs;simp only [Prod.mk.injEq]at hx;obtain⟨rfl,rfl⟩:=hx;simp only [if_true]at hzl;have hr:=hz _ _ rfl;rw [pS,pS,List.length_take,List.length_drop]at hr;unfold reachBytes at hr;have hlt:(zs.take len).length=len:=by rw [List.length_take];omega
 refine⟨zs.take len,some a,cap,by rw [hlt],by omega,by omega,λ x hx=>C8 (hwz x (List.mem_of_mem_take hx)),?_⟩;by_cases hl0:len=0
 ·subst hl0;exact inl ⟨by simp,λ h=>by cases h⟩
 obtain⟨b,off,spot⟩:=a;have hspot:spot=none:=by simpa [Addr.add]using World.cell?_spot (hcell 0 (by omega))
 subst hspot;have hc:∀ j,j<zs.length->W.cell? ⟨b,off+j,none⟩=some (.int .i64 (zs.getD j 0)):=λ j hj=>by rw [<-add_plain];exact hcell j hj
 refine inr ⟨b,off,rfl,cS (hc 0 (by omega)),λ j hj=>?_⟩;rw [hc j (by omega)];simp [List.getD,show j<zs.length by omega]
def Nb:List (List UInt8×Int):=(List.range 21).map λ k=>((wd k).data.toList,5+(k:Int))
def M8:List (Int×Int):=(List.range 16).map λ k=>(sg k,26+(k:Int))
theorem Em:(Rows.laid_byway_token_words:DataW Unit)=.agg (Nb.map λ p=>.agg [.lit (.string p.1),.lit (.int .i64 p.2)]):=by kernel_rfl
theorem DW:(Rows.laid_byway_token_signs:DataW Unit)=.agg (M8.map λ p=>.agg [.lit (.int .u8 p.1),.lit (.int .i64 p.2)]):=by kernel_rfl
theorem J4:(Rows.laid_internal_strconv_uint64pow10:DataW Unit)=Lib.tabData .u64 Lib.pow10Tab:=by kernel_rfl
theorem Cc:gV=Nb.flatMap λ p=>[.string ⟨p.1.toArray⟩,.int .i64 p.2]:=by kernel_rfl
theorem BD:gU=M8.flatMap λ p=>[.int .u8 p.1,.int .i64 p.2]:=by kernel_rfl
theorem IK:prog.cellsOf 239=20:=by kernel_rfl
theorem tabs{W:World}(h:laidMetH prog Rows.chosenRow.laid W)(hsh:W.ShapedOpen prog):bR W/\jU W/\ja W:=by
 have h':laidMet prog Rows.chosenRow.laid W:=h;obtain⟨ps,⟨_,_,_,_,_,_,_,_,_,_,⟨_,_,_,_,_,_,_,_,_,_,⟨g2,t2,c2,f2,p2,q2,hg2,ht2,hv2,hd2,⟨_,_,_,_,_,_,_,_,_,_,⟨g3,t3,c3,f3,p3,q3,hg3,ht3,hv3,hd3,⟨g4,t4,c4,f4,p4,q4,hg4,ht4,hv4,hd4,⟨g5,t5,c5,f5,p5,q5,hg5,ht5,hv5,hd5,_,_⟩,_⟩,_⟩,_⟩,_⟩,_⟩,_⟩,_⟩:=h';obtain rfl:=kd (Ox.symm.trans hg2);obtain rfl:=kd (Ja.symm.trans ht2);obtain rfl:=kd (N9.symm.trans hg3);obtain rfl:=kd (Jc.symm.trans ht3);obtain rfl:=kd (Jd.symm.trans hg4);obtain rfl:=kd (C4.symm.trans ht4);obtain rfl:=kd (Jb.symm.trans hg5);obtain rfl:=kd (C3.symm.trans ht5);refine⟨?_,?_,?_⟩
 ·obtain⟨xs,m,_,hx,_,hxl,hel⟩:=DataW.trod_array underlying293 hd4;obtain⟨ys,m',_,hy,_,hyl,hel'⟩:=DataW.trod_array underlying265 hd5;have hx1:(Rows.laid_byway_token_words:DataW Unit)=.agg (xs.map (·.1)):=jC Prod.fst hx;have hy1:(Rows.laid_byway_token_signs:DataW Unit)=.agg (ys.map (·.1)):=jC Prod.fst hy;rw [Em]at hx1;rw [DW]at hy1;have hW:=M9 (cs:=c4.toList) (n:=21) (f:=λ p=>.string ⟨p.1.toArray⟩) (g:=λ p=>.int .i64 p.2) (DataW.agg.inj hx1).symm (by decide) (λ i x hi hxi p hp=>GM ((hel i hi).trans hxi) hp);have hS:=M9 (cs:=c5.toList) (n:=16) (f:=λ p=>.int .u8 p.1) (g:=λ p=>.int .i64 p.2) (DataW.agg.inj hy1).symm (by decide) (λ i x hi hxi p hp=>GL ((hel' i hi).trans hxi) hp);rw [<-Cc]at hW;rw [<-BD]at hS
  have cw:∀ i v,gV[i]?=some v->W.cell? ⟨3,0+i,none⟩=some v:=λ i v hv=>by
   rw [Nat.zero_add,World.var?_cell Jd hv4 i];simpa using hW i v hv
  have cs:∀ i v,gU[i]?=some v->W.cell? ⟨1,0+i,none⟩=some v:=λ i v hv=>by
   rw [Nat.zero_add,World.var?_cell Jb hv5 i];simpa using hS i v hv
  obtain⟨m,hm⟩:=Tryz.shCut.s1_3 W hsh;exact⟨cS (cw 0 _ rfl),cS (cs 0 _ rfl),cw,cs,cS hm,m,hm⟩
 ·have hd:=hd2.trans (show some ((Rows.laid_internal_strconv_uint64pow10:DataW Unit),p2)=some (Lib.tabData .u64 Lib.pow10Tab,p2)by rw [J4]);unfold jU Lib.TabIs;rw [show W.var? prog (Rows.chosenRow.named.getD 0 Rows.chosenRow.func)=some c2 from hv2,<-Lib.cells_of_tab underlying239 underlying179 IM IK hd]
 obtain⟨xs,m,_,hx,_,hxl,hel⟩:=DataW.trod_array underlying285 hd3;have hx1:=jC Prod.fst hx
 match xs,hxl with
 | [x0,x1,x2,x3],_ =>
  simp only [Rows.laid_byway_messages_flagsTable,List.map_cons,List.map_nil,DataW.agg.injEq,List.cons.injEq,and_true]at hx1;obtain⟨d0,d1,d2,d3⟩:=hx1;obtain⟨a0,a1⟩:=l9 (i:=0) (hel 0 (by omega)) d0.symm;obtain⟨a2,a3⟩:=l9 (i:=1) (hel 1 (by omega)) d1.symm;obtain⟨a4,a5⟩:=l9 (i:=2) (hel 2 (by omega)) d2.symm;obtain⟨a6,a7⟩:=l9 (i:=3) (hel 3 (by omega)) d3.symm
  have c:∀ i v,c3.toList[i]?=some v->W.cell? ⟨2,i,none⟩=some v:=λ i v hv=>by
   rw [World.var?_cell N9 hv3 i];simpa using hv
  exact⟨cS (c _ _ a0),c _ _ a0,c _ _ a1,c _ _ a2,c _ _ a3,c _ _ a4,c _ _ a5,c _ _ a6,c _ _ a7⟩
def MU:DataW Unit->List Value
 | .lit (.int k n)=>[.int k n]
 | .lit (.string b)=>[.string ⟨b.toArray⟩]
 | _=>[]
def MW:DataW Unit->List Value
 | .agg l=>l.flatMap MU
 | d=>MU d
def Ow:DataW Unit->List Value
 | .agg l=>l.flatMap MW
 | d=>MW d
def M0(w:World)(g:Nat)(d:DataW Unit):World :=
 { w with heap:=w.heap.modify g fun
   | .cells _ t frozen=>.cells (Ow d).toArray t frozen
   | o=>o }
def De(w:World):World :=
 M0 (M0 (M0 (M0 (M0 (M0 (M0 (M0 w 2 Rows.laid_byway_messages_flagsTable) 8 Rows.laid_unicode_utf8_acceptRanges) 0 Rows.laid_internal_strconv_uint64pow10) 3 Rows.laid_byway_token_words) 1 Rows.laid_byway_token_signs) 7 Rows.laid_unicode_utf8_first) 4 Rows.laid_math_bits_deBruijn32tab) 5 Rows.laid_math_bits_deBruijn64tab
end rows
