/- part -/
import Derived.Test.YtphhnjljlllnlaaGreatDoorRdrO
import Derived.Test.YtphhnjljlllnlaaGreatDoorTokD
import Derived.RangeFuncBox
import Derived.Maps.OwnIn
set_option maxRecDepth 100000
set_option maxHeartbeats 4000000
namespace Go.Proofs.YtphhnjljlllnlaaGreatDoor
open Go.Proofs.Tryz
open Or
open Go.RowKit Go.Shelf
open Go.RowKit
attribute [local go_sem] Oper.semAt_some
theorem Id(s:ByteArray)(w:World) :
  Calls prog 62 #[.string s] w λ e w'=>e=.returned (.func (.func 84) #[] #[au w.heap.size 0])/\w'=w.alloc (aE (.string s) 9):=by
 have hmf:∀(fn:Fn) (first cap:Array Value) (w:World),(Instr.makeFunc fn first cap).run prog w=.ok (.func fn first cap) w:=λ _ _ _ _=>rfl
 go_enter func62,ntmps62;go_wp2_with fail;go_ret;exact⟨rfl,rfl⟩
abbrev q8:Obj:=.cells #[.string ⟨#[]⟩,.slice none 0 0] 81
abbrev nu(v:Value):Obj:=.cells (iw v (.slice none 0 0) (.pointer none) (.slice none 0 0) qE) 134
theorem zB.trans{pb:Nat}{A B C:World}(h:zB pb A B)(g:zB pb B C):zB pb A C:=by
 refine⟨gG h.size g.size,λ k c T z hA hp hr=>g.keep k c T z (h.keep k c T z hA hp hr) hp (λ e=>?_),?_⟩
 ·rcases h.row with h1|⟨q,h1,h2,_⟩
  ·exact hr (h1▸e)
  rw [h1]at e;cases e;have:=ah hA;omega
 rcases g.row with h1|⟨q,h1,h2,h3⟩
 ·rcases h.row with h4|⟨q,h4,h5,h6⟩
  ·exact inl (h1.trans h4)
  exact inr ⟨q,h1.trans h4,h5,gY h6 g.size⟩
 exact inr ⟨q,h1,gG h.size h2,h3⟩
theorem uS{pb:Nat}{A B:World}(h:B.heap[pb]?=A.heap[pb]?):iF pb B=iF pb A:=by
 unfold iF World.cell?;rw [h]
theorem zB.putObj{pb:Nat}{W:World}{l:Nat}{o o':Obj}(hp:pb≠l)(hl:W.heap[l]?=some o)(ho:o.isCells=false):zB pb W (W.putObj l o'):=by
 refine⟨by simp,λ k c T z hk _ _=>(World.putObj_heap_other (λ e=>by subst e;rw [hk]at hl;cases hl;cases ho)).trans hk,inl (uS (World.putObj_heap_other hp))⟩
theorem zB.of_below{pb:Nat}{A B:World}(hp:pb<A.heap.size)(h:Below A.heap.size A B):zB pb A B :=
 ⟨h.size,λ k _ _ _ hk _ _=>(h.block k (ah hk)).trans hk,inl (jq hp h)⟩
def MN(w:World)(pb n0:Nat)(pre:List ak)(W:World):Prop :=
 (∃ v,W.heap[pb]?=some (nu v)/\W.ownsRow 0 140 6 v pre.length (du pre)/\∀ k,v.ownBlock=some k->n0<=k)/\W.heap[w.heap.size]?=some q8/\Below w.heap.size w W/\n0<=W.heap.size
theorem MN.own(w:World)(pb n0:Nat)(hw:w.heap.size<=n0):OwnFrom n0 (MN w pb n0):=by
 rintro pre W W' row ⟨⟨v,hb,ho,hn⟩,hR,hB,hz⟩ hg hr
 have hk:∀(k:Nat) (c:Array Value) (T:TypeId) (z:Nat×Nat),W.heap[k]?=some (.cells c T z)->W'.heap[k]?=some (.cells c T z):=λ k c T z h=>(hg.block k (ah h) (λ e=>by
  obtain⟨_,o,ho,hc⟩:=hr k e.symm;rw [h]at ho;cases ho;cases hc)).trans h
 refine⟨⟨v,hk _ _ _ _ hb,?_,hn⟩,hk _ _ _ _ hR,hB.grown hg hB.size (λ k e=>gG hw (hr k e).1),gG hz hg.size⟩;refine ay ho (λ k e=>?_);rcases ho.2 with⟨h1,_⟩|⟨g,cap,cur,h1,_,hg2,_⟩
 ·rw [h1]at e;cases e
 rw [h1]at e;obtain rfl:g=k:=by simpa [Value.ownBlock]using e
 rw [hg2];exact hk _ _ _ _ hg2
theorem ny{W:World}{pb:Nat}{v:Value}(h:W.heap[pb]?=some (nu v)):iF pb W=v.ownBlock:=by
 have:W.cell? ⟨pb,0,none⟩=some v:=ag h;unfold iF;rw [this]
theorem we(l:List ak)(t:ak):du (l++[t])=du l++[.int .i64 t.kind,.int .i64 t.at_,.string t.text,.int .i64 t.number,.int .i64 t.addr,.int .i64 t.len]:=by simp [du]
theorem MN.snoc{w W w1:World}{pb n0:Nat}{pre:List ak}{v v':Value}{x:ak}(hB:W.heap[pb]?=some (nu v))(ho:W.ownsRow 0 140 6 v pre.length (du pre))(hn:∀ k,v.ownBlock=some k->n0<=k)(hR:W.heap[w.heap.size]?=some q8)(hBw:Below w.heap.size w W)
  (hpn:pb<n0) (hRp:w.heap.size<pb) (hnW:n0<=W.heap.size)
  (hown:w1.ownsRow 0 140 6 v' (pre.length+1) (du pre++[.int .i64 x.kind,.int .i64 x.at_,.string x.text,.int .i64 x.number,.int .i64 x.addr,.int .i64 x.len])) (hg:(W.alloc (aQ x)).grownBy w1 v.ownBlock) (hat:v'.ownBlock=v.ownBlock\/v'.ownBlock=some (W.alloc (aQ x)).heap.size) :
  KeepsFrom n0 W (w1.setCell ⟨pb,0,none⟩ v')/\zB pb W (w1.setCell ⟨pb,0,none⟩ v')/\MN w pb n0 (pre++[x]) (w1.setCell ⟨pb,0,none⟩ v'):=by
 have hold:∀ k,k<W.heap.size->k≠pb->v.ownBlock≠some k->(w1.setCell ⟨pb,0,none⟩ v').heap[k]?=W.heap[k]?:=λ k hk hp hv=>by
  rw [ai hp,hg.block k (by simp;omega) (λ e=>hv e.symm)];exact mC _ _ _ hk
 have hsz:W.heap.size+1<=(w1.setCell ⟨pb,0,none⟩ v').heap.size:=by have:=hg.size;simp [World.setCell]at this ⊢;omega
 have hvb:∀ k,v.ownBlock=some k->∃ cur,W.heap[k]?=some (.cells cur 140 (0,0)):=λ k e=>by
  rcases ho.2 with⟨h1,_⟩|⟨g,cap,cur,h1,_,hg2,_⟩
  ·rw [h1]at e;cases e
  rw [h1]at e;obtain rfl:g=k:=by simpa [Value.ownBlock]using e
  exact⟨cur,hg2⟩
 have hvp:∀ k,k<n0->v.ownBlock≠some k:=λ k hk e=>by have:=hn k e;omega
 have hn':∀ k,v'.ownBlock=some k->n0<=k:=λ k e=>by
  rcases hat with h1|h1
  ·exact hn k (h1▸e)
  rw [h1]at e;cases e;simp;omega
 have hpb1:w1.heap[pb]?=some (nu v):=by rw [hg.block pb (by have:=ah hB;simp;omega) (λ e=>hvp pb hpn e.symm)];exact(mC _ _ _ (ah hB)).trans hB
 have hb2:(w1.setCell ⟨pb,0,none⟩ v').heap[pb]?=some (nu v'):=by rw [aV hpb1];rfl
 refine⟨⟨by omega,λ k o hk hko hc=>(hold k (ah hko) (by omega) (λ e=>?_)).trans hko⟩,⟨by omega,λ k c T z hk hp hr=>(hold k (ah hk) hp (λ e=>hr (by rw [ny hB];exact e))).trans hk,?_⟩,⟨v',hb2,?_,hn'⟩,?_,?_,by omega⟩
 ·obtain⟨cur,h1⟩:=hvb k e;rw [h1]at hko;cases hko;cases hc
 ·rw [ny hb2,ny hB];rcases hat with h1|h1
  ·exact inl h1
  refine inr ⟨_,h1,by simp,?_⟩;have h2:=(hown.lt _ h1).2;simpa [World.setCell]using h2
 ·rw [List.length_append,List.length_singleton,we];exact ay hown (λ k e=>ai (λ e2=>by have:=hn' k e;simp at e2;omega))
 ·exact(hold _ (ah hR) (by omega) (hvp _ (by omega))).trans hR
 refine⟨hg.os.trans hBw.os,hg.tape.trans hBw.tape,hg.output.trans hBw.output,by have:=hBw.size;omega,λ k hk=>?_⟩;exact(hold k (by have:=hBw.size;omega) (by omega) (hvp k (by omega))).trans (hBw.block k hk)
theorem Tryz.infoTok:(prog.info? 140).map (λ i=>(i.zero,i.size,i.bytes))=some (some (.agg #[.int .i64 0,.int .i64 0,.string ⟨#[]⟩,.int .i64 0,.int .i64 0,.int .i64 0]),6,56):=by kernel_rfl
def J6(s:ByteArray)(w:World)(x6 x15:Value):Array Value:=#[Value.string s,undef,au w.heap.size 0,Value.int .i64 0,Value.int .i64 0,au (w.heap.size+1) 0,x6,undef,Value.string s,Value.int .i64 (s.size:Int),Value.bool (decide (600<(s.size:Int))),undef,Value.agg (iw (.slice none 0 0) (.slice none 0 0) (.pointer none) (.slice none 0 0) qE),Value.string s,Value.func (Fn.func 84) #[] #[au (w.heap.size+1+1) 0],x15,undef,undef,undef,undef,undef,undef,undef,undef,undef,undef,undef,undef,undef,undef,undef,undef,undef,undef,undef,undef,undef,undef,undef,undef,undef,undef,undef,undef,undef,undef,undef,undef,undef,undef,undef]
def KW(s:ByteArray)(w:World)(pb n0:Nat)(x:ak)(a':Act)(W:World):Prop:=∃ Bx,n0<=Bx/\W.heap[Bx]?=some (aQ x)/\iF pb W≠some Bx/\pb<W.heap.size/\a'={ tmps:=J6 s w (au Bx 0) (kh x),defers:=[] }
theorem KW.own(s:ByteArray)(w:World)(pb n0:Nat)(hp:pb<n0)(x:ak)(a':Act):OwnFrom n0 (λ(_:Unit) W=>KW s w pb n0 x a' W):=by
 rintro _ W W' row ⟨Bx,h1,h2,h3,h4,h5⟩ hg hr;refine⟨Bx,h1,(hg.block Bx (ah h2) (λ e=>?_)).trans h2,?_,gY h4 hg.size,h5⟩
 ·obtain⟨_,o,ho,hc⟩:=hr Bx e.symm;rw [h2]at ho;cases ho;cases hc
 rw [uS (hg.block pb h4 (λ e=>by have:=(hr pb e.symm).1;omega))];exact h3
abbrev vH(s:ByteArray)(w:World):World:=((w.alloc q8).alloc (nu (.slice none 0 0))).alloc (aE (.string s) 9)
theorem sE(s:ByteArray)(w:World):(vH s w).heap.size=w.heap.size+3:=(iR w q8 (nu (.slice none 0 0)) (aE (.string s) 9)).2.2.2
theorem zI(s:ByteArray)(w:World):Below w.heap.size w (vH s w) :=
 (((aY _ w).alloc (aL _) _).alloc (by rw [World.size_alloc];omega) _).alloc (by rw [World.size_alloc,World.size_alloc];omega) _
theorem bR.kept{pb n0:Nat}{A B:World}(hG1:3<n0/\3≠pb)(hG2:1<n0/\1≠pb)(hG3:6<n0/\6≠pb)(hk:zB pb A B)(hr:∀ k,iF pb A=some k->n0<=k)(h:bR A):bR B:=by
 have e:∀ g,g<n0/\g≠pb->∀ j v,A.cell? ⟨g,j,none⟩=some v->B.cell? ⟨g,j,none⟩=some v:=λ g hg j v hv=>by
  obtain⟨o,ho,hc⟩:=cells_of_cell hv;cases o with
  | cells c T z =>
   have h1:=hk.keep g c T z ho hg.2 (λ e=>by have:=hr g e;omega);rw [show B.cell? ⟨g,j,none⟩=c[j]? from ag h1,<-show A.cell? ⟨g,j,none⟩=c[j]? from ag ho];exact hv
  | _=>cases hc
 exact⟨gY h.lw hk.size,gY h.ls hk.size,λ j v hv=>e _ hG1 _ _ (h.words j v hv),λ j v hv=>e _ hG2 _ _ (h.signs j v hv),gY h.mx.1 hk.size,h.mx.2.choose,e _ hG3 _ _ h.mx.2.choose_spec⟩
theorem Fv(n:Nat)(hn:1<=n)(s:ByteArray)(hs:s.size<=600)(w:World)(ht:bR w) :
  SeqStopsK Fence.wide n prog 84 #[au (w.heap.size+1+1) 0] (λ x:ak=>#[kh x]) (zB (w.heap.size+1)) (λ ys=>ys=fJ s) (λ _=>True) 1000 (vH s w):=by
 intro l J Jx W hW hJ hJx hY h0;obtain⟨n1,n2,n3,sz⟩:=iR w q8 (nu (.slice none 0 0)) (aE (.string s) 9);have h2:W.heap[w.heap.size+1]?=some (nu (.slice none 0 0)):=(hW.block _ (by rw [sE];omega)).trans n2;have h3:W.heap[w.heap.size+1+1]?=some (aE (.string s) 9):=(hW.block _ (by rw [sE];omega)).trans n3;have hsz:w.heap.size+3<=W.heap.size:=by have h:=hW.size;rw [sE]at h;exact h
 have hG1:=ht.lw;have hG2:=ht.ls;have hT0:bR (vH s w):=ht.below (zI s w);refine K7 n hn l (w.heap.size+1+1) (w.heap.size+1) (w.heap.size+3) s hs J Jx W hJ h0 ⟨by omega,h3,λ k e=>?_,hT0.below hW⟩ (by omega) (by omega) hsz (λ hk hr hT=>bR.kept (pb:=w.heap.size+1) (n0:=w.heap.size+3) ⟨by omega,by omega⟩ ⟨by omega,by omega⟩ ⟨by have:=ht.mx.1;omega,by have:=ht.mx.1;omega⟩ hk hr hT) hY;rw [ny h2]at e;cases e
theorem Bh(s:ByteArray)(hs:s.size<=600)(w:World)(ht:bR w)(hts:bY (fJ s))(hl0:0<(fJ s).length){st:RS}{l:List (Option aJ)}{ms:List aJ}
  (hpol:∀(pb:Nat) (W:World) (O:Nat->Prop),RA W pb (fJ s) qE (λ _=>False) O->Ok (fJ s) qE->Calls prog 63 #[au pb 0] W (Ii pb (fJ s) W O (st,l))) (f1:st.syn=none) (f2:st.nam=none) (f3:st.num=none) (hms:kQ l=some ms) (hpage:st.page≠[]) :
  Calls prog 43 #[.string s] w λ e w'=>∃ p sv,e=.returned (.tuple #[.agg #[.string p,sv],.int .i64 0,.int .i64 0])/\Below w.heap.size w w'/\ax w' (λ k=>w.heap.size<=k) (iG sv ms):=by
 obtain⟨i0,hi0,hz0,hz1,hz2⟩:=info_parts Tryz.infoTok;refine(callsIn_wide (n:=6)).1 ?_;refine callsIn_of_wp_marks func43 rfl trivial ?_ rfl;simp only [ntmps43,List.size_toArray,List.length_cons,List.length_nil,Nat.reduceAdd,Nat.reduceSub,Array.replicate_succ,Array.replicate_zero,List.push_toArray,List.append_toArray,List.nil_append,List.cons_append]
 gi_wp2_with (refine⟨trivial,?_⟩;gi_at_call 62;refine((callsIn_wide).2 (Id _ _)).mono ?_;rintro e w' ⟨rfl,rfl⟩)
 obtain⟨n1,n2,n3,sz⟩:=iR w q8 (nu (.slice none 0 0)) (aE (.string s) 9);have hB0:=zI s w;have hsz0:=sE s w
 refine wpIn_rangeFunc_ownH (w0:=vH s w) rfl (by decide) (gf:=84) (lb:=#[au (w.heap.size+1+1) 0]) rfl trivial (enters_of func84 (by kernel_rfl) rfl)
  (Fv 5 (by decide) s hs w ht) (λ h g=>zB.trans h g) (λ W l o o' hl hlo ho _=>zB.putObj (by have h:(vH s w).heap.size<=l:=hl;omega) hlo ho) (aY _ _) (λ _=>rfl)
  (MN w (w.heap.size+1) (w.heap.size+3)) (λ _ _ _=>False) ?hI (λ _ _ _ _ _ h _ _=>h) ?h0 (KW s w (w.heap.size+1) (w.heap.size+3)) ?hAx ?assign ?body ?done ?stop
 case hI=>have h:=MN.own w (w.heap.size+1) (w.heap.size+3) (by omega);exact(show OwnFrom (vH s w).heap.size _ by rw [hsz0];exact h)
 case h0=>exact⟨⟨_,n2,i7 _ _ _ _,λ k e=>by simp [Value.ownBlock]at e⟩,n1,hB0,Nat.le_of_eq hsz0.symm⟩
 case hAx=>intro x a';have h:=KW.own s w (w.heap.size+1) (w.heap.size+3) (by omega) x a';exact(show OwnFrom (vH s w).heap.size _ by rw [hsz0];exact h)
 case assign =>
  rintro l pre x W K hi hK;have HI:=af hi;obtain⟨⟨v,hb,ho,hn⟩,hR,hBw,hzz⟩:=hi;have hpw:w.heap.size+1<W.heap.size:=ah hb;have JA:=af (show iF (w.heap.size+1) W≠some W.heap.size from λ e=>by rw [ny hb]at e;have:=(ho.lt _ e).2;omega);have HK:=af hK;clear hb ho hn hR hBw hK
  gi_wp2
  refine(ae HK) _ _ ((KeepsOthers.alloc _ _).from _) (zB.of_below hpw ((aY _ _).alloc (aL _) _)) ((MN.own w (w.heap.size+1) (w.heap.size+3) (by omega)).alloc _ (ae HI)) ⟨W.heap.size,hzz,fL W _ _,?_,by rw [World.size_alloc];omega,rfl⟩;rw [jq hpw ((aY _ _).alloc (aL _) _)];exact ae JA
 case body =>
  rintro l pre x a' W hl ⟨r,hr⟩ ⟨⟨v,hb,ho,hn⟩,hR,hBw,hnW⟩ ⟨Bx,hBx,hbx,hrow,hpw,rfl⟩ hlt;have c0:W.cell? ⟨w.heap.size+1,0,none⟩=some v:=ag hb;have z0:W.frozen? ⟨w.heap.size+1,0,none⟩=false:=aj hb;obtain⟨t0,t1,t2,t3,t4,t5,tz⟩:=qy hbx;obtain⟨va,vc,rfl⟩:=al ho;have HB:=af hb;have HO:=af ho;have HN:=af hn;have HR:=af hR;have AA:=af hBw;have hln:pre.length<=1000:=by omega
  clear hb ho hn hR hBw hbx;unfold J6
  gi_wp2_with (gi_at_builtin;refine wpListIn_append_own_at _ rfl _ _ 124 rfl 0 140 i0 _ 6 56 underlying124 hi0 hz0 hz1 hz2 rfl (by decide) (.slice va pre.length vc) pre.length (du pre) rfl ((ae HO).alloc (aQ x)) ⟨W.heap.size,0,none⟩ 1 1 [.int .i64 x.kind,.int .i64 x.at_,.string x.text,.int .i64 x.number,.int .i64 x.addr,.int .i64 x.len] rfl rfl (World.news_of_block (cs:=#[.int .i64 x.kind,.int .i64 x.at_,.string x.text,.int .i64 x.number,.int .i64 x.addr,.int .i64 x.len]) (t:=140) (fr:=(0,0)) (cM _ _)) (by simp [Value.oneCell']) (by simp [maxLen];omega) (by omega) (dG _) ?_;intro v' w1 hown hgrow hnil hat;obtain⟨fa,fb,hfv⟩:=al hown;have hpb1:w1.heap[w.heap.size+1]?=some (nu (.slice va pre.length vc)):=(hgrow.block _ (by rw [World.size_alloc];omega) (λ e=>by have:=(ae HN) _ e.symm;omega)).trans ((mC _ _ _ hpw).trans (ae HB));have d0:w1.cell? ⟨w.heap.size+1,0,none⟩=some (.slice va pre.length vc):=ag hpb1;have dz:w1.frozen? ⟨w.heap.size+1,0,none⟩=false:=aj hpb1;have BA:=af (MN.snoc (ae HB) (ae HO) (ae HN) (ae HR) (ae AA) (by omega) (by omega) hnW hown hgrow hat);clear hown hgrow hat hnil hpb1;subst hfv)
  exact⟨(show KeepsFrom (vH s w).heap.size _ _ by rw [hsz0];exact(ae BA).1),(ae BA).2.1,(ae BA).2.2⟩
 case done =>
  rintro D xs W hD rfl ⟨⟨v,hb,ho,hn0⟩,hR,hBw,hz⟩ hK;have hD0:(vH s w).heap.size<=D:=hD;obtain⟨tb,tc,rfl,_,htb⟩:=World.ownsRow.form ho hl0;have htn:w.heap.size+3<=tb:=hn0 tb rfl
  have hra:oS W (w.heap.size+1) (fJ s) qE (λ _=>False) tb tc (.slice none 0 0) (.pointer none) (.slice none 0 0) :=
   ⟨hb,ho,i7 _ _ _ _,inl rfl,⟨[],i7 _ _ _ _,rfl,λ i d x hi=>by simp [qE]at hi⟩,by omega,by simp [Value.ownBlock],by simp [Value.ownBlock],by simp [Value.ownBlock],by simp [Value.ownBlock],inl rfl,λ k h=>h.elim⟩
  have IA:Hid (RA W (w.heap.size+1) (fJ s) qE (λ _=>False) (dV (w.heap.size+1) tb (.slice none 0 0) (.slice none 0 0))):=⟨tb,tc,_,_,_,hra,rfl⟩
  have hDt:tb≠D:=λ e=>by
   obtain⟨_,h2⟩:=ho;rcases h2 with⟨h2,_⟩|⟨g,cap,cur,hv,_,hg,_⟩
   ·cases h2
   cases hv;rw [e,hK]at hg;cases hg
  have hOD:¬dV (w.heap.size+1) tb (.slice none 0 0) (.slice none 0 0) D:=λ h=>by
   rcases h with h|h|h|h
   ·omega
   ·exact hDt h.symm
   ·cases h
   cases h
  have hOR:¬dV (w.heap.size+1) tb (.slice none 0 0) (.slice none 0 0) w.heap.size:=λ h=>by
   rcases h with h|h|h|h
   ·omega
   ·omega
   ·cases h
   cases h
  have hOlow:Hid (∀ k,k<w.heap.size->¬dV (w.heap.size+1) tb (.slice none 0 0) (.slice none 0 0) k):=λ k hk h=>by
   rcases h with h|h|h|h
   ·omega
   ·omega
   ·cases h
   cases h
  have EA:Hid (Ok (fJ s) qE):=⟨hl0,by simp [qE],by simp [qE,ByteArray.size]⟩
  have FA:=af (hpol _ _ _ (ae IA) (ae EA));have AA:=af hBw;have hsW:W.heap.size=W.heap.size:=rfl;clear hra ho hb hn0 hBw hz
  gi_wp2_with (refine⟨trivial,?_⟩;gi_at_call 63;refine((callsIn_wide).2 (ae FA)).mono ?_;rintro e w2 ⟨sv,O2,D2,rfl,hr2,hf2,hs2,hk2,⟨sa,sc,rfl⟩,hl2⟩;have g1:=bH hf2 hK hOD;have g2:=bH hf2 hR hOR;have HA:=af hr2;have GA:=af hf2;have KA:=af hs2;have DA:=af hk2;have G1:=af g1;have G2:=af g2;obtain⟨tb2,tc2,dv2,av2,bv2,h2,hO2⟩:=hr2;have q7:w2.cell? ⟨w.heap.size+1,7,none⟩=some (.bool false):=(by have:w2.cell? ⟨w.heap.size+1,7,none⟩=some (sB st.syn):=ag h2.blk;rw [f1]at this;exact this);have q9:w2.cell? ⟨w.heap.size+1,9,none⟩=some (.bool false):=(by have:w2.cell? ⟨w.heap.size+1,9,none⟩=some (sB st.nam):=ag h2.blk;rw [f2]at this;exact this);have q11:w2.cell? ⟨w.heap.size+1,11,none⟩=some (.bool false):=(by have:w2.cell? ⟨w.heap.size+1,11,none⟩=some (sB st.num):=ag h2.blk;rw [f3]at this;exact this);clear g1 g2 hf2 hs2 hk2 h2 hO2)
  refine⟨trivial,?_⟩;refine((callsIn_wide).2 (IZ (ae HA) hpage (by have h1:=(ae DA).page;have h2:=(ae DA).next;have h3:=hts.n1;show st.page.length<=_;omega) (ae DA).gap)).mono ?_;rintro e w3 ⟨⟨pg,rfl⟩,hf3⟩;have g1:=bH hf3 (ae G1).1 (ae G1).2;have g2:=bH hf3 (ae G2).1 (ae G2).2;have s0:w3.cell? ⟨w.heap.size,0,none⟩=some (.string ⟨#[]⟩):=ag g2.1;have s1:w3.cell? ⟨w.heap.size,1,none⟩=some (.slice none 0 0):=ag g2.1;have sz0:∀ o,w3.frozen? ⟨w.heap.size,o,none⟩=false:=λ o=>aj g2.1
  have G3:=af g2;have GD:=af g1.1;have CA:=af ((ae GA).trans hf3);have LA:=af ((ae KA).fr hf3 (aL _));clear g1 g2 hf3 q7 q9 q11
  gi_wp2
  have hRD:w.heap.size≠D:=by omega
  have hKf:((w3.setCell ⟨w.heap.size,0,none⟩ (.string pg)).setCell ⟨w.heap.size,1,none⟩ (.slice sa l.length sc)).heap[D]?=some (.deferred (some [])):=by
   rw [ai (Ne.symm hRD),ai (Ne.symm hRD)];exact ae GD
  have hRf:((w3.setCell ⟨w.heap.size,0,none⟩ (.string pg)).setCell ⟨w.heap.size,1,none⟩ (.slice sa l.length sc)).heap[w.heap.size]?=some (.cells #[.string pg,.slice sa l.length sc] 81 (0,0)):=by
   rw [aV (aV (ae G3).1)];rfl
  have hDW:D<W.heap.size:=ah hK;have hRW:w.heap.size<W.heap.size:=ah hR;refine⟨by simp,.inl ⟨_,_,rfl,run_takeDeferred hKf,?_⟩⟩;obtain⟨W5,hW5⟩:∃ W5,(w3.setCell ⟨w.heap.size,0,none⟩ (.string pg)).setCell ⟨w.heap.size,1,none⟩ (.slice sa l.length sc)=W5:=⟨_,rfl⟩
  have hblk:∀ k,k≠w.heap.size->k≠D->(W5.putObj D (.deferred none)).heap[k]?=w3.heap[k]?:=λ k h1 h2=>by
   rw [World.putObj_heap_other h2,<-hW5,ai h1,ai h1]
  have hR6:(W5.putObj D (.deferred none)).heap[w.heap.size]?=some (.cells #[.string pg,.slice sa l.length sc] 81 (0,0)):=by
   rw [World.putObj_heap_other hRD,<-hW5];exact hRf
  have hs6:(W5.putObj D (.deferred none)).heap.size=w3.heap.size:=by rw [<-hW5];simp [World.setCell]
  have hos:(W5.putObj D (.deferred none)).os=w3.os/\(W5.putObj D (.deferred none)).tape=w3.tape/\(W5.putObj D (.deferred none)).output=w3.output:=by rw [<-hW5];exact⟨rfl,rfl,rfl⟩
  rw [hW5];obtain⟨W6,hW6⟩:∃ W6,W5.putObj D (.deferred none)=W6:=⟨_,rfl⟩
  rw [hW6]at hblk hR6 hs6 hos ⊢;have u0:W6.cell? ⟨w.heap.size,0,none⟩=some (.string pg):=ag hR6;have u1:W6.cell? ⟨w.heap.size,1,none⟩=some (.slice sa l.length sc):=ag hR6;refine⟨.tuple #[.agg #[.string pg,.slice sa l.length sc],.int .i64 0,.int .i64 0],by simp [results,results43,go_sem,u0,u1],pg,.slice sa l.length sc,rfl,?_,?_⟩
  ·refine⟨hos.1.trans ((ae CA).os.trans (ae AA).os),hos.2.1.trans ((ae CA).tape.trans (ae AA).tape),hos.2.2.trans ((ae CA).output.trans (ae AA).output),by have h1:=(ae CA).size;have h2:=(ae AA).size;omega,λ k hk=>?_⟩;rw [hblk k (by omega) (by omega),(ae CA).block k (by omega) ((ae hOlow) k hk)];exact(ae AA).block k hk
  refine((ae LA).2 ms hms).mono (by omega) (λ k hk ha=>?_) (λ _ _ h=>h);rcases ha.2 with h1|h1
  ·exact h1.elim
  exact⟨hblk k (by omega) (by omega),by omega⟩
 case stop=>intro D c pre W _ _ h _;exact h.elim
theorem Mq(s:ByteArray)(hs:s.size<=600)(w:World)(ht:bR w)(hts:bY (fJ s)){n:Nat}(hn:n<=1000){tw:RS->Option (RS×Option (Option aJ))}(IH:∀ pb,ib pb (fJ s) tw)
  (hl0:0<(fJ s).length) (e5:an (fJ s) qE≠5) (e6:an (fJ s) qE≠6) {st:RS} {l:List (Option aJ)} {ms:List aJ} (hpol:jo (fJ s) n tw qE=some (st,l)) (f1:st.syn=none) (f2:st.nam=none) (f3:st.num=none) (hms:kQ l=some ms) (hpage:st.page≠[]) :
  Calls prog 43 #[.string s] w λ e w'=>∃ p sv,e=.returned (.tuple #[.agg #[.string p,sv],.int .i64 0,.int .i64 0])/\Below w.heap.size w w'/\ax w' (λ k=>w.heap.size<=k) (iG sv ms) :=
 Bh s hs w ht hts hl0 (λ pb _W _O h hk=>(A8 hts (IH pb) n hn h hk hpol e5 e6).mono (λ _e _w' ⟨v,O',h1,h2,h3⟩=>⟨v,O',_,h1,h2,h3⟩)) f1 f2 f3 hms hpage
def Fo(pp:Nat)(ms:List aJ)(K:Nat->Prop)(W:World):Prop:=K pp/\∃ p sv,W.heap[pp]?=some (.cells #[.string p,sv] 83 (0,0))/\iG sv ms K W
theorem iG.mono{sv:Value}{ms:List aJ}{K K':Nat->Prop}{W:World}(h:iG sv ms K W)(hk:∀ k,K k->K' k):iG sv ms K' W:=by
 obtain⟨h0,vs,h1,h2,h3⟩:=h;refine⟨h0,vs,h1,?_,λ i v m hv hm=>(h3 i v m hv hm).mono hk⟩;rcases h2 with h2|⟨S,cap,e1,e2,e3⟩
 ·exact inl h2
 exact inr ⟨S,cap,e1,hk S e2,e3⟩
def oT(s:ByteArray)(ms:List aJ):Prop:=∀ w,bR w->Calls prog 43 #[.string s] w λ e w'=>∃ p sv,e=.returned (.tuple #[.agg #[.string p,sv],.int .i64 0,.int .i64 0])/\Below w.heap.size w w'/\ax w' (λ k=>w.heap.size<=k) (iG sv ms)
theorem CN{s:ByteArray}{ms:List aJ}(hr:oT s ms)(w:World)(ht:bR w) :
  Calls prog 25 #[.string s] w λ e w'=>∃ pp,e=.returned (.tuple #[au pp 0,.int .i64 0,.int .i64 0])/\Below w.heap.size w w'/\ax w' (λ k=>w.heap.size<=k) (Fo pp ms):=by
 have HR:=af (hr w ht);clear hr ht;go_enter func25,ntmps25;go_wp2_with fail;refine(ae HR).mono ?_;rintro e w1 ⟨p,sv,rfl,hb,hl⟩;have HB:=af hb;have HL:=af hl
 have hf:∃ a n c,sv=.slice a n c:=by
  obtain⟨K,h0,vs,h1,h2,_⟩:=hl.now;rcases h2 with⟨_,h2⟩|⟨S,cap,h2,_⟩
  ·exact⟨_,_,_,h2⟩
  exact⟨_,_,_,h2⟩
 obtain⟨sa,sn,sc,rfl⟩:=hf;clear hb hl HR;go_wp2_with fail;refine gH (v:=.tuple #[au (w1.heap.size+1) 0,.int .i64 0,.int .i64 0]) (by simp [results,results25,go_sem]) rfl ⟨w1.heap.size+1,rfl,?_,?_⟩
 ·exact((ae HB).alloc (ae HB).size _).alloc (by have:=(ae HB).size;rw [World.size_alloc];omega) _
 obtain⟨n1,n2,sz⟩:=fp w1 (.cells #[.string p,.slice sa sn sc] 81) (.cells #[.string p,.slice sa sn sc] 83);have h1:=((ae HL).mono (bE w1 (.cells #[.string p,.slice sa sn sc] 81) (λ k=>w.heap.size<=k)).1 (bE w1 (.cells #[.string p,.slice sa sn sc] 81) (λ k=>w.heap.size<=k)).2 (λ _ _ h=>h)).mono (bE _ (.cells #[.string p,.slice sa sn sc] 83) (λ k=>w.heap.size<=k)).1 (bE _ (.cells #[.string p,.slice sa sn sc] 83) (λ k=>w.heap.size<=k)).2 (λ _ _ h=>h);refine ax.one h1 (λ k=>k=w1.heap.size+1) (λ k hk=>⟨by omega,by have:=(ae HB).size;omega⟩) (λ K1 _ q1 W hW hk=>?_);exact⟨inr rfl,p,_,(hk _ (inr rfl)).trans n2,(q1 W hW (λ k h=>hk k (inl h))).mono (λ k h=>inl h)⟩
theorem ti{s:ByteArray}(hs:s.size<=600):∀ f k,k<=s.size->s.size+1<=f+k->0<(dP s f k).length/\(dP s f k).length<=s.size+1-k/\(∀ i (h:i<(dP s f k).length),2<=(dP s f k)[i].kind->i+1<(dP s f k).length)/\(∀ i (h:i<(dP s f k).length),(dP s f k)[i].text.size<=600)
 | 0,k,hk,hf=>by omega
 | f+1,k,hk,hf=>by
  by_cases hlt:k<s.size
  ·cases hb:gb (bt s k)with
   | true =>
    have e:dP s (f+1) k=dP s f (k+1):=by rw [dP,aS hlt,aS hb]
    rw [e];have ih:=ti hs f (k+1) (by omega) (by omega);exact⟨ih.1,by omega,ih.2.2⟩
   | false =>
    have ht:=xN hlt;by_cases h0:(kK s k).kind=0
    ·rw [wk hlt hb h0];refine⟨by simp,by simp;omega,λ i h h2=>?_,λ i h=>?_⟩
     ·obtain rfl:i=0:=by simpa using h
      simp [h0]at h2
     obtain rfl:i=0:=by simpa using h
     simp;omega
    rw [oV hlt hb h0];have ih:=ti hs f (k+(kK s k).text.size) ht.2 (by omega);refine⟨by simp,by simp;omega,λ i h h2=>?_,λ i h=>?_⟩
    ·cases i with
     | zero=>simp;exact ih.1
     | succ i=>have:=ih.2.2.1 i (by simpa using h) (by simpa using h2);simp;omega
    cases i with
    | zero=>simp;omega
    | succ i=>have:=ih.2.2.2 i (by simpa using h);simpa using this
  have e:dP s (f+1) k=[tS s]:=by rw [dP,aG hlt]
  rw [e];refine⟨by simp,by simp;omega,λ i h h2=>?_,λ i h=>?_⟩
  ·obtain rfl:i=0:=by simpa using h
   simp [tS]at h2
  obtain rfl:i=0:=by simpa using h
  show(⟨#[]⟩:ByteArray).size<=600;decide
theorem Eu{s:ByteArray}(hs:s.size<=600):bY (fJ s)/\0<(fJ s).length:=by
 have h:=ti hs (s.size+1) 0 (by omega) (by omega);exact⟨⟨by show(dP s (s.size+1) 0).length<=601;omega,h.2.2.1,h.2.2.2⟩,h.1⟩
