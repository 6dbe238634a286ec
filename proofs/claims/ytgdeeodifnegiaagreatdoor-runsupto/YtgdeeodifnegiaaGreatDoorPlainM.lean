/- part -/
import Derived.Test.YtgdeeodifnegiaaGreatDoorRefC
import Derived.Shelf.Abstract
namespace Go.Proofs.YtgdeeodifnegiaaGreatDoor
open Go.Proofs.Tryz
open Or
open Go.RowKit
abbrev yj:=@Nat.eq_zero_or_pos
def KZ(n:Int):Int:=2 ^ (32-n).toNat
abbrev tJ(x:Int×Int):Prop:=(0<=x.1/\x.1<=4294967295)/\(0<=x.2/\x.2<=32)/\x.1 % KZ x.2=0
abbrev xJ(p:List Int):Prop:=p.length<=12/\∀ s∈p,1<=s/\s<=65535
def qt:Int->List Int->Bool
 | _,[]=>true
 | n,x::l=>decide (n<=x)&&(decide (x<=65535)&&qt (x+1) l)
abbrev gU(n:Int)(l:List Int):Prop:=qt n l=true
theorem FF(n:Int):gU n []:=rfl
theorem iH{n x:Int}{l:List Int}:gU n (x::l)↔n<=x/\x<=65535/\gU (x+1) l:=by
 simp only [gU,qt,Bool.and_eq_true,decide_eq_true_eq]
abbrev xD(m:List Int):Prop:=m.length<=8/\gU 0 m
abbrev Iy(n:Int):Prop:=0<=n/\n<=4294967295
def J5(b:List Int):Prop:=∀ x∈b,0<=x/\x<=255
theorem FE:∀{l:List Int} {n:Int},gU n l->∀ x∈l,n<=x/\x<=65535:=by
 intro l
 induction l with
 | nil=>intro n _ x hx;cases hx
 | cons y l ih =>
  intro n h x hx;obtain⟨h1,h2,h3⟩:=iH.1 h;rcases List.mem_cons.1 hx with rfl|hx
  ·exact⟨h1,h2⟩
  have:=ih h3 x hx;omega
theorem bQ{a b:Bool}(h:a=b):Ending.returned (.bool a)=.returned (.bool b):=by rw [h]
def jw(c:Int):Prop := -9223372036854775808<=c/\c<=9223372036854775807
def a8(w:World)(v:Value)(l:List Int):Prop :=
 ∃ p c,v=.slice p l.length c/\l.length<=c/\(l.length:Int)<=17592186044416/\(∀ x∈l,jw x)/\((l=[]/\(p=none->c=0))\/∃ b o,p=some ⟨b,o,none⟩/\b<w.heap.size/\∀ j,(h:j<l.length)->w.cell? ⟨b,o+j,none⟩=some (.int .i64 l[j]))
theorem GR{W w1:World}(hb:Below W.heap.size W w1):(∀ b o,b<W.heap.size->w1.cell? ⟨b,o,none⟩=W.cell? ⟨b,o,none⟩)/\(∀ b o,b<W.heap.size->w1.frozen? ⟨b,o,none⟩=W.frozen? ⟨b,o,none⟩) :=
 ⟨λ b o h=>hb.cell (p:=⟨b,o,none⟩) h,λ b o h=>hb.frozen (p:=⟨b,o,none⟩) h⟩
theorem a8.below{w w':World}{v:Value}{l:List Int}(h:a8 w v l)(hb:Below w.heap.size w w'):a8 w' v l:=by
 obtain⟨p,c,hv,hcap,hl,hin,hr⟩:=h;refine⟨p,c,hv,hcap,hl,hin,?_⟩;rcases hr with h|⟨b,o,hp,hlt,hc⟩
 ·exact inl h
 refine inr ⟨b,o,hp,eV hlt hb.size,λ j hj=>?_⟩;rw [hb.cell (p:=⟨b,o+j,none⟩) hlt];exact hc j hj
theorem a8.own{w:World}{base:Nat}{v:Value}{l:List Int}(h:w.ownsRow base 3 1 v l.length (l.map (Value.int .i64)))(hin:∀ x∈l,jw x)(hl:(l.length:Int)<=17592186044416):a8 w v l:=by
 have hk:=h;obtain⟨h1,h2⟩:=h;rcases h2 with⟨rfl,h0⟩|⟨g,cap,cur,rfl,hb,hg,hn,hm,hs,ht⟩
 ·refine⟨none,0,by rw [h0],by omega,hl,hin,inl ⟨List.length_eq_zero_iff.1 h0,λ _=>rfl⟩⟩
 refine⟨some ⟨g,0,none⟩,cap,rfl,hn,hl,hin,inr ⟨g,0,rfl,ai hg,λ j hj=>?_⟩⟩;have h3:=hk.cells (g:=g) rfl j (.int .i64 l[j]) (by simp [hj]);rcases yj j with rfl|hj0
 ·simpa [Addr.add]using h3
 simpa [Addr.add,Nat.ne_of_gt hj0]using h3
theorem Tryz.infoInt:(prog.info? 3).map (λ i=>(i.zero,i.size,i.bytes))=some (some (.int .i64 0),1,8):=by kernel_rfl
theorem gu{w:World}{base:Nat}{e:TypeId}{size:Nat}{v:Value}{n:Nat}{xs:List Value}(h:w.ownsRow base e size v n xs):∃ q c,v=.slice q n c:=by
 rcases h.2 with⟨rfl,rfl⟩|⟨g,cap,cur,rfl,_⟩
 ·exact⟨_,_,rfl⟩
 exact⟨_,_,rfl⟩
theorem mT{w:World}{base b2:Nat}{e:TypeId}{size:Nat}{v:Value}{n:Nat}{xs:List Value}(h:w.ownsRow base e size v n xs)(hb:b2<=base):w.ownsRow b2 e size v n xs:=by
 refine⟨h.1,?_⟩;rcases h.2 with h|⟨g,cap,cur,hv,hg,r⟩
 ·exact inl h
 exact inr ⟨g,cap,cur,hv,kr hb hg,r⟩
theorem Mu{s k:Int}(h:0<=s)(hk:k<=32):0<(2:Int) ^ (k-s).toNat/\(2:Int) ^ (k-s).toNat<=4294967296:=by
 have hk:(k-s).toNat<=32:=by omega
 generalize (k-s).toNat=m at hk
 have h2:(2:Int) ^ m<=2 ^ 32:=by
  have h1:(2:Nat) ^ m<=2 ^ 32:=Nat.pow_le_pow_right (by omega) hk
  exact_mod_cast h1
 exact⟨Int.pow_pos (by omega),h2⟩
def az(w:World)(A:Nat->Prop)(Q:(Nat->Prop)->World->Prop):Prop :=
 ∃ K:Nat->Prop,(∀ k,K k->k<w.heap.size/\A k)/\∀ W,w.heap.size<=W.heap.size->(∀ k,K k->W.heap[k]?=w.heap[k]?)->Q K W
theorem az.mono{w w':World}{A A':Nat->Prop}{Q Q':(Nat->Prop)->World->Prop}(h:az w A Q)(hs:w.heap.size<=w'.heap.size)(hb:∀ k,k<w.heap.size->A k->w'.heap[k]?=w.heap[k]?/\A' k)(hq:∀ K W,Q K W->Q' K W):az w' A' Q':=by
 obtain⟨K,hK,hQ⟩:=h;exact⟨K,λ k hk=>⟨eV (hK k hk).1 hs,(hb k (hK k hk).1 (hK k hk).2).2⟩,λ W hW hk=>hq _ _ (hQ W (kr hs hW) (λ k h=>(hk k h).trans (hb k (hK k h).1 (hK k h).2).1))⟩
theorem az.allow{w:World}{A A':Nat->Prop}{Q:(Nat->Prop)->World->Prop}(h:az w A Q)(hb:∀ k,k<w.heap.size->A k->A' k):az w A' Q :=
 h.mono (aD _) (λ k hk ha=>⟨rfl,hb k hk ha⟩) (λ _ _ h=>h)
def dk(O D:Nat->Prop)(n:Nat)(k:Nat):Prop:=¬O k/\(D k\/n<=k)
theorem az.fr{w w':World}{O O' D:Nat->Prop}{n m:Nat}{Q:(Nat->Prop)->World->Prop}(h:az w (dk O D n) Q)(hf:Fr O w O' w')(hm:m<=n):az w' (dk O' D m) Q:=by
 refine h.mono hf.size (λ k hk ha=>⟨hf.block k hk ha.1,⟨λ ho=>?_,?_⟩⟩) (λ _ _ h=>h)
 ·rcases hf.own k ho with h1|h1
  ·exact ha.1 h1
  omega
 rcases ha.2 with h1|h1
 ·exact inl h1
 exact inr (by omega)
abbrev ay(pb o:Nat):Value:=.pointer (some ⟨pb,o,none⟩)
def cj(l:List aw):List Value:=l.flatMap λ t=>[.int .i64 t.kind,.int .i64 t.at_,.string t.text,.int .i64 t.number,.int .i64 t.addr,.int .i64 t.len]
def iD(l:List UInt8):List Value:=l.map λ b=>.int .u8 (b.toNat:Int)
def nr(f:Option Int):Value:=.bool f.isSome
def rK(f:Option Int):Value:=.int .i64 (f.getD 0)
def iq(tv dv av bv:Value)(st:RS):Array Value :=
 #[tv,.int .i64 (st.next:Int),.int .i64 st.depth,dv,av,bv,.string st.gap,nr st.syn,rK st.syn,nr st.nam,rK st.nam,nr st.num,rK st.num]
def Gw(v:Value)(C:Nat->Array Value->Prop):Prop:=∃ g lb,v=.func (.func g) #[] lb/\Enters prog g/\C g lb
def rE(v:Value)(m:dU)(_K:Nat->Prop)(W:World):Prop :=
 Gw v λ g lb=>∀(V:World) (a l:Int),Below W.heap.size W V->Calls prog g (#[.agg #[.int .i64 a,.int .i64 l]]++lb) V λ e V'=>e=.returned (.bool (m a l))/\Below V.heap.size V V'
def gy(W:World)(v:Value)(l:List Int):Prop:=∃ p c,v=.slice p l.length c/\(l=[]\/∃ b o,p=some ⟨b,o,none⟩/\b<W.heap.size/\∀ j,(h:j<l.length)->W.cell? ⟨b,o+j,none⟩=some (.int .i64 l[j]))
theorem gy.below{w w':World}{v:Value}{l:List Int}(h:gy w v l)(hb:Below w.heap.size w w'):gy w' v l:=by
 obtain⟨p,c,hv,hr⟩:=h;refine⟨p,c,hv,?_⟩;rcases hr with h|⟨b,o,hp,hlt,hc⟩
 ·exact inl h
 exact inr ⟨b,o,hp,eV hlt hb.size,λ j hj=>(hb.cell (p:=⟨b,o+j,none⟩) hlt).trans (hc j hj)⟩
def kB(v:Value)(m:aH)(_K:Nat->Prop)(W:World):Prop :=
 Gw v λ g lb=>∀(V:World) (pv:Value) (l:List Int) (f:Nat),Below W.heap.size W V->gy V pv l->l.length<=12->f<2 ^ (l.length+1)->Calls prog g (#[pv,.int .u16 (f:Int)]++lb) V λ e V'=>(∃ r:Nat,e=.returned (.int .u16 (r:Int))/\eF m l f r)/\Below V.heap.size V V'
def bI(l:List (ByteArray×Value×Value)):List Value:=l.flatMap λ d=>[.string d.1,d.2.1,d.2.2]
def kX(w:World)(A:Nat->Prop)(d:fe)(x:ByteArray×Value×Value):Prop :=
 x.1=d.name/\(match d.set with|none=>x.2.1=.nilFunc|some m=>az w A (rE x.2.1 m))/\(match d.way with|none=>x.2.2=.nilFunc|some m=>az w A (kB x.2.2 m))
theorem kX.mono{w w':World}{A A':Nat->Prop}{d:fe}{x:ByteArray×Value×Value}(h:kX w A d x)(hs:w.heap.size<=w'.heap.size)(hb:∀ k,k<w.heap.size->A k->w'.heap[k]?=w.heap[k]?/\A' k):kX w' A' d x:=by
 obtain⟨h1,h2,h3⟩:=h;refine⟨h1,?_,?_⟩
 ·cases hd:d.set with
  | none=>rw [hd]at h2;exact h2
  | some m=>rw [hd]at h2;exact h2.mono hs hb (λ _ _ h=>h)
 cases hd:d.way with
 | none=>rw [hd]at h3;exact h3
 | some m=>rw [hd]at h3;exact h3.mono hs hb (λ _ _ h=>h)
def wL(w:World)(A:Nat->Prop)(dv:Value)(defs:List fe):Prop :=
 ∃ xs:List (ByteArray×Value×Value),w.ownsRow 0 307 3 dv defs.length (bI xs)/\xs.length=defs.length/\∀(i:Nat) (d:fe) (x:ByteArray×Value×Value),defs[i]?=some d->xs[i]?=some x->kX w A d x
theorem wL.mono{w w':World}{A A':Nat->Prop}{dv:Value}{defs:List fe}(h:wL w A dv defs)(hs:w.heap.size<=w'.heap.size)(hd:∀ k,dv.ownBlock=some k->w'.heap[k]?=w.heap[k]?)(hb:∀ k,k<w.heap.size->A k->w'.heap[k]?=w.heap[k]?/\A' k):wL w' A' dv defs:=by
 obtain⟨xs,h1,h2,h3⟩:=h;exact⟨xs,ap h1 hd,h2,λ i d x hi hx=>(h3 i d x hi hx).mono hs hb⟩
def dS(pb tb:Nat)(dv bv:Value)(k:Nat):Prop:=k=pb\/k=tb\/bv.ownBlock=some k\/dv.ownBlock=some k
structure nA(w:World)(pb:Nat)(ts:List aw)(st:RS)(D:Nat->Prop)(tb tc:Nat)(dv av bv:Value):Prop where
 blk:w.heap[pb]?=some (.cells (iq (.slice (some ⟨tb,0,none⟩) ts.length tc) dv av bv st) 210 (0,0))
 toks:w.ownsRow 0 216 6 (.slice (some ⟨tb,0,none⟩) ts.length tc) ts.length (cj ts)
 page:w.ownsRow 0 5 1 bv st.page.length (iD st.page)
 used:av=.pointer none\/av=ay pb 4
 defs:wL w (λ k=>¬dS pb tb dv bv k/\D k) dv st.defs
 ne1:tb≠pb
 ne2:bv.ownBlock≠some pb
 ne3:bv.ownBlock≠some tb
 ne4:dv.ownBlock≠some pb
 ne5:dv.ownBlock≠some tb
 ne6:bv.ownBlock=none\/bv.ownBlock≠dv.ownBlock
 free:∀ k,D k->k<w.heap.size/\¬dS pb tb dv bv k
def RA(w:World)(pb:Nat)(ts:List aw)(st:RS)(D O:Nat->Prop):Prop:=∃ tb tc dv av bv,nA w pb ts st D tb tc dv av bv/\O=dS pb tb dv bv
theorem nA.lt{w:World}{pb:Nat}{ts:List aw}{st:RS}{D:Nat->Prop}{tb tc:Nat}{dv av bv:Value}(h:nA w pb ts st D tb tc dv av bv){k:Nat}(hk:dS pb tb dv bv k):k<w.heap.size:=by
 obtain⟨xs,hd,_⟩:=h.defs;rcases hk with rfl|rfl|hk|hk
 ·exact ai h.blk
 ·exact(h.toks.lt k rfl).2
 ·exact(h.page.lt k hk).2
 exact(hd.lt k hk).2
theorem nA.keep{w w':World}{pb:Nat}{ts:List aw}{st:RS}{D:Nat->Prop}{tb tc:Nat}{dv av bv:Value}(h:nA w pb ts st D tb tc dv av bv)(hs:w.heap.size<=w'.heap.size)
  (hk:∀ k,k<w.heap.size->dS pb tb dv bv k\/D k->w'.heap[k]?=w.heap[k]?):nA w' pb ts st D tb tc dv av bv:=by
 have ho:∀ k,dS pb tb dv bv k->w'.heap[k]?=w.heap[k]?:=λ k h1=>hk k (h.lt h1) (inl h1)
 refine⟨(ho pb (inl rfl)).trans h.blk,ap h.toks (λ k e=>ho k ?_),ap h.page (λ k e=>ho k (inr (inr (inl e)))),h.used,h.defs.mono hs (λ k e=>ho k (inr (inr (inr e)))) (λ k hl ha=>⟨hk k hl (inr ha.2),ha⟩),h.ne1,h.ne2,h.ne3,h.ne4,h.ne5,h.ne6,λ k hd=>⟨eV (h.free k hd).1 hs,(h.free k hd).2⟩⟩;obtain rfl:tb=k:=by simpa [Value.ownBlock]using e
 exact inr (inl rfl)
theorem nA.set{w w':World}{pb:Nat}{ts:List aw}{st st':RS}{D:Nat->Prop}{tb tc:Nat}{dv av bv:Value}(h:nA w pb ts st D tb tc dv av bv)(hs:w.heap.size<=w'.heap.size)
  (hb:w'.heap[pb]?=some (.cells (iq (.slice (some ⟨tb,0,none⟩) ts.length tc) dv av bv st') 210 (0,0))) (hp:st'.page=st.page) (hd:st'.defs=st.defs)
  (hk:∀ k,k<w.heap.size->k≠pb->dS pb tb dv bv k\/D k->w'.heap[k]?=w.heap[k]?):nA w' pb ts st' D tb tc dv av bv:=by
 refine⟨hb,ap h.toks (λ k e=>?_),?_,h.used,?_,h.ne1,h.ne2,h.ne3,h.ne4,h.ne5,h.ne6,λ k hd=>⟨eV (h.free k hd).1 hs,(h.free k hd).2⟩⟩
 ·obtain rfl:tb=k:=by simpa [Value.ownBlock]using e
  exact hk tb (h.lt (inr (inl rfl))) h.ne1 (inl (inr (inl rfl)))
 ·rw [hp];exact ap h.page (λ k e=>hk k (h.lt (inr (inr (inl e)))) (λ e2=>h.ne2 (by rw [e,e2])) (inl (inr (inr (inl e)))))
 rw [hd];exact h.defs.mono hs (λ k e=>hk k (h.lt (inr (inr (inr e)))) (λ e2=>h.ne4 (by rw [e,e2])) (inl (inr (inr (inr e))))) (λ k hl ha=>⟨hk k hl (λ e=>ha.1 (inl e)) (inr ha.2),ha⟩)
theorem RA.lt{w:World}{pb:Nat}{ts:List aw}{st:RS}{D O:Nat->Prop}(h:RA w pb ts st D O){k:Nat}(hk:O k):k<w.heap.size:=by
 obtain⟨tb,tc,dv,av,bv,h,rfl⟩:=h;exact h.lt hk
theorem RA.own{w:World}{pb:Nat}{ts:List aw}{st:RS}{D O:Nat->Prop}(h:RA w pb ts st D O):O pb:=by
 obtain⟨tb,tc,dv,av,bv,h,rfl⟩:=h;exact inl rfl
theorem RA.free{w:World}{pb:Nat}{ts:List aw}{st:RS}{D O:Nat->Prop}(h:RA w pb ts st D O){k:Nat}(hk:D k):k<w.heap.size/\¬O k:=by
 obtain⟨tb,tc,dv,av,bv,h,rfl⟩:=h;exact h.free k hk
theorem RA.stay{w w':World}{pb:Nat}{ts:List aw}{st:RS}{D O:Nat->Prop}(h:RA w pb ts st D O)(hb:Below w.heap.size w w'):RA w' pb ts st D O:=by
 obtain⟨tb,tc,dv,av,bv,h,rfl⟩:=h;exact⟨tb,tc,dv,av,bv,h.keep hb.size (λ k hk _=>hb.block k hk),rfl⟩
theorem RA.drew{w:World}{pb:Nat}{ts:List aw}{st:RS}{D O:Nat->Prop}(h:RA w pb ts st D O):RA w.drew pb ts st D O:=h.stay (aX _ _).drew
theorem RA.drewN{w:World}{pb:Nat}{ts:List aw}{st:RS}{D O:Nat->Prop}(h:RA w pb ts st D O)(n:Nat):RA (w.drewN n) pb ts st D O:=h.stay (below_drewN (aX _ _) n)
theorem RA.alloc{w:World}{pb:Nat}{ts:List aw}{st:RS}{D O:Nat->Prop}(h:RA w pb ts st D O)(o:Obj):RA (w.alloc o) pb ts st D O:=h.stay ((aX _ _).alloc (aD _) _)
theorem RA.other{w:World}{pb b:Nat}{ts:List aw}{st:RS}{D O:Nat->Prop}(h:RA w pb ts st D O)(hb:¬O b/\¬D b)(o:Nat)(v:Value):RA (w.setCell ⟨b,o,none⟩ v) pb ts st D O:=by
 obtain⟨tb,tc,dv,av,bv,h,rfl⟩:=h;refine⟨tb,tc,dv,av,bv,h.keep (by simp [World.setCell]) (λ k _ hk=>ah (λ e=>?_)),rfl⟩;rcases hk with h1|h1
 ·exact hb.1 ((show k=b from e)▸h1)
 exact hb.2 ((show k=b from e)▸h1)
structure cE(ts:List aw):Prop where
 n1:ts.length<=601
 last:∀ i (h:i<ts.length),2<=ts[i].kind->i+1<ts.length
 text:∀ i (h:i<ts.length),ts[i].text.size<=600
structure Ok(ts:List aw)(st:RS):Prop where
 next:st.next<ts.length
 page:st.page.length<=700*st.next
 gap:st.gap.size<=1
theorem lO{ts:List aw}{st:RS}(h:st.next<ts.length):bL ts st=ts[st.next]:=by simp [bL,h]
theorem x9{l:List aw}{i:Nat}(h:i<l.length):(cj l)[6*i]?=some (.int .i64 l[i].kind)/\(cj l)[6*i+1]?=some (.int .i64 l[i].at_)/\(cj l)[6*i+2]?=some (.string l[i].text)/\(cj l)[6*i+3]?=some (.int .i64 l[i].number)/\(cj l)[6*i+4]?=some (.int .i64 l[i].addr)/\(cj l)[6*i+5]?=some (.int .i64 l[i].len):=by
 induction l generalizing i with
 | nil=>simp at h
 | cons a l ih =>
  cases i with
  | zero=>simp [cj]
  | succ i =>
   have:=ih (i:=i) (by simpa using h);simpa [cj,Nat.mul_add,Nat.add_right_comm _ 6]using this
