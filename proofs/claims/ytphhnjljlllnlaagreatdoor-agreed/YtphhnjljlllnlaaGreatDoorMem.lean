/- part -/
import Derived.WalkSpells
import Derived.WalkLawsBesides
import Derived.Deep.AppendLies
import Derived.Laws.AppendOwnNone
import Derived.Test.YtphhnjljlllnlaaGreatDoorRows
import Derived.Test.YtphhnjljlllnlaaGreatDoorHide
import Derived.Deep.QuietTactic
import Derived.BigQuiet
import Derived.Shelf.Abstract
import Derived.Deep.RegionHeld3
import Derived.Deep.RegionLaw
import Derived.Deep.DeepCutAuto
import Derived.Deep.DrawnRows
import Derived.Lib.Builder
import Derived.Lib.FrozenHead
set_option maxRecDepth 100000
set_option maxHeartbeats 2000000
namespace Go.Proofs.YtphhnjljlllnlaaGreatDoor
open Go.Proofs.Tryz
open Or
open Go.RowKit
abbrev Ic:=@Nat.eq_zero_or_pos
abbrev dG:=@Nat.zero_le
abbrev i7:=@World.ownsRow_nil
abbrev gG:=@Nat.le_trans
abbrev gY:=@Nat.lt_of_lt_of_le
abbrev aY:=@Below.refl
structure Fr(O:Nat->Prop)(w:World)(O':Nat->Prop)(w':World):Prop where
 os:w'.os=w.os
 tape:w'.tape=w.tape
 output:w'.output=w.output
 size:w.heap.size<=w'.heap.size
 block:∀ k,k<w.heap.size->¬O k->w'.heap[k]?=w.heap[k]?
 own:∀ k,O' k->O k\/w.heap.size<=k
theorem Fr.refl(O:Nat->Prop)(w:World):Fr O w O w:=⟨rfl,rfl,rfl,aL _,λ _ _ _=>rfl,λ _ h=>inl h⟩
abbrev dw:=@Fr.refl
theorem Fr.trans{O O1 O2:Nat->Prop}{w w1 w2:World}(h:Fr O w O1 w1)(g:Fr O1 w1 O2 w2):Fr O w O2 w2 :=
 ⟨g.os.trans h.os,g.tape.trans h.tape,g.output.trans h.output,gG h.size g.size,
  λ k hk hn=>(g.block k (gY hk h.size) (λ ho=>by rcases h.own k ho with h1|h1;exact hn h1;omega)).trans (h.block k hk hn),
  λ k hk=>by rcases g.own k hk with h1|h1;exact h.own k h1;right;have:=h.size;omega⟩
theorem Fr.of_below{O:Nat->Prop}{w w':World}(h:Below w.heap.size w w'):Fr O w O w' :=
 ⟨h.os,h.tape,h.output,h.size,λ k hk _=>h.block k hk,λ _ h=>inl h⟩
theorem Fr.below{O O':Nat->Prop}{w w' w'':World}(h:Fr O w O' w')(g:Below w'.heap.size w' w''):Fr O w O' w'':=h.trans (Fr.of_below g)
theorem Fr.alloc{O O':Nat->Prop}{w w':World}(h:Fr O w O' w')(o:Obj):Fr O w O' (w'.alloc o):=h.below ((aY _ _).alloc (aL _) _)
theorem Fr.drew{O O':Nat->Prop}{w w':World}(h:Fr O w O' w'):Fr O w O' w'.drew:=⟨h.os,h.tape,h.output,h.size,h.block,h.own⟩
theorem Fr.drewN{O O':Nat->Prop}{w w':World}(h:Fr O w O' w')(n:Nat):Fr O w O' (w'.drewN n):=h.below (below_drewN (aY _ _) n)
theorem Fr.setCell{O O':Nat->Prop}{w w':World}(h:Fr O w O' w'){p:Addr}(hp:O' p.block\/w.heap.size<=p.block)(v:Value):Fr O w O' (w'.setCell p v) :=
 ⟨h.os,h.tape,h.output,by simpa [World.setCell]using h.size,
  λ k hk hn=>(Below.heap_setCell _ _ _ _ (λ e=>by
   rcases hp with h1|h1
   ·rw [<-e]at h1;rcases h.own k h1 with h2|h2;exact hn h2;omega
   ·omega)).trans (h.block k hk hn),h.own⟩
theorem Fr.grown{O O':Nat->Prop}{w w' w'':World}{row:Option Nat}(h:Fr O w O' w')(hg:w'.grownBy w'' row)(hr:∀ k,row=some k->O' k\/w.heap.size<=k):Fr O w O' w'' :=
 ⟨hg.os.trans h.os,hg.tape.trans h.tape,hg.output.trans h.output,gG h.size hg.size,
  λ k hk hn=>(hg.block k (gY hk h.size) (λ e=>by
   rcases hr k e.symm with h1|h1
   ·rcases h.own k h1 with h2|h2;exact hn h2;omega
   ·omega)).trans (h.block k hk hn),h.own⟩
theorem Fr.reown{O O' O2:Nat->Prop}{w w':World}(h:Fr O w O' w')(g:∀ k,O2 k->O' k\/w.heap.size<=k):Fr O w O2 w' :=
 ⟨h.os,h.tape,h.output,h.size,h.block,λ k hk=>by rcases g k hk with h1|h1;exact h.own k h1;right;exact h1⟩
theorem ag{w:World}{b o:Nat}{c:Array Value}{T:TypeId}{z:Nat×Nat}(h:w.heap[b]?=some (.cells c T z)):w.cell? ⟨b,o,none⟩=c[o]?:=by
 simp [World.cell?,h]
theorem aj{w:World}{b o:Nat}{c:Array Value}{T:TypeId}(h:w.heap[b]?=some (.cells c T (0,0))):w.frozen? ⟨b,o,none⟩=false:=by
 simp [World.frozen?,h]
theorem aV{w:World}{b o:Nat}{c:Array Value}{T:TypeId}{z:Nat×Nat}{v:Value}(h:w.heap[b]?=some (.cells c T z)) :
  (w.setCell ⟨b,o,none⟩ v).heap[b]?=some (.cells (c.setIfInBounds o v) T z):=by
 simp [World.setCell,Array.getElem?_modify,h]
theorem ai{w:World}{b:Nat}{p:Addr}{v:Value}(h:b≠p.block):(w.setCell p v).heap[b]?=w.heap[b]?:=Below.heap_setCell _ _ _ _ h
theorem ah{w:World}{b:Nat}{o:Obj}(h:w.heap[b]?=some o):b<w.heap.size:=by
 rcases Nat.lt_or_ge b w.heap.size with h1|h1
 ·exact h1
 rw [Array.getElem?_eq_none h1]at h;cases h
theorem ay{w w':World}{base:Nat}{e:TypeId}{size:Nat}{v:Value}{n:Nat}{xs:List Value}(h:w.ownsRow base e size v n xs)(hk:∀ k,v.ownBlock=some k->w'.heap[k]?=w.heap[k]?):w'.ownsRow base e size v n xs:=by
 obtain⟨h1,h2⟩:=h;refine⟨h1,?_⟩;rcases h2 with h2|⟨g,cap,cur,rfl,hb,hg,h3⟩
 ·exact inl h2
 exact inr ⟨g,cap,cur,rfl,hb,by rw [hk g rfl];exact hg,h3⟩
def eP(w:World)(x:Value)(m:Nat)(news:List Value):Prop :=
 (x=.slice none 0 0/\m=0/\news=[])\/∃ ad c,x=.slice (some ad) m c/\∀ j u,news[j]?=some u->w.cell? (ad.add j)=some u
theorem bC{P:Program}{w:World}{ops:Array Oper}{rest:List Oper}{o:Oper}{a:Act}{Q:Exit->Act->World->Prop}(hgd:o.guard=none)(s x:Operand)(t:TypeId)
  (ho:o.op=.call { callee:=.builtin .append,args:=#[s,x],argTypes:=#[t,t] })
  (base:Nat) (e:TypeId) (i:TypeInfo) (z:Value) (size bytes:Nat) (ht:P.underlying t=some (.slice e)) (hi:P.info? e=some i) (hz:i.zero=some z)
  (hsize:i.size=size) (hby:i.bytes=bytes) (hzs:z.cells.size=size) (hsz:0<size)
  (v:Value) (n:Nat) (xs:List Value) (hs:a.eval s=v) (hown:w.ownsRow base e size v n xs)
  (xv:Value) (m:Nat) (news:List Value) (hx:a.eval x=xv) (hr:eP w xv m news) (hl:news.length=m*size) (h1:∀ u∈news,u.oneCell'=true)
  (h63:n+m<=maxLen) (hbytes:(n+m)*bytes<=140737488355328) (hbase:base<=w.heap.size)
  (h:∀ v' w',w'.ownsRow base e size v' (n+m) (xs++news)->w.grownBy w' v.ownBlock->(v'.ownBlock=v.ownBlock\/v'.ownBlock=some w.heap.size)->wpList P ops Q rest (a.put o.dst v') w') :
  wpList P ops Q (o::rest) a w:=by
 rcases hr with⟨rfl,rfl,rfl⟩|⟨ad,c,rfl,hc⟩
 ·refine wpList_append_own_none hgd s x t ho base e i size ht hi v n xs hs hown hx ?_;exact h v w (by simpa using hown) ⟨rfl,rfl,rfl,aL _,λ _ _ _=>rfl⟩ (inl rfl)
 exact wpList_append_own_at w hgd s x t ho base e i z size bytes ht hi hz hsize hby hzs hsz v n xs hs hown ad m c news hx hl hc h1 h63 hbytes hbase (λ v' w' a1 a2 _ a4=>h v' w' a1 a2 a4)
theorem eP.own{w:World}{base:Nat}{e:TypeId}{size:Nat}{v:Value}{n:Nat}{xs:List Value}(h:w.ownsRow base e size v n xs):eP w v n xs:=by
 have hk:=h;rcases h.2 with⟨rfl,rfl⟩|⟨g,cap,cur,rfl,_⟩
 ·exact inl ⟨rfl,rfl,List.length_eq_zero_iff.1 (by simpa using h.1)⟩
 exact inr ⟨_,_,rfl,hk.cells rfl⟩
theorem eP.below{w w':World}{x:Value}{m:Nat}{news:List Value}(h:eP w x m news)(hk:∀ k,x.ownBlock=some k->w'.heap[k]?=w.heap[k]?):eP w' x m news:=by
 rcases h with h|⟨ad,c,rfl,hc⟩
 ·exact inl h
 refine inr ⟨ad,c,rfl,λ j u hj=>?_⟩;have h1:(ad.add j).block=ad.block:=by unfold Addr.add;split<;>rfl
 rw [<-hc j u hj];exact World.cell?_of_block (w:=w) (by rw [h1];exact hk ad.block rfl)
theorem jA{k:IntKind}{a b:Int}(h:a=b):Ending.returned (.int k a)=.returned (.int k b):=by rw [h]
theorem aO{a b:Bool}(h:a=b):Ending.returned (.bool a)=.returned (.bool b):=by rw [h]
theorem Na{n:Int}(h : -9223372036854775808<=n/\n<=9223372036854775807):wrap64 n=n:=by unfold wrap64;omega
def eN(c:Int):Prop := -9223372036854775808<=c/\c<=9223372036854775807
def aA(w:World)(v:Value)(l:List Int):Prop :=
 ∃ p c,v=.slice p l.length c/\l.length<=c/\(l.length:Int)<=17592186044416/\(∀ x∈l,eN x)/\((l=[]/\(p=none->c=0))\/∃ b o,p=some ⟨b,o,none⟩/\b<w.heap.size/\∀ j,(h:j<l.length)->w.cell? ⟨b,o+j,none⟩=some (.int .i64 l[j]))
theorem tD{W w1:World}(hb:Below W.heap.size W w1):(∀ b o,b<W.heap.size->w1.cell? ⟨b,o,none⟩=W.cell? ⟨b,o,none⟩)/\(∀ b o,b<W.heap.size->w1.frozen? ⟨b,o,none⟩=W.frozen? ⟨b,o,none⟩) :=
 ⟨λ b o h=>hb.cell (p:=⟨b,o,none⟩) h,λ b o h=>hb.frozen (p:=⟨b,o,none⟩) h⟩
theorem aA.below{w w':World}{v:Value}{l:List Int}(h:aA w v l)(hb:Below w.heap.size w w'):aA w' v l:=by
 obtain⟨p,c,hv,hcap,hl,hin,hr⟩:=h;refine⟨p,c,hv,hcap,hl,hin,?_⟩;rcases hr with h|⟨b,o,hp,hlt,hc⟩
 ·exact inl h
 refine inr ⟨b,o,hp,gY hlt hb.size,λ j hj=>?_⟩;rw [hb.cell (p:=⟨b,o+j,none⟩) hlt];exact hc j hj
theorem aA.own{w:World}{base:Nat}{v:Value}{l:List Int}(h:w.ownsRow base 3 1 v l.length (l.map (Value.int .i64)))(hin:∀ x∈l,eN x)(hl:(l.length:Int)<=17592186044416):aA w v l:=by
 have hk:=h;obtain⟨h1,h2⟩:=h;rcases h2 with⟨rfl,h0⟩|⟨g,cap,cur,rfl,hb,hg,hn,hm,hs,ht⟩
 ·refine⟨none,0,by rw [h0],by omega,hl,hin,inl ⟨List.length_eq_zero_iff.1 h0,λ _=>rfl⟩⟩
 refine⟨some ⟨g,0,none⟩,cap,rfl,hn,hl,hin,inr ⟨g,0,rfl,ah hg,λ j hj=>?_⟩⟩;have h3:=hk.cells (g:=g) rfl j (.int .i64 l[j]) (by simp [hj]);rcases Ic j with rfl|hj0
 ·simpa [Addr.add]using h3
 simpa [Addr.add,Nat.ne_of_gt hj0]using h3
theorem BT{a b:List Int}{k:Nat}(h:a.take k=b.take k)(ha:a.length<=k)(hb:b.length<=k):a=b:=by
 rwa [List.take_of_length_le ha,List.take_of_length_le hb]at h
theorem qr{a b:List Int}{k:Nat}(h:a.take k=b.take k)(ha:k<a.length)(hb:k<b.length)(e:a[k]=b[k]):a.take (k+1)=b.take (k+1):=by
 rw [List.take_succ_eq_append_getElem ha,List.take_succ_eq_append_getElem hb,h,e]
theorem Tryz.infoInt:(prog.info? 3).map (λ i=>(i.zero,i.size,i.bytes))=some (some (.int .i64 0),1,8):=by kernel_rfl
theorem aA.drop{w:World}{p:Option Addr}{c n:Nat}{l:List Int}(h:aA w (.slice p l.length c) l)(hn:n<l.length) :
  ∃ b o,p=some ⟨b,o,none⟩/\b<w.heap.size/\aA w (.slice (some ⟨b,o+n,none⟩) (l.length-n) (c-n)) (l.drop n):=by
 obtain⟨p',c',hv,hcap,hl,hin,hr⟩:=h;cases hv
 rcases hr with h|⟨b,o,rfl,hb,hc⟩
 ·rw [h.1]at hn;simp at hn
 refine⟨b,o,rfl,hb,some ⟨b,o+n,none⟩,c-n,by rw [List.length_drop],by rw [List.length_drop];omega,by rw [List.length_drop];omega,λ x hx=>hin x (List.mem_of_mem_drop hx),inr ⟨b,o+n,rfl,hb,λ j hj=>?_⟩⟩;rw [List.length_drop]at hj;rw [List.getElem_drop,Nat.add_assoc];exact hc (n+j) (by omega)
theorem aA.nil(w:World)(n:Nat){l:List Int}(h:l.length<=n):aA w (.slice none 0 0) (l.drop n):=by
 have:l.drop n=[]:=List.drop_eq_nil_of_le h;rw [this];exact⟨none,0,rfl,by simp,by simp,by simp,inl ⟨rfl,λ _=>rfl⟩⟩
theorem aI{w:World}{base:Nat}{e:TypeId}{size:Nat}{v:Value}{n:Nat}{xs:List Value}(h:w.ownsRow base e size v n xs):∃ q c,v=.slice q n c:=by
 rcases h.2 with⟨rfl,rfl⟩|⟨g,cap,cur,rfl,_⟩
 ·exact⟨_,_,rfl⟩
 exact⟨_,_,rfl⟩
theorem aZ{w:World}{base b2:Nat}{e:TypeId}{size:Nat}{v:Value}{n:Nat}{xs:List Value}(h:w.ownsRow base e size v n xs)(hb:b2<=base):w.ownsRow b2 e size v n xs:=by
 refine⟨h.1,?_⟩;rcases h.2 with h|⟨g,cap,cur,hv,hg,r⟩
 ·exact inl h
 exact inr ⟨g,cap,cur,hv,gG hb hg,r⟩
theorem oN{w w1:World}{o:Obj}{n:Nat}(h:Below n (w.alloc o) w1):w.heap.size+1<=w1.heap.size:=by
 have:=h.size;simp at this;exact this
theorem qt{n k:Int}(h1 : -9223372036854775808<=n)(h2:n<=9223372036854775807)(hk:1<k) : -9223372036854775808<=n.tdiv k/\n.tdiv k<=9223372036854775807:=by
 rcases Int.le_total 0 n with h|h
 ·have:=Int.tdiv_nonneg h (by omega:0<=k);have:=Int.tdiv_le_self k h;omega
 have h3:0<=(-n).tdiv k:=Int.tdiv_nonneg (by omega) (by omega);have h4:(-n).tdiv k <= -n:=Int.tdiv_le_self k (by omega);rw [Int.neg_tdiv]at h3 h4;omega
theorem np{s k:Int}(h:s<=k)(_hk:k<=32):(2:Int) ^ (k+1-s).toNat=2*2 ^ (k-s).toNat:=by
 rw [show(k+1-s).toNat=(k-s).toNat+1 by omega,Int.pow_succ,Int.mul_comm]
theorem nl{s k:Int}(h:0<=s)(hk:k<=32):0<(2:Int) ^ (k-s).toNat/\(2:Int) ^ (k-s).toNat<=4294967296:=by
 have hk:(k-s).toNat<=32:=by omega
 generalize (k-s).toNat=m at hk
 have h2:(2:Int) ^ m<=2 ^ 32:=by
  have h1:(2:Nat) ^ m<=2 ^ 32:=Nat.pow_le_pow_right (by omega) hk
  exact_mod_cast h1
 exact⟨Int.pow_pos (by omega),h2⟩
def bt(s:ByteArray)(k:Nat):Int:=if h:k<s.size then(s[k].toNat:Int)else 0
theorem gm{s:ByteArray}{k:Nat}(h:k<s.size):bt s k=(s[k].toNat:Int):=by simp [bt,h]
def fk(n:Int):Bool:=decide (97<=n)&&decide (n<=122)
def je(n:Int):Bool:=decide (48<=n)&&decide (n<=57)
theorem fK(n:Int):je n=true↔48<=n/\n<=57:=by simp [je]
def dR(s:ByteArray):Nat->Int
 | 0=>0
 | k+1=>10*dR s k+(bt s k-48)
abbrev mX(s:ByteArray)(k:Nat):Prop:=∀ j,j<k->je (bt s j)=true
theorem CS{s:ByteArray}{k:Nat}(h:mX s k)(hk:je (bt s k)=true):mX s (k+1):=by
 intro j hj;by_cases e:j=k
 ·subst e;exact hk
 exact h j (by omega)
theorem uC{s:ByteArray}{k:Nat}(h:mX s k):0<=dR s k/\dR s k<10 ^ k:=by
 induction k with
 | zero=>simp [dR]
 | succ k ih =>
  have⟨a,b⟩:=ih (λ j hj=>h j (by omega));have hd:=(fK _).1 (h k (by omega));simp only [dR,Int.pow_succ];omega
def k8(s:ByteArray)(m:Int):Int :=
 if s.size=0\/10<s.size\/(1<s.size/\bt s 0=48)then -1
 else if mX s s.size then(if m<dR s s.size then -1 else dR s s.size)else -1
theorem yH{s:ByteArray}{m:Int}(h:s.size=0\/10<s.size\/(1<s.size/\bt s 0=48)):k8 s m = -1:=by
 unfold k8;rw [aS h]
theorem AW{s:ByteArray}{m:Int}{k:Nat}(hk:k<s.size)(h:je (bt s k)=false):k8 s m = -1:=by
 unfold k8;split
 ·rfl
 rw [aG];intro hd;rw [hd k hk]at h;cases h
theorem JQ{s:ByteArray}{m:Int}(h:¬(s.size=0\/10<s.size\/(1<s.size/\bt s 0=48)))(hd:mX s s.size) :
  k8 s m=if m<dR s s.size then -1 else dR s s.size:=by
 unfold k8;rw [aG h,aS hd]
def Bu(p:Int->Bool)(s:ByteArray):Nat->Nat->Nat
 | 0,i=>i
 | f+1,i=>if i<s.size/\p (bt s i)=true then Bu p s f (i+1)else i
def cD(p:Int->Bool)(s:ByteArray)(i:Nat):Nat:=Bu p s (s.size-i) i
theorem kC{p:Int->Bool}{s:ByteArray}{i:Nat}(h:i<s.size)(hp:p (bt s i)=true):cD p s i=cD p s (i+1):=by
 unfold cD;have e:s.size-i=(s.size-(i+1))+1:=by omega
 rw [e,Bu,aS ⟨h,hp⟩]
theorem nz{p:Int->Bool}{s:ByteArray}{i:Nat}(h:¬(i<s.size/\p (bt s i)=true)):cD p s i=i:=by
 unfold cD;cases s.size-i with
 | zero=>rfl
 | succ f=>rw [Bu,aG h]
theorem Mx{p:Int->Bool}{s:ByteArray}(f i:Nat)(h:i<=s.size):i<=Bu p s f i/\Bu p s f i<=s.size:=by
 induction f generalizing i with
 | zero=>simp [Bu];omega
 | succ f ih =>
  rw [Bu];split
  ·rename_i h;have:=ih (i+1) (by omega);omega
  omega
theorem He{p:Int->Bool}{s:ByteArray}{i:Nat}(h:i<=s.size):i<=cD p s i/\cD p s i<=s.size:=Mx _ _ h
def mA:List ByteArray:=[⟨#[115,101,116]⟩,⟨#[119,97,121]⟩,⟨#[97,99,99,101,112,116]⟩,⟨#[114,101,106,101,99,116]⟩,⟨#[112,114,101,102]⟩,⟨#[109,101,100]⟩,⟨#[109,97,114,107]⟩,⟨#[117,110,109,97,114,107]⟩,⟨#[112,114,101,112,101,110,100]⟩,⟨#[105,102]⟩,⟨#[116,104,101,110]⟩,⟨#[101,108,115,101]⟩,⟨#[108,101,110]⟩,⟨#[111,114]⟩,⟨#[97,110,100]⟩,⟨#[110,111,116]⟩,⟨#[110,101,116]⟩,⟨#[105,110]⟩,⟨#[112,97,116,104]⟩,⟨#[108,105,107,101]⟩,⟨#[109,97,114,107,101,100]⟩]
theorem Md{s:ByteArray}{m:Int}(h:0<=m):k8 s m<=m:=by
 unfold k8;split
 ·omega
 split
 ·split<;>omega
 omega
def gb(n:Int):Bool:=n==32||n==10
def et(n:Int):Bool:=je n||n==46||n==47
structure ak where
 kind:Int
 at_:Int
 text:ByteArray
 number:Int
 addr:Int
 len:Int
def fZ:ak:=⟨0,0,⟨#[]⟩,0,0,0⟩
structure Rt where
 addr:Int
 len:Int
 path:List Int
 marks:List Int
 pref:Int
 med:Int
abbrev bh:=Rt->Option Int
abbrev aR:=Rt->Option Bool
abbrev dU:=Int->Int->Bool
abbrev aP:=List Int->Prop
def ek(L:aP)(l:List Int)(f r:Nat):Prop:=∀ j,r.testBit j=true↔∃ i,f.testBit i=true/\i<=j/\j<=l.length/\L ((l.take j).drop i)
abbrev aJ:=Rt->Rt×Int
def ie(n:Int):bh:=λ _=>some n
def oJ:bh:=λ r=>some r.pref
def Dl:bh:=λ r=>some r.med
def Gn:bh:=λ r=>some (r.path.length:Int)
abbrev sD(x:Int):Int:=wrap64 x
def rV(s x y:Int):Option Int:=if 0<=sD (x+sD (s*y))/\sD (x+sD (s*y))<=4294967295 then some (sD (x+sD (s*y)))else none
def iu(a b:bh)(s:Int):bh:=λ r =>
 match a r with
 | none=>none
 | some x=>match b r with
  | none=>none
  | some y=>rV s x y
def Ia(a b:aR):aR:=λ r =>
 match a r with
 | none=>none
 | some true=>some true
 | some false=>b r
def tn(a b:aR):aR:=λ r =>
 match a r with
 | none=>none
 | some false=>some false
 | some true=>b r
def Dx(a:aR):aR:=λ r=>(a r).map (λ x=>!x)
def FL(f:Int->Int->Bool)(a b:bh):aR:=λ r =>
 match a r with
 | none=>none
 | some x=>match b r with
  | none=>none
  | some y=>some (f x y)
def Lx(a b:bh):aR:=FL (λ x y=>decide (x=y)) a b
def H7(a b:bh):aR:=FL (λ x y=>decide (x<y)) a b
def qW(s:dU):aR:=λ r=>some (s r.addr r.len)
noncomputable def wW(w:aP):aR:=λ r=>some (@decide (w r.path) (Classical.propDecidable _))
def nN(n:Int):aR:=λ r=>some (r.marks.contains n)
def bd:List aJ->Rt->Rt×Int
 | [],r=>(r,0)
 | s::l,r=>if(s r).2=0 then bd l (s r).1 else s r
def ci(v:Int):aJ:=λ r=>(r,v)
def gy(a:bh):aJ:=λ r=>match a r with|none=>(r,3)|some n=>({ r with pref:=n },0)
def iX(a:bh):aJ:=λ r=>match a r with|none=>(r,3)|some n=>({ r with med:=n },0)
def cC(l:List Int)(n:Int):Nat:=(l.filter (λ x=>decide (x<n))).length
def jj(n:Int):aJ:=λ r=>if r.marks.contains n then(r,0)else if r.marks.length=8 then(r,3)else({ r with marks:=r.marks.take (cC r.marks n)++n::r.marks.drop (cC r.marks n) },0)
def iY(n:Int):aJ:=λ r=>if r.marks.contains n then({ r with marks:=r.marks.erase n },0)else(r,0)
def dM(n:Int):aJ:=λ r=>if r.path.length=12 then(r,3)else({ r with path:=n::r.path },0)
def gD(c:aR)(yes no:List aJ):aJ:=λ r =>
 match c r with
 | none=>(r,3)
 | some true=>bd yes r
 | some false=>bd no r
structure i8 where
 name:ByteArray
 set:Option dU
 way:Option aP
structure RS where
 next:Nat
 depth:Int
 defs:List i8
 page:List UInt8
 gap:ByteArray
 syn:Option Int
 nam:Option Int
 num:Option Int
def qE:RS:=⟨0,0,[],[],⟨#[]⟩,none,none,none⟩
def qw(f:Option Int)(at_:Int):Option Int:=match f with|none=>some at_|some x=>some x
def dH(ts:List ak)(st:RS):ak:=ts[st.next]?.getD fZ
def an(ts:List ak)(st:RS):Int:=if st.syn.isSome then 0 else(dH ts st).kind
def dL(ts:List ak)(st:RS):RS:={ st with syn:=qw st.syn (dH ts st).at_ }
def LD:ByteArray:=⟨#[32]⟩
def Lz:ByteArray:=⟨#[10]⟩
def sk(st:RS)(t:ak):RS :=
 { st with page:=if t.kind=27\/t.kind=28 then st.page++t.text.data.toList else(st.page++st.gap.data.toList)++t.text.data.toList,gap:=if t.kind=27 then Lz else LD }
def ii(st:RS):RS:={ st with gap:=Lz }
def b9(ts:List ak)(st:RS):RS:=sk { st with next:=st.next+1 } (dH ts st)
def aC(ts:List ak)(k:Int)(st:RS):RS×ak:=if an ts st=k then(b9 ts st,dH ts st)else(dL ts st,fZ)
def ft(ts:List ak)(k:Int)(st:RS):RS :=
 let st1:=(aC ts k (if st.depth=8 then dL ts st else st)).1
 { st1 with depth:=sD (st1.depth+1) }
def IW(st:RS):RS:={ st with depth:=sD (st.depth-1) }
def ka(ts:List ak)(k:Int)(st:RS):RS:=IW (aC ts k st).1
def eJ(st:RS)(at_:Int):RS:={ st with nam:=qw st.nam at_ }
def jN(st:RS)(at_:Int):RS:={ st with num:=qw st.num at_ }
def j0(st:RS)(name:ByteArray):Bool:=st.defs.any (λ d=>d.name.toList==name.toList)
def bI(ts:List ak)(st:RS):RS×ByteArray :=
 let p:=aC ts 4 st
 (if j0 p.1 p.2.text then eJ p.1 p.2.at_ else p.1,p.2.text)
def fW:List i8->ByteArray->Option dU
 | [],_=>none
 | d::l,n=>if(d.name.toList==n.toList)&&d.set.isSome then d.set else fW l n
def fC:List i8->ByteArray->Option aP
 | [],_=>none
 | d::l,n=>if(d.name.toList==n.toList)&&d.way.isSome then d.way else fC l n
def gE(ts:List ak)(st:RS):RS×Option dU :=
 let p:=aC ts 4 st
 match fW p.1.defs p.2.text with
 | some s=>(p.1,some s)
 | none=>(eJ p.1 p.2.at_,none)
def gF(ts:List ak)(st:RS):RS×Option aP :=
 let p:=aC ts 4 st
 match fC p.1.defs p.2.text with
 | some s=>(p.1,some s)
 | none=>(eJ p.1 p.2.at_,none)
def aM(ts:List ak)(lo hi:Int)(st:RS):RS×Int :=
 let p:=aC ts 2 st
 (if p.2.number<lo\/hi<p.2.number then jN p.1 p.2.at_ else p.1,p.2.number)
def A6(a b:Option bh)(s:Int):Option bh:=match a with|none=>none|some x=>match b with|none=>none|some y=>some (iu x y s)
def jF(ts:List ak)(term:RS->Option (RS×Option bh)):Nat->RS->Option bh->Option (RS×Option bh)
 | 0,_,_=>none
 | n+1,st,a =>
  if an ts st=38 then(match term (b9 ts st)with|none=>none|some (st1,b)=>jF ts term n st1 (A6 a b 1))
  else if an ts st=39 then(match term (b9 ts st)with|none=>none|some (st1,b)=>jF ts term n st1 (A6 a b (-1)))
  else some (st,a)
def nB(ts:List ak)(term:RS->Option (RS×Option bh))(n:Nat)(st:RS):Option (RS×Option bh) :=
 match term st with
 | none=>none
 | some (st1,a)=>jF ts term n st1 a
def fT(ts:List ak)(n:Nat):Nat->RS->Option (RS×Option bh)
 | 0,_=>none
 | f+1,st =>
  if an ts st=2 then some (b9 ts st,some (ie (dH ts st).number))
  else if an ts st=9 then some (b9 ts st,some oJ)
  else if an ts st=10 then some (b9 ts st,some Dl)
  else if an ts st=17 then some (b9 ts st,some Gn)
  else if an ts st=33 then
   (match nB ts (fT ts n f) n (ft ts 33 st)with
    | none=>none
    | some (st1,a)=>some (ka ts 34 st1,a))
  else some (dL ts st,none)
def Oo(ts:List ak)(n f:Nat)(st:RS):Option (RS×Option bh):=nB ts (fT ts n f) n st
def IF(m:aR->aR->aR)(a b:Option aR):Option aR:=match a with|none=>none|some x=>match b with|none=>none|some y=>some (m x y)
def iD(ts:List ak)(k:Int)(m:aR->aR->aR)(read:RS->Option (RS×Option aR)):Nat->RS->Option aR->Option (RS×Option aR)
 | 0,_,_=>none
 | n+1,st,a =>
  if an ts st=k then(match read (b9 ts st)with|none=>none|some (st1,b)=>iD ts k m read n st1 (IF m a b))
  else some (st,a)
def kq(ts:List ak)(k:Int)(m:aR->aR->aR)(read:RS->Option (RS×Option aR))(n:Nat)(st:RS):Option (RS×Option aR) :=
 match read st with
 | none=>none
 | some (st1,a)=>iD ts k m read n st1 a
def MQ(ts:List ak)(nt:RS->Option (RS×Option aR))(n:Nat):RS->Option (RS×Option aR):=kq ts 19 tn nt n
def jW(ts:List ak)(nt:RS->Option (RS×Option aR))(n:Nat):RS->Option (RS×Option aR):=kq ts 18 Ia (MQ ts nt n) n
def Lm(m:bh->bh->aR)(a b:Option bh):Option aR:=match a with|none=>none|some x=>match b with|none=>none|some y=>some (m x y)
def eB(ts:List ak)(sum:RS->Option (RS×Option bh))(st:RS):Option (RS×Option aR) :=
 match sum st with
 | none=>none
 | some (st1,a) =>
  if an ts st1=40 then(match sum (b9 ts st1)with|none=>none|some (st2,b)=>some (st2,Lm H7 a b))
  else(match sum (aC ts 26 st1).1 with|none=>none|some (st2,b)=>some (st2,Lm Lx a b))
def JM(ts:List ak)(sum:RS->Option (RS×Option bh))(st:RS):Option (RS×Option aR) :=
 if an ts st=20\/an ts st=21\/an ts st=23\/an ts st=25\/an ts st=31 then none else eB ts sum st
noncomputable def gw(ts:List ak)(n:Nat)(sum:RS->Option (RS×Option bh)):Nat->RS->Option (RS×Option aR)
 | 0,_=>none
 | f+1,st =>
  if an ts st=20 then
   (match gw ts n sum f (ft ts 20 st)with
    | none=>none
    | some (st1,c)=>some (IW st1,c.map Dx))
  else if an ts st=21 then some ((gE ts (aC ts 22 (b9 ts st)).1).1,(gE ts (aC ts 22 (b9 ts st)).1).2.map qW)
  else if an ts st=23 then some ((gF ts (aC ts 24 (b9 ts st)).1).1,(gF ts (aC ts 24 (b9 ts st)).1).2.map wW)
  else if an ts st=25 then some ((aM ts 0 65535 (b9 ts st)).1,some (nN (aM ts 0 65535 (b9 ts st)).2))
  else if an ts st=31 then
   (match jW ts (gw ts n sum f) n (ft ts 31 st)with
    | none=>none
    | some (st1,c)=>some (ka ts 32 st1,c))
  else eB ts sum st
def kQ:List (Option aJ)->Option (List aJ)
 | []=>some []
 | none::_=>none
 | some x::l=>(kQ l).map (λ t=>x::t)
def ks(c:Option aR)(yes no:List (Option aJ)):Option aJ :=
 match c with
 | none=>none
 | some x=>match kQ yes with
  | none=>none
  | some y=>match kQ no with
   | none=>none
   | some z=>some (gD x y z)
def cf{α:Type}(read:RS->Option (RS×Option α)):Nat->RS->List α->Option (RS×List α)
 | 0,_,_=>none
 | n+1,st,l =>
  match read st with
  | none=>none
  | some (st1,none)=>some (st1,l)
  | some (st1,some x)=>cf read n st1 (l++[x])
def ef(ts:List ak)(stmt:RS->Option (RS×Option (Option aJ)))(n:Nat)(st:RS):Option (RS×List (Option aJ)) :=
 match cf stmt n (ii (ft ts 29 st)) []with
 | none=>none
 | some (st1,l)=>some (ii (ka ts 30 st1),l)
def nZ(ts:List ak)(st:RS):RS:=(aC ts 27 st).1
def cH(ts:List ak)(n:Nat)(ok:Int->Bool)(sum:RS->Option (RS×Option bh))(cnd:RS->Option (RS×Option aR)):Nat->RS->Option (RS×Option (Option aJ))
 | 0,_=>none
 | f+1,st =>
  if ok (an ts st)=false then none
  else if an ts st=14 then
   (match cnd (b9 ts st)with
    | none=>none
    | some (st1,c) =>
     match ef ts (cH ts n ok sum cnd f) n (aC ts 15 st1).1 with
     | none=>none
     | some (st2,yes) =>
      if an ts st2=16 then
       (match ef ts (cH ts n ok sum cnd f) n (b9 ts st2)with
       | none=>none
       | some (st3,no)=>some (st3,some (ks c yes no)))
      else some (st2,some (ks c yes [])))
  else if an ts st=7 then some (nZ ts (b9 ts st),some (some (ci 1)))
  else if an ts st=8 then some (nZ ts (b9 ts st),some (some (ci 2)))
  else if an ts st=9 then
   (match sum (aC ts 26 (b9 ts st)).1 with
    | none=>none
    | some (st1,a)=>some (nZ ts st1,some (a.map gy)))
  else if an ts st=10 then
   (match sum (aC ts 26 (b9 ts st)).1 with
    | none=>none
    | some (st1,a)=>some (nZ ts st1,some (a.map iX)))
  else if an ts st=11 then some (nZ ts (aM ts 0 65535 (b9 ts st)).1,some (some (jj (aM ts 0 65535 (b9 ts st)).2)))
  else if an ts st=12 then some (nZ ts (aM ts 0 65535 (b9 ts st)).1,some (some (iY (aM ts 0 65535 (b9 ts st)).2)))
  else if an ts st=13 then some (nZ ts (aM ts 1 65535 (b9 ts st)).1,some (some (dM (aM ts 1 65535 (b9 ts st)).2)))
  else some (st,none)
def jo(ts:List ak)(n:Nat)(stmt:RS->Option (RS×Option (Option aJ)))(st:RS):Option (RS×List (Option aJ)) :=
 match cf stmt n st []with
 | none=>none
 | some (st1,l) =>
  let st2:=if l.length=0 then dL ts st1 else st1
  some (if an ts st2=1 then st2 else dL ts st2,l)
def ax(w:World)(A:Nat->Prop)(Q:(Nat->Prop)->World->Prop):Prop :=
 ∃ K:Nat->Prop,(∀ k,K k->k<w.heap.size/\A k)/\∀ W,w.heap.size<=W.heap.size->(∀ k,K k->W.heap[k]?=w.heap[k]?)->Q K W
theorem ax.mono{w w':World}{A A':Nat->Prop}{Q Q':(Nat->Prop)->World->Prop}(h:ax w A Q)(hs:w.heap.size<=w'.heap.size)(hb:∀ k,k<w.heap.size->A k->w'.heap[k]?=w.heap[k]?/\A' k)(hq:∀ K W,Q K W->Q' K W):ax w' A' Q':=by
 obtain⟨K,hK,hQ⟩:=h;exact⟨K,λ k hk=>⟨gY (hK k hk).1 hs,(hb k (hK k hk).1 (hK k hk).2).2⟩,λ W hW hk=>hq _ _ (hQ W (gG hs hW) (λ k h=>(hk k h).trans (hb k (hK k h).1 (hK k h).2).1))⟩
theorem ax.allow{w:World}{A A':Nat->Prop}{Q:(Nat->Prop)->World->Prop}(h:ax w A Q)(hb:∀ k,k<w.heap.size->A k->A' k):ax w A' Q :=
 h.mono (aL _) (λ k hk ha=>⟨rfl,hb k hk ha⟩) (λ _ _ h=>h)
def cW(O D:Nat->Prop)(n:Nat)(k:Nat):Prop:=¬O k/\(D k\/n<=k)
theorem ax.fr{w w':World}{O O' D:Nat->Prop}{n m:Nat}{Q:(Nat->Prop)->World->Prop}(h:ax w (cW O D n) Q)(hf:Fr O w O' w')(hm:m<=n):ax w' (cW O' D m) Q:=by
 refine h.mono hf.size (λ k hk ha=>⟨hf.block k hk ha.1,⟨λ ho=>?_,?_⟩⟩) (λ _ _ h=>h)
 ·rcases hf.own k ho with h1|h1
  ·exact ha.1 h1
  omega
 rcases ha.2 with h1|h1
 ·exact inl h1
 exact inr (by omega)
abbrev au(pb o:Nat):Value:=.pointer (some ⟨pb,o,none⟩)
def du(l:List ak):List Value:=l.flatMap λ t=>[.int .i64 t.kind,.int .i64 t.at_,.string t.text,.int .i64 t.number,.int .i64 t.addr,.int .i64 t.len]
def iJ(l:List UInt8):List Value:=l.map λ b=>.int .u8 (b.toNat:Int)
def sB(f:Option Int):Value:=.bool f.isSome
def A0(f:Option Int):Value:=.int .i64 (f.getD 0)
def iw(tv dv av bv:Value)(st:RS):Array Value :=
 #[tv,.int .i64 (st.next:Int),.int .i64 st.depth,dv,av,bv,.string st.gap,sB st.syn,A0 st.syn,sB st.nam,A0 st.nam,sB st.num,A0 st.num]
def Ig(v:Value)(C:Nat->Array Value->Prop):Prop:=∃ g lb,v=.func (.func g) #[] lb/\Enters prog g/\C g lb
def sj(v:Value)(m:dU)(_K:Nat->Prop)(W:World):Prop :=
 Ig v λ g lb=>∀(V:World) (a l:Int),Below W.heap.size W V->Calls prog g (#[.agg #[.int .i64 a,.int .i64 l]]++lb) V λ e V'=>e=.returned (.bool (m a l))/\Below V.heap.size V V'
def f9(W:World)(v:Value)(l:List Int):Prop:=∃ p c,v=.slice p l.length c/\(l=[]\/∃ b o,p=some ⟨b,o,none⟩/\b<W.heap.size/\∀ j,(h:j<l.length)->W.cell? ⟨b,o+j,none⟩=some (.int .i64 l[j]))
theorem f9.below{w w':World}{v:Value}{l:List Int}(h:f9 w v l)(hb:Below w.heap.size w w'):f9 w' v l:=by
 obtain⟨p,c,hv,hr⟩:=h;refine⟨p,c,hv,?_⟩;rcases hr with h|⟨b,o,hp,hlt,hc⟩
 ·exact inl h
 exact inr ⟨b,o,hp,gY hlt hb.size,λ j hj=>(hb.cell (p:=⟨b,o+j,none⟩) hlt).trans (hc j hj)⟩
def kP(v:Value)(m:aP)(_K:Nat->Prop)(W:World):Prop :=
 Ig v λ g lb=>∀(V:World) (pv:Value) (l:List Int) (f:Nat),Below W.heap.size W V->f9 V pv l->l.length<=12->f<2 ^ (l.length+1)->Calls prog g (#[pv,.int .u16 (f:Int)]++lb) V λ e V'=>(∃ r:Nat,e=.returned (.int .u16 (r:Int))/\ek m l f r)/\Below V.heap.size V V'
def dr(l:List (ByteArray×Value×Value)):List Value:=l.flatMap λ d=>[.string d.1,d.2.1,d.2.2]
def lG(w:World)(A:Nat->Prop)(d:i8)(x:ByteArray×Value×Value):Prop :=
 x.1=d.name/\(match d.set with|none=>x.2.1=.nilFunc|some m=>ax w A (sj x.2.1 m))/\(match d.way with|none=>x.2.2=.nilFunc|some m=>ax w A (kP x.2.2 m))
theorem lG.mono{w w':World}{A A':Nat->Prop}{d:i8}{x:ByteArray×Value×Value}(h:lG w A d x)(hs:w.heap.size<=w'.heap.size)(hb:∀ k,k<w.heap.size->A k->w'.heap[k]?=w.heap[k]?/\A' k):lG w' A' d x:=by
 obtain⟨h1,h2,h3⟩:=h;refine⟨h1,?_,?_⟩
 ·cases hd:d.set with
  | none=>rw [hd]at h2;exact h2
  | some m=>rw [hd]at h2;exact h2.mono hs hb (λ _ _ h=>h)
 cases hd:d.way with
 | none=>rw [hd]at h3;exact h3
 | some m=>rw [hd]at h3;exact h3.mono hs hb (λ _ _ h=>h)
def xU(w:World)(A:Nat->Prop)(dv:Value)(defs:List i8):Prop :=
 ∃ xs:List (ByteArray×Value×Value),w.ownsRow 0 222 3 dv defs.length (dr xs)/\xs.length=defs.length/\∀(i:Nat) (d:i8) (x:ByteArray×Value×Value),defs[i]?=some d->xs[i]?=some x->lG w A d x
theorem xU.mono{w w':World}{A A':Nat->Prop}{dv:Value}{defs:List i8}(h:xU w A dv defs)(hs:w.heap.size<=w'.heap.size)(hd:∀ k,dv.ownBlock=some k->w'.heap[k]?=w.heap[k]?)(hb:∀ k,k<w.heap.size->A k->w'.heap[k]?=w.heap[k]?/\A' k):xU w' A' dv defs:=by
 obtain⟨xs,h1,h2,h3⟩:=h;exact⟨xs,ay h1 hd,h2,λ i d x hi hx=>(h3 i d x hi hx).mono hs hb⟩
def dV(pb tb:Nat)(dv bv:Value)(k:Nat):Prop:=k=pb\/k=tb\/bv.ownBlock=some k\/dv.ownBlock=some k
structure oS(w:World)(pb:Nat)(ts:List ak)(st:RS)(D:Nat->Prop)(tb tc:Nat)(dv av bv:Value):Prop where
 blk:w.heap[pb]?=some (.cells (iw (.slice (some ⟨tb,0,none⟩) ts.length tc) dv av bv st) 134 (0,0))
 toks:w.ownsRow 0 140 6 (.slice (some ⟨tb,0,none⟩) ts.length tc) ts.length (du ts)
 page:w.ownsRow 0 5 1 bv st.page.length (iJ st.page)
 used:av=.pointer none\/av=au pb 4
 defs:xU w (λ k=>¬dV pb tb dv bv k/\D k) dv st.defs
 ne1:tb≠pb
 ne2:bv.ownBlock≠some pb
 ne3:bv.ownBlock≠some tb
 ne4:dv.ownBlock≠some pb
 ne5:dv.ownBlock≠some tb
 ne6:bv.ownBlock=none\/bv.ownBlock≠dv.ownBlock
 free:∀ k,D k->k<w.heap.size/\¬dV pb tb dv bv k
def RA(w:World)(pb:Nat)(ts:List ak)(st:RS)(D O:Nat->Prop):Prop:=∃ tb tc dv av bv,oS w pb ts st D tb tc dv av bv/\O=dV pb tb dv bv
theorem oS.lt{w:World}{pb:Nat}{ts:List ak}{st:RS}{D:Nat->Prop}{tb tc:Nat}{dv av bv:Value}(h:oS w pb ts st D tb tc dv av bv){k:Nat}(hk:dV pb tb dv bv k):k<w.heap.size:=by
 obtain⟨xs,hd,_⟩:=h.defs;rcases hk with rfl|rfl|hk|hk
 ·exact ah h.blk
 ·exact(h.toks.lt k rfl).2
 ·exact(h.page.lt k hk).2
 exact(hd.lt k hk).2
theorem oS.keep{w w':World}{pb:Nat}{ts:List ak}{st:RS}{D:Nat->Prop}{tb tc:Nat}{dv av bv:Value}(h:oS w pb ts st D tb tc dv av bv)(hs:w.heap.size<=w'.heap.size)
  (hk:∀ k,k<w.heap.size->dV pb tb dv bv k\/D k->w'.heap[k]?=w.heap[k]?):oS w' pb ts st D tb tc dv av bv:=by
 have ho:∀ k,dV pb tb dv bv k->w'.heap[k]?=w.heap[k]?:=λ k h1=>hk k (h.lt h1) (inl h1)
 refine⟨(ho pb (inl rfl)).trans h.blk,ay h.toks (λ k e=>ho k ?_),ay h.page (λ k e=>ho k (inr (inr (inl e)))),h.used,h.defs.mono hs (λ k e=>ho k (inr (inr (inr e)))) (λ k hl ha=>⟨hk k hl (inr ha.2),ha⟩),h.ne1,h.ne2,h.ne3,h.ne4,h.ne5,h.ne6,λ k hd=>⟨gY (h.free k hd).1 hs,(h.free k hd).2⟩⟩;obtain rfl:tb=k:=by simpa [Value.ownBlock]using e
 exact inr (inl rfl)
theorem oS.set{w w':World}{pb:Nat}{ts:List ak}{st st':RS}{D:Nat->Prop}{tb tc:Nat}{dv av bv:Value}(h:oS w pb ts st D tb tc dv av bv)(hs:w.heap.size<=w'.heap.size)
  (hb:w'.heap[pb]?=some (.cells (iw (.slice (some ⟨tb,0,none⟩) ts.length tc) dv av bv st') 134 (0,0))) (hp:st'.page=st.page) (hd:st'.defs=st.defs)
  (hk:∀ k,k<w.heap.size->k≠pb->dV pb tb dv bv k\/D k->w'.heap[k]?=w.heap[k]?):oS w' pb ts st' D tb tc dv av bv:=by
 refine⟨hb,ay h.toks (λ k e=>?_),?_,h.used,?_,h.ne1,h.ne2,h.ne3,h.ne4,h.ne5,h.ne6,λ k hd=>⟨gY (h.free k hd).1 hs,(h.free k hd).2⟩⟩
 ·obtain rfl:tb=k:=by simpa [Value.ownBlock]using e
  exact hk tb (h.lt (inr (inl rfl))) h.ne1 (inl (inr (inl rfl)))
 ·rw [hp];exact ay h.page (λ k e=>hk k (h.lt (inr (inr (inl e)))) (λ e2=>h.ne2 (by rw [e,e2])) (inl (inr (inr (inl e)))))
 rw [hd];exact h.defs.mono hs (λ k e=>hk k (h.lt (inr (inr (inr e)))) (λ e2=>h.ne4 (by rw [e,e2])) (inl (inr (inr (inr e))))) (λ k hl ha=>⟨hk k hl (λ e=>ha.1 (inl e)) (inr ha.2),ha⟩)
theorem RA.lt{w:World}{pb:Nat}{ts:List ak}{st:RS}{D O:Nat->Prop}(h:RA w pb ts st D O){k:Nat}(hk:O k):k<w.heap.size:=by
 obtain⟨tb,tc,dv,av,bv,h,rfl⟩:=h;exact h.lt hk
theorem RA.own{w:World}{pb:Nat}{ts:List ak}{st:RS}{D O:Nat->Prop}(h:RA w pb ts st D O):O pb:=by
 obtain⟨tb,tc,dv,av,bv,h,rfl⟩:=h;exact inl rfl
theorem RA.free{w:World}{pb:Nat}{ts:List ak}{st:RS}{D O:Nat->Prop}(h:RA w pb ts st D O){k:Nat}(hk:D k):k<w.heap.size/\¬O k:=by
 obtain⟨tb,tc,dv,av,bv,h,rfl⟩:=h;exact h.free k hk
theorem RA.stay{w w':World}{pb:Nat}{ts:List ak}{st:RS}{D O:Nat->Prop}(h:RA w pb ts st D O)(hb:Below w.heap.size w w'):RA w' pb ts st D O:=by
 obtain⟨tb,tc,dv,av,bv,h,rfl⟩:=h;exact⟨tb,tc,dv,av,bv,h.keep hb.size (λ k hk _=>hb.block k hk),rfl⟩
theorem RA.drew{w:World}{pb:Nat}{ts:List ak}{st:RS}{D O:Nat->Prop}(h:RA w pb ts st D O):RA w.drew pb ts st D O:=h.stay (aY _ _).drew
theorem RA.drewN{w:World}{pb:Nat}{ts:List ak}{st:RS}{D O:Nat->Prop}(h:RA w pb ts st D O)(n:Nat):RA (w.drewN n) pb ts st D O:=h.stay (below_drewN (aY _ _) n)
theorem RA.alloc{w:World}{pb:Nat}{ts:List ak}{st:RS}{D O:Nat->Prop}(h:RA w pb ts st D O)(o:Obj):RA (w.alloc o) pb ts st D O:=h.stay ((aY _ _).alloc (aL _) _)
theorem RA.other{w:World}{pb b:Nat}{ts:List ak}{st:RS}{D O:Nat->Prop}(h:RA w pb ts st D O)(hb:¬O b/\¬D b)(o:Nat)(v:Value):RA (w.setCell ⟨b,o,none⟩ v) pb ts st D O:=by
 obtain⟨tb,tc,dv,av,bv,h,rfl⟩:=h;refine⟨tb,tc,dv,av,bv,h.keep (by simp [World.setCell]) (λ k _ hk=>ai (λ e=>?_)),rfl⟩;rcases hk with h1|h1
 ·exact hb.1 ((show k=b from e)▸h1)
 exact hb.2 ((show k=b from e)▸h1)
structure bY(ts:List ak):Prop where
 n1:ts.length<=601
 last:∀ i (h:i<ts.length),2<=ts[i].kind->i+1<ts.length
 text:∀ i (h:i<ts.length),ts[i].text.size<=600
structure Ok(ts:List ak)(st:RS):Prop where
 next:st.next<ts.length
 page:st.page.length<=700*st.next
 gap:st.gap.size<=1
theorem mw{ts:List ak}{st:RS}(h:st.next<ts.length):dH ts st=ts[st.next]:=by simp [dH,h]
theorem zk{l:List ak}{i:Nat}(h:i<l.length):(du l)[6*i]?=some (.int .i64 l[i].kind)/\(du l)[6*i+1]?=some (.int .i64 l[i].at_)/\(du l)[6*i+2]?=some (.string l[i].text)/\(du l)[6*i+3]?=some (.int .i64 l[i].number)/\(du l)[6*i+4]?=some (.int .i64 l[i].addr)/\(du l)[6*i+5]?=some (.int .i64 l[i].len):=by
 induction l generalizing i with
 | nil=>simp at h
 | cons a l ih =>
  cases i with
  | zero=>simp [du]
  | succ i =>
   have:=ih (i:=i) (by simpa using h);simpa [du,Nat.mul_add,Nat.add_right_comm _ 6]using this
theorem oS.tok{w:World}{pb:Nat}{ts:List ak}{st:RS}{D:Nat->Prop}{tb tc:Nat}{dv av bv:Value}(h:oS w pb ts st D tb tc dv av bv)(hi:st.next<ts.length) :
  w.cell? ⟨tb,st.next*6,none⟩=some (.int .i64 (dH ts st).kind)/\w.cell? ⟨tb,st.next*6+1,none⟩=some (.int .i64 (dH ts st).at_)/\w.cell? ⟨tb,st.next*6+2,none⟩=some (.string (dH ts st).text)/\w.cell? ⟨tb,st.next*6+3,none⟩=some (.int .i64 (dH ts st).number)/\w.cell? ⟨tb,st.next*6+4,none⟩=some (.int .i64 (dH ts st).addr)/\w.cell? ⟨tb,st.next*6+5,none⟩=some (.int .i64 (dH ts st).len):=by
 rw [mw hi];obtain⟨_,h2⟩:=h.toks;rcases h2 with⟨h2,_⟩|⟨g,cap,cur,hv,hb,hg,hn,hm,hs,ht⟩
 ·cases h2
 cases hv
 obtain⟨g0,g1,g2,g3,g4,g5⟩:=zk hi
 have hx:∀ j v,(du ts)[j]?=some v->w.cell? ⟨tb,j,none⟩=some v:=λ j v hj=>by
  rw [ag hg,<-Array.getElem?_toList];rw [<-ht]at hj;rw [List.getElem?_take]at hj;split at hj
  ·exact hj
  cases hj
 rw [Nat.mul_comm st.next 6];exact⟨hx _ _ g0,hx _ _ g1,hx _ _ g2,hx _ _ g3,hx _ _ g4,hx _ _ g5⟩
theorem Jq{w:World}{pb:Nat}{ts:List ak}{st:RS}{D O:Nat->Prop}(h:RA w pb ts st D O)(hk:st.next<ts.length)(_hn:ts.length<=601) :
  Calls prog 90 #[au pb 0] w λ e w'=>e=.returned (.int .i64 (an ts st))/\∃ q,w'=w.drewN q:=by
 obtain⟨tb,tc,dv,av,bv,h,rfl⟩:=h;have c0:w.cell? ⟨pb,0,none⟩=some (.slice (some ⟨tb,0,none⟩) ts.length tc):=ag h.blk;have c1:w.cell? ⟨pb,1,none⟩=some (.int .i64 (st.next:Int)):=ag h.blk;have c7:w.cell? ⟨pb,7,none⟩=some (sB st.syn):=ag h.blk;have t0:=(h.tok hk).1;have E0:=af (show an ts st=if st.syn.isSome then 0 else(dH ts st).kind from rfl);clear h;generalize hl:ts.length=N at *;generalize hx:st.next=n at *;generalize (dH ts st).kind=K at *;cases hs:st.syn with
 | none =>
  rw [hs]at c7;have c7':w.cell? ⟨pb,7,none⟩=some (.bool false):=c7;clear c7;go_enter func90,ntmps90;go_wp2_with fail;go_region
  go_wp2_with fail;go_ret;refine⟨?_,1,rfl⟩;rw [ae E0,hs];rfl
 | some x =>
  rw [hs]at c7;have c7':w.cell? ⟨pb,7,none⟩=some (.bool true):=c7;clear c7;go_enter func90,ntmps90;go_wp2_with fail;go_ret;refine⟨?_,0,rfl⟩;rw [ae E0,hs];rfl
theorem oS.synSet{w:World}{pb:Nat}{ts:List ak}{st:RS}{D:Nat->Prop}{tb tc:Nat}{dv av bv:Value}(h:oS w pb ts st D tb tc dv av bv){o:Nat}(x:Int)(st':RS)(hp:st'.page=st.page)(hd:st'.defs=st.defs)
  (hc:((iw (.slice (some ⟨tb,0,none⟩) ts.length tc) dv av bv st).setIfInBounds o (.bool true)).setIfInBounds (o+1) (.int .i64 x)=iw (.slice (some ⟨tb,0,none⟩) ts.length tc) dv av bv st') :
  oS ((w.setCell ⟨pb,o,none⟩ (.bool true)).setCell ⟨pb,o+1,none⟩ (.int .i64 x)) pb ts st' D tb tc dv av bv:=by
 refine h.set (by simp [World.setCell]) ?_ hp hd (λ k _ hk _=>by rw [ai hk,ai hk]);rw [aV (aV h.blk),hc]
theorem vu(w:World)(pb o:Nat)(f:Option Int)(x:Int)(c:Array Value)(hb:w.heap[pb]?=some (.cells c 134 (0,0)))(h0:c[o]?=some (sB f))(h1:c[o+1]?=some (A0 f)) :
  Calls prog 154 #[au pb o,.int .i64 x] w λ e w'=>e=.returned (.tuple #[])/\w'=if f.isSome then w else(w.setCell ⟨pb,o,none⟩ (.bool true)).setCell ⟨pb,o+1,none⟩ (.int .i64 x):=by
 have c0:w.cell? ⟨pb,o,none⟩=some (sB f):=(ag hb).trans h0;have c1:w.cell? ⟨pb,o+1,none⟩=some (A0 f):=(ag hb).trans h1;have z0:w.frozen? ⟨pb,o,none⟩=false:=aj hb;have z1:w.frozen? ⟨pb,o+1,none⟩=false:=aj hb;clear hb h0 h1;cases f with
 | none =>
  have c0':w.cell? ⟨pb,o,none⟩=some (.bool false):=c0;have c1':w.cell? ⟨pb,o+1,none⟩=some (.int .i64 0):=c1;clear c0 c1;go_enter func154,ntmps154;go_wp2_with fail
  go_end0
  exact⟨rfl,rfl⟩
 | some y =>
  have c0':w.cell? ⟨pb,o,none⟩=some (.bool true):=c0;clear c0 c1;go_enter func154,ntmps154;go_wp2_with fail
  go_end0
  exact⟨rfl,rfl⟩
theorem jf{w:World}{pb:Nat}{ts:List ak}{st:RS}{D O:Nat->Prop}(h:RA w pb ts st D O)(hk:st.next<ts.length)(_hn:ts.length<=601) :
  Calls prog 91 #[au pb 0] w λ e w'=>e=.returned (.tuple #[])/\RA w' pb ts (dL ts st) D O/\Fr O w O w':=by
 obtain⟨tb,tc,dv,av,bv,h,rfl⟩:=h;have c0:w.cell? ⟨pb,0,none⟩=some (.slice (some ⟨tb,0,none⟩) ts.length tc):=ag h.blk;have c1:w.cell? ⟨pb,1,none⟩=some (.int .i64 (st.next:Int)):=ag h.blk;have t1:=(h.tok hk).2.1
 have HT:Hid (∀ q,Calls prog 154 #[au pb 7,.int .i64 (dH ts st).at_] (w.drewN q) λ e w'=>e=.returned (.tuple #[])/\w'=if st.syn.isSome then(w.drewN q)else((w.drewN q).setCell ⟨pb,7,none⟩ (.bool true)).setCell ⟨pb,8,none⟩ (.int .i64 (dH ts st).at_)) :=
  λ q=>vu (w.drewN q) pb 7 st.syn _ _ h.blk rfl rfl
 have HZ:Hid (∀ q w',(w'=if st.syn.isSome then(w.drewN q)else((w.drewN q).setCell ⟨pb,7,none⟩ (.bool true)).setCell ⟨pb,8,none⟩ (.int .i64 (dH ts st).at_))->RA w' pb ts (dL ts st) D (dV pb tb dv bv)/\Fr (dV pb tb dv bv) w (dV pb tb dv bv) w'):=by
  intro q w' hw;cases hs:st.syn with
  | none =>
   rw [hs]at hw;subst hw;have hD:oS (w.drewN q) pb ts st D tb tc dv av bv:=h.keep (aL _) (λ _ _ _=>rfl);refine⟨⟨tb,tc,dv,av,bv,hD.synSet (o:=7) _ (dL ts st) rfl rfl ?_,rfl⟩,(((dw _ _).drewN q).setCell (inl (inl rfl)) _).setCell (inl (inl rfl)) _⟩;simp [iw,dL,hs,qw,sB,A0]
  | some y =>
   rw [hs]at hw;subst hw;refine⟨⟨tb,tc,dv,av,bv,?_,rfl⟩,(dw _ _).drewN q⟩;have e:dL ts st=st:=by simp [dL,hs,qw];rw [<-hs]
   rw [e];exact h.keep (aL _) (λ _ _ _=>rfl)
 have HC:Hid (∀ q,Calls prog 154 #[au pb 7,.int .i64 (dH ts st).at_] (w.drewN q) λ e w'=>e=.returned (.tuple #[])/\Hid (RA w' pb ts (dL ts st) D (dV pb tb dv bv)/\Fr (dV pb tb dv bv) w (dV pb tb dv bv) w')) :=
  λ q=>((ae HT) q).mono (λ e w' ⟨he,hw⟩=>⟨he,af ((ae HZ) q w' hw)⟩)
 clear h HT HZ;generalize hl:ts.length=N at *;generalize hx:st.next=n at *;generalize (dH ts st).at_=K at *;go_enter func91,ntmps91;go_region_with (go_at_call 154;refine((ae HC) 1).mono ?_;rintro e w' ⟨rfl,hw⟩)
 all_goals (go_end0;exact⟨rfl,ae hw⟩)
theorem La{P:Program}(w:World)(t u ty e:TypeId)(i:TypeInfo)(ht:P.underlying t=some (.slice e))(hu:P.underlying u=some .string)(hi:P.info? e=some i)(hz:i.zero=some (.int .u8 0))
  (hsize:i.size=1) (hby:i.bytes=1) (v:Value) (n:Nat) (xs:List Value) (hown:w.ownsRow 0 e 1 v n xs) (s:ByteArray) (h63:n+s.size<=1000000000) :
  ∃ v' w',(Builtin.append_ #[t,u] ty #[v,.string s]).run P w=.ok v' w'/\w'.ownsRow 0 e 1 v' (n+s.size) (xs++Lib.strCells s)/\w.grownBy w' v.ownBlock/\(v'.ownBlock=v.ownBlock\/v'.ownBlock=some w.heap.size):=by
 obtain⟨v',w',hr,h2,h3,h4⟩:=Lib.run_append_own_string (P:=P) w 0 t u ty e i ht hu hi hz hsize hby v n xs hown s (by unfold maxLen;omega) (by omega) (dG _);refine⟨v',w',hr,h2,h3,?_⟩;have hxl:xs.length=n:=by simpa using hown.1
 have hk:=hown;rcases hown.2 with⟨rfl,rfl⟩|⟨g,cap,cur,rfl,hbg,hg,hnc,hcm,hcs,htake⟩
 ·have hx:xs=[]:=List.eq_nil_of_length_eq_zero hxl;subst hx;obtain⟨v2,w2,hr2,g2,_,_⟩:=Lib.run_append_own_string (P:=P) w w.heap.size t u ty e i ht hu hi hz hsize hby (.slice none 0 0) 0 [] (i7 w w.heap.size e 1) s (by unfold maxLen;omega) (by omega) (aL _);rw [hr]at hr2;cases hr2
  rcases g2.2 with⟨rfl,_⟩|⟨g,cap,cur,rfl,hb,hg,_⟩
  ·exact inl rfl
  right;have h5:g<w'.heap.size:=ah hg;by_cases hm:s.size=0
  ·have:=(h4.2 ⟨rfl,hm⟩);cases this
  have hr3:=run_append_nil_string (P:=P) w t u ty e i (.int .u8 0) ht hu hi hz s (by omega) (by omega) (by rw [hby];omega);rw [hr]at hr3
  injection hr3 with e1 _
  injection e1 with e2 _ _
  injection e2 with e3
  injection e3 with e4
  show some g=_;rw [e4]
 by_cases hroom:n+s.size<=cap
 ·have hcs':cur.size=cap:=by simpa using hcs
  have hr2:=Lib.run_append_room_string (P:=P) w t u ty e i ht hu hi hsize g n cap cur hg s hroom (by omega);rw [hr]at hr2;cases hr2
  exact inl rfl
 have holds:∀ j u,xs[j]?=some u->w.cell? ((⟨g,0,none⟩:Addr).add j)=some u:=hk.cells (g:=g) rfl;have hr2:=Lib.run_append_grow_string (P:=P) w t u ty e i (.int .u8 0) ht hu hi hz ⟨g,0,none⟩ n cap xs (by rw [hsize];simpa using hxl) holds s (by omega) (by omega) (by rw [hby];exact growslice_fits (by omega) (by omega));rw [hr]at hr2;cases hr2
 exact inr rfl
theorem vD{P:Program}{w:World}{ops:Array Oper}{rest:List Oper}{o:Oper}{a:Act}{Q:Exit->Act->World->Prop}(hgd:o.guard=none)(sl x:Operand)(t u:TypeId)
  (ho:o.op=.call { callee:=.builtin .append,args:=#[sl,x],argTypes:=#[t,u] }) (e:TypeId) (i:TypeInfo) (ht:P.underlying t=some (.slice e)) (hu:P.underlying u=some .string) (hi:P.info? e=some i) (hz:i.zero=some (.int .u8 0))
  (hsize:i.size=1) (hby:i.bytes=1) (v:Value) (n:Nat) (xs:List Value) (hs:a.eval sl=v) (hown:w.ownsRow 0 e 1 v n xs) (s:ByteArray) (hx:a.eval x=.string s) (h63:n+s.size<=1000000000)
  (h:∀ v' w',w'.ownsRow 0 e 1 v' (n+s.size) (xs++Lib.strCells s)->w.grownBy w' v.ownBlock->(v'.ownBlock=v.ownBlock\/v'.ownBlock=some w.heap.size)->wpList P ops Q rest (a.put o.dst v') w'):wpList P ops Q (o::rest) a w:=by
 refine wpList_plain hgd λ K hK=>?_
 obtain⟨v',w',hr,h2,h3,h4⟩:=La (P:=P) w t u o.type e i ht hu hi hz hsize hby v n xs hown s h63;unfold Oper.wp execOp;simp only [ho,resolve,invoke,builtin,Sem.run_bind,Sem.run_pure,Result.andThen_ok,List.map_toArray,List.map_cons,List.map_nil,hs,hx,hr];exact hK _ _ (h v' w' h2 h3 h4)
theorem Tryz.infoByte:(prog.info? 5).map (λ i=>(i.zero,i.size,i.bytes))=some (some (.int .u8 0),1,1):=by kernel_rfl
theorem Tryz.sizeBuilder:(prog.info? 128).map (λ i=>i.size)=some 2:=by kernel_rfl
theorem Tryz.liesBuilder:liesAt prog prog.depth 134 (13 / prog.cellsOf 134) 4 128 1=true:=by kernel_rfl
theorem tM(pb:Nat)(w:World)(h0:w.cell? ⟨pb,4,none⟩=some (au pb 4)) :
  Calls prog 236 #[au pb 4] w λ e w'=>e=.returned (.tuple #[])/\w'=w:=by
 obtain⟨j,hj,_⟩:=Option.map_eq_some_iff.1 Tryz.sizeBuilder;go_enter func236,ntmps236;go_wp2_with fail;rw [Lib.run_neq_ptr_same w _ underlying126 hj];go_wp2_with fail
 go_end0
 exact⟨rfl,rfl⟩
theorem vQ(pb:Nat)(w:World)(h0:w.cell? ⟨pb,4,none⟩=some (.pointer none))(hsh:w.shape? pb=some (134,13))(hfz:w.frozen? ⟨pb,4,none⟩=false) :
  Calls prog 236 #[au pb 4] w λ e w'=>e=.returned (.tuple #[])/\w'=w.setCell ⟨pb,4,none⟩ (au pb 4):=by
 obtain⟨j,hj,hjs⟩:=Option.map_eq_some_iff.1 Tryz.sizeBuilder;go_enter func236,ntmps236;go_wp2_with fail;rw [Lib.run_to_unsafe w ⟨pb,4,none⟩ underlying126 underlying329 hj (by rw [hjs];decide) hsh (show 4<13 by decide)];simp only [Result.andThen];rw [Oper.upon_value];go_wp2_with fail;rw [run_callFunc_extern func259 (by kernel_rfl) (by kernel_rfl) (by kernel_rfl) (e:=Extern.AbiNoEscape.same) (by kernel_rfl)];rw [Lib.run_noEscape];simp only [Result.andThen];rw [Oper.upon_value];go_wp2_with fail;rw [Lib.run_from_unsafe w ⟨pb,4,none⟩ underlying329 underlying126 hj hsh Tryz.liesBuilder];simp only [Result.andThen];rw [Oper.upon_value];go_wp2_with fail
 go_end0
 exact⟨rfl,rfl⟩
