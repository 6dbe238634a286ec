/- part -/
import Derived.Test.YtgdeeodifnegiaaGreatDoorPlainM
import Derived.Deep.MidRow
import Derived.Deep.RegionWith
import Derived.Deep.DeepCutAuto
import Derived.Deep.CutBlock
import Derived.Laws.BitsLemmas
import Derived.Ground.Names2Prog
import Derived.Shelf.Strings.Shaped
import Derived.Shelf.Strings.SplitShaped
import Derived.Test.YtgdeeodifnegiaaGreatDoorChecked
set_option maxRecDepth 100000
set_option maxHeartbeats 4000000
namespace Go.Proofs.YtgdeeodifnegiaaGreatDoor
open Go.Proofs.Tryz
open Or
open Go.RowKit
open Go.Shelf
abbrev pP:=@congrArg
def g8:List Value:=[.string ⟨#[115,101,116]⟩,.int .i64 5,.string ⟨#[119,97,121]⟩,.int .i64 6,.string ⟨#[97,99,99,101,112,116]⟩,.int .i64 7,.string ⟨#[114,101,106,101,99,116]⟩,.int .i64 8,.string ⟨#[112,114,101,102]⟩,.int .i64 9,.string ⟨#[109,101,100]⟩,.int .i64 10,.string ⟨#[109,97,114,107]⟩,.int .i64 11,.string ⟨#[117,110,109,97,114,107]⟩,.int .i64 12,.string ⟨#[112,114,101,112,101,110,100]⟩,.int .i64 13,.string ⟨#[105,102]⟩,.int .i64 14,.string ⟨#[116,104,101,110]⟩,.int .i64 15,.string ⟨#[101,108,115,101]⟩,.int .i64 16,.string ⟨#[108,101,110]⟩,.int .i64 17,.string ⟨#[111,114]⟩,.int .i64 18,.string ⟨#[97,110,100]⟩,.int .i64 19,.string ⟨#[110,111,116]⟩,.int .i64 20,.string ⟨#[110,101,116]⟩,.int .i64 21,.string ⟨#[105,110]⟩,.int .i64 22,.string ⟨#[112,97,116,104]⟩,.int .i64 23,.string ⟨#[108,105,107,101]⟩,.int .i64 24,.string ⟨#[109,97,114,107,101,100]⟩,.int .i64 25]
def gZ:List Value:=[.int .u8 61,.int .i64 26,.int .u8 59,.int .i64 27,.int .u8 44,.int .i64 28,.int .u8 123,.int .i64 29,.int .u8 125,.int .i64 30,.int .u8 91,.int .i64 31,.int .u8 93,.int .i64 32,.int .u8 40,.int .i64 33,.int .u8 41,.int .i64 34,.int .u8 124,.int .i64 35,.int .u8 42,.int .i64 36,.int .u8 63,.int .i64 37,.int .u8 43,.int .i64 38,.int .u8 45,.int .i64 39,.int .u8 60,.int .i64 40,.int .u8 46,.int .i64 41]
def sd(w:World):Prop:=3<w.heap.size/\∃ m,w.cell? ⟨3,0,none⟩=some (.int .i64 m)
theorem sd.below{w w':World}(h:sd w)(hb:Below w.heap.size w w'):sd w':=by
 obtain⟨hl,m,hm⟩:=h;exact⟨eV hl hb.size,m,(hb.cell (p:=⟨3,0,none⟩) hl).trans hm⟩
structure bB(w:World):Prop where
 lw:2<w.heap.size
 ls:0<w.heap.size
 words:w.rangeAt 2 0 g8
 signs:w.rangeAt 0 0 gZ
 mx:sd w
def wd(k:Nat):ByteArray:=eK.getD k ⟨#[]⟩
def Lg:List Int:=[61,59,44,123,125,91,93,40,41,124,42,63,43,45,60,46]
def sg(k:Nat):Int:=Lg.getD k 0
theorem Tryz.idxW:∀ k:Nat,k<21->∀ w:World,(Instr.index 384 (.agg g8.toArray) (.int .i64 (k:Int))).run prog w=.ok (.agg #[.string (wd k),.int .i64 (5+(k:Int))]) w
 | 0,_,_=>by kernel_rfl
 | 1,_,_=>by kernel_rfl
 | 2,_,_=>by kernel_rfl
 | 3,_,_=>by kernel_rfl
 | 4,_,_=>by kernel_rfl
 | 5,_,_=>by kernel_rfl
 | 6,_,_=>by kernel_rfl
 | 7,_,_=>by kernel_rfl
 | 8,_,_=>by kernel_rfl
 | 9,_,_=>by kernel_rfl
 | 10,_,_=>by kernel_rfl
 | 11,_,_=>by kernel_rfl
 | 12,_,_=>by kernel_rfl
 | 13,_,_=>by kernel_rfl
 | 14,_,_=>by kernel_rfl
 | 15,_,_=>by kernel_rfl
 | 16,_,_=>by kernel_rfl
 | 17,_,_=>by kernel_rfl
 | 18,_,_=>by kernel_rfl
 | 19,_,_=>by kernel_rfl
 | 20,_,_=>by kernel_rfl
 | n+21,h,_=>absurd h (by omega)
theorem Tryz.idxS:∀ k:Nat,k<16->∀ w:World,(Instr.index 348 (.agg gZ.toArray) (.int .i64 (k:Int))).run prog w=.ok (.agg #[.int .u8 (sg k),.int .i64 (26+(k:Int))]) w
 | 0,_,_=>by kernel_rfl
 | 1,_,_=>by kernel_rfl
 | 2,_,_=>by kernel_rfl
 | 3,_,_=>by kernel_rfl
 | 4,_,_=>by kernel_rfl
 | 5,_,_=>by kernel_rfl
 | 6,_,_=>by kernel_rfl
 | 7,_,_=>by kernel_rfl
 | 8,_,_=>by kernel_rfl
 | 9,_,_=>by kernel_rfl
 | 10,_,_=>by kernel_rfl
 | 11,_,_=>by kernel_rfl
 | 12,_,_=>by kernel_rfl
 | 13,_,_=>by kernel_rfl
 | 14,_,_=>by kernel_rfl
 | 15,_,_=>by kernel_rfl
 | n+16,h,_=>absurd h (by omega)
theorem iS{P:Program}{w:World}{ops:Array Oper}{rest:List Oper}{o:Oper}{a:Act}{Q:Exit->Act->World->Prop}(hgd:o.guard=none)(t:TypeId)(x i:Operand)
  (ho:o.op=.index t x i) (vx vi v:Value) (hx:a.eval x=vx) (hi:a.eval i=vi) (hr:(Instr.index t vx vi).run P w=.ok v w) (h:wpList P ops Q rest (a.put o.dst v) w):wpList P ops Q (o::rest) a w:=by
 refine wpList_plain hgd λ K hK=>?_
 unfold Oper.wp execOp;simp only [ho,Sem.run_bind,Sem.run_pure,hx,hi,hr,Result.andThen_ok,Oper.upon];exact hK _ _ h
def jR(t:ByteArray):Int:=match eK.findIdx? (λ x=>x.toList==t.toList)with|some i=>5+(i:Int)|none=>0
def nM(c:Int):Int:=match Lg.findIdx? (λ x=>x==c)with|some i=>26+(i:Int)|none=>0
theorem JM{t:ByteArray}{k:Nat}(hk:k<21)(h0:∀ j,j<k->((wd j).toList==t.toList)=false)(h1:((wd k).toList==t.toList)=true):jR t=5+(k:Int):=by
 have:eK.findIdx? (λ x=>x.toList==t.toList)=some k:=by
  rw [List.findIdx?_eq_some_iff_getElem];have hl:eK.length=21:=rfl;refine⟨by omega,?_,λ j hj=>?_⟩
  ·have:eK[k]'(by omega)=wd k:=by simp [wd,List.getD,hl,hk]
   rw [this];exact h1
  have:eK[j]'(by omega)=wd j:=by simp [wd,List.getD,hl,show j<21 by omega]
  rw [this,h0 j hj];simp
 rw [jR,this]
theorem Da{t:ByteArray}(h0:∀ j,j<21->((wd j).toList==t.toList)=false):jR t=0:=by
 have:eK.findIdx? (λ x=>x.toList==t.toList)=none:=by
  rw [List.findIdx?_eq_none_iff];intro x hx;obtain⟨j,hj,rfl⟩:=List.getElem_of_mem hx;have hl:eK.length=21:=rfl;have:eK[j]=wd j:=by simp [wd,List.getD,hj]
  rw [this];exact h0 j (by omega)
 rw [jR,this]
theorem Jo{c:Int}{k:Nat}(hk:k<16)(h0:∀ j,j<k->(sg j==c)=false)(h1:(sg k==c)=true):nM c=26+(k:Int):=by
 have:Lg.findIdx? (λ x=>x==c)=some k:=by
  rw [List.findIdx?_eq_some_iff_getElem];have hl:Lg.length=16:=rfl;refine⟨by omega,?_,λ j hj=>?_⟩
  ·have:Lg[k]'(by omega)=sg k:=by simp [sg,List.getD,hl,hk]
   rw [this];exact h1
  have:Lg[j]'(by omega)=sg j:=by simp [sg,List.getD,hl,show j<16 by omega]
  rw [this,h0 j hj];simp
 rw [nM,this]
theorem Ct{c:Int}(h0:∀ j,j<16->(sg j==c)=false):nM c=0:=by
 have:Lg.findIdx? (λ x=>x==c)=none:=by
  rw [List.findIdx?_eq_none_iff];intro x hx;obtain⟨j,hj,rfl⟩:=List.getElem_of_mem hx;have hl:Lg.length=16:=rfl;have:Lg[j]=sg j:=by simp [sg,List.getD,hj]
  rw [this];exact h0 j (by omega)
 rw [nM,this]
theorem Tryz.sizeW:(prog.info? 384).map (·.size)=some g8.length:=by kernel_rfl
theorem Tryz.sizeS:(prog.info? 348).map (·.size)=some gZ.length:=by kernel_rfl
theorem yi(t:ByteArray)(w:World)(ht:bB w) :
  Calls prog 255 #[.string t] w λ e w'=>e=.returned (.int .i64 (jR t))/\Below w.heap.size w w':=by
 have HT:=ae ht.words;clear ht;go_enter func255,ntmps255;go_wp2_with (refine wpList_load_mid rfl _ _ rfl 2 0 rfl g8 _ (ab HT) underlying384 rfl Tryz.sizeW ?_)
 go_loopw [6] (λ i wr=>∃ k:Nat,k<=21/\i=.int .i64 (k:Int)/\(∀ j,j<k->((wd j).toList==t.toList)=false)/\Below w.heap.size w wr) (λ i _=>21-(intOf i).toNat)
 case atStart=>exact⟨0,by omega,rfl,λ j hj=>by omega,aX _ _⟩
 case round =>
  rename World=>WR
  obtain⟨k,hk,rfl,hn,hbe⟩:=hrel;have HN:=ae hn;have BE:=ae hbe;have hsz:=hbe.size;clear hn hbe;by_cases hk2:k<21
  ·cases h:(wd k).toList==t.toList with
   | true =>
    have HE:=ae (JM hk2 (ab HN) h);go_wp2_with (refine iS rfl _ _ _ rfl (.agg g8.toArray) (.int .i64 (k:Int)) (.agg #[.string (wd k),.int .i64 (5+(k:Int))]) rfl rfl (Tryz.idxW k hk2 _) ?_)
    go_ret;exact⟨by rw [ab HE];rfl,(ab BE).alloc hsz _⟩
   | false =>
    have HH:=ae h;go_wp2_with (refine iS rfl _ _ _ rfl (.agg g8.toArray) (.int .i64 (k:Int)) (.agg #[.string (wd k),.int .i64 (5+(k:Int))]) rfl rfl (Tryz.idxW k hk2 _) ?_)
    exact⟨⟨k+1,by omega,by simp,λ j hj=>by rcases Nat.lt_or_ge j k with h1|h1;exact ab HN j h1;obtain rfl:j=k:=(by omega);exact ab HH,(ab BE).alloc hsz _⟩,by simp [intOf];omega⟩
  obtain rfl:k=21:=by omega
  have HE:=ae (Da (ab HN));go_wp2_with fail;go_ret;exact⟨by rw [ab HE];rfl,ab BE⟩
theorem x7(c:Int)(w:World)(ht:bB w) :
  Calls prog 210 #[.int .u8 c] w λ e w'=>e=.returned (.int .i64 (nM c))/\Below w.heap.size w w':=by
 have HT:=ae ht.signs;clear ht;go_enter func210,ntmps210;go_wp2_with (refine wpList_load_mid rfl _ _ rfl 0 0 rfl gZ _ (ab HT) underlying348 rfl Tryz.sizeS ?_)
 go_loopw [6] (λ i wr=>∃ k:Nat,k<=16/\i=.int .i64 (k:Int)/\(∀ j,j<k->(sg j==c)=false)/\Below w.heap.size w wr) (λ i _=>16-(intOf i).toNat)
 case atStart=>exact⟨0,by omega,rfl,λ j hj=>by omega,aX _ _⟩
 case round =>
  rename World=>WR
  obtain⟨k,hk,rfl,hn,hbe⟩:=hrel;have HN:=ae hn;have BE:=ae hbe;have hsz:=hbe.size;clear hn hbe;by_cases hk2:k<16
  ·cases h:sg k==c with
   | true =>
    have HE:=ae (Jo hk2 (ab HN) h);go_wp2_with (refine iS rfl _ _ _ rfl (.agg gZ.toArray) (.int .i64 (k:Int)) (.agg #[.int .u8 (sg k),.int .i64 (26+(k:Int))]) rfl rfl (Tryz.idxS k hk2 _) ?_)
    go_ret;exact⟨by rw [ab HE];rfl,(ab BE).alloc hsz _⟩
   | false =>
    have HH:=ae h;go_wp2_with (refine iS rfl _ _ _ rfl (.agg gZ.toArray) (.int .i64 (k:Int)) (.agg #[.int .u8 (sg k),.int .i64 (26+(k:Int))]) rfl rfl (Tryz.idxS k hk2 _) ?_)
    exact⟨⟨k+1,by omega,by simp,λ j hj=>by rcases Nat.lt_or_ge j k with h1|h1;exact ab HN j h1;obtain rfl:j=k:=(by omega);exact ab HH,(ab BE).alloc hsz _⟩,by simp [intOf];omega⟩
  obtain rfl:k=16:=by omega
  have HE:=ae (Ct (ab HN));go_wp2_with fail;go_ret;exact⟨by rw [ab HE];rfl,ab BE⟩
theorem bB.below{w w':World}(h:bB w)(hb:Below w.heap.size w w'):bB w' :=
 ⟨eV h.lw hb.size,eV h.ls hb.size,λ j v hv=>(hb.cell (p:=⟨2,0+j,none⟩) h.lw).trans (h.words j v hv),λ j v hv=>(hb.cell (p:=⟨0,0+j,none⟩) h.ls).trans (h.signs j v hv),h.mx.below hb⟩
theorem qY(n:Int)(w:World):Calls prog 165 #[.int .u8 n] w λ e w'=>e=.returned (.bool (cP n))/\w'=w:=by
 cases h1:n==32<;>cases h2:n==10
 all_goals
  have HE:=ae (show cP n=_ by unfold cP;rw [h1,h2]);go_enter func165,ntmps165;go_wp2_with fail;go_ret;exact⟨by rw [ab HE];rfl,rfl⟩
theorem ij(n:Int)(w:World):Calls prog 204 #[.int .u8 n] w λ e w'=>e=.returned (.bool (dF n))/\w'=w:=by
 by_cases h1:97<=n<;>by_cases h2:n<=122
 all_goals
  have HE:=ae (show dF n=(decide (97<=n)&&decide (n<=122))from rfl);go_enter func204,ntmps204;go_wp2_with fail;go_ret;exact⟨by rw [ab HE];simp [h1,h2],rfl⟩
theorem aS(n:Int)(w:World):Calls prog 207 #[.int .u8 n] w λ e w'=>e=.returned (.bool (ff n))/\w'=w:=by
 by_cases h1:48<=n<;>by_cases h2:n<=57
 all_goals
  have HE:=ae (show ff n=(decide (48<=n)&&decide (n<=57))from rfl);go_enter func207,ntmps207;go_wp2_with fail;go_ret;exact⟨by rw [ab HE];simp [h1,h2],rfl⟩
theorem nG(n:Int)(w:World):Calls prog 209 #[.int .u8 n] w λ e w'=>e=.returned (.bool (bX n))/\w'=w:=by
 cases h0:ff n<;>cases h1:n==46<;>cases h2:n==47
 all_goals
  have HE:=ae (show bX n=_ by unfold bX;rw [h0,h1,h2]);have HD:=ae (show Calls prog 207 #[.int .u8 n] w λ e w'=>e=.returned (.bool _)/\w'=w from by have:=aS n w;rw [h0]at this;exact this);clear h0;go_enter func209,ntmps209;go_wp2_with (go_at_call 207;refine(ab HD).mono ?_;rintro e w' ⟨rfl,rfl⟩)
  go_ret;exact⟨by rw [ab HE];rfl,rfl⟩
theorem Mx(s:ByteArray)(hs:s.size<=1000)(w:World) :
  Calls prog 206 #[.string s,.func (.func 204) #[] #[]] w λ e w'=>e=.returned (.string (s.extract 0 (aG dF s 0)))/\w'=w:=by
 go_enter func206,ntmps206;go_wp2_with fail
 go_loop [5] (λ x=>∃ m:Nat,m<=s.size/\aG dF s m=aG dF s 0/\x=.int .i64 m) (λ x=>s.size-(intOf x).toNat)
 case atStart=>exact⟨0,by omega,rfl,rfl⟩
 case round =>
  obtain⟨m,hms,hsc,rfl⟩:=hrel;have HM:=ae hsc;clear hsc;by_cases hx:m<s.size/\dF (bt s m)=true
  ·obtain⟨hmt,hml⟩:=hx;have HS:=ae (eT hmt hml);rw [cA hmt]at hml;go_wp2_with (go_at_call 204;refine(ij _ _).mono ?_;rintro e w' ⟨rfl,rfl⟩)
   go_round
   case rel=>exact⟨m+1,by omega,by rw [<-ab HS];exact ab HM,by go_num⟩
   case measure=>simp [intOf];omega
  have hme:m=aG dF s 0:=by rw [<-ab HM,fx hx]
  have AA:=ae hme
  have hy:(∃ h:m<s.size,dF (s[m].toNat:Int)=false)\/¬m<s.size:=by
   by_cases h:m<s.size
   ·left;refine⟨h,?_⟩;rw [<-cA h];simpa [h]using hx
   right;exact h
  clear hx hme;rcases hy with⟨hmt,hml⟩|hmt
  all_goals
   go_wp2_with (go_at_call 204;refine(ij _ _).mono ?_;rintro e w' ⟨rfl,rfl⟩)
   go_ret;exact⟨by rw [<-ab AA];rfl,rfl⟩
theorem My(s:ByteArray)(hs:s.size<=1000)(w:World) :
  Calls prog 206 #[.string s,.func (.func 209) #[] #[]] w λ e w'=>e=.returned (.string (s.extract 0 (aG bX s 0)))/\w'=w:=by
 go_enter func206,ntmps206;go_wp2_with fail
 go_loop [5] (λ x=>∃ m:Nat,m<=s.size/\aG bX s m=aG bX s 0/\x=.int .i64 m) (λ x=>s.size-(intOf x).toNat)
 case atStart=>exact⟨0,by omega,rfl,rfl⟩
 case round =>
  obtain⟨m,hms,hsc,rfl⟩:=hrel;have HM:=ae hsc;clear hsc;by_cases hx:m<s.size/\bX (bt s m)=true
  ·obtain⟨hmt,hml⟩:=hx;have HS:=ae (eT hmt hml);rw [cA hmt]at hml;go_wp2_with (go_at_call 209;refine(nG _ _).mono ?_;rintro e w' ⟨rfl,rfl⟩)
   go_round
   case rel=>exact⟨m+1,by omega,by rw [<-ab HS];exact ab HM,by go_num⟩
   case measure=>simp [intOf];omega
  have hme:m=aG bX s 0:=by rw [<-ab HM,fx hx]
  have AA:=ae hme
  have hy:(∃ h:m<s.size,bX (s[m].toNat:Int)=false)\/¬m<s.size:=by
   by_cases h:m<s.size
   ·left;refine⟨h,?_⟩;rw [<-cA h];simpa [h]using hx
   right;exact h
  clear hx hme;rcases hy with⟨hmt,hml⟩|hmt
  all_goals
   go_wp2_with (go_at_call 209;refine(nG _ _).mono ?_;rintro e w' ⟨rfl,rfl⟩)
   go_ret;exact⟨by rw [<-ab AA];rfl,rfl⟩
theorem tL{s:ByteArray}{k:Nat}:∀ j,lT s (k+j)->dZ s k<=dZ s (k+j)
 | 0,_=>Int.le_refl _
 | j+1,h=>by
  have h0:lT s (k+j):=λ i hi=>h i (by omega)
  have ih:=tL j h0;have hb:=(pf h0).1;have hd:=(jJ _).1 (h (k+j) (by omega));show dZ s k<=10*dZ s (k+j)+(bt s (k+j)-48);omega
theorem zG{s:ByteArray}(h0:bt s 0≠48):∀ k,lT s (k+1)->(10:Int) ^ k<=dZ s (k+1)
 | 0,h=>by
  have hd:=(jJ _).1 (h 0 (by omega));show(1:Int)<=10*0+(bt s 0-48);omega
 | k+1,h=>by
  have ih:=zG h0 k (λ i hi=>h i (by omega));have hd:=(jJ _).1 (h (k+1) (by omega));show(10:Int) ^ (k+1)<=10*dZ s (k+1)+(bt s (k+1)-48);rw [Int.pow_succ];omega
theorem Fc{s:ByteArray}{m:Int}{k:Nat}(hk:k<=s.size)(_hd:lT s k)(hm:m<dZ s k):bf s m = -1:=by
 by_cases h:s.size=0\/10<s.size\/(1<s.size/\bt s 0=48)
 ·exact rR h
 unfold bf;rw [au h];split
 ·rename_i hall;obtain⟨j,hj⟩:∃ j,s.size=k+j:=⟨s.size-k,by omega⟩
  have h2:=tL (s:=s) (k:=k) j (by rw [<-hj];exact hall);rw [<-hj]at h2;rw [aC (by omega)]
 rfl
def eS(s:ByteArray)(m:Int):Bool:=decide (0<=bf s m)
def fR(s:ByteArray)(m:Int):Int:=if 0<=bf s m then bf s m else 0
theorem pe{s:ByteArray}{m:Int}(h:bf s m = -1):fR s m=0/\eS s m=false:=by
 unfold fR eS;rw [h];exact⟨rfl,rfl⟩
theorem Fa{s:ByteArray}{m n:Int}(h:bf s m=n)(hn:0<=n):fR s m=n/\eS s m=true:=by
 unfold fR eS;rw [h,aC hn,jj hn];exact⟨rfl,rfl⟩
theorem bV(s:ByteArray)(m:Int)(hs:s.size<=1000)(h0:0<=m)(h1:m<=4294967295)(w:World) :
  Calls prog 256 #[.string s,.int .i64 m] w λ e w'=>e=.returned (.tuple #[.int .i64 (fR s m),.bool (eS s m)])/\w'=w:=by
 by_cases hz:s.size=0
 ·have hsE:s=⟨#[]⟩:=by
   obtain⟨d⟩:=s;have:d=#[]:=Array.eq_empty_of_size_eq_zero hz;rw [this]
  have HN:=ae (pe (rR (s:=s) (m:=m) (inl hz)));subst hsE;go_enter func256,ntmps256;go_wp2_with fail
  go_ret2
  exact⟨by rw [(ab HN).1,(ab HN).2];rfl,rfl⟩
 have hpos:0<s.size:=by omega
 have hne:(s.toList==[])=false:=by
  have:s.toList.length=s.size:=by rw [ByteArray.toList_eq];rfl
  cases hl:s.toList with
  | nil=>rw [hl]at this;simp at this;omega
  | cons a b=>rfl
 by_cases hlead:1<s.size/\bt s 0=48
 ·have HN:=ae (pe (rR (s:=s) (m:=m) (inr (inr hlead))));obtain⟨hl1,hl2⟩:=hlead;rw [cA hpos]at hl2;have hl3:((s[0].toNat:Int)==48)=true:=by simpa using hl2
  clear hl2;go_enter func256,ntmps256;go_wp2_with fail
  go_ret2
  exact⟨by rw [(ab HN).1,(ab HN).2];rfl,rfl⟩
 have hor:¬1<s.size\/(1<s.size/\((s[0].toNat:Int)==48)=false):=by
  by_cases h:1<s.size
  ·right;refine⟨h,?_⟩;rw [cA hpos]at hlead;simp;omega
  left;exact h
 have HB:=λ k hk hd=>ae (pe (zE (s:=s) (m:=m) (k:=k) hk hd))
 have HO:=λ k hk hd hm=>ae (pe (Fc (s:=s) (m:=m) (k:=k) hk hd hm))
 have HY:Hid (lT s s.size->dZ s s.size<=m->fR s m=dZ s s.size/\eS s m=true):=λ hd hm=>by
  have hle:s.size<=10:=by
   rcases Nat.lt_or_ge 10 s.size with h|h
   ·have hb0:bt s 0≠48:=λ e=>hlead ⟨by omega,e⟩
    obtain⟨j,hj⟩:∃ j,s.size=j+1:=⟨s.size-1,by omega⟩
    have h2:=zG hb0 j (by rw [<-hj];exact hd);rw [<-hj]at h2
    have h3:(10:Int) ^ 10<=10 ^ j:=by
     have h1:(10:Nat) ^ 10<=10 ^ j:=Nat.pow_le_pow_right (by omega) (by omega)
     exact_mod_cast h1
    have h4:(10:Int) ^ 10=10000000000:=by decide
    omega
   exact h
  refine Fa ?_ (pf hd).1;rw [zF (λ h=>by rcases h with h|h|h;omega;omega;exact hlead h) hd,au (by omega)]
 clear hlead hz;rcases hor with hl1|⟨hl1,hl3⟩
 all_goals
  go_enter func256,ntmps256;go_wp2_with fail
  go_loop [6,22] (λ n i=>∃ k:Nat,k<=s.size/\lT s k/\dZ s k<=m/\i=.int .i64 k/\n=.int .i64 (dZ s k)) (λ _ i=>s.size-(intOf i).toNat)
  case atStart=>exact⟨0,iL _,λ j hj=>absurd hj (by omega),h0,rfl,rfl⟩
  case round =>
   obtain⟨k,hk,hd,hmk,rfl,rfl⟩:=hrel;have hb1:0<=dZ s k:=(pf hd).1;by_cases hlt:k<s.size
   ·cases hdb:ff (bt s k)with
    | true =>
     have hdig:=(jJ _).1 hdb;rw [cA hlt]at hdig;obtain⟨hdl,hdh⟩:=hdig;have HE:=ae (show dZ s (k+1)=10*dZ s k+((s[k].toNat:Int)-48)by rw [dZ,cA hlt]);have HD:=ae (te hd hdb);rw [cA hlt]at hdb;by_cases hov:m<10*dZ s k+((s[k].toNat:Int)-48)
     ·have HN:=HO (k+1) (by omega) (ab HD) (by rw [ab HE];exact hov);go_wp2_with (go_at_call 207;refine(aS _ _).mono ?_;rintro e w' ⟨rfl,rfl⟩)
      go_ret2
      exact⟨by rw [(ab HN).1,(ab HN).2];rfl,rfl⟩
     go_wp2_with (go_at_call 207;refine(aS _ _).mono ?_;rintro e w' ⟨rfl,rfl⟩)
     go_round
     case rel=>exact⟨k+1,by omega,ab HD,by rw [ab HE];omega,by go_num,by rw [ab HE]⟩
     case measure=>simp [intOf];omega
    | false =>
     have HN:=HB k hlt hdb;rw [cA hlt]at hdb;go_wp2_with (go_at_call 207;refine(aS _ _).mono ?_;rintro e w' ⟨rfl,rfl⟩)
     go_ret2
     exact⟨by rw [(ab HN).1,(ab HN).2];rfl,rfl⟩
   have hke:k=s.size:=by omega
   have HN:=ae (show fR s m=dZ s k/\eS s m=true by rw [hke];exact(ab HY) (hke▸hd) (hke▸hmk));clear hke;go_wp2_with fail
   go_ret2
   refine⟨?_,rfl⟩;rw [(ab HN).1,(ab HN).2];rfl
def cI(x:Int×Int):Bool:=decide (tJ x)
theorem tY:∀(l:List Int) (n x:Int),gU n (l++[x])↔gU n l/\x<=65535/\l.getLastD (n-1)+1<=x:=by
 intro l
 induction l with
 | nil=>intro n x;simp [gU,qt];omega
 | cons y l ih =>
  intro n x;rw [List.cons_append,iH,iH,ih (y+1) x]
  have e:l.getLastD (y+1-1)=(y::l).getLastD (n-1):=by
   rw [show y+1-1=y by omega];cases l with
   | nil=>rfl
   | cons a b=>simp [List.getLast?_cons]
  rw [e]
  constructor
  ·rintro⟨a,b,c,d,f⟩;exact⟨⟨a,b,c⟩,d,f⟩
  rintro⟨⟨a,b,c⟩,d,f⟩;exact⟨a,b,c,d,f⟩
theorem ua:∀(l:List Int) (n:Int) (k:Nat),gU n l->gU n (l.take k):=by
 intro l
 induction l with
 | nil=>intro n k _;simp [gU,qt]
 | cons y l ih =>
  intro n k h;cases k with
  | zero=>exact FF _
  | succ k=>have h:=iH.1 h;exact iH.2 ⟨h.1,h.2.1,ih _ k h.2.2⟩
theorem uX{l:List Int}{k:Nat}(hk:k<l.length)(h0:0<k)(d:Int):(l.take k).getLastD d=l[k-1]:=by
 have h1:k-1<l.length:=by omega
 have h2:l.take k=l.take (k-1)++[l[k-1]]:=by
  have:=List.take_succ_eq_append_getElem h1
  rwa [show k-1+1=k by omega]at this
 rw [h2,List.getLastD_concat]
def tE(l:List Int)(k:Nat)(hk:k<l.length):Prop:=0<=l[k]/\l[k]<=65535/\(∀ h:0<k,l[k-1]'(by omega)<l[k])
theorem tZ{l:List Int}{k:Nat}(hk:k<l.length):gU 0 (l.take (k+1))↔gU 0 (l.take k)/\tE l k hk:=by
 rw [List.take_succ_eq_append_getElem hk,tY];unfold tE;rcases yj k with rfl|h0
 ·simp [gU,qt];omega
 rw [uX hk h0]
 constructor
 ·rintro⟨a,b,c⟩
  have hp:0<=l[k-1]:=by
   have:=FE a l[k-1] (by
    have h2:=List.take_succ_eq_append_getElem (l:=l) (i:=k-1) (by omega);rw [show k-1+1=k by omega]at h2;rw [h2];exact List.mem_append_right _ (List.mem_singleton.2 rfl))
   omega
  exact⟨a,by omega,b,λ _=>by omega⟩
 rintro⟨a,b,c,d⟩;exact⟨a,c,by have:=d h0;omega⟩
abbrev pA(x:Int×Int)(p m:List Int)(pref med:Int):Prop:=tJ x/\xJ p/\xD m/\Iy pref/\Iy med
def lD(p:List Int):Bool:=decide (xJ p)
def kL(m:List Int):Bool:=decide (xD m)
def lk(n:Int):Bool:=decide (Iy n)
def dH(x:Int×Int)(p m:List Int)(pref med:Int):Bool:=decide (pA x p m pref med)
theorem eu{x:Int×Int}{p m:List Int}{pref med:Int}(h:¬pA x p m pref med):dH x p m pref med=false:=by unfold dH;exact gn h
theorem xW{x:Int×Int}{p m:List Int}{pref med:Int}(h:pA x p m pref med):dH x p m pref med=true:=by unfold dH;exact jj h
theorem pO(n:Int)(h₀:0<=n)(h₁:n<2 ^ 62):IntKind.i64.wrap n=n:=by rw [IntKind.wrap_i64];omega
theorem Kv:∀ l:Fin 33,(4294967295:Int) / 2 ^ l.val=2 ^ (32-l.val)-1:=by decide
theorem GO{a l:Int}(a0:0<=a)(a1:a<=4294967295)(l0:0<=l)(l1:l<=32):bits .and .i64 a (4294967295 / 2 ^ l.toNat)=a % 2 ^ (32-l).toNat:=by
 have h:=Kv ⟨l.toNat,by omega⟩;simp only at h;rw [h,bits_mask .i64 62 (by decide) pO (32-l.toNat) (by omega) a a0 (by omega)];rw [show(32-l).toNat=32-l.toNat by omega]
theorem vr(x:Int×Int)(w:World)(h1:jw x.1)(h2:jw x.2) :
  Calls prog 144 #[.agg #[.int .i64 x.1,.int .i64 x.2]] w λ e w'=>e=.returned (.bool (cI x))/\Below w.heap.size w w':=by
 obtain⟨a,l⟩:=x;unfold jw at h1 h2;simp only at h1 h2 ⊢;by_cases hz:0<=a/\a<=4294967295/\0<=l/\l<=32
 ·obtain⟨x1,x2,x3,x4⟩:=hz
  have HN:Hid (cI (a,l)=(bits .and .i64 a (4294967295 / 2 ^ l.toNat)==0)):=by
   unfold Hid cI tJ KZ;rw [GO x1 x2 x3 x4,Bool.eq_iff_iff];simp [x1,x2,x3,x4]
  go_enter func144,ntmps144;go_wp2_with fail;go_quiet (fail)
  go_wp2
  go_ret;exact⟨bQ (ab HN).symm,by exact below_drewN ((aX _ _).alloc (aD _) _) _⟩
 have HF:Hid (cI (a,l)=false):=by
  unfold Hid cI;simp only [decide_eq_false_iff_not];intro⟨⟨x1,x2⟩,⟨x3,x4⟩,_⟩;exact hz ⟨x1,x2,x3,x4⟩
 have hd:(decide (a<0)||decide (4294967295<a)||decide (l<0)||decide (32<l))=true:=by
  simp only [Bool.or_eq_true,decide_eq_true_eq];omega
 clear hz;go_enter func144,ntmps144;go_wp2
 all_goals
  go_ret;exact⟨bQ (ab HF).symm,by exact(aX _ _).alloc (aD _) _⟩
theorem lX(n:Int)(w:World) :
  Calls prog 147 #[.int .i64 n] w λ e w'=>e=.returned (.bool (lk n))/\w'=w:=by
 by_cases h:0<=n
 ·have HN:=ae (show decide (n<=4294967295)=lk n from by unfold lk;simp [h]);have d:decide (0<=n)=true:=by simpa using h
  go_enter func147,ntmps147;go_wp2
  go_ret;exact⟨bQ (ab HN),rfl⟩
 have HN:=ae (show false=lk n from by unfold lk;simp [h]);have d:decide (0<=n)=false:=by simpa using h
 go_enter func147,ntmps147;go_wp2
 go_ret;exact⟨bQ (ab HN),rfl⟩
theorem uK(p:List Int)(x:Value)(w:World)(hx:a8 w x p) :
  Calls prog 145 #[x] w λ e w'=>e=.returned (.bool (lD p))/\w'=w:=by
 obtain⟨q,c,rfl,hcap,hl,hin,hr⟩:=hx;have HR:=ae hr;clear hr hin;go_enter func145,ntmps145;go_wp2
 go_loop [7] (λ i=>∃ k:Nat,k<=p.length/\i=.int .i64 k/\∀ s∈p.take k,1<=s/\s<=65535) (λ i=>p.length-(intOf i).toNat)
 case atStart=>exact⟨0,iL _,rfl,by simp⟩
 case round =>
  obtain⟨k,hk,rfl,hall⟩:=hrel;have AA:=ae hall;clear hall;by_cases hlt:k<p.length
  ·rcases ab HR with h|⟨b,o,rfl,hb,hc⟩
   ·rw [h.1]at hlt;simp at hlt
   have d0:=hc k hlt;clear hc;by_cases y1:p[k]<1
   ·have HF:=ae (show lD p=false from by refine gn ?_;intro h;have:=h.2 p[k] (nN _);omega);go_wp2
    go_ret;exact⟨bQ (ab HF).symm,rfl⟩
   by_cases y2:65535<p[k]
   ·have HF:=ae (show lD p=false from by refine gn ?_;intro h;have:=h.2 p[k] (nN _);omega);go_wp2
    go_ret;exact⟨bQ (ab HF).symm,rfl⟩
   have BA:=ae (show ∀ s∈p.take (k+1),1<=s/\s<=65535 from by
    rw [List.take_succ_eq_append_getElem hlt];intro s hs;rcases List.mem_append.1 hs with hs|hs
    ·exact ab AA s hs
    ·simp only [List.mem_singleton]at hs;subst hs;omega)
   go_wp2_with fail
   go_round
   case rel=>exact⟨k+1,by omega,by go_num,ab BA⟩
   case measure=>simp [intOf];omega
  have HE:=ae (show decide ((p.length:Int)<=12)=lD p from by
   have:=ab AA;rw [List.take_of_length_le (by omega)]at this;exact decide_eq_decide.2 ⟨λ h=>(⟨by omega,this⟩:xJ p),λ h=>by have:=h.1;omega⟩)
  go_wp2
  go_ret;exact⟨bQ (ab HE),rfl⟩
theorem sw(m:List Int)(x:Value)(w:World)(hx:a8 w x m) :
  Calls prog 146 #[x] w λ e w'=>e=.returned (.bool (kL m))/\w'=w:=by
 obtain⟨q,c,rfl,hcap,hl,hin,hr⟩:=hx;have HR:=ae hr;clear hr hin;go_enter func146,ntmps146;go_wp2
 go_loop [3,8] (λ l i=>∃(k:Nat) (L:Int),k<=m.length/\i=.int .i64 k/\l=.int .i64 L/\0<=L/\L<=65536/\gU 0 (m.take k)/\L=(m.take k).getLastD (-1)+1) (λ _ i=>m.length-(intOf i).toNat)
 case atStart=>exact⟨0,0,iL _,rfl,rfl,by omega,by omega,rfl,rfl⟩
 case round =>
  obtain⟨k,L,hk,rfl,rfl,hL0,hL1,hri,hLe⟩:=hrel;have DA:=ae hri;have EA:=ae hLe;clear hri hLe;by_cases hlt:k<m.length
  ·rcases ab HR with h|⟨b,o,rfl,hb,hc⟩
   ·rw [h.1]at hlt;simp at hlt
   have d0:=hc k hlt
   have BA:=ae (show gU 0 (m.take (k+1))↔gU 0 (m.take k)/\m[k]<=65535/\L<=m[k]from by
    rw [List.take_succ_eq_append_getElem hlt,tY,ab EA];exact Iff.rfl)
   have AA:Hid (¬(m[k]<=65535/\L<=m[k])->kL m=false):=λ hn=>by
    refine gn ?_;intro h;exact hn ((ab BA).1 (ua m 0 (k+1) h.2)).2
   have CA:=ae (show(m.take (k+1)).getLastD (-1)+1=m[k]+1 from by
    rw [List.take_succ_eq_append_getElem hlt,List.getLastD_concat])
   clear hc;obtain⟨X,hX⟩:∃ X,m[k]=X:=⟨_,rfl⟩
   rw [hX]at d0 BA AA CA;clear hX;by_cases y1:X<L
   ·have HF:=ae (ab AA (by omega));go_wp2
    go_ret;exact⟨bQ (ab HF).symm,rfl⟩
   by_cases y2:65535<X
   ·have HF:=ae (ab AA (by omega));go_wp2
    go_ret;exact⟨bQ (ab HF).symm,rfl⟩
   have FA:=ae ((ab BA).2 ⟨ab DA,by omega,by omega⟩);go_wp2_with fail
   go_round
   case rel=>exact⟨k+1,X+1,by omega,by go_num,by go_num,by omega,by omega,ab FA,(ab CA).symm⟩
   case measure=>simp [intOf];omega
  have HE:=ae (show decide ((m.length:Int)<=8)=kL m from by
   have:=ab DA;rw [List.take_of_length_le (by omega)]at this;exact decide_eq_decide.2 ⟨λ h=>(⟨by omega,this⟩:xD m),λ h=>by have:=h.1;omega⟩)
  go_wp2
  go_ret;exact⟨bQ (ab HE),rfl⟩
theorem xV(x:Int×Int)(p m:List Int)(pref med:Int):dH x p m pref med=(cI x&&(lD p&&(kL m&&(lk pref&&lk med)))):=by
 unfold dH cI lD kL lk;rw [Bool.eq_iff_iff];simp only [Bool.and_eq_true,decide_eq_true_eq]
theorem sj(x:Int×Int)(p m:List Int)(pref med:Int)(vp vm:Value)(w:World)(h1:jw x.1)(h2:jw x.2)(hp:a8 w vp p)(hm:a8 w vm m) :
  Calls prog 93 #[.agg #[.int .i64 x.1,.int .i64 x.2,vp,vm,.int .i64 pref,.int .i64 med]] w λ e w'=>e=.returned (.bool (dH x p m pref med))/\Below w.heap.size w w':=by
 rw [xV];have HP:=ae hp;have HM:=ae hm;obtain⟨pp,cp,rfl,-⟩:=hp;obtain⟨pm,cm,rfl,-⟩:=hm;obtain⟨a,l⟩:=x;simp only at h1 h2;go_enter func93,ntmps93;go_wp2_with fail;refine(vr (a,l) _ h1 h2).mono ?_;rintro e w1 ⟨rfl,hb1⟩;have q0:w1.heap[w.heap.size]?=some (.cells #[.int .i64 a,.int .i64 l,.slice pp p.length cp,.slice pm m.length cm,.int .i64 pref,.int .i64 med] 28 (0,0)):=(hb1.block w.heap.size (by simp)).trans (cN w _);have b1:=ae (((aX w.heap.size w).alloc (aD _) _).trans (hb1.mono (by simp)));have c2:w1.cell? ⟨w.heap.size,2,none⟩=some (.slice pp p.length cp):=af q0;have c3:w1.cell? ⟨w.heap.size,3,none⟩=some (.slice pm m.length cm):=af q0;have c4:w1.cell? ⟨w.heap.size,4,none⟩=some (.int .i64 pref):=af q0;have c5:w1.cell? ⟨w.heap.size,5,none⟩=some (.int .i64 med):=af q0;clear hb1 q0 h1 h2;cases hN1:cI (a,l)with
 | false =>
  have N1:=ae hN1;clear hN1;go_wp2
  go_ret;exact⟨bQ (by simp [ab N1]),ab b1⟩
 | true =>
  have N1:=ae hN1;clear hN1;go_wp2_with fail;refine(uK p _ _ ((ab HP).below (ab b1))).mono ?_;rintro e w0 ⟨rfl,rfl⟩;cases hN2:lD p with
  | false =>
   have N2:=ae hN2;clear hN2;go_wp2
   go_ret;exact⟨bQ (by simp [ab N1,ab N2]),ab b1⟩
  | true =>
   have N2:=ae hN2;clear hN2;go_wp2_with fail;refine(sw m _ _ ((ab HM).below (ab b1))).mono ?_;rintro e w0 ⟨rfl,rfl⟩;cases hN3:kL m with
   | false =>
    have N3:=ae hN3;clear hN3;go_wp2
    go_ret;exact⟨bQ (by simp [ab N1,ab N2,ab N3]),ab b1⟩
   | true =>
    have N3:=ae hN3;clear hN3;go_wp2_with fail;refine(lX pref _).mono ?_;rintro e w0 ⟨rfl,rfl⟩;cases hN4:lk pref with
    | false =>
     have N4:=ae hN4;clear hN4;go_wp2
     go_ret;exact⟨bQ (by simp [ab N1,ab N2,ab N3,ab N4]),ab b1⟩
    | true =>
     have N4:=ae hN4;clear hN4;go_wp2_with fail;refine(lX med _).mono ?_;rintro e w0 ⟨rfl,rfl⟩;go_wp2
     go_ret;exact⟨bQ (by simp [ab N1,ab N2,ab N3,ab N4]),ab b1⟩
end Go.Proofs.YtgdeeodifnegiaaGreatDoor
namespace Go.Proofs
open Go.Shelf
def Tryz.shCut_ren:Go.Shelf.Ren:=⟨fun|145=>295|220=>328|219=>351|217=>364|225=>365|224=>366|267=>367|266=>380|314=>381|n=>n,fun|9=>9|4=>4|59=>385|3=>3|5=>5|46=>321|146=>438|51=>376|n=>n,fun|1=>3|n=>n⟩
theorem Tryz.shCut:Go.Proofs.LaysM.n145 prog Tryz.shCut_ren:={
 mixed:=by kernel_rfl
 f145:=func295.trans (congrArg some (by kernel_rfl))
 f217:=func364.trans (congrArg some (by kernel_rfl))
 f219:=func351.trans (congrArg some (by kernel_rfl))
 f220:=func328.trans (congrArg some (by kernel_rfl))
 f224:=func366.trans (congrArg some (by kernel_rfl))
 f225:=func365.trans (congrArg some (by kernel_rfl))
 f266:=func380.trans (congrArg some (by kernel_rfl))
 f267:=func367.trans (congrArg some (by kernel_rfl))
 f314:=func381.trans (congrArg some (by kernel_rfl))
 t3:=underlying3
 a3:=Tryz.isAgg3
 z3:=Tryz.sizeOf3
 v3:=Tryz.zeroValue3
 t4:=underlying4
 a4:=Tryz.isAgg4
 z4:=Tryz.sizeOf4
 v4:=Tryz.zeroValue4
 t5:=underlying5
 a5:=Tryz.isAgg5
 z5:=Tryz.sizeOf5
 v5:=Tryz.zeroValue5
 t9:=underlying9
 a9:=Tryz.isAgg9
 z9:=Tryz.sizeOf9
 v9:=Tryz.zeroValue9
 t46:=underlying321
 a46:=Tryz.isAgg321
 z46:=Tryz.sizeOf321
 v46:=Tryz.zeroValue321
 t51:=underlying376
 a51:=Tryz.isAgg376
 z51:=Tryz.sizeOf376
 v51:=Tryz.zeroValue376
 t59:=underlying385
 a59:=Tryz.isAgg385
 z59:=Tryz.sizeOf385
 v59:=Tryz.zeroValue385
 t146:=underlying438
 a146:=Tryz.isAgg438
 z146:=Tryz.sizeOf438
 v146:=Tryz.zeroValue438
 g1:=by kernel_rfl
 i3:=by kernel_rfl
 i4:=by kernel_rfl
 i5:=by kernel_rfl
 i9:=by kernel_rfl
 i46:=by kernel_rfl
 i51:=by kernel_rfl
 i59:=by kernel_rfl
 i146:=by kernel_rfl
 m1:=by kernel_rfl
 s1_3:=λ w h=>Go.Proofs.cell_of_shapedOpen_int (zero:=#[.int .i64 0]) (t:=3) h (of_decide_eq_true (by kernel_rfl)) (by kernel_rfl) rfl (by kernel_rfl) (by kernel_rfl) underlying3 }
def Tryz.shSplit_ren:Go.Shelf.Ren:=⟨fun|146=>296|221=>329|268=>352|138=>353|143=>354|195=>368|197=>369|218=>370|219=>351|260=>382|217=>364|225=>365|224=>366|267=>367|266=>380|314=>381|n=>n,fun|9=>9|31=>220|3=>3|4=>4|0=>0|105=>433|21=>21|5=>5|46=>321|119=>442|139=>445|138=>444|146=>438|51=>376|n=>n,fun|1=>3|3=>4|4=>5|n=>n⟩
theorem Tryz.shSplit:Go.Proofs.LaysM.n146 prog Tryz.shSplit_ren:={
 mixed:=by kernel_rfl
 f138:=func353.trans (congrArg some (by kernel_rfl))
 f143:=func354.trans (congrArg some (by kernel_rfl))
 f146:=func296.trans (congrArg some (by kernel_rfl))
 f195:=func368.trans (congrArg some (by kernel_rfl))
 f197:=func369.trans (congrArg some (by kernel_rfl))
 f217:=func364.trans (congrArg some (by kernel_rfl))
 f218:=func370.trans (congrArg some (by kernel_rfl))
 f219:=func351.trans (congrArg some (by kernel_rfl))
 f221:=func329.trans (congrArg some (by kernel_rfl))
 f224:=func366.trans (congrArg some (by kernel_rfl))
 f225:=func365.trans (congrArg some (by kernel_rfl))
 f260:=func382.trans (congrArg some (by kernel_rfl))
 f266:=func380.trans (congrArg some (by kernel_rfl))
 f267:=func367.trans (congrArg some (by kernel_rfl))
 f268:=func352.trans (congrArg some (by kernel_rfl))
 f314:=func381.trans (congrArg some (by kernel_rfl))
 t0:=underlying0
 a0:=Tryz.isAgg0
 z0:=Tryz.sizeOf0
 v0:=Tryz.zeroValue0
 t3:=underlying3
 a3:=Tryz.isAgg3
 z3:=Tryz.sizeOf3
 v3:=Tryz.zeroValue3
 t4:=underlying4
 a4:=Tryz.isAgg4
 z4:=Tryz.sizeOf4
 v4:=Tryz.zeroValue4
 t5:=underlying5
 a5:=Tryz.isAgg5
 z5:=Tryz.sizeOf5
 v5:=Tryz.zeroValue5
 t9:=underlying9
 a9:=Tryz.isAgg9
 z9:=Tryz.sizeOf9
 v9:=Tryz.zeroValue9
 t21:=underlying21
 a21:=Tryz.isAgg21
 z21:=Tryz.sizeOf21
 v21:=Tryz.zeroValue21
 t31:=underlying220
 a31:=Tryz.isAgg220
 z31:=Tryz.sizeOf220
 v31:=Tryz.zeroValue220
 t46:=underlying321
 a46:=Tryz.isAgg321
 z46:=Tryz.sizeOf321
 v46:=Tryz.zeroValue321
 t51:=underlying376
 a51:=Tryz.isAgg376
 z51:=Tryz.sizeOf376
 v51:=Tryz.zeroValue376
 t105:=underlying433
 a105:=Tryz.isAgg433
 z105:=Tryz.sizeOf433
 v105:=Tryz.zeroValue433
 t119:=underlying442
 a119:=Tryz.isAgg442
 z119:=Tryz.sizeOf442
 t138:=underlying444
 a138:=Tryz.isAgg444
 z138:=Tryz.sizeOf444
 v138:=Tryz.zeroValue444
 t139:=underlying445
 a139:=Tryz.isAgg445
 z139:=Tryz.sizeOf445
 v139:=Tryz.zeroValue445
 t146:=underlying438
 a146:=Tryz.isAgg438
 z146:=Tryz.sizeOf438
 v146:=Tryz.zeroValue438
 g1:=by kernel_rfl
 g3:=by kernel_rfl
 g4:=by kernel_rfl
 i0:=by kernel_rfl
 i3:=by kernel_rfl
 i4:=by kernel_rfl
 i5:=by kernel_rfl
 i9:=by kernel_rfl
 i21:=by kernel_rfl
 i31:=by kernel_rfl
 i46:=by kernel_rfl
 i51:=by kernel_rfl
 i105:=by kernel_rfl
 i138:=by kernel_rfl
 i139:=by kernel_rfl
 i146:=by kernel_rfl
 m1:=by kernel_rfl
 s1_3:=λ w h=>Go.Proofs.cell_of_shapedOpen_int (zero:=#[.int .i64 0]) (t:=3) h (of_decide_eq_true (by kernel_rfl)) (by kernel_rfl) rfl (by kernel_rfl) (by kernel_rfl) underlying3
 m3:=by kernel_rfl
 m4:=by kernel_rfl }
end Go.Proofs
namespace Go.Proofs.YtgdeeodifnegiaaGreatDoor
open Go.Proofs.Tryz
open Or
open Go.RowKit
open Go.Shelf
def yC(t:ByteArray):ByteArray:=⟨(Lib.cut t.data.toList [47]).1.toArray⟩
def rH(t:ByteArray):ByteArray:=⟨(Lib.cut t.data.toList [47]).2.1.toArray⟩
def np:ByteArray:=⟨#[46]⟩
def lC(t:ByteArray):List ByteArray:=Lib.splitB np 0 (Lib.countB (yC t) np) (yC t)
def iT:List ByteArray->Int->Option Int
 | [],a=>some a
 | p::l,a=>if eS p 255=true then iT l (a*256+fR p 255)else none
def kf(t:ByteArray):Option (Int×Int) :=
 if(lC t).length=4 then
  match iT (lC t) 0 with
  | none=>none
  | some a=>if eS (rH t) 32=true/\cI (a,fR (rH t) 32)=true then some (a,fR (rH t) 32)else none
 else none
theorem Kd(s c:List UInt8):(Lib.cut s c).1.length<=s.length/\(Lib.cut s c).2.1.length<=s.length:=by
 unfold Lib.cut;split
 ·exact⟨by simp;omega,by simp⟩
 exact⟨aD _,iL _⟩
theorem J4(t:ByteArray):(yC t).size<=t.size/\(rH t).size<=t.size:=by
 have h:=Kd t.data.toList [47];have e:t.data.toList.length=t.size:=Array.length_toList;rw [e]at h;exact⟨h.1,h.2⟩
theorem ry(sep:ByteArray):∀(k:Nat) (s:ByteArray),∀ p∈Lib.splitB sep 0 k s,p.size<=s.size
 | 0,s,p,h=>by rw [Lib.splitB_zero]at h;rw [List.mem_singleton.1 h];exact aD _
 | k+1,s,p,h=>by
  rw [Lib.splitB]at h;split at h
  ·rw [List.mem_singleton.1 h];exact aD _
  rcases List.mem_cons.1 h with rfl|h
  ·simp;omega
  have:=ry sep k _ p h;simp at this;omega
theorem Ms{a n:Int}(h0:0<=a)(h1:a<=16777215)(n0:0<=n)(n1:n<=255):bits .or .i64 (a*256) n=a*256+n :=
 bits_join .i64 62 (by decide) pO 8 (a*256) n (by omega) (by omega) (by omega) n0 (by omega) (by omega)
theorem AW{l:List ByteArray}{k:Nat}(h:k<l.length){a:Int}:iT (l.take (k+1)) a=match iT (l.take k) a with|none=>none|some b=>if eS l[k] 255=true then some (b*256+fR l[k] 255)else none:=by
 induction l generalizing k a with
 | nil=>simp at h
 | cons p l ih =>
  cases k with
  | zero=>simp [iT]
  | succ k =>
   simp only [List.take_succ_cons,iT,List.getElem_cons_succ];split
   ·exact ih (by simpa using h)
   rfl
theorem AV{l:List ByteArray}{k:Nat}{a:Int}(h:iT (l.take k) a=none):iT l a=none:=by
 induction l generalizing k a with
 | nil=>simp [iT]at h
 | cons p l ih =>
  cases k with
  | zero=>simp [iT]at h
  | succ k =>
   simp only [List.take_succ_cons,iT]at h ⊢;split
   ·rename_i hp;rw [aC hp]at h;exact ih h
   rfl
theorem DH{s:ByteArray}{m:Int}(h:0<=m):0<=fR s m/\fR s m<=m:=by
 unfold fR;have:=rQ (s:=s) h;split<;>omega
def kg(t:ByteArray):Int×Int:=(kf t).getD (0,0)
def wQ(w:World)(t:ByteArray)(e:Ending)(w':World):Prop:=e=.returned (.tuple #[.agg #[.int .i64 (kg t).1,.int .i64 (kg t).2],.bool (kf t).isSome])/\Below w.heap.size w w'
theorem es{w w1:World}{o:Obj}(h:Below (w.alloc o).heap.size (w.alloc o) w1):w1.heap[w.heap.size]?=some o/\Below w.heap.size w w1 :=
 ⟨(h.block w.heap.size (by simp)).trans (cN w o),((aX _ w).alloc (aD _) o).trans (h.mono (by simp))⟩
theorem Hg(t:ByteArray)(hs:t.size<=1000)(w:World)(hm:sd w):Calls prog 295 #[.string t,.string ⟨#[47]⟩] w λ e w'=>∃ fd,e=.returned (.tuple #[.string (yC t),.string (rH t),.bool fd])/\Below w.heap.size w w':=by
 obtain⟨_,m,hm⟩:=hm;refine(Any.strings_Cut { Tryz.shCut with } t ⟨#[47]⟩ m w (by omega) hm).mono ?_;rintro e w' ⟨rfl,n,rfl⟩;exact⟨_,rfl,below_drewN (aX _ _) n⟩
theorem Cw(s:ByteArray)(hs:s.size<=1000)(w:World)(hm:sd w):Calls prog 296 #[.string s,.string ⟨#[46]⟩] w λ e w'=>e=.returned (.slice (some ⟨w.heap.size,0,none⟩) (Lib.splitB np 0 (Lib.countB s np) s).length (Lib.splitB np 0 (Lib.countB s np) s).length)/\w'.heap[w.heap.size]?=some (.cells ((Lib.splitB np 0 (Lib.countB s np) s).map Value.string).toArray 9 (0,0))/\Below w.heap.size w w':=by
 obtain⟨_,m,hm⟩:=hm;rw [show(Lib.splitB np 0 (Lib.countB s np) s).length=Lib.countB s np+1 from Lib.splitB_all np (by decide) 0 _ _ rfl];refine(Any.strings_Split { Tryz.shSplit with } Tryz.shSplit.i9 s np m w (by omega) hm (by decide)).mono ?_;rintro e w' ⟨rfl,rfl⟩;exact⟨rfl,cN w _,(aX _ _).alloc (aD _) _⟩
theorem Cc{w:World}{g k:Nat}{l:List ByteArray}(h:w.heap[g]?=some (.cells (l.map Value.string).toArray 9 (0,0)))(hk:k<l.length):w.cell? ⟨g,k,none⟩=some (.string l[k]):=by
 rw [af h];simp [hk]
theorem gM(t:ByteArray)(hs:t.size<=1000)(w:World)(hm:sd w):Calls prog 257 #[.string t] w (wQ w t):=by
 obtain⟨hb1,hb2⟩:=J4 t;have HC:=ae (Hg t hs (w.alloc (.cells #[.int .i64 0,.int .i64 0] 25)) (hm.below ((aX _ _).alloc (aD _) _)));have HS:=ae (λ(W:World) (hW:Below w.heap.size w W)=>Cw (yC t) (by omega) W (hm.below hW));have NA:=ae (show ∀ p∈lC t,p.size<=1000 from λ p hp=>by have:=ry np _ _ p hp;omega);have hPS:Hid (kf t=if(lC t).length=4 then(match iT (lC t) 0 with|none=>none|some a=>if eS (rH t) 32=true/\cI (a,fR (rH t) 32)=true then some (a,fR (rH t) 32)else none)else none):=rfl;have KA:Hid (kg t=(kf t).getD (0,0)):=rfl;rw [show Lib.splitB np 0 (Lib.countB (yC t) np) (yC t)=lC t from rfl]at HS;have DA:=ae (λ(W:World)=>bV (rH t) 32 (by omega) (by decide) (by decide) W);have bNB:=DH (s:=rH t) (m:=32) (by decide);generalize lC t=L at *;generalize yC t=BF at *;generalize rH t=BH at *;clear hm;unfold wQ;rw [ab KA];clear KA;generalize kf t=R at *;go_enter func257,ntmps257;by_cases h4:L.length=4
 ·have hPS2:=ab hPS;rw [aC h4]at hPS2;rw [h4]at HS;clear hPS
  go_wp2_with (first
   | (go_at_call 295;refine(ab HC).mono ?_;clear HC;rintro e w1 ⟨fd,rfl,hb1⟩;have hk1:=(hb1.block w.heap.size (by simp)).trans (cN w _);have BA:=ae (((aX _ w).alloc (aD _) (.cells #[.int .i64 0,.int .i64 0] 25)).trans (hb1.mono (by simp)));have CA:=ae hk1;clear hb1 hk1)
   | (go_at_call 296;refine((ab HS) _ (ab BA)).mono ?_;clear HS;rintro e w2 ⟨rfl,hg2,hb2⟩;have hw1:w.heap.size<w1.heap.size:=ai (ab CA);have JA:=ae ((hb2.block w.heap.size hw1).trans (ab CA));have AA:=ae ((ab BA).trans (hb2.mono (ab BA).size));have MA:=ae hg2;clear hg2 hb2))
  have hk2:=ab JA;have c0:w2.cell? ⟨w.heap.size,0,none⟩=some (.int .i64 0):=af hk2;have c1:w2.cell? ⟨w.heap.size,1,none⟩=some (.int .i64 0):=af hk2;have z0:w2.frozen? ⟨w.heap.size,0,none⟩=false:=ak hk2;have z1:w2.frozen? ⟨w.heap.size,1,none⟩=false:=ak hk2;have lw2:w.heap.size<w2.heap.size:=ai hk2;have FA:=ae hPS2;clear hk2 hPS2
  go_loop [8,30] (λ a i=>∃(k:Nat) (b:Int),k<=4/\i=.int .i64 (k:Nat)/\a=.int .i64 b/\Hid (iT (L.take k) 0=some b)/\0<=b/\b<256 ^ k) (λ _ i=>4-(intOf i).toNat)
  case atStart=>exact⟨0,0,iL _,rfl,rfl,rfl,Int.le_refl _,by decide⟩
  case round =>
   obtain⟨k,b,hk,rfl,rfl,HA,hb0,hbk⟩:=hrel;by_cases hlt:k<4
   ·have hkL:k<L.length:=by omega
    have hck:w2.cell? ⟨w1.heap.size,k,none⟩=some (.string L[k]):=Cc (ab MA) hkL;have EA:=ae (bV L[k] 255 (ab NA _ (nN _)) (by decide) (by decide) w2);have bN:=DH (s:=L[k]) (m:=255) (by decide);have hsn:=AW hkL (a:=0);rw [ab HA]at hsn
    have hbb:b<=16777215:=by
     rcases(by omega:k=0\/k=1\/k=2\/k=3)with rfl|rfl|rfl|rfl<;>omega
    generalize L[k]=X at *;generalize fR X 255=N at *;cases hx:eS X 255 with
    | false =>
     have hR:R=none:=by
      simp only [hx]at hsn;rw [ab FA,AV (k:=k+1) (by simpa using hsn)]
     rw [hx]at EA;clear hsn FA;subst hR;go_wp2_with (go_at_call 256;refine(ab EA).mono ?_;rintro e w3 ⟨rfl,rfl⟩)
     refine eO (v:=.tuple #[.agg #[.int .i64 0,.int .i64 0],.bool false]) (by simp [results,results257,go_sem,c0,c1]) rfl ⟨rfl,?_⟩;exact Below.setCell (p:=⟨w.heap.size,1,none⟩) (Below.setCell (p:=⟨w.heap.size,0,none⟩) (ab AA) (aD _) _) (aD _) _
    | true =>
     have LA:Hid (iT (L.take (k+1)) 0=some (b*256+N)):=by
      simp only [hx]at hsn;exact hsn
     rw [hx]at EA;have hor:=Ms hb0 hbb bN.1 bN.2
     have hpw:b*256+N<256 ^ (k+1):=by
      rw [Int.pow_succ];omega
     clear hsn;go_wp2_with (go_at_call 256;refine(ab EA).mono ?_;rintro e w3 ⟨rfl,rfl⟩)
     go_round
     case rel=>exact⟨k+1,b*256+N,by omega,by go_num,rfl,LA,by omega,hpw⟩
     case measure=>simp [intOf];omega
   obtain rfl:k=4:=by omega
   have hA:=ab HA;rw [List.take_of_length_le (by omega)]at hA;have hPS3:=ab FA;rw [hA]at hPS3;have hb4:b<=4294967295:=by omega
   have GA:=ae (λ(W:World)=>vr (b,fR BH 32) W (by unfold jw;dsimp only;omega) (by unfold jw;dsimp only;omega));clear HA FA hA;generalize fR BH 32=N at *;cases hx:eS BH 32 with
   | false =>
    have hR:R=none:=by simpa [hx]using hPS3
    rw [hx]at DA;clear hPS3;subst hR;go_wp2_with (go_at_call 256;refine((ab DA) _).mono ?_;rintro e w3 ⟨rfl,rfl⟩)
    refine eO (v:=.tuple #[.agg #[.int .i64 0,.int .i64 0],.bool false]) (by simp [results,results257,go_sem,c0,c1,lw2]) rfl ⟨rfl,?_⟩
    first
     | exact Below.setCell (p:=⟨w.heap.size,1,none⟩) (Below.setCell (p:=⟨w.heap.size,0,none⟩) ((ab AA).alloc (ab AA).size _) (aD _) _) (aD _) _
     | exact Below.alloc (Below.setCell (p:=⟨w.heap.size,1,none⟩) (Below.setCell (p:=⟨w.heap.size,0,none⟩) (ab AA) (aD _) _) (aD _) _) (by simp [World.setCell];omega) _
   | true =>
    rw [hx]at DA;cases hv:cI (b,N)with
    | false =>
     have hR:R=none:=by simpa [hx,hv]using hPS3
     rw [hv]at GA;clear hPS3;subst hR
     go_wp2_with (first
      | (go_at_call 256;refine((ab DA) _).mono ?_;rintro e w3 ⟨rfl,rfl⟩)
      | (go_at_call 144;refine((ab GA) _).mono ?_;rintro e w4 ⟨rfl,hb4⟩;obtain⟨hkn,hb5⟩:=es hb4;have n0:w4.cell? ⟨w3.heap.size,0,none⟩=some (.int .i64 b):=af hkn;have n1:w4.cell? ⟨w3.heap.size,1,none⟩=some (.int .i64 N):=af hkn;have hkr:=(hb5.block w.heap.size lw2).trans (ab JA);have d0:w4.cell? ⟨w.heap.size,0,none⟩=some (.int .i64 0):=af hkr;have d1:w4.cell? ⟨w.heap.size,1,none⟩=some (.int .i64 0):=af hkr;have y0:w4.frozen? ⟨w.heap.size,0,none⟩=false:=ak hkr;have y1:w4.frozen? ⟨w.heap.size,1,none⟩=false:=ak hkr;have IA:=ae ((ab AA).trans (hb5.mono (ab AA).size));clear hb4 hb5 hkn hkr))
     refine eO (v:=.tuple #[.agg #[.int .i64 0,.int .i64 0],.bool false]) (by simp [results,results257,go_sem,d0,d1]) rfl ⟨rfl,?_⟩;exact Below.setCell (p:=⟨w.heap.size,1,none⟩) (Below.setCell (p:=⟨w.heap.size,0,none⟩) (ab IA) (aD _) _) (aD _) _
    | true =>
     have hR:R=some (b,N):=by simpa [hx,hv]using hPS3
     rw [hv]at GA;clear hPS3;subst hR
     go_wp2_with (first
      | (go_at_call 256;refine((ab DA) _).mono ?_;rintro e w3 ⟨rfl,rfl⟩)
      | (go_at_call 144;refine((ab GA) _).mono ?_;rintro e w4 ⟨rfl,hb4⟩;obtain⟨hkn,hb5⟩:=es hb4;have n0:w4.cell? ⟨w3.heap.size,0,none⟩=some (.int .i64 b):=af hkn;have n1:w4.cell? ⟨w3.heap.size,1,none⟩=some (.int .i64 N):=af hkn;have hkr:=(hb5.block w.heap.size lw2).trans (ab JA);have d0:w4.cell? ⟨w.heap.size,0,none⟩=some (.int .i64 0):=af hkr;have d1:w4.cell? ⟨w.heap.size,1,none⟩=some (.int .i64 0):=af hkr;have y0:w4.frozen? ⟨w.heap.size,0,none⟩=false:=ak hkr;have y1:w4.frozen? ⟨w.heap.size,1,none⟩=false:=ak hkr;have IA:=ae ((ab AA).trans (hb5.mono (ab AA).size));clear hb4 hb5 hkn hkr))
     refine eO (v:=.tuple #[.agg #[.int .i64 b,.int .i64 N],.bool true]) (by simp [results,results257,go_sem,d0,d1]) rfl ⟨rfl,?_⟩;exact Below.setCell (p:=⟨w.heap.size,1,none⟩) (Below.setCell (p:=⟨w.heap.size,0,none⟩) (ab IA) (aD _) _) (aD _) _
 have hPS2:R=none:=by rw [ab hPS,au h4]
 subst hPS2;have h4':¬((L.length:Nat):Int)=4:=by omega
 go_wp2_with (first
  | (go_at_call 295;refine(ab HC).mono ?_;clear HC;rintro e w1 ⟨fd,rfl,hb1⟩;have hk1:=(hb1.block w.heap.size (by simp)).trans (cN w _);have BA:=ae (((aX _ w).alloc (aD _) (.cells #[.int .i64 0,.int .i64 0] 25)).trans (hb1.mono (by simp)));have CA:=ae hk1;clear hb1 hk1)
  | (go_at_call 296;refine((ab HS) _ (ab BA)).mono ?_;clear HS;rintro e w2 ⟨rfl,hg2,hb2⟩;have hw1:w.heap.size<w1.heap.size:=ai (ab CA);have hk2:=(hb2.block w.heap.size hw1).trans (ab CA);have c0:w2.cell? ⟨w.heap.size,0,none⟩=some (.int .i64 0):=af hk2;have c1:w2.cell? ⟨w.heap.size,1,none⟩=some (.int .i64 0):=af hk2;have hz0:w2.frozen? ⟨w.heap.size,0,none⟩=false:=ak hk2;have hz1:w2.frozen? ⟨w.heap.size,1,none⟩=false:=ak hk2;have AA:=ae ((ab BA).trans (hb2.mono (ab BA).size));clear hg2 hb2 hk2))
 refine eO (v:=.tuple #[.agg #[.int .i64 0,.int .i64 0],.bool false]) (by simp [results,results257,go_sem,c0,c1]) rfl ⟨rfl,?_⟩;exact Below.setCell (p:=⟨w.heap.size,1,none⟩) (Below.setCell (p:=⟨w.heap.size,0,none⟩) (ab AA) (aD _) _) (aD _) _
